/- What impl.figureValues returns: what each byte is worth as one of the first figures. -/
import Derived.Test.YtneknebckpajaaaDoorF0
import Derived.Deep.QuietTactic
import Derived.BigQuiet
import Derived.Deep.LoopGhost
import Derived.WalkMore
namespace Go.Proofs.YtneknebckpajaaaDoor
open Go.RowKit

theorem wpAppG {ops : Array Oper} {rest : List Oper} {o : Oper} {a : Act} {Q : Exit → Act → World → Prop} (hgd : o.guard = none) (s x : Operand)
    (ho : o.op = .call { callee := .builtin .append, args := #[s, x], argTypes := #[28, 28] }) {W : World} {cs : Array Value} (w0 : World) {base g : Nat} {v : Value} {pre : List UInt8} (news : List UInt8)
    (hs : a.eval s = v) (hown : Own W base v pre) (hx : a.eval x = .slice (some ⟨g, 0, none⟩) news.length news.length) (hblk : W.heap[g]? = some (.cells cs 5 (0, 0))) (hcs : cs.toList = bv news)
    (hlen : pre.length + news.length ≤ 140737488355328) (hb : Below base w0 W) (hB : base ≤ w0.heap.size)
    (h : ∀ v' w', Own w' base v' (pre ++ news) → Below base w0 w' → wpList Tryd.prog ops Q rest (a.put o.dst v') w') :
    wpList Tryd.prog ops Q (o :: rest) a W := by
  obtain ⟨i0, hi, hz0, hz1, hz2⟩ := info_parts Tryd.info5
  have hsz := hb.size
  refine wpList_append_own _ hgd s x 28 ho base 5 i0 (.int .u8 0) 1 1 Tryd.underlying28 hi hz0 hz1 hz2 rfl (by decide) v pre.length (bv pre) hs hown ⟨g, 0, none⟩ news.length news.length (bv news) hx (by rw [bv_len]; omega) ?_ ?_ (by unfold maxLen; omega) (by omega) (by omega) ?_
  · intro j u hj
    rw [Addr.add_lit, Nat.zero_add, World.cell?, hblk]
    rw [← hcs] at hj
    simpa using hj
  · intro u hu
    simp only [bv, List.mem_map] at hu
    obtain ⟨b, _, rfl⟩ := hu
    rfl
  · intro v' w' h1 h2 _
    refine h _ w' ?_ (hb.grown h2 (by omega) (fun j hj => (World.ownsRow.lt hown j hj).1))
    unfold Own
    simpa [bv] using h1

theorem run_figN (j : Nat) (h1 : j < 16) (kd : IntKind) (W : World) :
    (Instr.index 9 (.string ⟨#[48, 49, 50, 51, 52, 53, 54, 55, 56, 57, 97, 98, 99, 100, 101, 102]⟩) (.int kd (j : Int))).run Tryd.prog W = .ok (.int .u8 ((WM.fig j).toNat : Int)) W := by
  have := run_fig (j : Int) (by omega) (by omega) kd W
  rwa [Int.toNat_natCast] at this

theorem fig_ne (b : UInt8) (j : Nat) (h : j < 16) (hne : WM.fv b ≠ j) : ((b.toNat : Int) == ((WM.fig j).toNat : Int)) = false := by
  have := WM.fig_fv j h b
  rw [beq_eq_false_iff_ne]
  intro e
  apply hne
  apply this.1
  apply UInt8.toNat_inj.1
  omega

theorem fig_eq (b : UInt8) (j : Nat) (h : j < 16) (he : WM.fv b = j) : ((b.toNat : Int) == ((WM.fig j).toNat : Int)) = true := by
  rw [(WM.fig_fv j h b).2 he]; simp

theorem figs_more (s : ByteArray) (base k : Nat) (hlt : k < s.size) (h : WM.figsB base (s.data.toList.take k) = true) (hv : WM.fv s[k] < base) : WM.figsB base (s.data.toList.take (k + 1)) = true := by
  rw [take_snoc s k hlt, WM.figsB_snoc, h]; simpa using hv

theorem figs_fall (s : ByteArray) (base k : Nat) (hlt : k < s.size) (hv : ¬ WM.fv s[k] < base) : WM.figsB base s.data.toList = false := by
  cases h : WM.figsB base s.data.toList with
  | false => rfl
  | true =>
    exfalso
    have h2 := WM.figsB_take h (k + 1)
    rw [take_snoc s k hlt, WM.figsB_snoc] at h2
    simp at h2
    exact hv h2.2

/-- what figureValues leaves -/
def FvPost (s : ByteArray) (base : Nat) (w : World) (e : Ending) (w' : World) : Prop :=
  Below w.heap.size w w' ∧ ((WM.figsB base s.data.toList = true ∧ ∃ v, e = .returned (.tuple #[v, .bool true]) ∧ Own w' w.heap.size v (WM.fvs s.data.toList)) ∨
    (WM.figsB base s.data.toList = false ∧ e = .returned (.tuple #[.slice none 0 0, .bool false])))

set_option maxRecDepth 100000 in
set_option maxHeartbeats 1000000 in
theorem fv11 (s : ByteArray) (base : Nat) (hbase : base ≤ 16) (hs : s.size ≤ 40000) (w : World) :
    Calls Tryd.prog 11 #[.string s, .int .i64 base] w (FvPost s base w) := by
  obtain ⟨i0, hi, hz0, hz1, hz2⟩ := info_parts Tryd.info5
  go_enter Tryd.func11, Tryd.ntmps11
  go_wp2
  go_step3
  go_wp2_with (at_make; refine wpList_make_own _ rfl _ _ 28 rfl w.heap.size 5 i0 (.int .u8 0) 1 Tryd.underlying28 hi hz0 hz1 .i64 .i64 _ s.size rfl rfl (by omega) (by rw [hz2]; omega) (by unfold maxLen; omega) (Nat.le_refl _) ?_)
  intro w1 hown0 hgrow0
  have hown1 := Own.made hown0
  have hb1 : Below w.heap.size w w1 := (Below.refl _ w).grown hgrow0 (Nat.le_refl _) (fun j hj => by cases hj)
  clear hown0 hgrow0 hi hz0 hz1 hz2
  go_wp2
  go_step3
  go_wp2
  go_loopg [6, 7] s.size (fun g v t wx => ∃ k : Nat, k + g = s.size ∧ t = .int .i64 k ∧ Own wx w.heap.size v (WM.fvs (s.data.toList.take k)) ∧ Hid (WM.figsB base (s.data.toList.take k) = true) ∧ Below w.heap.size w wx)
  case atStart => exact ⟨0, by omega, rfl, hown1, rfl, hb1⟩
  case round =>
    obtain ⟨k, hkg, rfl, hown, HF, hb⟩ := hrel
    clear hown1 hb1
    cases gk with
    | zero =>
      have hk : k = s.size := by omega
      have hd : decide (k < s.size) = false := by simp; omega
      have hd' : ¬ (k : Int) < (s.size : Int) := by omega
      have HT : Hid (s.data.toList.take k = s.data.toList) := List.take_of_length_le (by simp only [Array.length_toList]; show s.size ≤ k; omega)
      have HFP : Hid (FvPost s base w (.returned (.tuple #[u6, .bool true])) wr) := ⟨hb, Or.inl ⟨by rw [← HT.out]; exact HF.out, u6, rfl, by rw [← HT.out]; exact hown⟩⟩
      clear hk hkg
      go_wp2
      go_ret2
      exact HFP.out
    | succ g =>
      have hlt : k < s.size := by omega
      have hlt' : (k : Int) < (s.size : Int) := by omega
      have hd : decide (k < s.size) = true := by simp; omega
      have h0 : (0 : Int) ≤ (k : Int) := by omega
      go_wp2
      go_loopg [6, 8] base (fun g2 v t wx => ∃ j : Nat, j + g2 = base ∧ t = .int .i64 j ∧ Own wx w.heap.size v (WM.fvs (s.data.toList.take k)) ∧ Hid (∀ i, i < j → WM.fv s[k] ≠ i) ∧ Below w.heap.size w wx)
      case atStart => exact ⟨0, by omega, rfl, hown, by intro i hi; omega, hb⟩
      case round =>
        obtain ⟨j, hjg, rfl, hown2, HM, hb2⟩ := hrel
        clear hown hb
        cases gk with
        | zero =>
          have hd2 : decide (j < base) = false := by simp; omega
          have hd2' : ¬ (j : Int) < (base : Int) := by omega
          have HN : Hid (WM.figsB base s.data.toList = false) := figs_fall s base k hlt (fun h => HM.out _ (by omega) rfl)
          go_wp2
          go_ret2
          exact ⟨hb2, Or.inr ⟨HN.out, rfl⟩⟩
        | succ g2 =>
          have hj : j < base := by omega
          have hj' : (j : Int) < (base : Int) := by omega
          have f1 := run_figN j (by omega) .i64
          by_cases he : WM.fv s[k] = j
          · have ht := fig_eq s[k] j (by omega) he
            have HE : Hid (WM.fv s[k] = j) := he
            clear he
            have HF2 : Hid (WM.figsB base (s.data.toList.take (k + 1)) = true) := figs_more s base k hlt HF.out (by rw [HE.out]; exact hj)
            have hlen : (WM.fvs (s.data.toList.take k)).length ≤ 40000 := by rw [WM.fvs_len, List.length_take]; omega
            go_wp2
            go_quiet (fail)
            go_wp2_with (at_builtin; refine wpAppG rfl _ _ rfl w [UInt8.ofNat j] rfl (by exact hown2.alloc _) rfl (by exact heap_alloc_new _ _) (ofNatCell _ _ (by omega) (by omega)) (by simp; omega) (by exact below_drewN (hb2.alloc hb2.size _) _) (Nat.le_refl _) ?_)
            intro v' w2 hown3 hb3
            have hown4 : Own w2 w.heap.size v' (WM.fvs (s.data.toList.take (k + 1))) := by rw [take_snoc s k hlt, WM.fvs_snoc, HE.out]; exact hown3
            clear hown3 hown2 hb2
            go_wp2
            go_roundg g
            case measure => omega
            case rel => exact ⟨k + 1, by omega, by go_num, hown4, HF2, hb3⟩
          · have ht := fig_ne s[k] j (by omega) he
            have HE : Hid (WM.fv s[k] ≠ j) := he
            clear he
            go_wp2
            go_quiet (fail)
            go_wp2
            go_roundg g2
            case measure => omega
            case rel =>
              refine ⟨j + 1, by omega, by go_num, hown2, ?_, below_drewN hb2 _⟩
              intro i hi
              by_cases e : i = j
              · subst e; exact HE.out
              · exact HM.out i (by omega)

theorem Own.shape {w : World} {base : Nat} {v : Value} {l : List UInt8} (h : Own w base v l) (hl : 0 < l.length) :
    ∃ g cap, v = .slice (some ⟨g, 0, none⟩) l.length cap ∧ g < w.heap.size ∧ ∀ j (hj : j < l.length), w.cell? ⟨g, j, none⟩ = some (.int .u8 (l[j].toNat : Int)) := by
  have h0 := h
  rcases h.2 with ⟨rfl, h1⟩ | ⟨g, cap, cur, rfl, hg, hh, hnc, hcp, hcs, htake⟩
  · omega
  · refine ⟨g, cap, rfl, (World.ownsRow.lt h0 g rfl).2, fun j hj => ?_⟩
    rw [World.ownsRow.cellAt h0 j (by omega)]
    simp [bv, hj]

theorem Own.shape0 {w : World} {base : Nat} {v : Value} {l : List UInt8} (h : Own w base v l) (hl : l.length = 0) :
    ∃ ao cap, v = .slice ao 0 cap := by
  rcases h.2 with ⟨rfl, h1⟩ | ⟨g, cap, cur, rfl, hg, hh, hnc, hcp, hcs, htake⟩
  · exact ⟨none, 0, rfl⟩
  · exact ⟨_, cap, by rw [hl]⟩

theorem fvs_at (s : ByteArray) (j : Nat) (hj : j < s.size) : (WM.fvs s.data.toList)[j]'(by rw [WM.fvs_len]; simpa using hj) = UInt8.ofNat (WM.fv s[j]) := by
  simp only [WM.fvs, List.getElem_map]; rfl

theorem figs_take_at (s : ByteArray) (base j : Nat) (hj : j < s.size) (hf : WM.figsB base s.data.toList = true) : WM.fv s[j] < base := by
  have h2 := WM.figsB_take hf (j + 1)
  rw [take_snoc s j hj, WM.figsB_snoc] at h2
  simp at h2
  exact h2.2

/-- figureValues of a text that is not empty, all of figures -/
theorem fv11_yes (s : ByteArray) (base : Nat) (hbase : base ≤ 16) (hs : s.size ≤ 40000) (h0 : 0 < s.size) (hf : WM.figsB base s.data.toList = true) (w : World) :
    Calls Tryd.prog 11 #[.string s, .int .i64 base] w fun e w' => Below w.heap.size w w' ∧ ∃ g cap, e = .returned (.tuple #[.slice (some ⟨g, 0, none⟩) s.size cap, .bool true]) ∧ g < w'.heap.size ∧
      ∀ j (hj : j < s.size), w'.cell? ⟨g, j, none⟩ = some (.int .u8 (WM.fv s[j] : Int)) :=
  (fv11 s base hbase hs w).mono fun e w' ⟨hb, h⟩ => ⟨hb, by
    rcases h with ⟨_, v, he, hown⟩ | ⟨hn, _⟩
    · have hl : (WM.fvs s.data.toList).length = s.size := by rw [WM.fvs_len]; rfl
      obtain ⟨g, cap, rfl, hg, hc⟩ := hown.shape (by omega)
      refine ⟨g, cap, by rw [he, hl], hg, fun j hj => ?_⟩
      rw [hc j (by omega), fvs_at s j hj]
      have hv : WM.fv s[j] < base := by
        have := figs_take_at s base j hj hf
        exact this
      rw [toNat_ofNat _ (by omega)]
    · rw [hf] at hn; cases hn⟩

theorem fv11_none (s : ByteArray) (base : Nat) (hbase : base ≤ 16) (hs : s.size ≤ 40000) (h0 : s.size = 0) (w : World) :
    Calls Tryd.prog 11 #[.string s, .int .i64 base] w fun e w' => Below w.heap.size w w' ∧ ∃ ao cap, e = .returned (.tuple #[.slice ao 0 cap, .bool true]) :=
  (fv11 s base hbase hs w).mono fun e w' ⟨hb, h⟩ => ⟨hb, by
    have hl : (WM.fvs s.data.toList).length = s.size := by rw [WM.fvs_len]; rfl
    have hnil : s.data.toList = [] := List.length_eq_zero_iff.1 (by rw [Array.length_toList]; exact h0)
    rcases h with ⟨_, v, he, hown⟩ | ⟨hn, _⟩
    · obtain ⟨ao, cap, rfl⟩ := hown.shape0 (by omega)
      exact ⟨ao, cap, he⟩
    · rw [hnil] at hn; cases hn⟩

theorem fv11_no (s : ByteArray) (base : Nat) (hbase : base ≤ 16) (hs : s.size ≤ 40000) (hf : WM.figsB base s.data.toList = false) (w : World) :
    Calls Tryd.prog 11 #[.string s, .int .i64 base] w fun e w' => e = .returned (.tuple #[.slice none 0 0, .bool false]) ∧ Below w.heap.size w w' :=
  (fv11 s base hbase hs w).mono fun e w' ⟨hb, h⟩ => ⟨by
    rcases h with ⟨hn, _⟩ | ⟨_, he⟩
    · rw [hf] at hn; cases hn
    · exact he, hb⟩

end Go.Proofs.YtneknebckpajaaaDoor
