/- What impl.figureValues returns: what each byte is worth as one of the first figures. -/
import Derived.Test.YtneknebckpajaaaH2
import Derived.Deep.QuietTactic
import Derived.BigQuiet
import Derived.Deep.LoopGhost
import Derived.WalkMore
namespace Go.Proofs.Ytneknebckpajaaa
open Go.RowKit

theorem wpAppG {ops : Array Oper} {rest : List Oper} {o : Oper} {a : Act} {Q : Exit → Act → World → Prop} (hgd : o.guard = none) (s x : Operand)
    (ho : o.op = .call { callee := .builtin .append, args := #[s, x], argTypes := #[39, 39] }) {W : World} {cs : Array Value} (w0 : World) {base g : Nat} {v : Value} {pre : List UInt8} (news : List UInt8)
    (hs : a.eval s = v) (hown : Own W base v pre) (hx : a.eval x = .slice (some ⟨g, 0, none⟩) news.length news.length) (hblk : W.heap[g]? = some (.cells cs 5 (0, 0))) (hcs : cs.toList = bv news)
    (hlen : pre.length + news.length ≤ 140737488355328) (hb : Below base w0 W) (hB : base ≤ w0.heap.size)
    (h : ∀ v' w', Own w' base v' (pre ++ news) → Below base w0 w' → wpList Try.prog ops Q rest (a.put o.dst v') w') :
    wpList Try.prog ops Q (o :: rest) a W := by
  obtain ⟨i0, hi, hz0, hz1, hz2⟩ := info_parts Try.info5
  have hsz := hb.size
  refine wpList_append_own _ hgd s x 39 ho base 5 i0 (.int .u8 0) 1 1 Try.underlying39 hi hz0 hz1 hz2 rfl (by decide) v pre.length (bv pre) hs hown ⟨g, 0, none⟩ news.length news.length (bv news) hx (by rw [bv_len]; omega) ?_ ?_ (by unfold maxLen; omega) (by omega) (by omega) ?_
  · intro j u hj
    rw [Addr.add_lit, Nat.zero_add, World.cell?, hblk]
    rw [← hcs] at hj
    simpa using hj
  · intro u hu
    simp only [bv, List.mem_map] at hu
    obtain ⟨b, _, rfl⟩ := hu
    rfl
  · intro v' w' h1 h2 _
    refine h _ w' ?_ (hb.grown h2 (by omega) (fun j hj => (World.ownsRow.lt hown j hj).1))
    unfold Own
    simpa [bv] using h1

theorem run_figN (j : Nat) (h1 : j < 16) (kd : IntKind) (W : World) :
    (Instr.index 9 (.string ⟨#[48, 49, 50, 51, 52, 53, 54, 55, 56, 57, 97, 98, 99, 100, 101, 102]⟩) (.int kd (j : Int))).run Try.prog W = .ok (.int .u8 ((WM.fig j).toNat : Int)) W := by
  have := run_fig (j : Int) (by omega) (by omega) kd W
  rwa [Int.toNat_natCast] at this

theorem fig_ne (b : UInt8) (j : Nat) (h : j < 16) (hne : WM.fv b ≠ j) : ((b.toNat : Int) == ((WM.fig j).toNat : Int)) = false := by
  have := WM.fig_fv j h b
  rw [beq_eq_false_iff_ne]
  intro e
  apply hne
  apply this.1
  apply UInt8.toNat_inj.1
  omega

theorem fig_eq (b : UInt8) (j : Nat) (h : j < 16) (he : WM.fv b = j) : ((b.toNat : Int) == ((WM.fig j).toNat : Int)) = true := by
  rw [(WM.fig_fv j h b).2 he]; simp

theorem figs_more (s : ByteArray) (base k : Nat) (hlt : k < s.size) (h : WM.figsB base (s.data.toList.take k) = true) (hv : WM.fv s[k] < base) : WM.figsB base (s.data.toList.take (k + 1)) = true := by
  rw [take_snoc s k hlt, WM.figsB_snoc, h]; simpa using hv

theorem figs_fall (s : ByteArray) (base k : Nat) (hlt : k < s.size) (hv : ¬ WM.fv s[k] < base) : WM.figsB base s.data.toList = false := by
  cases h : WM.figsB base s.data.toList with
  | false => rfl
  | true =>
    exfalso
    have h2 := WM.figsB_take h (k + 1)
    rw [take_snoc s k hlt, WM.figsB_snoc] at h2
    simp at h2
    exact hv h2.2

/-- what figureValues leaves -/
def FvPost (s : ByteArray) (base : Nat) (w : World) (e : Ending) (w' : World) : Prop :=
  Below w.heap.size w w' ∧ ((WM.figsB base s.data.toList = true ∧ ∃ v, e = .returned (.tuple #[v, .bool true]) ∧ Own w' w.heap.size v (WM.fvs s.data.toList)) ∨
    (WM.figsB base s.data.toList = false ∧ e = .returned (.tuple #[.slice none 0 0, .bool false])))

set_option maxRecDepth 100000 in
set_option maxHeartbeats 1000000 in
theorem fv32 (s : ByteArray) (base : Nat) (hbase : base ≤ 16) (hs : s.size ≤ 40000) (w : World) :
    Calls Try.prog 32 #[.string s, .int .i64 base] w (FvPost s base w) := by
  obtain ⟨i0, hi, hz0, hz1, hz2⟩ := info_parts Try.info5
  go_enter Try.func32, Try.ntmps32
  go_wp2
  go_step3
  go_wp2_with (at_make; refine wpList_make_own _ rfl _ _ 39 rfl w.heap.size 5 i0 (.int .u8 0) 1 Try.underlying39 hi hz0 hz1 .i64 .i64 _ s.size rfl rfl (by omega) (by rw [hz2]; omega) (by unfold maxLen; omega) (Nat.le_refl _) ?_)
  intro w1 hown0 hgrow0
  have hown1 := Own.made hown0
  have hb1 : Below w.heap.size w w1 := (Below.refl _ w).grown hgrow0 (Nat.le_refl _) (fun j hj => by cases hj)
  clear hown0 hgrow0 hi hz0 hz1 hz2
  go_wp2
  go_step3
  go_wp2
  go_loopg [6, 7] s.size (fun g v t wx => ∃ k : Nat, k + g = s.size ∧ t = .int .i64 k ∧ Own wx w.heap.size v (WM.fvs (s.data.toList.take k)) ∧ Hid (WM.figsB base (s.data.toList.take k) = true) ∧ Below w.heap.size w wx)
  case atStart => exact ⟨0, by omega, rfl, hown1, rfl, hb1⟩
  case round =>
    obtain ⟨k, hkg, rfl, hown, HF, hb⟩ := hrel
    clear hown1 hb1
    cases gk with
    | zero =>
      have hk : k = s.size := by omega
      have hd : decide (k < s.size) = false := by simp; omega
      have hd' : ¬ (k : Int) < (s.size : Int) := by omega
      have HT : Hid (s.data.toList.take k = s.data.toList) := List.take_of_length_le (by simp only [Array.length_toList]; show s.size ≤ k; omega)
      have HFP : Hid (FvPost s base w (.returned (.tuple #[u6, .bool true])) wr) := ⟨hb, Or.inl ⟨by rw [← HT.out]; exact HF.out, u6, rfl, by rw [← HT.out]; exact hown⟩⟩
      clear hk hkg
      go_wp2
      go_ret2
      exact HFP.out
    | succ g =>
      have hlt : k < s.size := by omega
      have hlt' : (k : Int) < (s.size : Int) := by omega
      have hd : decide (k < s.size) = true := by simp; omega
      have h0 : (0 : Int) ≤ (k : Int) := by omega
      go_wp2
      go_loopg [6, 8] base (fun g2 v t wx => ∃ j : Nat, j + g2 = base ∧ t = .int .i64 j ∧ Own wx w.heap.size v (WM.fvs (s.data.toList.take k)) ∧ Hid (∀ i, i < j → WM.fv s[k] ≠ i) ∧ Below w.heap.size w wx)
      case atStart => exact ⟨0, by omega, rfl, hown, by intro i hi; omega, hb⟩
      case round =>
        obtain ⟨j, hjg, rfl, hown2, HM, hb2⟩ := hrel
        clear hown hb
        cases gk with
        | zero =>
          have hd2 : decide (j < base) = false := by simp; omega
          have hd2' : ¬ (j : Int) < (base : Int) := by omega
          have HN : Hid (WM.figsB base s.data.toList = false) := figs_fall s base k hlt (fun h => HM.out _ (by omega) rfl)
          go_wp2
          go_ret2
          exact ⟨hb2, Or.inr ⟨HN.out, rfl⟩⟩
        | succ g2 =>
          have hj : j < base := by omega
          have hj' : (j : Int) < (base : Int) := by omega
          have f1 := run_figN j (by omega) .i64
          by_cases he : WM.fv s[k] = j
          · have ht := fig_eq s[k] j (by omega) he
            have HE : Hid (WM.fv s[k] = j) := he
            clear he
            have HF2 : Hid (WM.figsB base (s.data.toList.take (k + 1)) = true) := figs_more s base k hlt HF.out (by rw [HE.out]; exact hj)
            have hlen : (WM.fvs (s.data.toList.take k)).length ≤ 40000 := by rw [WM.fvs_len, List.length_take]; omega
            go_wp2
            go_quiet (fail)
            go_wp2_with (at_builtin; refine wpAppG rfl _ _ rfl w [UInt8.ofNat j] rfl (by exact hown2.alloc _) rfl (by exact heap_alloc_new _ _) (ofNatCell _ _ (by omega) (by omega)) (by simp; omega) (by exact below_drewN (hb2.alloc hb2.size _) _) (Nat.le_refl _) ?_)
            intro v' w2 hown3 hb3
            have hown4 : Own w2 w.heap.size v' (WM.fvs (s.data.toList.take (k + 1))) := by rw [take_snoc s k hlt, WM.fvs_snoc, HE.out]; exact hown3
            clear hown3 hown2 hb2
            go_wp2
            go_roundg g
            case measure => omega
            case rel => exact ⟨k + 1, by omega, by go_num, hown4, HF2, hb3⟩
          · have ht := fig_ne s[k] j (by omega) he
            have HE : Hid (WM.fv s[k] ≠ j) := he
            clear he
            go_wp2
            go_quiet (fail)
            go_wp2
            go_roundg g2
            case measure => omega
            case rel =>
              refine ⟨j + 1, by omega, by go_num, hown2, ?_, below_drewN hb2 _⟩
              intro i hi
              by_cases e : i = j
              · subst e; exact HE.out
              · exact HM.out i (by omega)
end Go.Proofs.Ytneknebckpajaaa
