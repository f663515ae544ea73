/- What impl.Hex, figureValues and Unhex return. -/
import Derived.Test.YtbncdnfjminpiaaDoorBase
import Derived.Deep.RegionHeld3
import Derived.Deep.DrawnRows
import Derived.Deep.AppendLies
import Derived.Lib.Strings
import Derived.Deep.QuietTactic
import Derived.BigQuiet
import Derived.Deep.LoopGhost
import Derived.WalkMore
namespace Go.Proofs.YtbncdnfjminpiaaDoor
open Go.RowKit
attribute [local go_sem ↓] Go.wp_at_zero Go.wp_at_succ

theorem stepApp {ops : Array Oper} {o : Oper} {a : Act} {K : Act → World → Prop} {Q : Exit → Act → World → Prop} {E : Prop} (hgd : o.guard = none) (s x : Operand)
    (ho : o.op = .call { callee := .builtin .append, args := #[s, x], argTypes := #[22, 22] }) {W : World} {cs : Array Value} (w0 : World) {base g : Nat} {v : Value} {pre : List UInt8} (news : List UInt8)
    (hs : a.eval s = v) (hown : Own W base v pre) (hx : a.eval x = .slice (some ⟨g, 0, none⟩) news.length news.length) (hblk : W.heap[g]? = some (.cells cs 5 (0, 0))) (hcs : cs.toList = bv news)
    (hn0 : 0 < news.length) (hlen : pre.length + news.length ≤ 140737488355328) (hb : Below base w0 W) (hB : base ≤ w0.heap.size)
    (h : ∀ v' w', Own w' base v' (pre ++ news) → Below base w0 w' → K (a.put o.dst v') w') :
    if Region.wanted o (yielded ops a.tmps) = true then Oper.wp Tryd.prog o a W K Q else E := by
  obtain ⟨i0, hi, hz0, hz1, hz2⟩ := info_parts Tryd.info5
  have hsz := hb.size
  refine step_append_lies _ hgd s x 22 ho base 5 i0 (.int .u8 0) 1 1 Tryd.underlying22 hi hz0 hz1 hz2 rfl (by decide) v pre.length (bv pre) hs hown ⟨g, 0, none⟩ news.length news.length (bv news) hx (by rw [bv_len]; omega) ?_ ?_ hn0 (by unfold maxLen; omega) (by omega) (by omega) _ rfl ?_
  · intro j u hj
    rw [Addr.add_lit, Nat.zero_add, World.cell?, hblk]
    rw [← hcs] at hj
    simpa using hj
  · intro u hu
    simp only [bv, List.mem_map] at hu
    obtain ⟨b, _, rfl⟩ := hu
    rfl
  · intro g' cap w' h1 h2 _ _
    refine h _ w' ?_ (hb.grown h2 (by omega) (fun j hj => (World.ownsRow.lt hown j hj).1))
    unfold Own
    simpa [bv] using h1

theorem Own.alloc {w : World} {base : Nat} {v : Value} {l : List UInt8} (h : Own w base v l) (o : Obj) : Own (w.alloc o) base v l := World.ownsRow.alloc h o

theorem Own.drew {w : World} {base : Nat} {v : Value} {l : List UInt8} (h : Own w base v l) : Own w.drew base v l := h

theorem take_snoc (s : ByteArray) (k : Nat) (h : k < s.size) : s.data.toList.take (k + 1) = s.data.toList.take k ++ [s[k]] := by
  rw [List.take_succ_eq_append_getElem (by simpa using h)]; rfl

theorem hex_more (s : ByteArray) (k : Nat) (h : k < s.size) : WM.hexL (s.data.toList.take (k + 1)) = WM.hexL (s.data.toList.take k) ++ [WM.fig ((s[k].toNat : Int) / 16).toNat, WM.fig ((s[k].toNat : Int) % 16).toNat] := by
  rw [take_snoc s k h, WM.hexL_snoc]
  rw [show ((s[k].toNat : Int) / 16).toNat = s[k].toNat / 16 by omega, show ((s[k].toNat : Int) % 16).toNat = s[k].toNat % 16 by omega]

theorem figs_at : ∀ x : Fin 16, (#[48, 49, 50, 51, 52, 53, 54, 55, 56, 57, 97, 98, 99, 100, 101, 102] : Array UInt8)[x.val]'(by simp) = WM.fig x.val := by decide +kernel

/-- 'figures[x]' -/
theorem run_fig (x : Int) (h0 : 0 ≤ x) (h1 : x < 16) (kd : IntKind) (W : World) :
    (Instr.index 9 (.string ⟨#[48, 49, 50, 51, 52, 53, 54, 55, 56, 57, 97, 98, 99, 100, 101, 102]⟩) (.int kd x)).run Tryd.prog W = .ok (.int .u8 ((WM.fig x.toNat).toNat : Int)) W := by
  have h2 : 0 ≤ x ∧ x < ((⟨#[48, 49, 50, 51, 52, 53, 54, 55, 56, 57, 97, 98, 99, 100, 101, 102]⟩ : ByteArray).size : Int) := ⟨h0, h1⟩
  rw [run_index_string W 9 _ kd x Tryd.underlying9, dif_pos h2]
  have := figs_at ⟨x.toNat, by omega⟩
  rw [← this]
  rfl

theorem Own.made {w' : World} {base : Nat} {v : Value} (h : w'.ownsRow base 5 1 v 0 []) : Own w' base v [] := h

set_option maxRecDepth 100000 in
set_option maxHeartbeats 400000 in
theorem ihex_yes (s : ByteArray) (h : s.size ≤ 20000) (w : World) :
    Calls Tryd.prog 13 #[.string s] w fun e w' => e = .returned (.tuple #[.string ⟨(WM.hexL s.data.toList).toArray⟩, .bool true]) ∧ Below w.heap.size w w' := by
  obtain ⟨i0, hi, hz0, hz1, hz2⟩ := info_parts Tryd.info5
  have hd0 : decide ((20000 : Int) < (s.size : Int)) = false := by simp; omega
  go_enter Tryd.func13, Tryd.ntmps13
  go_wp2_with (at_make; refine wpList_make_own _ rfl _ _ 22 rfl w.heap.size 5 i0 (.int .u8 0) 1 Tryd.underlying22 hi hz0 hz1 .i64 .i64 _ (2 * s.size) rfl rfl (by omega) (by rw [hz2]; omega) (by unfold maxLen; omega) (Nat.le_refl _) ?_)
  intro w1 hown0 hgrow0
  have hown1 := Own.made hown0
  have hb1 : Below w.heap.size w w1 := (Below.refl _ w).grown hgrow0 (Nat.le_refl _) (fun j hj => by cases hj)
  clear hown0 hgrow0 hi hz0 hz1 hz2
  go_wp2
  go_loopw [4, 5] (fun v t wr => ∃ k : Nat, k ≤ s.size ∧ t = .int .i64 k ∧ Own wr w.heap.size v (WM.hexL (s.data.toList.take k)) ∧ Below w.heap.size w wr) (fun _ t _ => s.size - (intOf t).toNat)
  case atStart =>
    exact ⟨0, Nat.zero_le _, rfl, hown1, hb1⟩
  case round =>
    obtain ⟨k, hk, rfl, hown, hb⟩ := hrel
    clear hown1 hb1
    have hlen : (WM.hexL (s.data.toList.take k)).length ≤ 40000 := by rw [WM.hexL_len, List.length_take]; omega
    by_cases hlt : k < s.size
    · have hlt' : (k : Int) < (s.size : Int) := by omega
      have h0 : (0 : Int) ≤ (k : Int) := by omega
      have h255 : (s[k].toNat : Int) ≤ 255 := by have := s[k].toNat_lt; omega
      have e2 : (s[k].toNat : Int).tdiv 16 = (s[k].toNat : Int) / 16 := Int.tdiv_eq_ediv_of_nonneg (by omega)
      have e3 : IntKind.u8.wrap ((s[k].toNat : Int) / 16) = (s[k].toNat : Int) / 16 := by rw [IntKind.wrap_u8]; omega
      have e4 : (s[k].toNat : Int).tmod 16 = (s[k].toNat : Int) % 16 := Int.tmod_eq_emod_of_nonneg (by omega)
      have f1 := run_fig ((s[k].toNat : Int) / 16) (by omega) (by omega) .u8
      have f2 := run_fig ((s[k].toNat : Int) % 16) (by omega) (by omega) .u8
      go_wp2
      go_region_held3 (fun _ => True) (trivial) ((refine stepApp (by rfl) _ _ (by rfl) w [WM.fig ((s[k].toNat : Int) / 16).toNat, WM.fig ((s[k].toNat : Int) % 16).toNat] (by rfl) (by exact (Own.alloc hown _).drew) (by rfl) (by exact heap_alloc_new wr _) (by exact byteCells2 _ _ _ _ rfl rfl) (by simp) (by simp; omega) (by exact (hb.alloc hb.size _).drew) (Nat.le_refl _) ?_; intro v' w1 hown1 hb1))
      all_goals
        have hown2 : Own w1 w.heap.size v' (WM.hexL (s.data.toList.take (k + 1))) := by rw [hex_more s k hlt]; exact hown1
        clear hown1 hown hb f1 f2
        go_wp2
        go_roundw
        case rel => exact ⟨k + 1, by omega, by go_num, hown2, hb1⟩
        case measure => simp [intOf]; omega
    · have hd : decide ((k : Int) < (s.size : Int)) = false := by simp; omega
      have hst := hown.str
      go_wp2
      go_ret2
      refine ⟨?_, hb⟩
      rw [List.take_of_length_le (by simp only [Array.length_toList]; show s.size ≤ k; omega)]
      rfl

theorem wpAppG {ops : Array Oper} {rest : List Oper} {o : Oper} {a : Act} {Q : Exit → Act → World → Prop} (hgd : o.guard = none) (s x : Operand)
    (ho : o.op = .call { callee := .builtin .append, args := #[s, x], argTypes := #[22, 22] }) {W : World} {cs : Array Value} (w0 : World) {base g : Nat} {v : Value} {pre : List UInt8} (news : List UInt8)
    (hs : a.eval s = v) (hown : Own W base v pre) (hx : a.eval x = .slice (some ⟨g, 0, none⟩) news.length news.length) (hblk : W.heap[g]? = some (.cells cs 5 (0, 0))) (hcs : cs.toList = bv news)
    (hlen : pre.length + news.length ≤ 140737488355328) (hb : Below base w0 W) (hB : base ≤ w0.heap.size)
    (h : ∀ v' w', Own w' base v' (pre ++ news) → Below base w0 w' → wpList Tryd.prog ops Q rest (a.put o.dst v') w') :
    wpList Tryd.prog ops Q (o :: rest) a W := by
  obtain ⟨i0, hi, hz0, hz1, hz2⟩ := info_parts Tryd.info5
  have hsz := hb.size
  refine wpList_append_own _ hgd s x 22 ho base 5 i0 (.int .u8 0) 1 1 Tryd.underlying22 hi hz0 hz1 hz2 rfl (by decide) v pre.length (bv pre) hs hown ⟨g, 0, none⟩ news.length news.length (bv news) hx (by rw [bv_len]; omega) ?_ ?_ (by unfold maxLen; omega) (by omega) (by omega) ?_
  · intro j u hj
    rw [Addr.add_lit, Nat.zero_add, World.cell?, hblk]
    rw [← hcs] at hj
    simpa using hj
  · intro u hu
    simp only [bv, List.mem_map] at hu
    obtain ⟨b, _, rfl⟩ := hu
    rfl
  · intro v' w' h1 h2 _
    refine h _ w' ?_ (hb.grown h2 (by omega) (fun j hj => (World.ownsRow.lt hown j hj).1))
    unfold Own
    simpa [bv] using h1

theorem run_figN (j : Nat) (h1 : j < 16) (kd : IntKind) (W : World) :
    (Instr.index 9 (.string ⟨#[48, 49, 50, 51, 52, 53, 54, 55, 56, 57, 97, 98, 99, 100, 101, 102]⟩) (.int kd (j : Int))).run Tryd.prog W = .ok (.int .u8 ((WM.fig j).toNat : Int)) W := by
  have := run_fig (j : Int) (by omega) (by omega) kd W
  rwa [Int.toNat_natCast] at this

theorem fig_ne (b : UInt8) (j : Nat) (h : j < 16) (hne : WM.fv b ≠ j) : ((b.toNat : Int) == ((WM.fig j).toNat : Int)) = false := by
  have := WM.fig_fv j h b
  rw [beq_eq_false_iff_ne]
  intro e
  apply hne
  apply this.1
  apply UInt8.toNat_inj.1
  omega

theorem fig_eq (b : UInt8) (j : Nat) (h : j < 16) (he : WM.fv b = j) : ((b.toNat : Int) == ((WM.fig j).toNat : Int)) = true := by
  rw [(WM.fig_fv j h b).2 he]; simp

theorem figs_more (s : ByteArray) (base k : Nat) (hlt : k < s.size) (h : WM.figsB base (s.data.toList.take k) = true) (hv : WM.fv s[k] < base) : WM.figsB base (s.data.toList.take (k + 1)) = true := by
  rw [take_snoc s k hlt, WM.figsB_snoc, h]; simpa using hv

theorem figs_fall (s : ByteArray) (base k : Nat) (hlt : k < s.size) (hv : ¬ WM.fv s[k] < base) : WM.figsB base s.data.toList = false := by
  cases h : WM.figsB base s.data.toList with
  | false => rfl
  | true =>
    exfalso
    have h2 := WM.figsB_take h (k + 1)
    rw [take_snoc s k hlt, WM.figsB_snoc] at h2
    simp at h2
    exact hv h2.2

/-- what figureValues leaves -/
def FvPost (s : ByteArray) (base : Nat) (w : World) (e : Ending) (w' : World) : Prop :=
  Below w.heap.size w w' ∧ ((WM.figsB base s.data.toList = true ∧ ∃ v, e = .returned (.tuple #[v, .bool true]) ∧ Own w' w.heap.size v (WM.fvs s.data.toList)) ∨
    (WM.figsB base s.data.toList = false ∧ e = .returned (.tuple #[.slice none 0 0, .bool false])))

set_option maxRecDepth 100000 in
set_option maxHeartbeats 1000000 in
theorem fv32 (s : ByteArray) (base : Nat) (hbase : base ≤ 16) (hs : s.size ≤ 40000) (w : World) :
    Calls Tryd.prog 17 #[.string s, .int .i64 base] w (FvPost s base w) := by
  obtain ⟨i0, hi, hz0, hz1, hz2⟩ := info_parts Tryd.info5
  go_enter Tryd.func17, Tryd.ntmps17
  go_wp2
  go_step3
  go_wp2_with (at_make; refine wpList_make_own _ rfl _ _ 22 rfl w.heap.size 5 i0 (.int .u8 0) 1 Tryd.underlying22 hi hz0 hz1 .i64 .i64 _ s.size rfl rfl (by omega) (by rw [hz2]; omega) (by unfold maxLen; omega) (Nat.le_refl _) ?_)
  intro w1 hown0 hgrow0
  have hown1 := Own.made hown0
  have hb1 : Below w.heap.size w w1 := (Below.refl _ w).grown hgrow0 (Nat.le_refl _) (fun j hj => by cases hj)
  clear hown0 hgrow0 hi hz0 hz1 hz2
  go_wp2
  go_step3
  go_wp2
  go_loopg [6, 7] s.size (fun g v t wx => ∃ k : Nat, k + g = s.size ∧ t = .int .i64 k ∧ Own wx w.heap.size v (WM.fvs (s.data.toList.take k)) ∧ Hid (WM.figsB base (s.data.toList.take k) = true) ∧ Below w.heap.size w wx)
  case atStart => exact ⟨0, by omega, rfl, hown1, rfl, hb1⟩
  case round =>
    obtain ⟨k, hkg, rfl, hown, HF, hb⟩ := hrel
    clear hown1 hb1
    cases gk with
    | zero =>
      have hk : k = s.size := by omega
      have hd : decide (k < s.size) = false := by simp; omega
      have hd' : ¬ (k : Int) < (s.size : Int) := by omega
      have HT : Hid (s.data.toList.take k = s.data.toList) := List.take_of_length_le (by simp only [Array.length_toList]; show s.size ≤ k; omega)
      have HFP : Hid (FvPost s base w (.returned (.tuple #[u6, .bool true])) wr) := ⟨hb, Or.inl ⟨by rw [← HT.out]; exact HF.out, u6, rfl, by rw [← HT.out]; exact hown⟩⟩
      clear hk hkg
      go_wp2
      go_ret2
      exact HFP.out
    | succ g =>
      have hlt : k < s.size := by omega
      have hlt' : (k : Int) < (s.size : Int) := by omega
      have hd : decide (k < s.size) = true := by simp; omega
      have h0 : (0 : Int) ≤ (k : Int) := by omega
      go_wp2
      go_loopg [6, 8] base (fun g2 v t wx => ∃ j : Nat, j + g2 = base ∧ t = .int .i64 j ∧ Own wx w.heap.size v (WM.fvs (s.data.toList.take k)) ∧ Hid (∀ i, i < j → WM.fv s[k] ≠ i) ∧ Below w.heap.size w wx)
      case atStart => exact ⟨0, by omega, rfl, hown, by intro i hi; omega, hb⟩
      case round =>
        obtain ⟨j, hjg, rfl, hown2, HM, hb2⟩ := hrel
        clear hown hb
        cases gk with
        | zero =>
          have hd2 : decide (j < base) = false := by simp; omega
          have hd2' : ¬ (j : Int) < (base : Int) := by omega
          have HN : Hid (WM.figsB base s.data.toList = false) := figs_fall s base k hlt (fun h => HM.out _ (by omega) rfl)
          go_wp2
          go_ret2
          exact ⟨hb2, Or.inr ⟨HN.out, rfl⟩⟩
        | succ g2 =>
          have hj : j < base := by omega
          have hj' : (j : Int) < (base : Int) := by omega
          have f1 := run_figN j (by omega) .i64
          by_cases he : WM.fv s[k] = j
          · have ht := fig_eq s[k] j (by omega) he
            have HE : Hid (WM.fv s[k] = j) := he
            clear he
            have HF2 : Hid (WM.figsB base (s.data.toList.take (k + 1)) = true) := figs_more s base k hlt HF.out (by rw [HE.out]; exact hj)
            have hlen : (WM.fvs (s.data.toList.take k)).length ≤ 40000 := by rw [WM.fvs_len, List.length_take]; omega
            go_wp2
            go_quiet (fail)
            go_wp2_with (at_builtin; refine wpAppG rfl _ _ rfl w [UInt8.ofNat j] rfl (by exact hown2.alloc _) rfl (by exact heap_alloc_new _ _) (ofNatCell _ _ (by omega) (by omega)) (by simp; omega) (by exact below_drewN (hb2.alloc hb2.size _) _) (Nat.le_refl _) ?_)
            intro v' w2 hown3 hb3
            have hown4 : Own w2 w.heap.size v' (WM.fvs (s.data.toList.take (k + 1))) := by rw [take_snoc s k hlt, WM.fvs_snoc, HE.out]; exact hown3
            clear hown3 hown2 hb2
            go_wp2
            go_roundg g
            case measure => omega
            case rel => exact ⟨k + 1, by omega, by go_num, hown4, HF2, hb3⟩
          · have ht := fig_ne s[k] j (by omega) he
            have HE : Hid (WM.fv s[k] ≠ j) := he
            clear he
            go_wp2
            go_quiet (fail)
            go_wp2
            go_roundg g2
            case measure => omega
            case rel =>
              refine ⟨j + 1, by omega, by go_num, hown2, ?_, below_drewN hb2 _⟩
              intro i hi
              by_cases e : i = j
              · subst e; exact HE.out
              · exact HM.out i (by omega)

theorem take_two (s : ByteArray) (k : Nat) (h : k + 1 < s.size) : s.data.toList.take (k + 2) = s.data.toList.take k ++ [s[k], s[k + 1]] := by
  rw [take_snoc s (k + 1) h, take_snoc s k (by omega)]; simp

theorem un_more (s : ByteArray) (m : Nat) (h : 2 * m + 1 < s.size) : WM.unhexL (s.data.toList.take (2 * m + 2)) = WM.unhexL (s.data.toList.take (2 * m)) ++ [UInt8.ofNat (WM.fv s[2 * m] * 16 + WM.fv s[2 * m + 1])] := by
  rw [take_two s (2 * m) h, WM.unhexL_snoc m _ _ _ (by rw [List.length_take, Array.length_toList]; exact Nat.min_eq_left (by show 2 * m ≤ s.size; omega))]

theorem un_len (s : ByteArray) (m : Nat) (h : 2 * m ≤ s.size) : (WM.unhexL (s.data.toList.take (2 * m))).length = m :=
  WM.unhexL_len m _ (by rw [List.length_take, Array.length_toList]; exact Nat.min_eq_left h)

/-- Unhex's answer for a text of an even length -/
def unV (s : ByteArray) : Value := if WM.figsB 16 s.data.toList = true then .tuple #[.string ⟨(WM.unhexL s.data.toList).toArray⟩, .bool true] else .tuple #[.string ⟨#[]⟩, .bool false]

theorem unV_yes {s : ByteArray} (h : WM.figsB 16 s.data.toList = true) : unV s = .tuple #[.string ⟨(WM.unhexL s.data.toList).toArray⟩, .bool true] := if_pos h

theorem unV_no {s : ByteArray} (h : WM.figsB 16 s.data.toList = false) : unV s = .tuple #[.string ⟨#[]⟩, .bool false] := if_neg (by simp [h])

theorem Own.shape {w : World} {base : Nat} {v : Value} {l : List UInt8} (h : Own w base v l) (hl : 0 < l.length) :
    ∃ g cap, v = .slice (some ⟨g, 0, none⟩) l.length cap ∧ g < w.heap.size ∧ ∀ j (hj : j < l.length), w.cell? ⟨g, j, none⟩ = some (.int .u8 (l[j].toNat : Int)) := by
  have h0 := h
  rcases h.2 with ⟨rfl, h1⟩ | ⟨g, cap, cur, rfl, hg, hh, hnc, hcp, hcs, htake⟩
  · omega
  · refine ⟨g, cap, rfl, (World.ownsRow.lt h0 g rfl).2, fun j hj => ?_⟩
    rw [World.ownsRow.cellAt h0 j (by omega)]
    simp [bv, hj]

theorem Own.shape0 {w : World} {base : Nat} {v : Value} {l : List UInt8} (h : Own w base v l) (hl : l.length = 0) :
    ∃ ao cap, v = .slice ao 0 cap := by
  rcases h.2 with ⟨rfl, h1⟩ | ⟨g, cap, cur, rfl, hg, hh, hnc, hcp, hcs, htake⟩
  · exact ⟨none, 0, rfl⟩
  · exact ⟨_, cap, by rw [hl]⟩

theorem fvs_at (s : ByteArray) (j : Nat) (hj : j < s.size) : (WM.fvs s.data.toList)[j]'(by rw [WM.fvs_len]; simpa using hj) = UInt8.ofNat (WM.fv s[j]) := by
  simp only [WM.fvs, List.getElem_map]; rfl

theorem figs_take_at (s : ByteArray) (base j : Nat) (hj : j < s.size) (hf : WM.figsB base s.data.toList = true) : WM.fv s[j] < base := by
  have h2 := WM.figsB_take hf (j + 1)
  rw [take_snoc s j hj, WM.figsB_snoc] at h2
  simp at h2
  exact h2.2

/-- figureValues of a text that is not empty, all of figures -/
theorem fv32_yes (s : ByteArray) (base : Nat) (hbase : base ≤ 16) (hs : s.size ≤ 40000) (h0 : 0 < s.size) (hf : WM.figsB base s.data.toList = true) (w : World) :
    Calls Tryd.prog 17 #[.string s, .int .i64 base] w fun e w' => Below w.heap.size w w' ∧ ∃ g cap, e = .returned (.tuple #[.slice (some ⟨g, 0, none⟩) s.size cap, .bool true]) ∧ g < w'.heap.size ∧
      ∀ j (hj : j < s.size), w'.cell? ⟨g, j, none⟩ = some (.int .u8 (WM.fv s[j] : Int)) :=
  (fv32 s base hbase hs w).mono fun e w' ⟨hb, h⟩ => ⟨hb, by
    rcases h with ⟨_, v, he, hown⟩ | ⟨hn, _⟩
    · have hl : (WM.fvs s.data.toList).length = s.size := by rw [WM.fvs_len]; rfl
      obtain ⟨g, cap, rfl, hg, hc⟩ := hown.shape (by omega)
      refine ⟨g, cap, by rw [he, hl], hg, fun j hj => ?_⟩
      rw [hc j (by omega), fvs_at s j hj]
      have hv : WM.fv s[j] < base := by
        have := figs_take_at s base j hj hf
        exact this
      rw [toNat_ofNat _ (by omega)]
    · rw [hf] at hn; cases hn⟩

theorem fv32_none (s : ByteArray) (base : Nat) (hbase : base ≤ 16) (hs : s.size ≤ 40000) (h0 : s.size = 0) (w : World) :
    Calls Tryd.prog 17 #[.string s, .int .i64 base] w fun e w' => Below w.heap.size w w' ∧ ∃ ao cap, e = .returned (.tuple #[.slice ao 0 cap, .bool true]) :=
  (fv32 s base hbase hs w).mono fun e w' ⟨hb, h⟩ => ⟨hb, by
    have hl : (WM.fvs s.data.toList).length = s.size := by rw [WM.fvs_len]; rfl
    have hnil : s.data.toList = [] := List.length_eq_zero_iff.1 (by rw [Array.length_toList]; exact h0)
    rcases h with ⟨_, v, he, hown⟩ | ⟨hn, _⟩
    · obtain ⟨ao, cap, rfl⟩ := hown.shape0 (by omega)
      exact ⟨ao, cap, he⟩
    · rw [hnil] at hn; cases hn⟩

theorem fv32_no (s : ByteArray) (base : Nat) (hbase : base ≤ 16) (hs : s.size ≤ 40000) (hf : WM.figsB base s.data.toList = false) (w : World) :
    Calls Tryd.prog 17 #[.string s, .int .i64 base] w fun e w' => e = .returned (.tuple #[.slice none 0 0, .bool false]) ∧ Below w.heap.size w w' :=
  (fv32 s base hbase hs w).mono fun e w' ⟨hb, h⟩ => ⟨by
    rcases h with ⟨hn, _⟩ | ⟨_, he⟩
    · rw [hf] at hn; cases hn
    · exact he, hb⟩

set_option maxHeartbeats 400000 in
theorem iun_bad (s : ByteArray) (n : Nat) (hn : s.size = 2 * n) (hs : s.size ≤ 40000) (hf : Hid (WM.figsB 16 s.data.toList = false)) (w : World) :
    Calls Tryd.prog 14 #[.string s] w fun e w' => e = .returned (unV s) ∧ Below w.heap.size w w' := by
  have d2 : ((s.size : Int) % 2 != 0) = false := by rw [bne_eq_false_iff_eq]; omega
  clear hn
  have d1 : decide ((40000 : Int) < (s.size : Int)) = false := by simp; omega
  go_enter Tryd.func14, Tryd.ntmps14
  go_wp2_with (go_at_call 17; refine (fv32_no s 16 (Nat.le_refl _) hs hf.out _).mono ?_; rintro e w' ⟨rfl, hb⟩)
  go_ret2
  exact ⟨by rw [unV_no hf.out]; rfl, hb⟩

set_option maxRecDepth 100000 in
set_option maxHeartbeats 1000000 in
theorem iun_yes (s : ByteArray) (n : Nat) (hn : s.size = 2 * n) (h0 : 0 < n) (hs : s.size ≤ 40000) (hf : Hid (WM.figsB 16 s.data.toList = true)) (w : World) :
    Calls Tryd.prog 14 #[.string s] w fun e w' => e = .returned (unV s) ∧ Below w.heap.size w w' := by
  obtain ⟨i0, hi, hz0, hz1, hz2⟩ := info_parts Tryd.info5
  have d2 : ((s.size : Int) % 2 != 0) = false := by rw [bne_eq_false_iff_eq]; omega
  have hn2 : 2 * n ≤ s.size := by omega
  have hn3 : s.size ≤ 2 * n := by omega
  clear hn
  have d1 : decide ((40000 : Int) < (s.size : Int)) = false := by simp; omega
  go_enter Tryd.func14, Tryd.ntmps14
  go_wp2_with (first | (go_at_call 17; refine (fv32_yes s 16 (Nat.le_refl _) hs (by omega) hf.out _).mono ?_; rintro e w1 ⟨hb1, g, cap, rfl, hg, hc⟩; have HC : Hid _ := hc; clear hc) | (at_make; refine wpList_make_own _ rfl _ _ 22 rfl w1.heap.size 5 i0 (.int .u8 0) 1 Tryd.underlying22 hi hz0 hz1 .i64 .i64 _ n rfl rfl (by omega) (by rw [hz2]; omega) (by unfold maxLen; omega) (Nat.le_refl _) ?_))
  intro w2 hown0 hgrow0
  have hown1 := Own.made hown0
  have hb2 : Below w1.heap.size w1 w2 := (Below.refl _ w1).grown hgrow0 (Nat.le_refl _) (fun j hj => by cases hj)
  clear hown0 hgrow0 hi hz0 hz1 hz2
  go_wp2
  go_loopw [6, 7] (fun v t wr => ∃ m : Nat, m ≤ n ∧ t = .int .i64 ((2 * m : Nat) : Int) ∧ Own wr w1.heap.size v (WM.unhexL (s.data.toList.take (2 * m))) ∧ Below w1.heap.size w1 wr) (fun _ t _ => s.size - (intOf t).toNat)
  case atStart =>
    exact ⟨0, Nat.zero_le _, rfl, hown1, hb2⟩
  case round =>
    obtain ⟨m, hm, rfl, hown, hb⟩ := hrel
    clear hown1 hb2
    have hlen : (WM.unhexL (s.data.toList.take (2 * m))).length ≤ 20000 := by rw [un_len s m (by omega)]; omega
    by_cases hlt : m < n
    · have l1 : 2 * m < s.size := by omega
      have l2 : 2 * m + 1 < s.size := by omega
      have l1' : 2 * (m : Int) < (s.size : Int) := by omega
      have l2' : 2 * (m : Int) + 1 < (s.size : Int) := by omega
      have ha := figs_take_at s 16 (2 * m) l1 hf.out
      have hc := figs_take_at s 16 (2 * m + 1) l2 hf.out
      have c1 : wr.cell? ⟨g, 2 * m, none⟩ = some (.int .u8 (WM.fv s[2 * m] : Int)) := (hb.cell (p := ⟨g, 2 * m, none⟩) hg).trans (HC.out _ l1)
      have c2 : wr.cell? ⟨g, 2 * m + 1, none⟩ = some (.int .u8 (WM.fv s[2 * m + 1] : Int)) := (hb.cell (p := ⟨g, 2 * m + 1, none⟩) hg).trans (HC.out _ l2)
      have e0 : IntKind.i64.wrap (2 * (m : Int) + 1) = 2 * (m : Int) + 1 := by rw [IntKind.wrap_i64]; omega
      have e1 : IntKind.u8.wrap ((WM.fv s[2 * m] : Int) * 16) = (WM.fv s[2 * m] : Int) * 16 := by rw [IntKind.wrap_u8]; omega
      have e2 : IntKind.u8.wrap ((WM.fv s[2 * m] : Int) * 16 + (WM.fv s[2 * m + 1] : Int)) = (WM.fv s[2 * m] : Int) * 16 + (WM.fv s[2 * m + 1] : Int) := by rw [IntKind.wrap_u8]; omega
      have p1 : (0 : Int) ≤ 2 * (m : Int) := by omega
      have p2 : (0 : Int) ≤ 2 * (m : Int) + 1 := by omega
      have t1 : (2 * (m : Int)).toNat = 2 * m := by omega
      have t2 : (2 * (m : Int) + 1).toNat = 2 * m + 1 := by omega
      have g1 := World.new_ne wr _ c1
      have g2 := World.new_ne wr _ c2
      go_wp2
      go_region_held3 (fun w' => w'.cell? ⟨g, 2 * m, none⟩ = some (.int .u8 (WM.fv s[2 * m] : Int)) ∧ w'.cell? ⟨g, 2 * m + 1, none⟩ = some (.int .u8 (WM.fv s[2 * m + 1] : Int))) (first | go_keep | exact ⟨(hb3.cell (p := ⟨g, 2 * m, none⟩) hg).trans (HC.out _ l1), (hb3.cell (p := ⟨g, 2 * m + 1, none⟩) hg).trans (HC.out _ l2)⟩) ((refine stepApp (by rfl) _ _ (by rfl) w1 [UInt8.ofNat (WM.fv s[2 * m] * 16 + WM.fv s[2 * m + 1])] (by rfl) (by exact (Own.alloc hown _).drew) (by rfl) (by exact heap_alloc_new wr _) (by exact ofNatCell _ _ (by omega) (by omega)) (by simp) (by simp; omega) (by exact (hb.alloc hb.size _).drew) (Nat.le_refl _) ?_; intro v' w3 hown3 hb3))
      all_goals
        have hown4 : Own w3 w1.heap.size v' (WM.unhexL (s.data.toList.take (2 * m + 2))) := by rw [un_more s m l2]; simpa using hown3
        clear hown3 hown hb e0 e1 e2 c1 c2 g1 g2 t1 t2
        go_wp2
        go_roundw
        case rel => exact ⟨m + 1, by omega, by go_num, hown4, hb3⟩
        case measure => simp [intOf]; omega
    · have hd : decide (2 * (m : Int) < (s.size : Int)) = false := by simp; omega
      have HT : Hid (s.data.toList.take (2 * m) = s.data.toList) := List.take_of_length_le (by simp only [Array.length_toList]; show s.size ≤ 2 * m; omega)
      have hst := hown.str
      go_wp2
      go_ret2
      refine ⟨?_, hb1.trans (hb.mono hb1.size)⟩
      rw [HT.out, unV_yes hf.out]
      rfl

set_option maxRecDepth 100000 in
set_option maxHeartbeats 1000000 in
theorem iun_zero (s : ByteArray) (h0 : s.size = 0) (w : World) :
    Calls Tryd.prog 14 #[.string s] w fun e w' => e = .returned (unV s) ∧ Below w.heap.size w w' := by
  obtain ⟨i0, hi, hz0, hz1, hz2⟩ := info_parts Tryd.info5
  have HL : Hid (s.data.toList = []) := List.length_eq_zero_iff.1 (by rw [Array.length_toList]; exact h0)
  have H0 : Hid (s.size = 0) := h0
  have hs1 : s.size ≤ 0 := by omega
  clear h0
  have d2 : ((s.size : Int) % 2 != 0) = false := by rw [bne_eq_false_iff_eq]; omega
  have d1 : decide ((40000 : Int) < (s.size : Int)) = false := by simp; omega
  go_enter Tryd.func14, Tryd.ntmps14
  go_wp2_with (first | (go_at_call 17; refine (fv32_none s 16 (Nat.le_refl _) (by omega) H0.out _).mono ?_; rintro e w1 ⟨hb1, ao, cap, rfl⟩) | (at_make; refine wpList_make_own _ rfl _ _ 22 rfl w1.heap.size 5 i0 (.int .u8 0) 1 Tryd.underlying22 hi hz0 hz1 .i64 .i64 _ 0 rfl rfl (by simp) (by rw [hz2]; omega) (by unfold maxLen; omega) (Nat.le_refl _) ?_))
  intro w2 hown0 hgrow0
  have hown1 := Own.made hown0
  have hb2 : Below w1.heap.size w1 w2 := (Below.refl _ w1).grown hgrow0 (Nat.le_refl _) (fun j hj => by cases hj)
  clear hown0 hgrow0 hi hz0 hz1 hz2
  have hst := hown1.str
  go_wp2
  refine wp_loop_rounds 1 ?_
  rw [rounds_succ]
  go_wp2
  go_ret2
  refine ⟨?_, hb1.trans (hb2.mono hb1.size)⟩
  rw [unV_yes (by rw [HL.out]; rfl), HL.out]
  rfl

theorem iun (s : ByteArray) (n : Nat) (hn : s.size = 2 * n) (hs : s.size ≤ 40000) (w : World) :
    Calls Tryd.prog 14 #[.string s] w fun e w' => e = .returned (unV s) ∧ Below w.heap.size w w' := by
  cases hf : WM.figsB 16 s.data.toList with
  | false => exact iun_bad s n hn hs hf w
  | true =>
    by_cases h0 : n = 0
    · exact iun_zero s (by omega) w
    · exact iun_yes s n hn (by omega) hs hf w

end Go.Proofs.YtbncdnfjminpiaaDoor
