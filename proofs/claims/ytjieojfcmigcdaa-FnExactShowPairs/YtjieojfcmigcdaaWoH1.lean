/- What spec.l01Figure, spec.Hex and impl.Hex return. -/
import Derived.Test.YtjieojfcmigcdaaWoBase
import Derived.Deep.RegionHeld3
import Derived.Deep.DrawnRows
import Derived.Deep.AppendLies
import Derived.Lib.Strings
import Derived.Test.YtjieojfcmigcdaaMath
namespace Go.Proofs.Ytjieojfcmigcdaa
open Go.RowKit
open KM (take_snoc)
attribute [local go_sem ↓] Go.wp_at_zero Go.wp_at_succ

theorem stepApp {ops : Array Oper} {o : Oper} {a : Act} {K : Act → World → Prop} {Q : Exit → Act → World → Prop} {E : Prop} (hgd : o.guard = none) (s x : Operand)
    (ho : o.op = .call { callee := .builtin .append, args := #[s, x], argTypes := #[37, 37] }) {W : World} {cs : Array Value} (w0 : World) {base g : Nat} {v : Value} {pre : List UInt8} (news : List UInt8)
    (hs : a.eval s = v) (hown : Own W base v pre) (hx : a.eval x = .slice (some ⟨g, 0, none⟩) news.length news.length) (hblk : W.heap[g]? = some (.cells cs 5 (0, 0))) (hcs : cs.toList = bv news)
    (hn0 : 0 < news.length) (hlen : pre.length + news.length ≤ 140737488355328) (hb : Below base w0 W) (hB : base ≤ w0.heap.size)
    (h : ∀ v' w', Own w' base v' (pre ++ news) → Below base w0 w' → K (a.put o.dst v') w') :
    if Region.wanted o (yielded ops a.tmps) = true then Oper.wp Try.prog o a W K Q else E := by
  obtain ⟨i0, hi, hz0, hz1, hz2⟩ := info_parts Try.info5
  have hsz := hb.size
  refine step_append_lies _ hgd s x 37 ho base 5 i0 (.int .u8 0) 1 1 Try.underlying37 hi hz0 hz1 hz2 rfl (by decide) v pre.length (bv pre) hs hown ⟨g, 0, none⟩ news.length news.length (bv news) hx (by rw [bv_len]; omega) ?_ ?_ hn0 (by unfold maxLen; omega) (by omega) (by omega) _ rfl ?_
  · intro j u hj
    rw [Addr.add_lit, Nat.zero_add, World.cell?, hblk]
    rw [← hcs] at hj
    simpa using hj
  · intro u hu
    simp only [bv, List.mem_map] at hu
    obtain ⟨b, _, rfl⟩ := hu
    rfl
  · intro g' cap w' h1 h2 _ _
    refine h _ w' ?_ (hb.grown h2 (by omega) (fun j hj => (World.ownsRow.lt hown j hj).1))
    unfold Own
    simpa [bv] using h1

theorem Own.alloc {w : World} {base : Nat} {v : Value} {l : List UInt8} (h : Own w base v l) (o : Obj) : Own (w.alloc o) base v l := World.ownsRow.alloc h o
theorem Own.drew {w : World} {base : Nat} {v : Value} {l : List UInt8} (h : Own w base v l) : Own w.drew base v l := h

theorem hex_more (s : ByteArray) (k : Nat) (h : k < s.size) : WM.hexL (s.data.toList.take (k + 1)) = WM.hexL (s.data.toList.take k) ++ [WM.fig ((s[k].toNat : Int) / 16).toNat, WM.fig ((s[k].toNat : Int) % 16).toNat] := by
  rw [take_snoc s k h, WM.hexL_snoc]
  rw [show ((s[k].toNat : Int) / 16).toNat = s[k].toNat / 16 by omega, show ((s[k].toNat : Int) % 16).toNat = s[k].toNat % 16 by omega]

set_option maxHeartbeats 400000 in
theorem fig30 (x : Int) (h0 : 0 ≤ x) (h1 : x < 16) (w : World) :
    Calls Try.prog 15 #[.int .i64 x] w fun e w' => e = .returned (.int .u8 ((WM.fig x.toNat).toNat : Int)) ∧ w = w' := by
  have hf := WM.fig_toNat x.toNat (by omega)
  have HF : Hid _ := hf
  clear hf
  by_cases h : x < 10
  · go_enter Try.func15, Try.ntmps15
    go_wp2
    go_ret
    refine ⟨?_, rfl⟩
    rw [HF.out, if_pos (by omega)]
    show Ending.returned (.int .u8 (48 + x)) = _
    congr 2
    omega
  · go_enter Try.func15, Try.ntmps15
    go_wp2
    go_ret
    refine ⟨?_, rfl⟩
    rw [HF.out, if_neg (by omega)]
    show Ending.returned (.int .u8 (97 + x - 10)) = _
    congr 2
    omega

set_option maxHeartbeats 400000 in
theorem shex_no (s : ByteArray) (h : 20000 < s.size) (w : World) :
    Calls Try.prog 10 #[.string s] w fun e w' => e = .returned (.tuple #[.string ⟨#[]⟩, .bool false]) ∧ w = w' := by
  go_enter Try.func10, Try.ntmps10
  go_wp2
  go_ret2
  exact ⟨rfl, rfl⟩

set_option maxHeartbeats 400000 in
theorem ihex_no (s : ByteArray) (h : 20000 < s.size) (w : World) :
    Calls Try.prog 16 #[.string s] w fun e w' => e = .returned (.tuple #[.string ⟨#[]⟩, .bool false]) ∧ w = w' := by
  go_enter Try.func16, Try.ntmps16
  go_wp2
  go_ret2
  exact ⟨rfl, rfl⟩

set_option maxRecDepth 100000 in
set_option maxHeartbeats 400000 in
theorem shex_yes (s : ByteArray) (h : s.size ≤ 20000) (w : World) :
    Calls Try.prog 10 #[.string s] w fun e w' => e = .returned (.tuple #[.string ⟨(WM.hexL s.data.toList).toArray⟩, .bool true]) ∧ Below w.heap.size w w' := by
  have hd0 : decide ((20000 : Int) < (s.size : Int)) = false := by simp; omega
  go_enter Try.func10, Try.ntmps10
  go_wp2
  go_loopw [4, 5] (fun v t wr => ∃ k : Nat, k ≤ s.size ∧ t = .int .i64 k ∧ Own wr w.heap.size v (WM.hexL (s.data.toList.take k)) ∧ Below w.heap.size w wr) (fun _ t _ => s.size - (intOf t).toNat)
  case atStart =>
    exact ⟨0, Nat.zero_le _, rfl, Own.empty _ _ (Nat.le_refl _), (Below.refl _ _).alloc (Nat.le_refl _) _⟩
  case round =>
    obtain ⟨k, hk, rfl, hown, hb⟩ := hrel
    have hlen : (WM.hexL (s.data.toList.take k)).length ≤ 40000 := by rw [WM.hexL_len, List.length_take]; omega
    by_cases hlt : k < s.size
    · have hlt' : (k : Int) < (s.size : Int) := by omega
      have h0 : (0 : Int) ≤ (k : Int) := by omega
      have h255 : (s[k].toNat : Int) ≤ 255 := by have := s[k].toNat_lt; omega
      have e1 : IntKind.i64.wrap (s[k].toNat : Int) = (s[k].toNat : Int) := by rw [IntKind.wrap_i64]; omega
      have e2 : (s[k].toNat : Int).tdiv 16 = (s[k].toNat : Int) / 16 := Int.tdiv_eq_ediv_of_nonneg (by omega)
      have e3 : IntKind.i64.wrap ((s[k].toNat : Int) / 16) = (s[k].toNat : Int) / 16 := by rw [IntKind.wrap_i64]; omega
      have e4 : (s[k].toNat : Int).tmod 16 = (s[k].toNat : Int) % 16 := Int.tmod_eq_emod_of_nonneg (by omega)
      go_wp2
      go_region_held3 (fun _ => True) (trivial) ((first | (go_at_call 15; refine (fig30 _ (by omega) (by omega) _).mono ?_; rintro e w' ⟨rfl, rfl⟩) | (refine stepApp (by rfl) _ _ (by rfl) w [WM.fig ((s[k].toNat : Int) / 16).toNat, WM.fig ((s[k].toNat : Int) % 16).toNat] (by rfl) (by exact (Own.alloc hown _).drew) (by rfl) (by exact heap_alloc_new wr _) (by exact byteCells2 _ _ _ _ rfl rfl) (by simp) (by simp; omega) (by exact (hb.alloc hb.size _).drew) (Nat.le_refl _) ?_; intro v' w1 hown1 hb1)))
      all_goals
        have hown2 : Own w1 w.heap.size v' (WM.hexL (s.data.toList.take (k + 1))) := by rw [hex_more s k hlt]; exact hown1
        clear hown1 hown hb
        go_wp2
        go_roundw
        case rel => exact ⟨k + 1, by omega, by go_num, hown2, hb1⟩
        case measure => simp [intOf]; omega
    · have hd : decide ((k : Int) < (s.size : Int)) = false := by simp; omega
      have hst := hown.str
      go_wp2
      go_ret2
      refine ⟨?_, hb⟩
      rw [List.take_of_length_le (by simp only [Array.length_toList]; show s.size ≤ k; omega)]
      rfl
end Go.Proofs.Ytjieojfcmigcdaa
