/- Drawn rows of writes and of ranges; what DrawInRange, DrawTouches, DrawMeets, DrawRangeOk and DrawKeyOk make. -/
import Derived.Test.YthlfddbijlfgeaaD2
namespace Go.Proofs.Ythlfddbijlfgeaa
open Go.RowKit
open KM
attribute [local go_sem ↓] Go.wp_at_zero Go.wp_at_succ

/-- one range more -/
theorem wpAppR {ops : Array Oper} {rest : List Oper} {o : Oper} {a : Act} {Q : Exit → Act → World → Prop} (hgd : o.guard = none) (s x : Operand) (ho : o.op = .call { callee := .builtin .append, args := #[s, x], argTypes := #[29, 29] })
    {W : World} {base : Nat} {v : Value} {xs : List Rg} (y : Rg) (hs : a.eval s = v) (hown : GOwn encR 25 W base v xs)
    (hx : a.eval x = .slice (some ⟨W.heap.size, 0, none⟩) 1 1) (hlen : xs.length ≤ 100000000) (hB : base ≤ W.heap.size)
    (h : ∀ v' w', GOwn encR 25 w' base v' (xs ++ [y]) → Below base W w' → wpList Try.prog ops Q rest (a.put o.dst v') w') :
    wpList Try.prog ops Q (o :: rest) a (W.alloc (.cells #[.string y.1, .string y.2] 25)) := by
  refine wpAppG 29 25 2 32 _ Try.underlying29 Try.info25 rfl (by omega) (by omega) hgd s x ho (encR.enc y) hs (World.ownsRow.alloc hown _) hx (heap_alloc_new W _) rfl rone (by omega) (by simp; omega) ?_
  intro g' cap w' h1 h2
  refine h _ w' ?_ (((Below.refl _ _).alloc hB _).trans h2)
  have e : encR.cells (xs ++ [y]) = encR.cells xs ++ encR.enc y := by rw [encR.cells_app]; simp [Enc.cells]
  unfold GOwn
  rw [e, List.length_append]
  exact h1

set_option maxRecDepth 100000 in
set_option maxHeartbeats 1000000 in
theorem drWrites (g len cap : Nat) (a : Option Addr) (w : World) (hc : CurI w g a len cap) :
    Calls Try.prog 53 #[.pointer (some ⟨g, 0, none⟩)] w fun e w' => ∃ (xs : List Wt) (a1 : Option Addr) (c1 : Nat), WsD xs ∧ xs.length ≤ 3 ∧ e = .returned (.slice a1 xs.length c1) ∧ GOwn encW 34 w' w.heap.size (.slice a1 xs.length c1) xs ∧ Dn w w' g a len cap := by
  have HC : Hid (CurI w g a len cap) := hc
  have hgl : g < w.heap.size := hc.lt
  clear hc
  go_enter Try.func53, Try.ntmps53
  go_wp2
  go_loopw [3, 4] (fun v t wr => ∃ (k : Nat) (xs : List Wt) (a1 : Option Addr) (c1 : Nat), k ≤ 3 ∧ t = .int .i64 k ∧ v = .slice a1 xs.length c1 ∧ xs.length ≤ k ∧ Hid (WsD xs) ∧ Hid (GOwn encW 34 wr w.heap.size (.slice a1 xs.length c1) xs) ∧ Hid (Dn w wr g a len cap)) (fun _ t _ => 4 - (intOf t).toNat)
  case atStart => exact ⟨0, [], _, _, by omega, rfl, rfl, Nat.le_refl _, wsd_nil, GOwn.empty _ _ (Nat.le_refl _), (Dn.start HC.out).alloc _⟩
  case round =>
    obtain ⟨k, xs, a1, c1, hk, rfl, rfl, hxl, HS, HO, HD⟩ := hrel
    go_wp2_with fail
    refine (drBelow g len cap a 4 (by omega) (by omega) _ HD.out.c).mono ?_
    rintro e w1 ⟨n, hn, rfl, d1⟩
    have D1 : Hid (Dn w w1 g a len cap) := HD.out.step d1
    have O1 : Hid (GOwn encW 34 w1 w.heap.size (.slice a1 xs.length c1) xs) := HO.out.keptD d1 hgl
    clear d1
    by_cases hlt : k < n
    · have hlt' : (k : Int) < (n : Int) := by omega
      go_wp2_with fail
      refine (drWrite g len cap a _ D1.out.c).mono ?_
      rintro e w2 ⟨x, hx, rfl, d2⟩
      have D2 : Hid (Dn w w2 g a len cap) := D1.out.step d2
      have O2 : Hid (GOwn encW 34 w2 w.heap.size (.slice a1 xs.length c1) xs) := O1.out.keptD d2 hgl
      have HX : Hid (WtD x) := hx
      clear d2 hx
      go_wp2_with fail
      refine (sput xs x a1 c1 (by omega) _ O2.out.grow).mono ?_
      rintro e w3 ⟨a2, c2, rfl, ho3, hb3⟩
      have O3 : Hid (GOwn encW 34 w3 w.heap.size (.slice a2 (putS xs x).length c2) (putS xs x)) := ho3.mono D2.out.size
      have D3 : Hid (Dn w w3 g a len cap) := D2.out.below hb3
      have HS2 : Hid (WsD (putS xs x)) := wsd_put HS.out HX.out
      have hl2 : (putS xs x).length ≤ k + 1 := Nat.le_trans (len_put xs x) (by omega)
      clear ho3 hb3
      go_wp2
      go_roundw
      case rel => exact ⟨k + 1, _, a2, c2, by omega, by go_num, rfl, hl2, HS2, O3, D3⟩
      case measure => simp [intOf]; omega
    · have hlt' : ¬ (k : Int) < (n : Int) := by omega
      go_wp2
      go_ret
      exact ⟨xs, a1, c1, HS.out, by omega, rfl, O1.out, D1.out⟩

/-- right ranges -/
def RsD (xs : List Rg) : Prop := ∀ x ∈ xs, RgD x
theorem RsD.fit {xs : List Rg} (h : RsD xs) : RFit xs := fun x hx => ⟨by have := (h x hx).1.2; omega, by have := (h x hx).2.1.2; omega⟩

set_option maxRecDepth 100000 in
set_option maxHeartbeats 1000000 in
theorem drRanges (g len cap : Nat) (a : Option Addr) (w : World) (hc : CurI w g a len cap) :
    Calls Try.prog 52 #[.pointer (some ⟨g, 0, none⟩)] w fun e w' => ∃ (xs : List Rg) (a1 : Option Addr) (c1 : Nat), RsD xs ∧ xs.length ≤ 3 ∧ e = .returned (.slice a1 xs.length c1) ∧ GOwn encR 25 w' w.heap.size (.slice a1 xs.length c1) xs ∧ Dn w w' g a len cap := by
  have HC : Hid (CurI w g a len cap) := hc
  have hgl : g < w.heap.size := hc.lt
  clear hc
  go_enter Try.func52, Try.ntmps52
  go_wp2
  go_loopw [3, 4] (fun v t wr => ∃ (k : Nat) (xs : List Rg), k ≤ 3 ∧ t = .int .i64 k ∧ xs.length ≤ k ∧ Hid (RsD xs) ∧ Hid (GOwn encR 25 wr w.heap.size v xs) ∧ Hid (Dn w wr g a len cap)) (fun _ t _ => 4 - (intOf t).toNat)
  case atStart => exact ⟨0, [], by omega, rfl, Nat.le_refl _, fun x hx => by simp at hx, GOwn.empty _ _ (Nat.le_refl _), (Dn.start HC.out).alloc _⟩
  case round =>
    obtain ⟨k, xs, hk, rfl, hxl, HS, HO, HD⟩ := hrel
    go_wp2_with fail
    refine (drBelow g len cap a 4 (by omega) (by omega) _ HD.out.c).mono ?_
    rintro e w1 ⟨n, hn, rfl, d1⟩
    have D1 : Hid (Dn w w1 g a len cap) := HD.out.step d1
    have O1 := hide (HO.out.keptD d1 hgl)
    clear d1
    by_cases hlt : k < n
    · have hlt' : (k : Int) < (n : Int) := by omega
      go_wp2_with fail
      refine (drRange g len cap a _ D1.out.c).mono ?_
      rintro e w2 ⟨x, hx, rfl, d2⟩
      have D2 : Hid (Dn w w2 g a len cap) := D1.out.step d2
      have O2 := hide (O1.out.keptD d2 hgl)
      have hs2 := D2.out.size
      have HS2 : Hid (RsD (xs ++ [x])) := fun y hy => by
        rcases List.mem_append.1 hy with hy | hy
        · exact HS.out y hy
        · rw [List.mem_singleton.1 hy]; exact hx
      clear d2 hx
      go_wp2_with (at_builtin; refine wpAppR rfl _ _ rfl x rfl O2.out rfl (by omega) hs2 ?_)
      intro v' w3 ho3 hb3
      have O3 : Hid (GOwn encR 25 w3 w.heap.size v' (xs ++ [x])) := ho3
      have D3 : Hid (Dn w w3 g a len cap) := D2.out.belowB hb3
      have hl2 : (xs ++ [x]).length ≤ k + 1 := by simp; omega
      clear ho3 hb3
      go_wp2
      go_roundw
      case rel => exact ⟨k + 1, _, by omega, by go_num, hl2, HS2, O3, D3⟩
      case measure => simp [intOf]; omega
    · have hlt' : ¬ (k : Int) < (n : Int) := by omega
      obtain ⟨a1, c1, rfl, _⟩ := O1.out.row
      go_wp2
      go_ret
      exact ⟨xs, a1, c1, HS.out, by omega, rfl, O1.out, D1.out⟩

set_option maxRecDepth 100000 in
set_option maxHeartbeats 1000000 in
theorem dTouches (len cap : Nat) (a : Option Addr) (hl : len ≤ 1048576) (w : World) (hr : CodeRow w a len) :
    Calls Try.prog 15 #[.slice a len cap] w fun e w' => ∃ (rs : List Rg) (ws : List Wt) (a1 a2 : Option Addr) (c1 c2 : Nat), RsD rs ∧ rs.length ≤ 3 ∧ WsD ws ∧ ws.length ≤ 3 ∧ e = .returned (.tuple #[.slice a1 rs.length c1, .slice a2 ws.length c2]) ∧ GOwn encR 25 w' w.heap.size (.slice a1 rs.length c1) rs ∧ GOwn encW 34 w' w.heap.size (.slice a2 ws.length c2) ws ∧ Below w.heap.size w w' := by
  have HR : Hid (CodeRow w a len) := hr
  clear hr
  go_enter Try.func15, Try.ntmps15
  go_wp2_with fail
  refine (drNew len cap a hl _ HR.out).mono ?_
  rintro e w1 ⟨rfl, h1, hb1⟩
  have C1 : Hid (CurI w1 w.heap.size a len cap) := h1
  have HB1 : Hid (Below w.heap.size w w1) := hb1
  have s1 : w.heap.size < w1.heap.size := h1.lt
  clear h1 hb1
  go_wp2_with fail
  refine (drRanges w.heap.size len cap a _ C1.out).mono ?_
  rintro e w2 ⟨rs, a1, c1, hrs, hrl, rfl, ho2, d2⟩
  have D2 : Hid (Dn w1 w2 w.heap.size a len cap) := d2
  have O2 : Hid (GOwn encR 25 w2 w1.heap.size (.slice a1 rs.length c1) rs) := ho2
  have HRS : Hid (RsD rs) := hrs
  clear d2 ho2 hrs
  go_wp2_with fail
  refine (drWrites w.heap.size len cap a _ D2.out.c).mono ?_
  rintro e w3 ⟨ws, a2, c2, hws, hwl, rfl, ho3, d3⟩
  have D3 : Hid (Dn w1 w3 w.heap.size a len cap) := D2.out.step d3
  have O3 : Hid (GOwn encR 25 w3 w.heap.size (.slice a1 rs.length c1) rs) := (O2.out.keptD d3 s1).mono (by omega)
  have P3 : Hid (GOwn encW 34 w3 w.heap.size (.slice a2 ws.length c2) ws) := ho3.mono (Nat.le_trans (Nat.le_of_lt s1) D2.out.size)
  have HB3 : Hid (Below w.heap.size w w3) := D3.out.out HB1.out (Nat.le_refl _) (by omega)
  have HWS : Hid (WsD ws) := hws
  clear d3 ho3 hws
  go_wp2
  go_ret2
  exact ⟨rs, ws, a1, a2, c1, c2, HRS.out, hrl, HWS.out, hwl, rfl, O3.out, P3.out, HB3.out⟩

set_option maxRecDepth 100000 in
set_option maxHeartbeats 1000000 in
theorem dMeets (len cap : Nat) (a : Option Addr) (hl : len ≤ 1048576) (w : World) (hr : CodeRow w a len) :
    Calls Try.prog 16 #[.slice a len cap] w fun e w' => ∃ (xs ws : List Wt) (a1 a2 : Option Addr) (c1 c2 : Nat), WsD xs ∧ xs.length ≤ 3 ∧ WsD ws ∧ ws.length ≤ 3 ∧ e = .returned (.tuple #[.slice a1 xs.length c1, .slice a2 ws.length c2]) ∧ GOwn encW 34 w' w.heap.size (.slice a1 xs.length c1) xs ∧ GOwn encW 34 w' w.heap.size (.slice a2 ws.length c2) ws ∧ Below w.heap.size w w' := by
  have HR : Hid (CodeRow w a len) := hr
  clear hr
  go_enter Try.func16, Try.ntmps16
  go_wp2_with fail
  refine (drNew len cap a hl _ HR.out).mono ?_
  rintro e w1 ⟨rfl, h1, hb1⟩
  have C1 : Hid (CurI w1 w.heap.size a len cap) := h1
  have HB1 : Hid (Below w.heap.size w w1) := hb1
  have s1 : w.heap.size < w1.heap.size := h1.lt
  clear h1 hb1
  go_wp2_with fail
  refine (drWrites w.heap.size len cap a _ C1.out).mono ?_
  rintro e w2 ⟨xs, a1, c1, hrs, hrl, rfl, ho2, d2⟩
  have D2 : Hid (Dn w1 w2 w.heap.size a len cap) := d2
  have O2 : Hid (GOwn encW 34 w2 w1.heap.size (.slice a1 xs.length c1) xs) := ho2
  have HRS : Hid (WsD xs) := hrs
  clear d2 ho2 hrs
  go_wp2_with fail
  refine (drWrites w.heap.size len cap a _ D2.out.c).mono ?_
  rintro e w3 ⟨ws, a2, c2, hws, hwl, rfl, ho3, d3⟩
  have D3 : Hid (Dn w1 w3 w.heap.size a len cap) := D2.out.step d3
  have O3 : Hid (GOwn encW 34 w3 w.heap.size (.slice a1 xs.length c1) xs) := (O2.out.keptD d3 s1).mono (by omega)
  have P3 : Hid (GOwn encW 34 w3 w.heap.size (.slice a2 ws.length c2) ws) := ho3.mono (Nat.le_trans (Nat.le_of_lt s1) D2.out.size)
  have HB3 : Hid (Below w.heap.size w w3) := D3.out.out HB1.out (Nat.le_refl _) (by omega)
  have HWS : Hid (WsD ws) := hws
  clear d3 ho3 hws
  go_wp2
  go_ret2
  exact ⟨xs, ws, a1, a2, c1, c2, HRS.out, hrl, HWS.out, hwl, rfl, O3.out, P3.out, HB3.out⟩

set_option maxRecDepth 100000 in
set_option maxHeartbeats 1000000 in
theorem dKeyOk (len cap : Nat) (a : Option Addr) (hl : len ≤ 1048576) (w : World) (hr : CodeRow w a len) :
    Calls Try.prog 18 #[.slice a len cap] w fun e w' => ∃ s : ByteArray, s.size ≤ 4 ∧ e = .returned (.string s) ∧ Below w.heap.size w w' := by
  have HR : Hid (CodeRow w a len) := hr
  clear hr
  go_enter Try.func18, Try.ntmps18
  go_wp2_with fail
  refine (drNew len cap a hl _ HR.out).mono ?_
  rintro e w1 ⟨rfl, h1, hb1⟩
  have C1 : Hid (CurI w1 w.heap.size a len cap) := h1
  have HB1 : Hid (Below w.heap.size w w1) := hb1
  have s1 : w.heap.size < w1.heap.size := h1.lt
  clear h1 hb1
  go_wp2_with fail
  refine (drPickN w.heap.size len cap a [⟨#[]⟩, ⟨#[97]⟩, ⟨#[97, 98, 99]⟩, ⟨#[97, 98, 99, 100]⟩, ⟨#[65]⟩, ⟨#[97, 49]⟩] 6 w1.heap.size 6 rfl (by omega) (by omega) _ (C1.out.alloc _) (by omega) (Bx.new w1 _ 9)).mono ?_
  rintro e w2 ⟨s, hs, rfl, d2⟩
  have HB2 : Hid (Below w.heap.size w w2) := ((Dn.start C1.out).alloc _ |>.step d2).out HB1.out (Nat.le_refl _) (by omega)
  have HS : Hid (s.size ≤ 4) := by
    show s.size ≤ 4
    simp only [List.mem_cons, List.not_mem_nil, or_false] at hs
    rcases hs with rfl | rfl | rfl | rfl | rfl | rfl <;> decide
  clear d2 hs
  go_wp2
  go_ret
  exact ⟨s, HS.out, rfl, HB2.out⟩
end Go.Proofs.Ythlfddbijlfgeaa
