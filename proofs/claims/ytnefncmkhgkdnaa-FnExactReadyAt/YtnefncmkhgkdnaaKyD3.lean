/- Drawn rows of writes and of ranges; what DrawInRange, DrawTouches, DrawMeets, DrawRangeOk and DrawKeyOk make. -/
import Derived.Test.YtnefncmkhgkdnaaDw
namespace Go.Proofs.Ytnefncmkhgkdnaa
open Go.RowKit
open KM
attribute [local go_sem ↓] Go.wp_at_zero Go.wp_at_succ

/-- one range more -/
theorem wpAppR {ops : Array Oper} {rest : List Oper} {o : Oper} {a : Act} {Q : Exit → Act → World → Prop} (hgd : o.guard = none) (s x : Operand) (ho : o.op = .call { callee := .builtin .append, args := #[s, x], argTypes := #[24, 24] })
    {W : World} {base : Nat} {v : Value} {xs : List Rg} (y : Rg) (hs : a.eval s = v) (hown : GOwn encR 92 W base v xs)
    (hx : a.eval x = .slice (some ⟨W.heap.size, 0, none⟩) 1 1) (hlen : xs.length ≤ 100000000) (hB : base ≤ W.heap.size)
    (h : ∀ v' w', GOwn encR 92 w' base v' (xs ++ [y]) → Below base W w' → wpList Try.prog ops Q rest (a.put o.dst v') w') :
    wpList Try.prog ops Q (o :: rest) a (W.alloc (.cells #[.string y.1, .string y.2] 92)) := by
  refine wpAppG 24 92 2 32 _ Try.underlying24 Try.info92 rfl (by omega) (by omega) hgd s x ho (encR.enc y) hs (World.ownsRow.alloc hown _) hx (heap_alloc_new W _) rfl rone (by omega) (by simp; omega) ?_
  intro g' cap w' h1 h2
  refine h _ w' ?_ (((Below.refl _ _).alloc hB _).trans h2)
  have e : encR.cells (xs ++ [y]) = encR.cells xs ++ encR.enc y := by rw [encR.cells_app]; simp [Enc.cells]
  unfold GOwn
  rw [e, List.length_append]
  exact h1

/-- right ranges -/
def RsD (xs : List Rg) : Prop := ∀ x ∈ xs, RgD x
theorem RsD.fit {xs : List Rg} (h : RsD xs) : RFit xs := fun x hx => ⟨by have := (h x hx).1.2; omega, by have := (h x hx).2.1.2; omega⟩

set_option maxRecDepth 100000 in
set_option maxHeartbeats 1000000 in
theorem drRanges (g len cap : Nat) (a : Option Addr) (w : World) (hc : CurI w g a len cap) :
    Calls Try.prog 40 #[.pointer (some ⟨g, 0, none⟩)] w fun e w' => ∃ (xs : List Rg) (a1 : Option Addr) (c1 : Nat), RsD xs ∧ xs.length ≤ 3 ∧ e = .returned (.slice a1 xs.length c1) ∧ GOwn encR 92 w' w.heap.size (.slice a1 xs.length c1) xs ∧ Dn w w' g a len cap := by
  have HC : Hid (CurI w g a len cap) := hc
  have hgl : g < w.heap.size := hc.lt
  clear hc
  go_enter Try.func40, Try.ntmps40
  go_wp2
  go_loopw [3, 4] (fun v t wr => ∃ (k : Nat) (xs : List Rg), k ≤ 3 ∧ t = .int .i64 k ∧ xs.length ≤ k ∧ Hid (RsD xs) ∧ Hid (GOwn encR 92 wr w.heap.size v xs) ∧ Hid (Dn w wr g a len cap)) (fun _ t _ => 4 - (intOf t).toNat)
  case atStart => exact ⟨0, [], by omega, rfl, Nat.le_refl _, fun x hx => by simp at hx, GOwn.empty _ _ (Nat.le_refl _), (Dn.start HC.out).alloc _⟩
  case round =>
    obtain ⟨k, xs, hk, rfl, hxl, HS, HO, HD⟩ := hrel
    go_wp2_with fail
    refine (drBelow g len cap a 4 (by omega) (by omega) _ HD.out.c).mono ?_
    rintro e w1 ⟨n, hn, rfl, d1⟩
    have D1 : Hid (Dn w w1 g a len cap) := HD.out.step d1
    have O1 := hide (HO.out.keptD d1 hgl)
    clear d1
    by_cases hlt : k < n
    · have hlt' : (k : Int) < (n : Int) := by omega
      go_wp2_with fail
      refine (drRange g len cap a _ D1.out.c).mono ?_
      rintro e w2 ⟨x, hx, rfl, d2⟩
      have D2 : Hid (Dn w w2 g a len cap) := D1.out.step d2
      have O2 := hide (O1.out.keptD d2 hgl)
      have hs2 := D2.out.size
      have HS2 : Hid (RsD (xs ++ [x])) := fun y hy => by
        rcases List.mem_append.1 hy with hy | hy
        · exact HS.out y hy
        · rw [List.mem_singleton.1 hy]; exact hx
      clear d2 hx
      go_wp2_with (at_builtin; refine wpAppR rfl _ _ rfl x rfl O2.out rfl (by omega) hs2 ?_)
      intro v' w3 ho3 hb3
      have O3 : Hid (GOwn encR 92 w3 w.heap.size v' (xs ++ [x])) := ho3
      have D3 : Hid (Dn w w3 g a len cap) := D2.out.belowB hb3
      have hl2 : (xs ++ [x]).length ≤ k + 1 := by simp; omega
      clear ho3 hb3
      go_wp2
      go_roundw
      case rel => exact ⟨k + 1, _, by omega, by go_num, hl2, HS2, O3, D3⟩
      case measure => simp [intOf]; omega
    · have hlt' : ¬ (k : Int) < (n : Int) := by omega
      obtain ⟨a1, c1, rfl, _⟩ := O1.out.row
      go_wp2
      go_ret
      exact ⟨xs, a1, c1, HS.out, by omega, rfl, O1.out, D1.out⟩

end Go.Proofs.Ytnefncmkhgkdnaa
