/- What stays: BaseOk of the program. -/
import Derived.Test.YtjeicgibddfifaaGreatPa18
import Derived.Deep.RegionHeld3
import Derived.Deep.Cut
import Derived.Deep.CutRange
import Derived.Laws.EntriesVeiled
import Derived.Test.YtjeicgibddfifaaGreatPa17
import Derived.Test.YtjeicgibddfifaaGreatPa11
import Derived.Test.YtjeicgibddfifaaGreatPa08
import Derived.Test.YtjeicgibddfifaaGreatPa13
namespace Go.Proofs.YtjeicgibddfifaaGreat
open Go.RowKit
open KM
attribute [local go_sem ↓] Go.wp_at_zero Go.wp_at_succ

def ibB (b : Bb) : Bool := decide (0 ≤ b.cs) && decide (b.cs ≤ 9999) && decide (1 ≤ b.nx) && decide (b.nx ≤ 9999) && versB b.vs && !(b.vs.any (fun x : Vr => decide (b.cs < x.2.2.2))) && pastB b && readyOkB b && idsB b

set_option maxRecDepth 100000 in
set_option maxHeartbeats 4000000 in
theorem ibase7 (b : Bb) (hf : BFit b) (hpa : b.pa = none → b.ps.length = 0 ∧ b.pc = 0) (hqa : b.qa = none → b.qs.length = 0 ∧ b.qc = 0) (w : World) (hp : BRows w b) :
  Calls Tryz.prog 25 #[.agg #[.slice b.va b.vs.length b.vc, .slice b.pa b.ps.length b.pc, .slice b.qa b.qs.length b.qc, .int .i64 b.cs, .int .i64 b.nx]] w fun e w' => e = .returned (.bool (ibB b)) ∧ Below w.heap.size w w' := by
 have BA0 : Hid (Bx (w.alloc (.cells #[.slice b.va b.vs.length b.vc, .slice b.pa b.ps.length b.pc, .slice b.qa b.qs.length b.qc, .int .i64 b.cs, .int .i64 b.nx] 33)) w.heap.size [.slice b.va b.vs.length b.vc, .slice b.pa b.ps.length b.pc, .slice b.qa b.qs.length b.qc, .int .i64 b.cs, .int .i64 b.nx]) := Bx.new w [.slice b.va b.vs.length b.vc, .slice b.pa b.ps.length b.pc, .slice b.qa b.qs.length b.qc, .int .i64 b.cs, .int .i64 b.nx] 33
 have HB0 : Hid (Below w.heap.size w (w.alloc (.cells #[.slice b.va b.vs.length b.vc, .slice b.pa b.ps.length b.pc, .slice b.qa b.qs.length b.qc, .int .i64 b.cs, .int .i64 b.nx] 33))) := (belowRefl w).alloc (Nat.le_refl _) _
 have HP : Hid (BRows w b) := hp
 have HF : Hid (BFit b) := hf
 have HV : Hid (GRow encV w b.va b.vs) := hp.v
 clear hp hf
 have x3 := BA0.out.c3
 have x4 := BA0.out.c4
 by_cases h1 : b.cs < 0
 ·have HR : Hid (false = ibB b) := by show _ = _; unfold ibB; simp [show ¬ (0 ≤ b.cs) by omega]
  clear HF HV hpa hqa HP
  go_enter Tryz.func25, Tryz.ntmps25
  go_wp2
  go_ret
  exact ⟨ret_bool HR.out, HB0.out⟩
 by_cases h2 : 9999 < b.cs
 ·have HR : Hid (false = ibB b) := by show _ = _; unfold ibB; simp [show ¬ (b.cs ≤ 9999) by omega]
  clear HF HV hpa hqa HP
  go_enter Tryz.func25, Tryz.ntmps25
  go_wp2
  go_ret
  exact ⟨ret_bool HR.out, HB0.out⟩
 by_cases h3 : b.nx < 1
 ·have HR : Hid (false = ibB b) := by show _ = _; unfold ibB; simp [show ¬ (1 ≤ b.nx) by omega]
  clear HF HV hpa hqa HP
  go_enter Tryz.func25, Tryz.ntmps25
  go_wp2
  go_ret
  exact ⟨ret_bool HR.out, HB0.out⟩
 by_cases h4 : 9999 < b.nx
 ·have HR : Hid (false = ibB b) := by show _ = _; unfold ibB; simp [show ¬ (b.nx ≤ 9999) by omega]
  clear HF HV hpa hqa HP
  go_enter Tryz.func25, Tryz.ntmps25
  go_wp2
  go_ret
  exact ⟨ret_bool HR.out, HB0.out⟩
 have HE : Hid (ibB b = (versB b.vs && !(b.vs.any (fun x : Vr => decide (b.cs < x.2.2.2))) && pastB b && readyOkB b && idsB b)) := by
  show _ = _
  unfold ibB
  simp [show 0 ≤ b.cs by omega, show b.cs ≤ 9999 by omega, show 1 ≤ b.nx by omega, show b.nx ≤ 9999 by omega]
 have CV : Hid (∀ W : World, Below w.heap.size w W → Calls Tryz.prog 53 #[.slice b.va b.vs.length b.vc] W fun e w' => e = .returned (.bool (versB b.vs)) ∧ Below W.heap.size W w') := fun W h => ivers b.vs b.va b.vc (Nat.le_trans HF.out.vl (by omega)) W (HV.out.below h)
 have CB : Hid (∀ W : World, Calls Tryz.prog 54 #[.slice b.va b.vs.length b.vc] W fun e w' => e = .returned (.agg #[.slice b.va b.vs.length b.vc, .func (.func 98) #[] #[]]) ∧ Below W.heap.size W w') := fun W => by17 b.va b.vc b.vs.length W
 have CA : Hid (∀ W : World, Below w.heap.size w W → Calls Tryz.prog 55 #[.agg #[.slice b.va b.vs.length b.vc, .func (.func 98) #[] #[]], .int .i64 b.cs] W fun e w' => e = .returned (.bool (b.vs.any (fun x : Vr => decide (b.cs < x.2.2.2)))) ∧ Below W.heap.size W w') := fun W h => any33 b.vs b.va b.vc b.vs.length rfl (Nat.le_trans HF.out.vl (by omega)) b.cs W (HV.out.below h)
 have C1 : Hid (∀ W : World, Below w.heap.size w W → Calls Tryz.prog 56 #[.agg #[.slice b.va b.vs.length b.vc, .slice b.pa b.ps.length b.pc, .slice b.qa b.qs.length b.qc, .int .i64 b.cs, .int .i64 b.nx]] W fun e w' => e = .returned (.bool (pastB b)) ∧ Below W.heap.size W w') := fun W h => past19 b HF.out W (HP.out.below h)
 have C2 : Hid (∀ W : World, Below w.heap.size w W → Calls Tryz.prog 57 #[.agg #[.slice b.va b.vs.length b.vc, .slice b.pa b.ps.length b.pc, .slice b.qa b.qs.length b.qc, .int .i64 b.cs, .int .i64 b.nx]] W fun e w' => e = .returned (.bool (readyOkB b)) ∧ Below W.heap.size W w') := fun W h => ready20 b HF.out W (HP.out.below h)
 have C3 : Hid (∀ W : World, Below w.heap.size w W → Calls Tryz.prog 58 #[.agg #[.slice b.va b.vs.length b.vc, .slice b.pa b.ps.length b.pc, .slice b.qa b.qs.length b.qc, .int .i64 b.cs, .int .i64 b.nx]] W fun e w' => e = .returned (.bool (idsB b)) ∧ Below W.heap.size W w') := fun W h => ids21 b HF.out hpa hqa (by omega) (by omega) W (HP.out.below h)
 clear HF HV hpa hqa HP
 generalize versB b.vs = rv at *
 generalize b.vs.any (fun x : Vr => decide (b.cs < x.2.2.2)) = ry at *
 generalize pastB b = rp at *
 generalize readyOkB b = rr at *
 generalize idsB b = ri at *
 generalize ibB b = res at *
 have hres := HE.out
 subst hres
 clear HE
 go_enter Tryz.func25, Tryz.ntmps25
 go_wp2
 clear x3 x4
 refine wp_region_held_drew (S := fun w' => w'.cell? ⟨w.heap.size, 0, none⟩ = some (.slice b.va b.vs.length b.vc) ∧ w'.cell? ⟨w.heap.size, 1, none⟩ = some (.slice b.pa b.ps.length b.pc) ∧ w'.cell? ⟨w.heap.size, 2, none⟩ = some (.slice b.qa b.qs.length b.qc) ∧ w'.cell? ⟨w.heap.size, 3, none⟩ = some (.int .i64 b.cs) ∧ w'.cell? ⟨w.heap.size, 4, none⟩ = some (.int .i64 b.nx)) (by kernel_rfl) ⟨BA0.out.c0, BA0.out.c1, BA0.out.c2, BA0.out.c3, BA0.out.c4⟩ (fun hHeld => ?_)
 (refine wpAnyH_take (i := 0) (v := ?_) rfl (by kernel_rfl) (by kernel_rfl) (by kernel_rfl) (fun _ _ _ h => h) (Or.inl ⟨by rfl, ?_⟩) (by assumption) ?_; rotate_left; (focus (intro w hSw; (try dsimp only at hSw); go_simp; (try with_reducible rfl); done)); simp only [Act.put, List.getElem_toArray, List.getElem_cons_zero, List.setIfInBounds_toArray, List.set_cons_zero, List.set_cons_succ])
 (refine wpAnyH_take (i := 1) (v := ?_) rfl (by kernel_rfl) (by kernel_rfl) (by kernel_rfl) (fun _ _ _ h => h) (Or.inl ⟨by rfl, ?_⟩) (by assumption) ?_; rotate_left; (focus (intro w hSw; (try dsimp only at hSw); go_simp; (try with_reducible rfl); done)); simp only [Act.put, List.getElem_toArray, List.getElem_cons_zero, List.getElem_cons_succ, List.setIfInBounds_toArray, List.set_cons_zero, List.set_cons_succ])
 refine wpAnyH_ready (rs := [2]) (by kernel_rfl) (by simp) ?_
 refine (AllReadyH.cons rfl (fun K hK => ?_) AllReadyH.nil)
 go_simp
 go_wp2_with fail
 refine (CV.out _ HB0.out.drew).mono ?_
 rintro e w1 ⟨rfl, hb9⟩
 have hb := undrew hb9
 have HB1 : Hid (Below w.heap.size w w1) := HB0.out.trans (hb.mono HB0.out.size)
 have BA1 : Hid (Bx w1 w.heap.size [.slice b.va b.vs.length b.vc, .slice b.pa b.ps.length b.pc, .slice b.qa b.qs.length b.qc, .int .i64 b.cs, .int .i64 b.nx]) := BA0.out.below hb
 clear hb HB0 BA0
 clear hb9
 go_wp2_with fail
 refine hK.out _ _ ⟨BA1.out.c0, BA1.out.c1, BA1.out.c2, BA1.out.c3, BA1.out.c4⟩ (fun hHeld1 => ?_)
 clear hK K
 (refine wpAnyH_take (i := 3) (v := ?_) rfl (by kernel_rfl) (by kernel_rfl) (by kernel_rfl) (fun _ _ _ h => h) (Or.inl ⟨by rfl, ?_⟩) (by assumption) ?_; rotate_left; (focus (intro w hSw; (try dsimp only at hSw); go_simp; (try with_reducible rfl); done)); simp only [Act.put, List.getElem_toArray, List.getElem_cons_zero, List.getElem_cons_succ, List.setIfInBounds_toArray, List.set_cons_zero, List.set_cons_succ])
 (refine wpAnyH_take (i := 4) (v := ?_) rfl (by kernel_rfl) (by kernel_rfl) (by kernel_rfl) (fun _ _ _ h => h) (Or.inl ⟨by rfl, ?_⟩) (by assumption) ?_; rotate_left; (focus (intro w hSw; (try dsimp only at hSw); go_simp; (try with_reducible rfl); done)); simp only [Act.put, List.getElem_toArray, List.getElem_cons_zero, List.getElem_cons_succ, List.setIfInBounds_toArray, List.set_cons_zero, List.set_cons_succ])
 cases rv
 ·(refine wpAnyH_take (i := 5) (v := undef) rfl (by kernel_rfl) (by kernel_rfl) (by kernel_rfl) (fun _ _ _ h => h) (Or.inr ⟨by rfl, rfl⟩) (by assumption) ?_; simp only [Act.put, List.getElem_toArray, List.getElem_cons_zero, List.getElem_cons_succ, List.setIfInBounds_toArray, List.set_cons_zero, List.set_cons_succ])
  (refine wpAnyH_take (i := 6) (v := undef) rfl (by kernel_rfl) (by kernel_rfl) (by kernel_rfl) (fun _ _ _ h => h) (Or.inr ⟨by rfl, rfl⟩) (by assumption) ?_; simp only [Act.put, List.getElem_toArray, List.getElem_cons_zero, List.getElem_cons_succ, List.setIfInBounds_toArray, List.set_cons_zero, List.set_cons_succ])
  (refine wpAnyH_take (i := 7) (v := undef) rfl (by kernel_rfl) (by kernel_rfl) (by kernel_rfl) (fun _ _ _ h => h) (Or.inr ⟨by rfl, rfl⟩) (by assumption) ?_; simp only [Act.put, List.getElem_toArray, List.getElem_cons_zero, List.getElem_cons_succ, List.setIfInBounds_toArray, List.set_cons_zero, List.set_cons_succ])
  (refine wpAnyH_take (i := 8) (v := undef) rfl (by kernel_rfl) (by kernel_rfl) (by kernel_rfl) (fun _ _ _ h => h) (Or.inr ⟨by rfl, rfl⟩) (by assumption) ?_; simp only [Act.put, List.getElem_toArray, List.getElem_cons_zero, List.getElem_cons_succ, List.setIfInBounds_toArray, List.set_cons_zero, List.set_cons_succ])
  (refine wpAnyH_take (i := 9) (v := undef) rfl (by kernel_rfl) (by kernel_rfl) (by kernel_rfl) (fun _ _ _ h => h) (Or.inr ⟨by rfl, rfl⟩) (by assumption) ?_; simp only [Act.put, List.getElem_toArray, List.getElem_cons_zero, List.getElem_cons_succ, List.setIfInBounds_toArray, List.set_cons_zero, List.set_cons_succ])
  (refine wpAnyH_take (i := 10) (v := undef) rfl (by kernel_rfl) (by kernel_rfl) (by kernel_rfl) (fun _ _ _ h => h) (Or.inr ⟨by rfl, rfl⟩) (by assumption) ?_; simp only [Act.put, List.getElem_toArray, List.getElem_cons_zero, List.getElem_cons_succ, List.setIfInBounds_toArray, List.set_cons_zero, List.set_cons_succ])
  (refine wpAnyH_take (i := 11) (v := ?_) rfl (by kernel_rfl) (by kernel_rfl) (by kernel_rfl) (fun _ _ _ h => h) (Or.inl ⟨by rfl, ?_⟩) (by assumption) ?_; rotate_left; (focus (intro w hSw; (try dsimp only at hSw); go_simp; (try with_reducible rfl); done)); simp only [Act.put, List.getElem_toArray, List.getElem_cons_zero, List.getElem_cons_succ, List.setIfInBounds_toArray, List.set_cons_zero, List.set_cons_succ])
  refine wpAnyH_done (by kernel_rfl) ?_ _
  go_wp2
  go_ret
  exact ⟨rfl, HB1.out⟩
 (refine wpAnyH_take (i := 5) (v := ?_) rfl (by kernel_rfl) (by kernel_rfl) (by kernel_rfl) (fun _ _ _ h => h) (Or.inl ⟨by rfl, ?_⟩) (by assumption) ?_; rotate_left; (focus (intro w hSw; (try dsimp only at hSw); go_simp; (try with_reducible rfl); done)); simp only [Act.put, List.getElem_toArray, List.getElem_cons_zero, List.getElem_cons_succ, List.setIfInBounds_toArray, List.set_cons_zero, List.set_cons_succ])
 (refine wpAnyH_take (i := 6) (v := ?_) rfl (by kernel_rfl) (by kernel_rfl) (by kernel_rfl) (fun _ _ _ h => h) (Or.inl ⟨by rfl, ?_⟩) (by assumption) ?_; rotate_left; (focus (intro w hSw; (try dsimp only at hSw); go_simp; (try with_reducible rfl); done)); simp only [Act.put, List.getElem_toArray, List.getElem_cons_zero, List.getElem_cons_succ, List.setIfInBounds_toArray, List.set_cons_zero, List.set_cons_succ])
 (refine wpAnyH_take (i := 8) (v := ?_) rfl (by kernel_rfl) (by kernel_rfl) (by kernel_rfl) (fun _ _ _ h => h) (Or.inl ⟨by rfl, ?_⟩) (by assumption) ?_; rotate_left; (focus (intro w hSw; (try dsimp only at hSw); go_simp; (try with_reducible rfl); done)); simp only [Act.put, List.getElem_toArray, List.getElem_cons_zero, List.getElem_cons_succ, List.setIfInBounds_toArray, List.set_cons_zero, List.set_cons_succ])
 (refine wpAnyH_take (i := 9) (v := ?_) rfl (by kernel_rfl) (by kernel_rfl) (by kernel_rfl) (fun _ _ _ h => h) (Or.inl ⟨by rfl, ?_⟩) (by assumption) ?_; rotate_left; (focus (intro w hSw; (try dsimp only at hSw); go_simp; (try with_reducible rfl); done)); simp only [Act.put, List.getElem_toArray, List.getElem_cons_zero, List.getElem_cons_succ, List.setIfInBounds_toArray, List.set_cons_zero, List.set_cons_succ])
 refine wpAnyH_ready (rs := [7]) (by kernel_rfl) (by simp) ?_
 refine (AllReadyH.cons rfl (fun K hK => ?_) AllReadyH.nil)
 go_simp
 go_wp2_with fail
 refine (CB.out _).mono ?_
 rintro e w2 ⟨rfl, hb9⟩
 have hb := hb9
 have HB2 : Hid (Below w.heap.size w w2) := HB1.out.trans (hb.mono HB1.out.size)
 have BA2 : Hid (Bx w2 w.heap.size [.slice b.va b.vs.length b.vc, .slice b.pa b.ps.length b.pc, .slice b.qa b.qs.length b.qc, .int .i64 b.cs, .int .i64 b.nx]) := BA1.out.below hb
 clear hb HB1 BA1
 clear hb9
 go_wp2_with fail
 refine hK.out _ _ ⟨BA2.out.c0, BA2.out.c1, BA2.out.c2, BA2.out.c3, BA2.out.c4⟩ (fun hHeld2 => ?_)
 clear hK K
 refine wpAnyH_ready (rs := [10]) (by kernel_rfl) (by simp) ?_
 refine (AllReadyH.cons rfl (fun K hK => ?_) AllReadyH.nil)
 go_simp
 go_wp2_with fail
 refine (CA.out _ HB2.out).mono ?_
 rintro e w3 ⟨rfl, hb9⟩
 have hb := hb9
 have HB3 : Hid (Below w.heap.size w w3) := HB2.out.trans (hb.mono HB2.out.size)
 have BA3 : Hid (Bx w3 w.heap.size [.slice b.va b.vs.length b.vc, .slice b.pa b.ps.length b.pc, .slice b.qa b.qs.length b.qc, .int .i64 b.cs, .int .i64 b.nx]) := BA2.out.below hb
 clear hb HB2 BA2
 clear hb9
 go_wp2_with fail
 refine hK.out _ _ ⟨BA3.out.c0, BA3.out.c1, BA3.out.c2, BA3.out.c3, BA3.out.c4⟩ (fun hHeld3 => ?_)
 clear hK K
 (refine wpAnyH_take (i := 11) (v := ?_) rfl (by kernel_rfl) (by kernel_rfl) (by kernel_rfl) (fun _ _ _ h => h) (Or.inl ⟨by rfl, ?_⟩) (by assumption) ?_; rotate_left; (focus (intro w hSw; (try dsimp only at hSw); go_simp; (try with_reducible rfl); done)); simp only [Act.put, List.getElem_toArray, List.getElem_cons_zero, List.getElem_cons_succ, List.setIfInBounds_toArray, List.set_cons_zero, List.set_cons_succ])
 refine wpAnyH_done (by kernel_rfl) ?_ _
 cases ry
 case true =>
  go_wp2
  go_ret
  exact ⟨rfl, HB3.out⟩
 have y0 := BA3.out.c0
 have y1 := BA3.out.c1
 have y2 := BA3.out.c2
 have y3 := BA3.out.c3
 have y4 := BA3.out.c4
 go_wp2_with fail
 refine (C1.out _ HB3.out).mono ?_
 rintro e w4 ⟨rfl, hb⟩
 have HB4 : Hid (Below w.heap.size w w4) := HB3.out.trans (hb.mono HB3.out.size)
 have BA4 : Hid (Bx w4 w.heap.size [.slice b.va b.vs.length b.vc, .slice b.pa b.ps.length b.pc, .slice b.qa b.qs.length b.qc, .int .i64 b.cs, .int .i64 b.nx]) := BA3.out.below hb
 clear hb HB3 BA3
 clear y0 y1 y2 y3 y4
 cases rp
 ·go_wp2
  go_ret
  exact ⟨rfl, HB4.out⟩
 have y0 := BA4.out.c0
 have y1 := BA4.out.c1
 have y2 := BA4.out.c2
 have y3 := BA4.out.c3
 have y4 := BA4.out.c4
 go_wp2_with fail
 refine (C2.out _ HB4.out).mono ?_
 rintro e w5 ⟨rfl, hb⟩
 have HB5 : Hid (Below w.heap.size w w5) := HB4.out.trans (hb.mono HB4.out.size)
 have BA5 : Hid (Bx w5 w.heap.size [.slice b.va b.vs.length b.vc, .slice b.pa b.ps.length b.pc, .slice b.qa b.qs.length b.qc, .int .i64 b.cs, .int .i64 b.nx]) := BA4.out.below hb
 clear hb HB4 BA4
 clear y0 y1 y2 y3 y4
 cases rr
 ·go_wp2
  go_ret
  exact ⟨rfl, HB5.out⟩
 have y0 := BA5.out.c0
 have y1 := BA5.out.c1
 have y2 := BA5.out.c2
 have y3 := BA5.out.c3
 have y4 := BA5.out.c4
 go_wp2_with fail
 refine (C3.out _ HB5.out).mono ?_
 rintro e w6 ⟨rfl, hb⟩
 have HB6 : Hid (Below w.heap.size w w6) := HB5.out.trans (hb.mono HB5.out.size)
 have BA6 : Hid (Bx w6 w.heap.size [.slice b.va b.vs.length b.vc, .slice b.pa b.ps.length b.pc, .slice b.qa b.qs.length b.qc, .int .i64 b.cs, .int .i64 b.nx]) := BA5.out.below hb
 clear hb HB5 BA5
 go_wp2
 go_ret
 exact ⟨by simp, HB6.out⟩

end Go.Proofs.YtjeicgibddfifaaGreat

namespace Go.Proofs.YtjeicgibddfifaaGreat
open Go.RowKit
open KM
attribute [local go_sem ↓] Go.wp_at_zero Go.wp_at_succ

abbrev pstG (xs : List Ta) (cs : Int) : Prop := ∀ j (h : j < xs.length), (txnB xs[j].t = true ∧ xs[j].t.st = 3 ∧ xs[j].t.cs ≤ cs) ∧ ∀ (_ : 0 < j), (xs[j - 1]'(by omega)).t.cs < xs[j].t.cs
def pstK (xs : List Ta) (cs : Int) (k : Nat) : Prop := ∀ j (h : j < xs.length), j < k → (txnB xs[j].t = true ∧ xs[j].t.st = 3 ∧ xs[j].t.cs ≤ cs) ∧ ∀ (_ : 0 < j), (xs[j - 1]'(by omega)).t.cs < xs[j].t.cs
theorem pst_more {xs : List Ta} {cs : Int} {k : Nat} (hg : pstK xs cs k) (hk : k < xs.length) (h2 : (txnB xs[k].t = true ∧ xs[k].t.st = 3 ∧ xs[k].t.cs ≤ cs) ∧ ∀ (_ : 0 < k), (xs[k - 1]'(by omega)).t.cs < xs[k].t.cs) : pstK xs cs (k + 1) := fun j h hlt => by
 by_cases e : j = k
 ·subst e; exact h2
 ·exact hg j h (by omega)
theorem pst_all {xs : List Ta} {cs : Int} {k : Nat} (hg : pstK xs cs k) (hk : xs.length ≤ k) : pstG xs cs := fun j h => hg j h (by omega)
abbrev rdyG (xs : List Ta) (cs : Int) : Prop := ∀ j (h : j < xs.length), (txnB xs[j].t = true ∧ xs[j].t.st = 2 ∧ xs[j].t.snap ≤ cs) ∧ ∀ (_ : 0 < j), Op.bytesLess (xs[j - 1]'(by omega)).t.nm.toList xs[j].t.nm.toList = true
def rdyK (xs : List Ta) (cs : Int) (k : Nat) : Prop := ∀ j (h : j < xs.length), j < k → (txnB xs[j].t = true ∧ xs[j].t.st = 2 ∧ xs[j].t.snap ≤ cs) ∧ ∀ (_ : 0 < j), Op.bytesLess (xs[j - 1]'(by omega)).t.nm.toList xs[j].t.nm.toList = true
theorem rdy_more {xs : List Ta} {cs : Int} {k : Nat} (hg : rdyK xs cs k) (hk : k < xs.length) (h2 : (txnB xs[k].t = true ∧ xs[k].t.st = 2 ∧ xs[k].t.snap ≤ cs) ∧ ∀ (_ : 0 < k), Op.bytesLess (xs[k - 1]'(by omega)).t.nm.toList xs[k].t.nm.toList = true) : rdyK xs cs (k + 1) := fun j h hlt => by
 by_cases e : j = k
 ·subst e; exact h2
 ·exact hg j h (by omega)
theorem rdy_all {xs : List Ta} {cs : Int} {k : Nat} (hg : rdyK xs cs k) (hk : xs.length ≤ k) : rdyG xs cs := fun j h => hg j h (by omega)
abbrev idsG (zs : List Int) (nx : Int) : Prop := ∀ j (h : j < zs.length), (∀ k (hk : k < j), zs[k]'(by omega) ≠ zs[j]) ∧ zs[j] < nx
def idsK (zs : List Int) (nx : Int) (n : Nat) : Prop := ∀ j (h : j < zs.length), j < n → (∀ k (hk : k < j), zs[k]'(by omega) ≠ zs[j]) ∧ zs[j] < nx
theorem ids_more {zs : List Int} {nx : Int} {n : Nat} (hg : idsK zs nx n) (hn : n < zs.length) (h2 : (∀ k (hk : k < n), zs[k]'(by omega) ≠ zs[n]) ∧ zs[n] < nx) : idsK zs nx (n + 1) := fun j h hlt => by
 by_cases e : j = n
 ·subst e; exact h2
 ·exact hg j h (by omega)
abbrev SbP (b : Bb) : Prop := versB b.vs = true ∧ b.ps.length ≤ 12 ∧ b.qs.length ≤ 3 ∧ (0 ≤ b.cs ∧ b.cs ≤ 9999) ∧ (1 ≤ b.nx ∧ b.nx ≤ 9999) ∧ (∀ j (h : j < b.vs.length), b.vs[j].2.2.2 ≤ b.cs) ∧ pstG b.ps b.cs ∧ rdyG b.qs b.cs ∧ idsG (b.ps.map (fun x : Ta => x.t.id) ++ b.qs.map (fun x : Ta => x.t.id)) b.nx
def sbB (b : Bb) : Bool := decide (SbP b)
theorem sb_no {b : Bb} (h : ¬ SbP b) : false = sbB b := (decide_eq_false h).symm
theorem sb_yes {b : Bb} (h : SbP b) : true = sbB b := (decide_eq_true h).symm

end Go.Proofs.YtjeicgibddfifaaGreat

namespace Go.Proofs.YtjeicgibddfifaaGreat
open Go.RowKit
open KM
attribute [local go_sem ↓] Go.wp_at_zero Go.wp_at_succ

theorem asc_pair (l : List Int) : ascIB l = true ↔ l.Pairwise (· < ·) := by
 unfold ascIB
 rw [decide_eq_true_eq, List.pairwise_iff_getElem]
 constructor
 ·intro h i j hi hj hij
  obtain ⟨d, rfl⟩ : ∃ d, j = i + 1 + d := ⟨j - (i + 1), by omega⟩
  induction d with
  | zero =>
   have := h (i + 1) hj (by omega)
   simpa using this
  | succ d ih =>
   have h1 := ih (by omega) (by omega)
   have h2 := h (i + 1 + (d + 1)) hj (by omega)
   have h3 : l[i + 1 + (d + 1) - 1]'(by omega) = l[i + 1 + d]'(by omega) := by congr 1
   rw [h3] at h2
   omega
 ·intro h j hj h0
  exact h (j - 1) j (by omega) hj (by omega)
theorem sort_pair (zs : List Int) : ascIB (sortI zs) = true ↔ zs.Pairwise (· ≠ ·) := by
 rw [asc_pair]
 have hp : (sortI zs).Perm zs := List.mergeSort_perm _ _
 have hs : (sortI zs).Pairwise (fun a b => decide (a ≤ b) = true) := List.pairwise_mergeSort (fun a b c h1 h2 => by simp at *; omega) (fun a b => by simp; omega) _
 constructor
 ·intro h
  have h1 : (sortI zs).Pairwise (· ≠ ·) := h.imp (fun h => by omega)
  exact hp.pairwise h1 (fun h => h.symm)
 ·intro h
  have h1 : (sortI zs).Pairwise (· ≠ ·) := hp.symm.pairwise h (fun h => h.symm)
  refine (hs.and h1).imp ?_
  rintro a b ⟨h2, h3⟩
  have : a ≤ b := by simpa using h2
  omega
theorem ids_pair (zs : List Int) : (∀ j (h : j < zs.length), ∀ k (hk : k < j), zs[k]'(by omega) ≠ zs[j]) ↔ zs.Pairwise (· ≠ ·) := by
 rw [List.pairwise_iff_getElem]
 constructor
 ·intro h i j hi hj hij
  exact h j hj i hij
 ·intro h j hj k hk
  exact h k j (by omega) hj hk
theorem any_no {α : Type} (p : α → Bool) (xs : List α) : (!(xs.any p)) = true ↔ ∀ j (h : j < xs.length), p xs[j] = false := by
 rw [Bool.not_eq_true', List.any_eq_false]
 constructor
 ·intro h j hj
  have := h xs[j] (List.getElem_mem hj)
  simpa using this
 ·intro h x hx
  obtain ⟨j, hj, rfl⟩ := List.getElem_of_mem hx
  rw [h j hj]
  simp
theorem all_at {α : Type} (p : α → Bool) (xs : List α) : xs.all p = true ↔ ∀ j (h : j < xs.length), p xs[j] = true := by
 rw [List.all_eq_true]
 constructor
 ·intro h j hj
  exact h _ (List.getElem_mem hj)
 ·intro h x hx
  obtain ⟨j, hj, rfl⟩ := List.getElem_of_mem hx
  exact h j hj
theorem asc_map (f : Ta → Int) (xs : List Ta) : ascIB (xs.map f) = true ↔ ∀ j (h : j < xs.length), ∀ (_ : 0 < j), f (xs[j - 1]'(by omega)) < f xs[j] := by
 unfold ascIB
 rw [decide_eq_true_eq]
 constructor
 ·intro h j hj h0
  have := h j (by simpa using hj) h0
  simpa using this
 ·intro h j hj h0
  have := h j (by simpa using hj) h0
  simpa using this
theorem ascS_map (xs : List Ta) : ascSB (xs.map fun x : Ta => x.t.nm) = true ↔ ∀ j (h : j < xs.length), ∀ (_ : 0 < j), Op.bytesLess (xs[j - 1]'(by omega)).t.nm.toList xs[j].t.nm.toList = true := by
 unfold ascSB
 rw [decide_eq_true_eq]
 constructor
 ·intro h j hj h0
  have := h j (by simpa using hj) h0
  simpa using this
 ·intro h j hj h0
  have := h j (by simpa using hj) h0
  simpa using this
theorem past_iff (b : Bb) : pastB b = true ↔ b.ps.length ≤ 12 ∧ pstG b.ps b.cs := by
 unfold pastB
 rw [Bool.and_eq_true, Bool.and_eq_true, Bool.and_eq_true, decide_eq_true_eq, asc_map, any_no, all_at]
 constructor
 ·rintro ⟨h1, h2, h3, h4⟩
  refine ⟨h1, fun j h => ⟨?_, h2 j h⟩⟩
  have h5 := h4 j h
  have h6 := h3 j h
  simp only [inStB, Bool.and_eq_true, decide_eq_true_eq] at h5
  simp only [decide_eq_false_iff_not] at h6
  exact ⟨h5.1, h5.2, by omega⟩
 ·rintro ⟨h1, h2⟩
  refine ⟨h1, fun j h => (h2 j h).2, fun j h => ?_, fun j h => ?_⟩
  ·simp only [decide_eq_false_iff_not]
   have := (h2 j h).1.2.2
   omega
  ·simp only [inStB, Bool.and_eq_true, decide_eq_true_eq]
   exact ⟨(h2 j h).1.1, (h2 j h).1.2.1⟩
theorem ready_iff (b : Bb) : readyOkB b = true ↔ b.qs.length ≤ 3 ∧ rdyG b.qs b.cs := by
 unfold readyOkB
 rw [Bool.and_eq_true, Bool.and_eq_true, Bool.and_eq_true, decide_eq_true_eq, ascS_map, any_no, all_at]
 constructor
 ·rintro ⟨h1, h2, h3, h4⟩
  refine ⟨h1, fun j h => ⟨?_, h2 j h⟩⟩
  have h5 := h4 j h
  have h6 := h3 j h
  simp only [inStB, Bool.and_eq_true, decide_eq_true_eq] at h5
  simp only [decide_eq_false_iff_not] at h6
  exact ⟨h5.1, h5.2, by omega⟩
 ·rintro ⟨h1, h2⟩
  refine ⟨h1, fun j h => (h2 j h).2, fun j h => ?_, fun j h => ?_⟩
  ·simp only [decide_eq_false_iff_not]
   have := (h2 j h).1.2.2
   omega
  ·simp only [inStB, Bool.and_eq_true, decide_eq_true_eq]
   exact ⟨(h2 j h).1.1, (h2 j h).1.2.1⟩
theorem ids_iff (b : Bb) : idsB b = true ↔ idsG (b.ps.map (fun x : Ta => x.t.id) ++ b.qs.map (fun x : Ta => x.t.id)) b.nx := by
 unfold idsB
 rw [Bool.and_eq_true, sort_pair, any_no, List.map_append]
 have e : ∀ j (h : j < (b.ps ++ b.qs).length), (b.ps.map (fun x : Ta => x.t.id) ++ b.qs.map (fun x : Ta => x.t.id))[j]'(by simpa using h) = (b.ps ++ b.qs)[j].t.id := fun j h => by
  have : b.ps.map (fun x : Ta => x.t.id) ++ b.qs.map (fun x : Ta => x.t.id) = (b.ps ++ b.qs).map (fun x : Ta => x.t.id) := by rw [List.map_append]
  simp only [this, List.getElem_map]
 constructor
 ·rintro ⟨h1, h2⟩ j h
  refine ⟨(ids_pair _).2 h1 j h, ?_⟩
  have hj : j < (b.ps ++ b.qs).length := by simpa using h
  have h3 := h2 j hj
  simp only [decide_eq_false_iff_not] at h3
  rw [e j hj]
  omega
 ·intro h
  refine ⟨(ids_pair _).1 fun j hj => (h j hj).1, fun j hj => ?_⟩
  have h3 := (h j (by simpa using hj)).2
  rw [e j hj] at h3
  simp only [decide_eq_false_iff_not]
  omega
theorem ib_sb (b : Bb) : ibB b = sbB b := by
 rw [Bool.eq_iff_iff]
 unfold ibB sbB
 rw [decide_eq_true_eq]
 simp only [Bool.and_eq_true, decide_eq_true_eq]
 rw [any_no, past_iff, ready_iff, ids_iff]
 constructor
 ·rintro ⟨⟨⟨⟨⟨⟨⟨⟨h1, h2⟩, h3⟩, h4⟩, h5⟩, h6⟩, h7⟩, h8⟩, h9⟩
  refine ⟨h5, h7.1, h8.1, ⟨h1, h2⟩, ⟨h3, h4⟩, fun j h => ?_, h7.2, h8.2, h9⟩
  have := h6 j h
  simp only [decide_eq_false_iff_not] at this
  omega
 ·rintro ⟨h5, h71, h81, ⟨h1, h2⟩, ⟨h3, h4⟩, h6, h72, h82, h9⟩
  refine ⟨⟨⟨⟨⟨⟨⟨⟨h1, h2⟩, h3⟩, h4⟩, h5⟩, fun j h => ?_⟩, ⟨h71, h72⟩⟩, ⟨h81, h82⟩⟩, h9⟩
  have := h6 j h
  simp only [decide_eq_false_iff_not]
  omega
theorem own_none {α : Type} {E : Enc α} {e : TypeId} {w : World} {lo n c : Nat} {a : Option Addr} {xs : List α} (h : GOwn E e w lo (.slice a n c) xs) (ha : a = none) : n = 0 ∧ c = 0 := by
 rcases h.2 with ⟨hv, _⟩ | ⟨g, cap, cur, hv, _⟩
 ·cases hv
  exact ⟨rfl, rfl⟩
 ·subst ha
  cases hv
theorem BLie.nones {w : World} {lo hi : Nat} {c : Bb} (h : BLie w lo hi c) : (c.pa = none → c.ps.length = 0 ∧ c.pc = 0) ∧ (c.qa = none → c.qs.length = 0 ∧ c.qc = 0) := by
 obtain ⟨m1, m2, _, _, _, h1, h2, h3⟩ := h.ex
 exact ⟨fun e => own_none h2.own.own e, fun e => own_none h3.own.own e⟩

end Go.Proofs.YtjeicgibddfifaaGreat

namespace Go.Proofs.YtjeicgibddfifaaGreat
open Go.RowKit
open KM
attribute [local go_sem ↓] Go.wp_at_zero Go.wp_at_succ

abbrev opG (b : Bb) (xs : List Ta) (j : Nat) (h : j < xs.length) : Prop := (txnB xs[j].t = true ∧ xs[j].t.st = 1 ∧ xs[j].t.id < b.nx ∧ xs[j].t.snap ≤ b.cs) ∧ (∀ (_ : 0 < j), (xs[j - 1]'(by omega)).t.id < xs[j].t.id) ∧ (∀ k (hk : k < b.ps.length), b.ps[k].t.id ≠ xs[j].t.id) ∧ (∀ k (hk : k < b.qs.length), b.qs[k].t.id ≠ xs[j].t.id)
abbrev SeP (e : En) : Prop := sbB e.b = true ∧ e.os.length ≤ 4 ∧ ∀ j (h : j < e.os.length), opG e.b e.os j h
def seB (e : En) : Bool := decide (SeP e)
theorem se_no {e : En} (h : ¬ SeP e) : false = seB e := (decide_eq_false h).symm
theorem se_yes {e : En} (h : SeP e) : true = seB e := (decide_eq_true h).symm
def opK (b : Bb) (xs : List Ta) (k : Nat) : Prop := ∀ j (h : j < xs.length), j < k → opG b xs j h
theorem op_more {b : Bb} {xs : List Ta} {k : Nat} (hg : opK b xs k) (hk : k < xs.length) (h2 : opG b xs k hk) : opK b xs (k + 1) := fun j h hlt => by
 by_cases e : j = k
 ·subst e; exact h2
 ·exact hg j h (by omega)
def iolB (e : En) : Bool := decide (e.os.length ≤ 4) && (e.os.all (inStB 1) && (!(e.os.any (fun x : Ta => decide (e.b.cs < x.t.snap))) && (ascIB (e.os.map fun x : Ta => x.t.id) && (!(e.os.any (fun x : Ta => decide (e.b.nx - 1 < x.t.id))) && ascIB (sortI ((e.b.ps ++ e.b.qs ++ e.os).map fun x : Ta => x.t.id))))))
theorem ie_se (e : En) : (ibB e.b && iolB e) = seB e := by
 rw [Bool.eq_iff_iff, Bool.and_eq_true, ib_sb]
 unfold iolB seB
 rw [decide_eq_true_eq]
 simp only [Bool.and_eq_true, decide_eq_true_eq]
 rw [all_at, any_no, any_no, sort_pair, List.map_append, List.map_append, List.pairwise_append]
 constructor
 ·rintro ⟨h1, h2, h3, h4, h5, h6, _, _, h7⟩
  rw [asc_map] at h5
  refine ⟨h1, h2, fun j h => ?_⟩
  have g3 := h3 j h
  simp only [inStB, Bool.and_eq_true, decide_eq_true_eq] at g3
  have g4 := h4 j h
  have g6 := h6 j h
  simp only [decide_eq_false_iff_not] at g4 g6
  refine ⟨⟨g3.1, g3.2, by omega, by omega⟩, h5 j h, fun k hk => ?_, fun k hk => ?_⟩
  ·exact h7 _ (List.mem_append.2 (Or.inl (List.mem_map.2 ⟨_, List.getElem_mem hk, rfl⟩))) _ (List.mem_map.2 ⟨_, List.getElem_mem h, rfl⟩)
  ·exact h7 _ (List.mem_append.2 (Or.inr (List.mem_map.2 ⟨_, List.getElem_mem hk, rfl⟩))) _ (List.mem_map.2 ⟨_, List.getElem_mem h, rfl⟩)
 ·rintro ⟨h1, h2, h3⟩
  have hb : SbP e.b := of_decide_eq_true h1
  have ha : ascIB (e.os.map fun x : Ta => x.t.id) = true := (asc_map _ _).2 fun j h => (h3 j h).2.1
  refine ⟨h1, h2, fun j h => ?_, fun j h => ?_, ha, fun j h => ?_, ?_, ?_, ?_⟩
  ·simp only [inStB, Bool.and_eq_true, decide_eq_true_eq]
   exact ⟨(h3 j h).1.1, (h3 j h).1.2.1⟩
  ·have := (h3 j h).1.2.2.2
   simp only [decide_eq_false_iff_not]
   omega
  ·have := (h3 j h).1.2.2.1
   simp only [decide_eq_false_iff_not]
   omega
  ·exact (ids_pair _).1 fun j hj => (hb.2.2.2.2.2.2.2.2 j hj).1
  ·exact ((asc_pair _).1 ha).imp fun {x y} h => by omega
  ·intro x hx y hy
   obtain ⟨u, hu, rfl⟩ := List.mem_map.1 hy
   obtain ⟨j, hj, rfl⟩ := List.getElem_of_mem hu
   rcases List.mem_append.1 hx with hx | hx
   ·obtain ⟨v, hv, rfl⟩ := List.mem_map.1 hx
    obtain ⟨k, hk, rfl⟩ := List.getElem_of_mem hv
    exact (h3 j hj).2.2.1 k hk
   ·obtain ⟨v, hv, rfl⟩ := List.mem_map.1 hx
    obtain ⟨k, hk, rfl⟩ := List.getElem_of_mem hv
    exact (h3 j hj).2.2.2 k hk
theorem txs_get {xs ys : List Ta} (h : txs xs = txs ys) (j : Nat) (h1 : j < xs.length) (h2 : j < ys.length) : xs[j].t = ys[j].t := by
 have e := congrArg (fun l => l[j]?) h
 simp only [txs, List.getElem?_map] at e
 rw [List.getElem?_eq_getElem h1, List.getElem?_eq_getElem h2] at e
 simpa using e
theorem sb_same' {b c : Bb} (h : BSame b c) (g : SbP b) : SbP c := by
 obtain ⟨g1, g2, g3, g4, g5, g6, g7, g8, g9⟩ := g
 have ep : ∀ j (h1 : j < c.ps.length) (h2 : j < b.ps.length), c.ps[j].t = b.ps[j].t := fun j h1 h2 => txs_get h.p j h1 h2
 have eq : ∀ j (h1 : j < c.qs.length) (h2 : j < b.qs.length), c.qs[j].t = b.qs[j].t := fun j h1 h2 => txs_get h.q j h1 h2
 refine ⟨by rw [h.v]; exact g1, by rw [h.pl]; exact g2, by rw [h.ql]; exact g3, by rw [h.cs]; exact g4, by rw [h.nx]; exact g5, fun j hj => ?_, fun j hj => ?_, fun j hj => ?_, ?_⟩
 ·rw [h.cs]
  have hj' : j < b.vs.length := by rw [← h.vl]; exact hj
  have := g6 j hj'
  simpa only [h.v] using this
 ·have hj' : j < b.ps.length := by rw [← h.pl]; exact hj
  rw [ep j hj hj', h.cs]
  refine ⟨(g7 j hj').1, fun h0 => ?_⟩
  rw [ep (j - 1) (by omega) (by omega)]
  exact (g7 j hj').2 h0
 ·have hj' : j < b.qs.length := by rw [← h.ql]; exact hj
  rw [eq j hj hj', h.cs]
  refine ⟨(g8 j hj').1, fun h0 => ?_⟩
  rw [eq (j - 1) (by omega) (by omega)]
  exact (g8 j hj').2 h0
 ·have e1 : c.ps.map (fun x : Ta => x.t.id) = b.ps.map (fun x : Ta => x.t.id) := by
   have := congrArg (List.map Tx.id) h.p
   simpa [txs, Function.comp_def] using this
  have e2 : c.qs.map (fun x : Ta => x.t.id) = b.qs.map (fun x : Ta => x.t.id) := by
   have := congrArg (List.map Tx.id) h.q
   simpa [txs, Function.comp_def] using this
  rw [e1, e2, h.nx]
  exact g9
theorem sbB_same {b c : Bb} (h : BSame b c) : sbB c = sbB b := by
 rw [Bool.eq_iff_iff]
 unfold sbB
 rw [decide_eq_true_eq, decide_eq_true_eq]
 exact ⟨sb_same' h.symm, sb_same' h⟩
theorem seP_same {e c : En} (h : EnSame e c) (g : SeP e) : SeP c := by
 obtain ⟨g1, g2, g3⟩ := g
 refine ⟨by rw [sbB_same h.b]; exact g1, by rw [h.ol]; exact g2, fun j hj => ?_⟩
 have hj' : j < e.os.length := by rw [← h.ol]; exact hj
 obtain ⟨k1, k2, k3, k4⟩ := g3 j hj'
 unfold opG
 rw [txs_get h.o j hj hj', h.b.nx, h.b.cs]
 refine ⟨k1, fun h0 => ?_, fun k hk => ?_, fun k hk => ?_⟩
 ·rw [txs_get h.o (j - 1) (by omega) (by omega)]
  exact k2 h0
 ·rw [txs_get h.b.p k hk (by rw [← h.b.pl]; exact hk)]
  exact k3 k _
 ·rw [txs_get h.b.q k hk (by rw [← h.b.ql]; exact hk)]
  exact k4 k _
theorem seB_same {e c : En} (h : EnSame e c) : seB c = seB e := by
 rw [Bool.eq_iff_iff]
 unfold seB
 rw [decide_eq_true_eq, decide_eq_true_eq]
 exact ⟨seP_same h.symm, seP_same h⟩
def Nones (c : Bb) : Prop := (c.pa = none → c.ps.length = 0 ∧ c.pc = 0) ∧ (c.qa = none → c.qs.length = 0 ∧ c.qc = 0)
theorem EnLie.nones {w : World} {lo hi : Nat} {c : En} (h : EnLie w lo hi c) : Nones c.b := by
 obtain ⟨m, _, _, h1, _⟩ := h.ex
 exact h1.nones
theorem EnLie.noneo {w : World} {lo hi : Nat} {c : En} (h : EnLie w lo hi c) : c.oa = none → c.os.length = 0 ∧ c.oc = 0 := by
 obtain ⟨m, _, _, _, h2⟩ := h.ex
 exact fun e => own_none h2.own.own e

end Go.Proofs.YtjeicgibddfifaaGreat
