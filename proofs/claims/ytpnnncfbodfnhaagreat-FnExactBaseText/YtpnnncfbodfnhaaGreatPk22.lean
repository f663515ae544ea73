/- What stays: BaseOk of the program. -/
import Derived.Test.YtpnnncfbodfnhaaGreatPk21
import Derived.Deep.RegionHeld3
import Derived.Deep.Cut
import Derived.Deep.CutRange
import Derived.Laws.EntriesVeiled
import Derived.Test.YtpnnncfbodfnhaaGreatPk20
import Derived.Test.YtpnnncfbodfnhaaGreatPk16
import Derived.Test.YtpnnncfbodfnhaaGreatPk11
import Derived.Test.YtpnnncfbodfnhaaGreatPk04
import Derived.Test.YtpnnncfbodfnhaaGreatPk15
import Derived.Test.YtpnnncfbodfnhaaGreatPk12
namespace Go.Proofs.YtpnnncfbodfnhaaGreat
open Go.RowKit
open KM
attribute [local go_sem ↓] Go.wp_at_zero Go.wp_at_succ

/-- whether a base is right, as the program asks it -/
def ibB (b : Bb) : Bool := decide (0 ≤ b.cs) && decide (b.cs ≤ 9999) && decide (1 ≤ b.nx) && decide (b.nx ≤ 9999) && versB b.vs && !(b.vs.any (fun x : Vr => decide (b.cs < x.2.2.2))) && pastB b && readyOkB b && idsB b

set_option maxRecDepth 100000 in
set_option maxHeartbeats 4000000 in
theorem ibase7 (b : Bb) (hf : BFit b) (hpa : b.pa = none → b.ps.length = 0 ∧ b.pc = 0) (hqa : b.qa = none → b.qs.length = 0 ∧ b.qc = 0) (w : World) (hp : BRows w b) :
    Calls Tryz.prog 42 #[.agg #[.slice b.va b.vs.length b.vc, .slice b.pa b.ps.length b.pc, .slice b.qa b.qs.length b.qc, .int .i64 b.cs, .int .i64 b.nx]] w fun e w' => e = .returned (.bool (ibB b)) ∧ Below w.heap.size w w' := by
  have BA0 : Hid (Bx (w.alloc (.cells #[.slice b.va b.vs.length b.vc, .slice b.pa b.ps.length b.pc, .slice b.qa b.qs.length b.qc, .int .i64 b.cs, .int .i64 b.nx] 41)) w.heap.size [.slice b.va b.vs.length b.vc, .slice b.pa b.ps.length b.pc, .slice b.qa b.qs.length b.qc, .int .i64 b.cs, .int .i64 b.nx]) := Bx.new w [.slice b.va b.vs.length b.vc, .slice b.pa b.ps.length b.pc, .slice b.qa b.qs.length b.qc, .int .i64 b.cs, .int .i64 b.nx] 41
  have HB0 : Hid (Below w.heap.size w (w.alloc (.cells #[.slice b.va b.vs.length b.vc, .slice b.pa b.ps.length b.pc, .slice b.qa b.qs.length b.qc, .int .i64 b.cs, .int .i64 b.nx] 41))) := (belowRefl w).alloc (Nat.le_refl _) _
  have HP : Hid (BRows w b) := hp
  have HF : Hid (BFit b) := hf
  have HV : Hid (GRow encV w b.va b.vs) := hp.v
  clear hp hf
  have x3 := BA0.out.c3
  have x4 := BA0.out.c4
  by_cases h1 : b.cs < 0
  · have HR : Hid (false = ibB b) := by show _ = _; unfold ibB; simp [show ¬ (0 ≤ b.cs) by omega]
    clear HF HV hpa hqa HP
    go_enter Tryz.func42, Tryz.ntmps42
    go_wp2
    go_ret
    exact ⟨ret_bool HR.out, HB0.out⟩
  by_cases h2 : 9999 < b.cs
  · have HR : Hid (false = ibB b) := by show _ = _; unfold ibB; simp [show ¬ (b.cs ≤ 9999) by omega]
    clear HF HV hpa hqa HP
    go_enter Tryz.func42, Tryz.ntmps42
    go_wp2
    go_ret
    exact ⟨ret_bool HR.out, HB0.out⟩
  by_cases h3 : b.nx < 1
  · have HR : Hid (false = ibB b) := by show _ = _; unfold ibB; simp [show ¬ (1 ≤ b.nx) by omega]
    clear HF HV hpa hqa HP
    go_enter Tryz.func42, Tryz.ntmps42
    go_wp2
    go_ret
    exact ⟨ret_bool HR.out, HB0.out⟩
  by_cases h4 : 9999 < b.nx
  · have HR : Hid (false = ibB b) := by show _ = _; unfold ibB; simp [show ¬ (b.nx ≤ 9999) by omega]
    clear HF HV hpa hqa HP
    go_enter Tryz.func42, Tryz.ntmps42
    go_wp2
    go_ret
    exact ⟨ret_bool HR.out, HB0.out⟩
  have HE : Hid (ibB b = (versB b.vs && !(b.vs.any (fun x : Vr => decide (b.cs < x.2.2.2))) && pastB b && readyOkB b && idsB b)) := by
    show _ = _
    unfold ibB
    simp [show 0 ≤ b.cs by omega, show b.cs ≤ 9999 by omega, show 1 ≤ b.nx by omega, show b.nx ≤ 9999 by omega]
  have CV : Hid (∀ W : World, Below w.heap.size w W → Calls Tryz.prog 79 #[.slice b.va b.vs.length b.vc] W fun e w' => e = .returned (.bool (versB b.vs)) ∧ Below W.heap.size W w') := fun W h => ivers b.vs b.va b.vc (Nat.le_trans HF.out.vl (by omega)) W (HV.out.below h)
  have CB : Hid (∀ W : World, Calls Tryz.prog 80 #[.slice b.va b.vs.length b.vc] W fun e w' => e = .returned (.agg #[.slice b.va b.vs.length b.vc, .func (.func 129) #[] #[]]) ∧ Below W.heap.size W w') := fun W => by17 b.va b.vc b.vs.length W
  have CA : Hid (∀ W : World, Below w.heap.size w W → Calls Tryz.prog 81 #[.agg #[.slice b.va b.vs.length b.vc, .func (.func 129) #[] #[]], .int .i64 b.cs] W fun e w' => e = .returned (.bool (b.vs.any (fun x : Vr => decide (b.cs < x.2.2.2)))) ∧ Below W.heap.size W w') := fun W h => any33 b.vs b.va b.vc b.vs.length rfl (Nat.le_trans HF.out.vl (by omega)) b.cs W (HV.out.below h)
  have C1 : Hid (∀ W : World, Below w.heap.size w W → Calls Tryz.prog 82 #[.agg #[.slice b.va b.vs.length b.vc, .slice b.pa b.ps.length b.pc, .slice b.qa b.qs.length b.qc, .int .i64 b.cs, .int .i64 b.nx]] W fun e w' => e = .returned (.bool (pastB b)) ∧ Below W.heap.size W w') := fun W h => past19 b HF.out W (HP.out.below h)
  have C2 : Hid (∀ W : World, Below w.heap.size w W → Calls Tryz.prog 83 #[.agg #[.slice b.va b.vs.length b.vc, .slice b.pa b.ps.length b.pc, .slice b.qa b.qs.length b.qc, .int .i64 b.cs, .int .i64 b.nx]] W fun e w' => e = .returned (.bool (readyOkB b)) ∧ Below W.heap.size W w') := fun W h => ready20 b HF.out W (HP.out.below h)
  have C3 : Hid (∀ W : World, Below w.heap.size w W → Calls Tryz.prog 84 #[.agg #[.slice b.va b.vs.length b.vc, .slice b.pa b.ps.length b.pc, .slice b.qa b.qs.length b.qc, .int .i64 b.cs, .int .i64 b.nx]] W fun e w' => e = .returned (.bool (idsB b)) ∧ Below W.heap.size W w') := fun W h => ids21 b HF.out hpa hqa (by omega) (by omega) W (HP.out.below h)
  clear HF HV hpa hqa HP
  generalize versB b.vs = rv at *
  generalize b.vs.any (fun x : Vr => decide (b.cs < x.2.2.2)) = ry at *
  generalize pastB b = rp at *
  generalize readyOkB b = rr at *
  generalize idsB b = ri at *
  generalize ibB b = res at *
  have hres := HE.out
  subst hres
  clear HE
  go_enter Tryz.func42, Tryz.ntmps42
  go_wp2
  clear x3 x4
  refine wp_region_held_drew (S := fun w' => w'.cell? ⟨w.heap.size, 0, none⟩ = some (.slice b.va b.vs.length b.vc) ∧ w'.cell? ⟨w.heap.size, 1, none⟩ = some (.slice b.pa b.ps.length b.pc) ∧ w'.cell? ⟨w.heap.size, 2, none⟩ = some (.slice b.qa b.qs.length b.qc) ∧ w'.cell? ⟨w.heap.size, 3, none⟩ = some (.int .i64 b.cs) ∧ w'.cell? ⟨w.heap.size, 4, none⟩ = some (.int .i64 b.nx)) (by kernel_rfl) ⟨BA0.out.c0, BA0.out.c1, BA0.out.c2, BA0.out.c3, BA0.out.c4⟩ (fun hHeld => ?_)
  (refine wpAnyH_take (i := 0) (v := ?_) rfl (by kernel_rfl) (by kernel_rfl) (by kernel_rfl) (fun _ _ _ h => h) (Or.inl ⟨by rfl, ?_⟩) (by assumption) ?_; rotate_left; (focus (intro w hSw; (try dsimp only at hSw); go_simp; (try with_reducible rfl); done)); simp only [Act.put, List.getElem_toArray, List.getElem_cons_zero, List.setIfInBounds_toArray, List.set_cons_zero, List.set_cons_succ])
  (refine wpAnyH_take (i := 1) (v := ?_) rfl (by kernel_rfl) (by kernel_rfl) (by kernel_rfl) (fun _ _ _ h => h) (Or.inl ⟨by rfl, ?_⟩) (by assumption) ?_; rotate_left; (focus (intro w hSw; (try dsimp only at hSw); go_simp; (try with_reducible rfl); done)); simp only [Act.put, List.getElem_toArray, List.getElem_cons_zero, List.getElem_cons_succ, List.setIfInBounds_toArray, List.set_cons_zero, List.set_cons_succ])
  refine wpAnyH_ready (rs := [2]) (by kernel_rfl) (by simp) ?_
  refine (AllReadyH.cons rfl (fun K hK => ?_) AllReadyH.nil)
  go_simp
  go_wp2_with fail
  refine (CV.out _ HB0.out.drew).mono ?_
  rintro e w1 ⟨rfl, hb9⟩
  have hb := undrew hb9
  have HB1 : Hid (Below w.heap.size w w1) := HB0.out.trans (hb.mono HB0.out.size)
  have BA1 : Hid (Bx w1 w.heap.size [.slice b.va b.vs.length b.vc, .slice b.pa b.ps.length b.pc, .slice b.qa b.qs.length b.qc, .int .i64 b.cs, .int .i64 b.nx]) := BA0.out.below hb
  clear hb HB0 BA0
  clear hb9
  go_wp2_with fail
  refine hK.out _ _ ⟨BA1.out.c0, BA1.out.c1, BA1.out.c2, BA1.out.c3, BA1.out.c4⟩ (fun hHeld1 => ?_)
  clear hK K
  (refine wpAnyH_take (i := 3) (v := ?_) rfl (by kernel_rfl) (by kernel_rfl) (by kernel_rfl) (fun _ _ _ h => h) (Or.inl ⟨by rfl, ?_⟩) (by assumption) ?_; rotate_left; (focus (intro w hSw; (try dsimp only at hSw); go_simp; (try with_reducible rfl); done)); simp only [Act.put, List.getElem_toArray, List.getElem_cons_zero, List.getElem_cons_succ, List.setIfInBounds_toArray, List.set_cons_zero, List.set_cons_succ])
  (refine wpAnyH_take (i := 4) (v := ?_) rfl (by kernel_rfl) (by kernel_rfl) (by kernel_rfl) (fun _ _ _ h => h) (Or.inl ⟨by rfl, ?_⟩) (by assumption) ?_; rotate_left; (focus (intro w hSw; (try dsimp only at hSw); go_simp; (try with_reducible rfl); done)); simp only [Act.put, List.getElem_toArray, List.getElem_cons_zero, List.getElem_cons_succ, List.setIfInBounds_toArray, List.set_cons_zero, List.set_cons_succ])
  cases rv
  · (refine wpAnyH_take (i := 5) (v := undef) rfl (by kernel_rfl) (by kernel_rfl) (by kernel_rfl) (fun _ _ _ h => h) (Or.inr ⟨by rfl, rfl⟩) (by assumption) ?_; simp only [Act.put, List.getElem_toArray, List.getElem_cons_zero, List.getElem_cons_succ, List.setIfInBounds_toArray, List.set_cons_zero, List.set_cons_succ])
    (refine wpAnyH_take (i := 6) (v := undef) rfl (by kernel_rfl) (by kernel_rfl) (by kernel_rfl) (fun _ _ _ h => h) (Or.inr ⟨by rfl, rfl⟩) (by assumption) ?_; simp only [Act.put, List.getElem_toArray, List.getElem_cons_zero, List.getElem_cons_succ, List.setIfInBounds_toArray, List.set_cons_zero, List.set_cons_succ])
    (refine wpAnyH_take (i := 7) (v := undef) rfl (by kernel_rfl) (by kernel_rfl) (by kernel_rfl) (fun _ _ _ h => h) (Or.inr ⟨by rfl, rfl⟩) (by assumption) ?_; simp only [Act.put, List.getElem_toArray, List.getElem_cons_zero, List.getElem_cons_succ, List.setIfInBounds_toArray, List.set_cons_zero, List.set_cons_succ])
    (refine wpAnyH_take (i := 8) (v := undef) rfl (by kernel_rfl) (by kernel_rfl) (by kernel_rfl) (fun _ _ _ h => h) (Or.inr ⟨by rfl, rfl⟩) (by assumption) ?_; simp only [Act.put, List.getElem_toArray, List.getElem_cons_zero, List.getElem_cons_succ, List.setIfInBounds_toArray, List.set_cons_zero, List.set_cons_succ])
    (refine wpAnyH_take (i := 9) (v := undef) rfl (by kernel_rfl) (by kernel_rfl) (by kernel_rfl) (fun _ _ _ h => h) (Or.inr ⟨by rfl, rfl⟩) (by assumption) ?_; simp only [Act.put, List.getElem_toArray, List.getElem_cons_zero, List.getElem_cons_succ, List.setIfInBounds_toArray, List.set_cons_zero, List.set_cons_succ])
    (refine wpAnyH_take (i := 10) (v := undef) rfl (by kernel_rfl) (by kernel_rfl) (by kernel_rfl) (fun _ _ _ h => h) (Or.inr ⟨by rfl, rfl⟩) (by assumption) ?_; simp only [Act.put, List.getElem_toArray, List.getElem_cons_zero, List.getElem_cons_succ, List.setIfInBounds_toArray, List.set_cons_zero, List.set_cons_succ])
    (refine wpAnyH_take (i := 11) (v := ?_) rfl (by kernel_rfl) (by kernel_rfl) (by kernel_rfl) (fun _ _ _ h => h) (Or.inl ⟨by rfl, ?_⟩) (by assumption) ?_; rotate_left; (focus (intro w hSw; (try dsimp only at hSw); go_simp; (try with_reducible rfl); done)); simp only [Act.put, List.getElem_toArray, List.getElem_cons_zero, List.getElem_cons_succ, List.setIfInBounds_toArray, List.set_cons_zero, List.set_cons_succ])
    refine wpAnyH_done (by kernel_rfl) ?_ _
    go_wp2
    go_ret
    exact ⟨rfl, HB1.out⟩
  (refine wpAnyH_take (i := 5) (v := ?_) rfl (by kernel_rfl) (by kernel_rfl) (by kernel_rfl) (fun _ _ _ h => h) (Or.inl ⟨by rfl, ?_⟩) (by assumption) ?_; rotate_left; (focus (intro w hSw; (try dsimp only at hSw); go_simp; (try with_reducible rfl); done)); simp only [Act.put, List.getElem_toArray, List.getElem_cons_zero, List.getElem_cons_succ, List.setIfInBounds_toArray, List.set_cons_zero, List.set_cons_succ])
  (refine wpAnyH_take (i := 6) (v := ?_) rfl (by kernel_rfl) (by kernel_rfl) (by kernel_rfl) (fun _ _ _ h => h) (Or.inl ⟨by rfl, ?_⟩) (by assumption) ?_; rotate_left; (focus (intro w hSw; (try dsimp only at hSw); go_simp; (try with_reducible rfl); done)); simp only [Act.put, List.getElem_toArray, List.getElem_cons_zero, List.getElem_cons_succ, List.setIfInBounds_toArray, List.set_cons_zero, List.set_cons_succ])
  (refine wpAnyH_take (i := 8) (v := ?_) rfl (by kernel_rfl) (by kernel_rfl) (by kernel_rfl) (fun _ _ _ h => h) (Or.inl ⟨by rfl, ?_⟩) (by assumption) ?_; rotate_left; (focus (intro w hSw; (try dsimp only at hSw); go_simp; (try with_reducible rfl); done)); simp only [Act.put, List.getElem_toArray, List.getElem_cons_zero, List.getElem_cons_succ, List.setIfInBounds_toArray, List.set_cons_zero, List.set_cons_succ])
  (refine wpAnyH_take (i := 9) (v := ?_) rfl (by kernel_rfl) (by kernel_rfl) (by kernel_rfl) (fun _ _ _ h => h) (Or.inl ⟨by rfl, ?_⟩) (by assumption) ?_; rotate_left; (focus (intro w hSw; (try dsimp only at hSw); go_simp; (try with_reducible rfl); done)); simp only [Act.put, List.getElem_toArray, List.getElem_cons_zero, List.getElem_cons_succ, List.setIfInBounds_toArray, List.set_cons_zero, List.set_cons_succ])
  refine wpAnyH_ready (rs := [7]) (by kernel_rfl) (by simp) ?_
  refine (AllReadyH.cons rfl (fun K hK => ?_) AllReadyH.nil)
  go_simp
  go_wp2_with fail
  refine (CB.out _).mono ?_
  rintro e w2 ⟨rfl, hb9⟩
  have hb := hb9
  have HB2 : Hid (Below w.heap.size w w2) := HB1.out.trans (hb.mono HB1.out.size)
  have BA2 : Hid (Bx w2 w.heap.size [.slice b.va b.vs.length b.vc, .slice b.pa b.ps.length b.pc, .slice b.qa b.qs.length b.qc, .int .i64 b.cs, .int .i64 b.nx]) := BA1.out.below hb
  clear hb HB1 BA1
  clear hb9
  go_wp2_with fail
  refine hK.out _ _ ⟨BA2.out.c0, BA2.out.c1, BA2.out.c2, BA2.out.c3, BA2.out.c4⟩ (fun hHeld2 => ?_)
  clear hK K
  refine wpAnyH_ready (rs := [10]) (by kernel_rfl) (by simp) ?_
  refine (AllReadyH.cons rfl (fun K hK => ?_) AllReadyH.nil)
  go_simp
  go_wp2_with fail
  refine (CA.out _ HB2.out).mono ?_
  rintro e w3 ⟨rfl, hb9⟩
  have hb := hb9
  have HB3 : Hid (Below w.heap.size w w3) := HB2.out.trans (hb.mono HB2.out.size)
  have BA3 : Hid (Bx w3 w.heap.size [.slice b.va b.vs.length b.vc, .slice b.pa b.ps.length b.pc, .slice b.qa b.qs.length b.qc, .int .i64 b.cs, .int .i64 b.nx]) := BA2.out.below hb
  clear hb HB2 BA2
  clear hb9
  go_wp2_with fail
  refine hK.out _ _ ⟨BA3.out.c0, BA3.out.c1, BA3.out.c2, BA3.out.c3, BA3.out.c4⟩ (fun hHeld3 => ?_)
  clear hK K
  (refine wpAnyH_take (i := 11) (v := ?_) rfl (by kernel_rfl) (by kernel_rfl) (by kernel_rfl) (fun _ _ _ h => h) (Or.inl ⟨by rfl, ?_⟩) (by assumption) ?_; rotate_left; (focus (intro w hSw; (try dsimp only at hSw); go_simp; (try with_reducible rfl); done)); simp only [Act.put, List.getElem_toArray, List.getElem_cons_zero, List.getElem_cons_succ, List.setIfInBounds_toArray, List.set_cons_zero, List.set_cons_succ])
  refine wpAnyH_done (by kernel_rfl) ?_ _
  cases ry
  case true =>
    go_wp2
    go_ret
    exact ⟨rfl, HB3.out⟩
  have y0 := BA3.out.c0
  have y1 := BA3.out.c1
  have y2 := BA3.out.c2
  have y3 := BA3.out.c3
  have y4 := BA3.out.c4
  go_wp2_with fail
  refine (C1.out _ HB3.out).mono ?_
  rintro e w4 ⟨rfl, hb⟩
  have HB4 : Hid (Below w.heap.size w w4) := HB3.out.trans (hb.mono HB3.out.size)
  have BA4 : Hid (Bx w4 w.heap.size [.slice b.va b.vs.length b.vc, .slice b.pa b.ps.length b.pc, .slice b.qa b.qs.length b.qc, .int .i64 b.cs, .int .i64 b.nx]) := BA3.out.below hb
  clear hb HB3 BA3
  clear y0 y1 y2 y3 y4
  cases rp
  · go_wp2
    go_ret
    exact ⟨rfl, HB4.out⟩
  have y0 := BA4.out.c0
  have y1 := BA4.out.c1
  have y2 := BA4.out.c2
  have y3 := BA4.out.c3
  have y4 := BA4.out.c4
  go_wp2_with fail
  refine (C2.out _ HB4.out).mono ?_
  rintro e w5 ⟨rfl, hb⟩
  have HB5 : Hid (Below w.heap.size w w5) := HB4.out.trans (hb.mono HB4.out.size)
  have BA5 : Hid (Bx w5 w.heap.size [.slice b.va b.vs.length b.vc, .slice b.pa b.ps.length b.pc, .slice b.qa b.qs.length b.qc, .int .i64 b.cs, .int .i64 b.nx]) := BA4.out.below hb
  clear hb HB4 BA4
  clear y0 y1 y2 y3 y4
  cases rr
  · go_wp2
    go_ret
    exact ⟨rfl, HB5.out⟩
  have y0 := BA5.out.c0
  have y1 := BA5.out.c1
  have y2 := BA5.out.c2
  have y3 := BA5.out.c3
  have y4 := BA5.out.c4
  go_wp2_with fail
  refine (C3.out _ HB5.out).mono ?_
  rintro e w6 ⟨rfl, hb⟩
  have HB6 : Hid (Below w.heap.size w w6) := HB5.out.trans (hb.mono HB5.out.size)
  have BA6 : Hid (Bx w6 w.heap.size [.slice b.va b.vs.length b.vc, .slice b.pa b.ps.length b.pc, .slice b.qa b.qs.length b.qc, .int .i64 b.cs, .int .i64 b.nx]) := BA5.out.below hb
  clear hb HB5 BA5
  go_wp2
  go_ret
  exact ⟨by simp, HB6.out⟩


end Go.Proofs.YtpnnncfbodfnhaaGreat

namespace Go.Proofs.YtpnnncfbodfnhaaGreat
open Go.RowKit
open KM
attribute [local go_sem ↓] Go.wp_at_zero Go.wp_at_succ

abbrev pstG (xs : List Ta) (cs : Int) : Prop := ∀ j (h : j < xs.length), (txnB xs[j].t = true ∧ xs[j].t.st = 3 ∧ xs[j].t.cs ≤ cs) ∧ ∀ (_ : 0 < j), (xs[j - 1]'(by omega)).t.cs < xs[j].t.cs
def pstK (xs : List Ta) (cs : Int) (k : Nat) : Prop := ∀ j (h : j < xs.length), j < k → (txnB xs[j].t = true ∧ xs[j].t.st = 3 ∧ xs[j].t.cs ≤ cs) ∧ ∀ (_ : 0 < j), (xs[j - 1]'(by omega)).t.cs < xs[j].t.cs
theorem pst_more {xs : List Ta} {cs : Int} {k : Nat} (hg : pstK xs cs k) (hk : k < xs.length) (h2 : (txnB xs[k].t = true ∧ xs[k].t.st = 3 ∧ xs[k].t.cs ≤ cs) ∧ ∀ (_ : 0 < k), (xs[k - 1]'(by omega)).t.cs < xs[k].t.cs) : pstK xs cs (k + 1) := fun j h hlt => by
  by_cases e : j = k
  · subst e; exact h2
  · exact hg j h (by omega)
theorem pst_all {xs : List Ta} {cs : Int} {k : Nat} (hg : pstK xs cs k) (hk : xs.length ≤ k) : pstG xs cs := fun j h => hg j h (by omega)
abbrev rdyG (xs : List Ta) (cs : Int) : Prop := ∀ j (h : j < xs.length), (txnB xs[j].t = true ∧ xs[j].t.st = 2 ∧ xs[j].t.snap ≤ cs) ∧ ∀ (_ : 0 < j), Op.bytesLess (xs[j - 1]'(by omega)).t.nm.toList xs[j].t.nm.toList = true
def rdyK (xs : List Ta) (cs : Int) (k : Nat) : Prop := ∀ j (h : j < xs.length), j < k → (txnB xs[j].t = true ∧ xs[j].t.st = 2 ∧ xs[j].t.snap ≤ cs) ∧ ∀ (_ : 0 < j), Op.bytesLess (xs[j - 1]'(by omega)).t.nm.toList xs[j].t.nm.toList = true
theorem rdy_more {xs : List Ta} {cs : Int} {k : Nat} (hg : rdyK xs cs k) (hk : k < xs.length) (h2 : (txnB xs[k].t = true ∧ xs[k].t.st = 2 ∧ xs[k].t.snap ≤ cs) ∧ ∀ (_ : 0 < k), Op.bytesLess (xs[k - 1]'(by omega)).t.nm.toList xs[k].t.nm.toList = true) : rdyK xs cs (k + 1) := fun j h hlt => by
  by_cases e : j = k
  · subst e; exact h2
  · exact hg j h (by omega)
theorem rdy_all {xs : List Ta} {cs : Int} {k : Nat} (hg : rdyK xs cs k) (hk : xs.length ≤ k) : rdyG xs cs := fun j h => hg j h (by omega)
abbrev idsG (zs : List Int) (nx : Int) : Prop := ∀ j (h : j < zs.length), (∀ k (hk : k < j), zs[k]'(by omega) ≠ zs[j]) ∧ zs[j] < nx
def idsK (zs : List Int) (nx : Int) (n : Nat) : Prop := ∀ j (h : j < zs.length), j < n → (∀ k (hk : k < j), zs[k]'(by omega) ≠ zs[j]) ∧ zs[j] < nx
theorem ids_more {zs : List Int} {nx : Int} {n : Nat} (hg : idsK zs nx n) (hn : n < zs.length) (h2 : (∀ k (hk : k < n), zs[k]'(by omega) ≠ zs[n]) ∧ zs[n] < nx) : idsK zs nx (n + 1) := fun j h hlt => by
  by_cases e : j = n
  · subst e; exact h2
  · exact hg j h (by omega)
/-- what the document asks of a base -/
abbrev SbP (b : Bb) : Prop := versB b.vs = true ∧ b.ps.length ≤ 12 ∧ b.qs.length ≤ 3 ∧ (0 ≤ b.cs ∧ b.cs ≤ 9999) ∧ (1 ≤ b.nx ∧ b.nx ≤ 9999) ∧ (∀ j (h : j < b.vs.length), b.vs[j].2.2.2 ≤ b.cs) ∧ pstG b.ps b.cs ∧ rdyG b.qs b.cs ∧ idsG (b.ps.map (fun x : Ta => x.t.id) ++ b.qs.map (fun x : Ta => x.t.id)) b.nx
def sbB (b : Bb) : Bool := decide (SbP b)
theorem sb_no {b : Bb} (h : ¬ SbP b) : false = sbB b := (decide_eq_false h).symm
theorem sb_yes {b : Bb} (h : SbP b) : true = sbB b := (decide_eq_true h).symm


end Go.Proofs.YtpnnncfbodfnhaaGreat

namespace Go.Proofs.YtpnnncfbodfnhaaGreat
open Go.RowKit
open KM
attribute [local go_sem ↓] Go.wp_at_zero Go.wp_at_succ
/-- the flag of a mark -/
def goneQ (q : Nat) : Bool := ((q : Int) + 1 + 1) % 3 == 0
theorem goneQ_eq (q : Nat) : (((q : Int) + 1 + 1) % 3 == 0) = goneQ q := rfl

/-- the marks of a row -/
def mkV (k n : Nat) : List Vr := (List.range n).map fun j => (mkB (k + 4 * j), mkB ((k + 4 * j) + 1), goneQ (k + 4 * j), (((k + 4 * j) : Nat) : Int) + 1 + 1 + 1)
theorem mkV_len (k n : Nat) : (mkV k n).length = n := by simp [mkV]
theorem mkV_at (k n j : Nat) (h : j < n) : (mkV k n)[j]'(by rw [mkV_len]; exact h) = (mkB (k + 4 * j), mkB ((k + 4 * j) + 1), goneQ (k + 4 * j), (((k + 4 * j) : Nat) : Int) + 1 + 1 + 1) := by simp [mkV]

end Go.Proofs.YtpnnncfbodfnhaaGreat

namespace Go.Proofs.YtpnnncfbodfnhaaGreat
open Go.RowKit
open KM
attribute [local go_sem ↓] Go.wp_at_zero Go.wp_at_succ


/-- the marks of a row -/
def mkR (k n : Nat) : List Rg := (List.range n).map fun j => (mkB (k + 2 * j), mkB ((k + 2 * j) + 1))
theorem mkR_len (k n : Nat) : (mkR k n).length = n := by simp [mkR]
theorem mkR_at (k n j : Nat) (h : j < n) : (mkR k n)[j]'(by rw [mkR_len]; exact h) = (mkB (k + 2 * j), mkB ((k + 2 * j) + 1)) := by simp [mkR]

/-- the marks of a row -/
def mkW (k n : Nat) : List Wt := (List.range n).map fun j => (mkB (k + 3 * j), mkB ((k + 3 * j) + 1), goneQ (k + 3 * j))
theorem mkW_len (k n : Nat) : (mkW k n).length = n := by simp [mkW]
theorem mkW_at (k n j : Nat) (h : j < n) : (mkW k n)[j]'(by rw [mkW_len]; exact h) = (mkB (k + 3 * j), mkB ((k + 3 * j) + 1), goneQ (k + 3 * j)) := by simp [mkW]

end Go.Proofs.YtpnnncfbodfnhaaGreat

namespace Go.Proofs.YtpnnncfbodfnhaaGreat
open Go.RowKit
open KM
attribute [local go_sem ↓] Go.wp_at_zero Go.wp_at_succ

/-- all but the blocks lo .. hi is as it was -/
structure Zn (lo hi : Nat) (w w' : World) : Prop where
  os : w'.os = w.os
  tape : w'.tape = w.tape
  output : w'.output = w.output
  size : w.heap.size ≤ w'.heap.size
  block : ∀ j, j < w.heap.size → (j < lo ∨ hi ≤ j) → w'.heap[j]? = w.heap[j]?
theorem Zn.trans {lo hi : Nat} {a b c : World} (h : Zn lo hi a b) (k : Zn lo hi b c) : Zn lo hi a c :=
  ⟨k.os.trans h.os, k.tape.trans h.tape, k.output.trans h.output, Nat.le_trans h.size k.size, fun j hj hn => (k.block j (Nat.lt_of_lt_of_le hj h.size) hn).trans (h.block j hj hn)⟩
theorem Zn.ofBelow (lo hi : Nat) {w w' : World} (h : Below w.heap.size w w') : Zn lo hi w w' := ⟨h.os, h.tape, h.output, h.size, fun j hj _ => h.block j hj⟩
theorem Zn.ofGrown {lo hi : Nat} {w w' : World} {row : Option Nat} (h : w.grownBy w' row) (hr : ∀ g, row = some g → lo ≤ g ∧ g < hi) : Zn lo hi w w' :=
  ⟨h.os, h.tape, h.output, h.size, fun j hj hn => h.block j hj (fun e => by have := hr j e.symm; omega)⟩
theorem Zn.below {lo hi base : Nat} {w w' : World} (h : Zn lo hi w w') (hb : base ≤ lo) (hs : base ≤ w.heap.size) : Below base w w' :=
  ⟨h.os, h.tape, h.output, h.size, fun j hj => h.block j (by omega) (Or.inl (by omega))⟩
theorem Bx.zn {lo hi b : Nat} {w w' : World} {cs : List Value} (h : Bx w b cs) (hg : Zn lo hi w w') (hne : b < lo ∨ hi ≤ b) : Bx w' b cs := by
  have hb := hg.block b h.lt hne
  refine ⟨Nat.lt_of_lt_of_le h.lt hg.size, fun j hj => (World.cell?_of_block (w := w) (a := ⟨b, j, none⟩) hb).trans (h.at' j hj), fun j => ?_⟩
  have := h.fz j
  unfold World.frozen? at this ⊢
  simp only at this ⊢
  rw [hb]; exact this
theorem Lies.zn {α : Type} {E : Enc α} {e : TypeId} {w w' : World} {l h' lo hi : Nat} {v : Value} {xs : List α} (h : Lies E e w l h' v xs) (hz : Zn lo hi w w') (hne : h' ≤ lo ∨ hi ≤ l) : Lies E e w' l h' v xs := by
  refine ⟨?_, h.up⟩
  obtain ⟨h1, h2⟩ := h.own
  refine ⟨h1, ?_⟩
  rcases h2 with h2 | ⟨g, cap, cur, hv, hg', hh, r⟩
  · exact Or.inl h2
  · refine Or.inr ⟨g, cap, cur, hv, hg', ?_, r⟩
    have hlt : g < w.heap.size := (Array.getElem?_eq_some_iff.1 hh).1
    have hup := h.up g (by rw [hv]; rfl)
    rw [hz.block g hlt (by omega)]
    exact hh
theorem TLie.zn {w w' : World} {l h' lo hi : Nat} {t : Tx} {ra wa : Option Addr} {rc wc : Nat} (h : TLie w l h' t ra rc wa wc) (hz : Zn lo hi w w') (hne : h' ≤ lo ∨ hi ≤ l) : TLie w' l h' t ra rc wa wc := by
  obtain ⟨m, p, q, h1, h2⟩ := h.ex
  exact ⟨m, p, q, h1.zn hz (by omega), h2.zn hz (by omega)⟩
/-- its marks -/
def mkT (t : Tx) (k : Nat) : Tx := ⟨t.id, t.st, t.snap, t.cs, mkR k t.rs.length, mkW (k + 2 * t.rs.length) t.ws.length, t.out, t.nm⟩

end Go.Proofs.YtpnnncfbodfnhaaGreat
