/- A record: its copy. -/
import Derived.Test.YtpnnncfbodfnhaaGreatDoorPd12
import Derived.Deep.RegionHeld3
import Derived.Deep.Cut
import Derived.Deep.CutRange
namespace Go.Proofs.YtpnnncfbodfnhaaGreatDoor
open Go.RowKit
open KM
attribute [local go_sem ↓] Go.wp_at_zero Go.wp_at_succ

set_option maxRecDepth 100000 in
set_option maxHeartbeats 4000000 in
theorem toR (r : Rc) (hf : RcFit r) (w : World) (hp : RcRows w r) :
  Calls Tryz.prog 7 #[.agg #[.int .i64 r.k, .int .i64 r.t.t.id, .int .i64 r.t.t.st, .int .i64 r.t.t.snap, .int .i64 r.t.t.cs, .slice r.t.ra r.t.t.rs.length r.t.rc, .slice r.t.wa r.t.t.ws.length r.t.wc, .bool r.t.t.out, .string r.t.t.nm, .string r.nm, .bool r.yes, .slice r.b.va r.b.vs.length r.b.vc, .slice r.b.pa r.b.ps.length r.b.pc, .slice r.b.qa r.b.qs.length r.b.qc, .int .i64 r.b.cs, .int .i64 r.b.nx]] w fun e w' => ∃ c : Rc, e = .returned (.agg #[.int .i64 c.k, .int .i64 c.t.t.id, .int .i64 c.t.t.st, .int .i64 c.t.t.snap, .int .i64 c.t.t.cs, .slice c.t.ra c.t.t.rs.length c.t.rc, .slice c.t.wa c.t.t.ws.length c.t.wc, .bool c.t.t.out, .string c.t.t.nm, .string c.nm, .bool c.yes, .slice c.b.va c.b.vs.length c.b.vc, .slice c.b.pa c.b.ps.length c.b.pc, .slice c.b.qa c.b.qs.length c.b.qc, .int .i64 c.b.cs, .int .i64 c.b.nx]) ∧ RcSame r c ∧ RcLie w' w.heap.size w'.heap.size c ∧ Below w.heap.size w w' := by
 have HP : Hid (RcRows w r) := hp
 have HF : Hid (RcFit r) := hf
 clear hp hf
 have BA0 : Hid (Bx (((w.alloc (.cells #[.int .i64 r.k, .int .i64 r.t.t.id, .int .i64 r.t.t.st, .int .i64 r.t.t.snap, .int .i64 r.t.t.cs, .slice r.t.ra r.t.t.rs.length r.t.rc, .slice r.t.wa r.t.t.ws.length r.t.wc, .bool r.t.t.out, .string r.t.t.nm, .string r.nm, .bool r.yes, .slice r.b.va r.b.vs.length r.b.vc, .slice r.b.pa r.b.ps.length r.b.pc, .slice r.b.qa r.b.qs.length r.b.qc, .int .i64 r.b.cs, .int .i64 r.b.nx] 31)).alloc (.cells #[.int .i64 0, .int .i64 0, .int .i64 0, .int .i64 0, .int .i64 0, .slice none 0 0, .slice none 0 0, .bool false, .string ⟨#[]⟩, .string ⟨#[]⟩, .bool false, .slice none 0 0, .slice none 0 0, .slice none 0 0, .int .i64 0, .int .i64 0] 44)).alloc (.cells #[.int .i64 0, .int .i64 0, .int .i64 0, .int .i64 0, .int .i64 0, .slice none 0 0, .slice none 0 0, .bool false, .string ⟨#[]⟩, .string ⟨#[]⟩, .bool false, .slice none 0 0, .slice none 0 0, .slice none 0 0, .int .i64 0, .int .i64 0] 44)) w.heap.size [.int .i64 r.k, .int .i64 r.t.t.id, .int .i64 r.t.t.st, .int .i64 r.t.t.snap, .int .i64 r.t.t.cs, .slice r.t.ra r.t.t.rs.length r.t.rc, .slice r.t.wa r.t.t.ws.length r.t.wc, .bool r.t.t.out, .string r.t.t.nm, .string r.nm, .bool r.yes, .slice r.b.va r.b.vs.length r.b.vc, .slice r.b.pa r.b.ps.length r.b.pc, .slice r.b.qa r.b.qs.length r.b.qc, .int .i64 r.b.cs, .int .i64 r.b.nx]) := ((Bx.new w [.int .i64 r.k, .int .i64 r.t.t.id, .int .i64 r.t.t.st, .int .i64 r.t.t.snap, .int .i64 r.t.t.cs, .slice r.t.ra r.t.t.rs.length r.t.rc, .slice r.t.wa r.t.t.ws.length r.t.wc, .bool r.t.t.out, .string r.t.t.nm, .string r.nm, .bool r.yes, .slice r.b.va r.b.vs.length r.b.vc, .slice r.b.pa r.b.ps.length r.b.pc, .slice r.b.qa r.b.qs.length r.b.qc, .int .i64 r.b.cs, .int .i64 r.b.nx] 31).alloc _).alloc _
 have BR0 : Hid (Bx (((w.alloc (.cells #[.int .i64 r.k, .int .i64 r.t.t.id, .int .i64 r.t.t.st, .int .i64 r.t.t.snap, .int .i64 r.t.t.cs, .slice r.t.ra r.t.t.rs.length r.t.rc, .slice r.t.wa r.t.t.ws.length r.t.wc, .bool r.t.t.out, .string r.t.t.nm, .string r.nm, .bool r.yes, .slice r.b.va r.b.vs.length r.b.vc, .slice r.b.pa r.b.ps.length r.b.pc, .slice r.b.qa r.b.qs.length r.b.qc, .int .i64 r.b.cs, .int .i64 r.b.nx] 31)).alloc (.cells #[.int .i64 0, .int .i64 0, .int .i64 0, .int .i64 0, .int .i64 0, .slice none 0 0, .slice none 0 0, .bool false, .string ⟨#[]⟩, .string ⟨#[]⟩, .bool false, .slice none 0 0, .slice none 0 0, .slice none 0 0, .int .i64 0, .int .i64 0] 44)).alloc (.cells #[.int .i64 0, .int .i64 0, .int .i64 0, .int .i64 0, .int .i64 0, .slice none 0 0, .slice none 0 0, .bool false, .string ⟨#[]⟩, .string ⟨#[]⟩, .bool false, .slice none 0 0, .slice none 0 0, .slice none 0 0, .int .i64 0, .int .i64 0] 44)) (w.heap.size + 1) [.int .i64 0, .int .i64 0, .int .i64 0, .int .i64 0, .int .i64 0, .slice none 0 0, .slice none 0 0, .bool false, .string ⟨#[]⟩, .string ⟨#[]⟩, .bool false, .slice none 0 0, .slice none 0 0, .slice none 0 0, .int .i64 0, .int .i64 0]) := by
  have h := (Bx.new (w.alloc (.cells #[.int .i64 r.k, .int .i64 r.t.t.id, .int .i64 r.t.t.st, .int .i64 r.t.t.snap, .int .i64 r.t.t.cs, .slice r.t.ra r.t.t.rs.length r.t.rc, .slice r.t.wa r.t.t.ws.length r.t.wc, .bool r.t.t.out, .string r.t.t.nm, .string r.nm, .bool r.yes, .slice r.b.va r.b.vs.length r.b.vc, .slice r.b.pa r.b.ps.length r.b.pc, .slice r.b.qa r.b.qs.length r.b.qc, .int .i64 r.b.cs, .int .i64 r.b.nx] 31)) [.int .i64 0, .int .i64 0, .int .i64 0, .int .i64 0, .int .i64 0, .slice none 0 0, .slice none 0 0, .bool false, .string ⟨#[]⟩, .string ⟨#[]⟩, .bool false, .slice none 0 0, .slice none 0 0, .slice none 0 0, .int .i64 0, .int .i64 0] 44).alloc (.cells #[.int .i64 0, .int .i64 0, .int .i64 0, .int .i64 0, .int .i64 0, .slice none 0 0, .slice none 0 0, .bool false, .string ⟨#[]⟩, .string ⟨#[]⟩, .bool false, .slice none 0 0, .slice none 0 0, .slice none 0 0, .int .i64 0, .int .i64 0] 44)
  rw [World.size_alloc] at h
  exact h
 have BO0 : Hid (Bx (((w.alloc (.cells #[.int .i64 r.k, .int .i64 r.t.t.id, .int .i64 r.t.t.st, .int .i64 r.t.t.snap, .int .i64 r.t.t.cs, .slice r.t.ra r.t.t.rs.length r.t.rc, .slice r.t.wa r.t.t.ws.length r.t.wc, .bool r.t.t.out, .string r.t.t.nm, .string r.nm, .bool r.yes, .slice r.b.va r.b.vs.length r.b.vc, .slice r.b.pa r.b.ps.length r.b.pc, .slice r.b.qa r.b.qs.length r.b.qc, .int .i64 r.b.cs, .int .i64 r.b.nx] 31)).alloc (.cells #[.int .i64 0, .int .i64 0, .int .i64 0, .int .i64 0, .int .i64 0, .slice none 0 0, .slice none 0 0, .bool false, .string ⟨#[]⟩, .string ⟨#[]⟩, .bool false, .slice none 0 0, .slice none 0 0, .slice none 0 0, .int .i64 0, .int .i64 0] 44)).alloc (.cells #[.int .i64 0, .int .i64 0, .int .i64 0, .int .i64 0, .int .i64 0, .slice none 0 0, .slice none 0 0, .bool false, .string ⟨#[]⟩, .string ⟨#[]⟩, .bool false, .slice none 0 0, .slice none 0 0, .slice none 0 0, .int .i64 0, .int .i64 0] 44)) (w.heap.size + 1 + 1) [.int .i64 0, .int .i64 0, .int .i64 0, .int .i64 0, .int .i64 0, .slice none 0 0, .slice none 0 0, .bool false, .string ⟨#[]⟩, .string ⟨#[]⟩, .bool false, .slice none 0 0, .slice none 0 0, .slice none 0 0, .int .i64 0, .int .i64 0]) := by
  have h := Bx.new ((w.alloc (.cells #[.int .i64 r.k, .int .i64 r.t.t.id, .int .i64 r.t.t.st, .int .i64 r.t.t.snap, .int .i64 r.t.t.cs, .slice r.t.ra r.t.t.rs.length r.t.rc, .slice r.t.wa r.t.t.ws.length r.t.wc, .bool r.t.t.out, .string r.t.t.nm, .string r.nm, .bool r.yes, .slice r.b.va r.b.vs.length r.b.vc, .slice r.b.pa r.b.ps.length r.b.pc, .slice r.b.qa r.b.qs.length r.b.qc, .int .i64 r.b.cs, .int .i64 r.b.nx] 31)).alloc (.cells #[.int .i64 0, .int .i64 0, .int .i64 0, .int .i64 0, .int .i64 0, .slice none 0 0, .slice none 0 0, .bool false, .string ⟨#[]⟩, .string ⟨#[]⟩, .bool false, .slice none 0 0, .slice none 0 0, .slice none 0 0, .int .i64 0, .int .i64 0] 44)) [.int .i64 0, .int .i64 0, .int .i64 0, .int .i64 0, .int .i64 0, .slice none 0 0, .slice none 0 0, .bool false, .string ⟨#[]⟩, .string ⟨#[]⟩, .bool false, .slice none 0 0, .slice none 0 0, .slice none 0 0, .int .i64 0, .int .i64 0] 44
  rw [World.size_alloc, World.size_alloc] at h
  exact h
 have HB0 : Hid (Below w.heap.size w (((w.alloc (.cells #[.int .i64 r.k, .int .i64 r.t.t.id, .int .i64 r.t.t.st, .int .i64 r.t.t.snap, .int .i64 r.t.t.cs, .slice r.t.ra r.t.t.rs.length r.t.rc, .slice r.t.wa r.t.t.ws.length r.t.wc, .bool r.t.t.out, .string r.t.t.nm, .string r.nm, .bool r.yes, .slice r.b.va r.b.vs.length r.b.vc, .slice r.b.pa r.b.ps.length r.b.pc, .slice r.b.qa r.b.qs.length r.b.qc, .int .i64 r.b.cs, .int .i64 r.b.nx] 31)).alloc (.cells #[.int .i64 0, .int .i64 0, .int .i64 0, .int .i64 0, .int .i64 0, .slice none 0 0, .slice none 0 0, .bool false, .string ⟨#[]⟩, .string ⟨#[]⟩, .bool false, .slice none 0 0, .slice none 0 0, .slice none 0 0, .int .i64 0, .int .i64 0] 44)).alloc (.cells #[.int .i64 0, .int .i64 0, .int .i64 0, .int .i64 0, .int .i64 0, .slice none 0 0, .slice none 0 0, .bool false, .string ⟨#[]⟩, .string ⟨#[]⟩, .bool false, .slice none 0 0, .slice none 0 0, .slice none 0 0, .int .i64 0, .int .i64 0] 44))) := (((belowRefl w).alloc (Nat.le_refl _) _).alloc (by simp) _).alloc (by simp; omega) _
 have S0 : Hid ((((w.alloc (.cells #[.int .i64 r.k, .int .i64 r.t.t.id, .int .i64 r.t.t.st, .int .i64 r.t.t.snap, .int .i64 r.t.t.cs, .slice r.t.ra r.t.t.rs.length r.t.rc, .slice r.t.wa r.t.t.ws.length r.t.wc, .bool r.t.t.out, .string r.t.t.nm, .string r.nm, .bool r.yes, .slice r.b.va r.b.vs.length r.b.vc, .slice r.b.pa r.b.ps.length r.b.pc, .slice r.b.qa r.b.qs.length r.b.qc, .int .i64 r.b.cs, .int .i64 r.b.nx] 31)).alloc (.cells #[.int .i64 0, .int .i64 0, .int .i64 0, .int .i64 0, .int .i64 0, .slice none 0 0, .slice none 0 0, .bool false, .string ⟨#[]⟩, .string ⟨#[]⟩, .bool false, .slice none 0 0, .slice none 0 0, .slice none 0 0, .int .i64 0, .int .i64 0] 44)).alloc (.cells #[.int .i64 0, .int .i64 0, .int .i64 0, .int .i64 0, .int .i64 0, .slice none 0 0, .slice none 0 0, .bool false, .string ⟨#[]⟩, .string ⟨#[]⟩, .bool false, .slice none 0 0, .slice none 0 0, .slice none 0 0, .int .i64 0, .int .i64 0] 44)).heap.size = w.heap.size + 1 + 1 + 1) := by show _ = _; simp
 have HSZ : Hid (w.heap.size + 1 + 1 + 1 ≤ (((w.alloc (.cells #[.int .i64 r.k, .int .i64 r.t.t.id, .int .i64 r.t.t.st, .int .i64 r.t.t.snap, .int .i64 r.t.t.cs, .slice r.t.ra r.t.t.rs.length r.t.rc, .slice r.t.wa r.t.t.ws.length r.t.wc, .bool r.t.t.out, .string r.t.t.nm, .string r.nm, .bool r.yes, .slice r.b.va r.b.vs.length r.b.vc, .slice r.b.pa r.b.ps.length r.b.pc, .slice r.b.qa r.b.qs.length r.b.qc, .int .i64 r.b.cs, .int .i64 r.b.nx] 31)).alloc (.cells #[.int .i64 0, .int .i64 0, .int .i64 0, .int .i64 0, .int .i64 0, .slice none 0 0, .slice none 0 0, .bool false, .string ⟨#[]⟩, .string ⟨#[]⟩, .bool false, .slice none 0 0, .slice none 0 0, .slice none 0 0, .int .i64 0, .int .i64 0] 44)).alloc (.cells #[.int .i64 0, .int .i64 0, .int .i64 0, .int .i64 0, .int .i64 0, .slice none 0 0, .slice none 0 0, .bool false, .string ⟨#[]⟩, .string ⟨#[]⟩, .bool false, .slice none 0 0, .slice none 0 0, .slice none 0 0, .int .i64 0, .int .i64 0] 44)).heap.size) := by show _ ≤ _; rw [S0.out]; exact Nat.le_refl _
 have CT : Hid (∀ W : World, Below w.heap.size w W → Calls Tryz.prog 22 #[.agg #[.int .i64 r.t.t.id, .int .i64 r.t.t.st, .int .i64 r.t.t.snap, .int .i64 r.t.t.cs, .slice r.t.ra r.t.t.rs.length r.t.rc, .slice r.t.wa r.t.t.ws.length r.t.wc, .bool r.t.t.out, .string r.t.t.nm]] W fun e w' => ∃ ra1 rc1 wa1 wc1, e = .returned (.agg #[.int .i64 r.t.t.id, .int .i64 r.t.t.st, .int .i64 r.t.t.snap, .int .i64 r.t.t.cs, .slice ra1 r.t.t.rs.length rc1, .slice wa1 r.t.t.ws.length wc1, .bool r.t.t.out, .string r.t.t.nm]) ∧ TLie w' W.heap.size w'.heap.size r.t.t ra1 rc1 wa1 wc1 ∧ Below W.heap.size W w') := fun W h => toT r.t.t r.t.ra r.t.wa r.t.rc r.t.wc (Nat.le_trans HF.out.t.1 (by omega)) (Nat.le_trans HF.out.t.2.2.1 (by omega)) W (HP.out.t.below h)
 have CB : Hid (∀ W : World, Below w.heap.size w W → Calls Tryz.prog 23 #[.agg #[.slice r.b.va r.b.vs.length r.b.vc, .slice r.b.pa r.b.ps.length r.b.pc, .slice r.b.qa r.b.qs.length r.b.qc, .int .i64 r.b.cs, .int .i64 r.b.nx]] W fun e w' => ∃ c : Bb, e = .returned (.agg #[.slice c.va c.vs.length c.vc, .slice c.pa c.ps.length c.pc, .slice c.qa c.qs.length c.qc, .int .i64 c.cs, .int .i64 c.nx]) ∧ BSame r.b c ∧ BLie w' W.heap.size w'.heap.size c ∧ Below W.heap.size W w') := fun W h => toB r.b HF.out.b W (HP.out.b.below h)
 clear HP HF S0
 go_enter Tryz.func7, Tryz.ntmps7
 go_upto_region 2 with fail
 generalize (((w.alloc (.cells #[.int .i64 r.k, .int .i64 r.t.t.id, .int .i64 r.t.t.st, .int .i64 r.t.t.snap, .int .i64 r.t.t.cs, .slice r.t.ra r.t.t.rs.length r.t.rc, .slice r.t.wa r.t.t.ws.length r.t.wc, .bool r.t.t.out, .string r.t.t.nm, .string r.nm, .bool r.yes, .slice r.b.va r.b.vs.length r.b.vc, .slice r.b.pa r.b.ps.length r.b.pc, .slice r.b.qa r.b.qs.length r.b.qc, .int .i64 r.b.cs, .int .i64 r.b.nx] 31)).alloc (.cells #[.int .i64 0, .int .i64 0, .int .i64 0, .int .i64 0, .int .i64 0, .slice none 0 0, .slice none 0 0, .bool false, .string ⟨#[]⟩, .string ⟨#[]⟩, .bool false, .slice none 0 0, .slice none 0 0, .slice none 0 0, .int .i64 0, .int .i64 0] 44)).alloc (.cells #[.int .i64 0, .int .i64 0, .int .i64 0, .int .i64 0, .int .i64 0, .slice none 0 0, .slice none 0 0, .bool false, .string ⟨#[]⟩, .string ⟨#[]⟩, .bool false, .slice none 0 0, .slice none 0 0, .slice none 0 0, .int .i64 0, .int .i64 0] 44)) = w0 at *
 have x0 := BA0.out.c0
 have fx0 := BA0.out.fz 0
 have o0 := BO0.out.c0
 have fo0 := BO0.out.fz 0
 go_upto_region 3 with fail
 clear x0 fx0
 clear o0 fo0
 replace BA0 : Hid (Bx (w0.setCell ⟨w.heap.size + 1 + 1, 0, none⟩ (.int .i64 r.k)) w.heap.size [.int .i64 r.k, .int .i64 r.t.t.id, .int .i64 r.t.t.st, .int .i64 r.t.t.snap, .int .i64 r.t.t.cs, .slice r.t.ra r.t.t.rs.length r.t.rc, .slice r.t.wa r.t.t.ws.length r.t.wc, .bool r.t.t.out, .string r.t.t.nm, .string r.nm, .bool r.yes, .slice r.b.va r.b.vs.length r.b.vc, .slice r.b.pa r.b.ps.length r.b.pc, .slice r.b.qa r.b.qs.length r.b.qc, .int .i64 r.b.cs, .int .i64 r.b.nx]) := BA0.out.setO (p := ⟨w.heap.size + 1 + 1, 0, none⟩) (by show w.heap.size + 1 + 1 ≠ w.heap.size; omega) _
 replace BR0 : Hid (Bx (w0.setCell ⟨w.heap.size + 1 + 1, 0, none⟩ (.int .i64 r.k)) (w.heap.size + 1) [.int .i64 0, .int .i64 0, .int .i64 0, .int .i64 0, .int .i64 0, .slice none 0 0, .slice none 0 0, .bool false, .string ⟨#[]⟩, .string ⟨#[]⟩, .bool false, .slice none 0 0, .slice none 0 0, .slice none 0 0, .int .i64 0, .int .i64 0]) := BR0.out.setO (p := ⟨w.heap.size + 1 + 1, 0, none⟩) (by show w.heap.size + 1 + 1 ≠ w.heap.size + 1; omega) _
 replace BO0 : Hid (Bx (w0.setCell ⟨w.heap.size + 1 + 1, 0, none⟩ (.int .i64 r.k)) (w.heap.size + 1 + 1) [.int .i64 r.k, .int .i64 0, .int .i64 0, .int .i64 0, .int .i64 0, .slice none 0 0, .slice none 0 0, .bool false, .string ⟨#[]⟩, .string ⟨#[]⟩, .bool false, .slice none 0 0, .slice none 0 0, .slice none 0 0, .int .i64 0, .int .i64 0]) := BO0.out.set 0 _
 replace HB0 : Hid (Below w.heap.size w (w0.setCell ⟨w.heap.size + 1 + 1, 0, none⟩ (.int .i64 r.k))) := HB0.out.setCell (p := ⟨w.heap.size + 1 + 1, 0, none⟩) (by show _ ≤ _ + 1 + 1; omega) _
 have YGv0 : Hid (w0.heap.size ≤ (w0.setCell ⟨w.heap.size + 1 + 1, 0, none⟩ (.int .i64 r.k)).heap.size) := by show _ ≤ _; simp [World.setCell]
 have YHv0 : Hid ((w0.setCell ⟨w.heap.size + 1 + 1, 0, none⟩ (.int .i64 r.k)).heap.size ≤ w0.heap.size) := by show _ ≤ _; simp [World.setCell]
 generalize (w0.setCell ⟨w.heap.size + 1 + 1, 0, none⟩ (.int .i64 r.k)) = v0 at *
 have x1 := BA0.out.c1
 have fx1 := BA0.out.fz 1
 have x2 := BA0.out.c2
 have fx2 := BA0.out.fz 2
 have x3 := BA0.out.c3
 have fx3 := BA0.out.fz 3
 have x4 := BA0.out.c4
 have fx4 := BA0.out.fz 4
 have x5 := BA0.out.c5
 have fx5 := BA0.out.fz 5
 have x6 := BA0.out.c6
 have fx6 := BA0.out.fz 6
 have x7 := BA0.out.c7
 have fx7 := BA0.out.fz 7
 have x8 := BA0.out.c8
 have fx8 := BA0.out.fz 8
 go_wp2_with fail
 refine (CT.out _ HB0.out).mono ?_
 rintro e w1 ⟨ra1, rc1, wa1, wc1, rfl, ho, hb⟩
 have BA1 : Hid (Bx w1 w.heap.size [.int .i64 r.k, .int .i64 r.t.t.id, .int .i64 r.t.t.st, .int .i64 r.t.t.snap, .int .i64 r.t.t.cs, .slice r.t.ra r.t.t.rs.length r.t.rc, .slice r.t.wa r.t.t.ws.length r.t.wc, .bool r.t.t.out, .string r.t.t.nm, .string r.nm, .bool r.yes, .slice r.b.va r.b.vs.length r.b.vc, .slice r.b.pa r.b.ps.length r.b.pc, .slice r.b.qa r.b.qs.length r.b.qc, .int .i64 r.b.cs, .int .i64 r.b.nx]) := BA0.out.below hb
 have BR1 : Hid (Bx w1 (w.heap.size + 1) [.int .i64 0, .int .i64 0, .int .i64 0, .int .i64 0, .int .i64 0, .slice none 0 0, .slice none 0 0, .bool false, .string ⟨#[]⟩, .string ⟨#[]⟩, .bool false, .slice none 0 0, .slice none 0 0, .slice none 0 0, .int .i64 0, .int .i64 0]) := BR0.out.below hb
 have BO1 : Hid (Bx w1 (w.heap.size + 1 + 1) [.int .i64 r.k, .int .i64 0, .int .i64 0, .int .i64 0, .int .i64 0, .slice none 0 0, .slice none 0 0, .bool false, .string ⟨#[]⟩, .string ⟨#[]⟩, .bool false, .slice none 0 0, .slice none 0 0, .slice none 0 0, .int .i64 0, .int .i64 0]) := BO0.out.below hb
 have HB1 : Hid (Below w.heap.size w w1) := HB0.out.trans (hb.mono HB0.out.size)
 have Y1 : Hid (v0.heap.size ≤ w1.heap.size) := hb.size
 have R1 : Hid (TLie w1 v0.heap.size w1.heap.size r.t.t ra1 rc1 wa1 wc1) := ho
 have LZ1 : Hid (w.heap.size + 1 + 1 + 1 ≤ v0.heap.size) := by show _ ≤ _; have := HSZ.out; have := YGv0.out; omega
 clear ho hb BA0 BR0 BO0 HB0
 clear x1 fx1 x2 fx2 x3 fx3 x4 fx4 x5 fx5 x6 fx6 x7 fx7 x8 fx8
 have o1 := BO1.out.c1
 have fo1 := BO1.out.fz 1
 have o2 := BO1.out.c2
 have fo2 := BO1.out.fz 2
 have o3 := BO1.out.c3
 have fo3 := BO1.out.fz 3
 have o4 := BO1.out.c4
 have fo4 := BO1.out.fz 4
 have o5 := BO1.out.c5
 have fo5 := BO1.out.fz 5
 have o6 := BO1.out.c6
 have fo6 := BO1.out.fz 6
 have o7 := BO1.out.c7
 have fo7 := BO1.out.fz 7
 have o8 := BO1.out.c8
 have fo8 := BO1.out.fz 8
 go_upto_region 4 with fail
 clear o1 fo1 o2 fo2 o3 fo3 o4 fo4 o5 fo5 o6 fo6 o7 fo7 o8 fo8
 replace BA1 : Hid (Bx ((((((((w1.setCell ⟨w.heap.size + 1 + 1, 1, none⟩ (.int .i64 r.t.t.id)).setCell ⟨w.heap.size + 1 + 1, 2, none⟩ (.int .i64 r.t.t.st)).setCell ⟨w.heap.size + 1 + 1, 3, none⟩ (.int .i64 r.t.t.snap)).setCell ⟨w.heap.size + 1 + 1, 4, none⟩ (.int .i64 r.t.t.cs)).setCell ⟨w.heap.size + 1 + 1, 5, none⟩ (.slice ra1 r.t.t.rs.length rc1)).setCell ⟨w.heap.size + 1 + 1, 6, none⟩ (.slice wa1 r.t.t.ws.length wc1)).setCell ⟨w.heap.size + 1 + 1, 7, none⟩ (.bool r.t.t.out)).setCell ⟨w.heap.size + 1 + 1, 8, none⟩ (.string r.t.t.nm)) w.heap.size [.int .i64 r.k, .int .i64 r.t.t.id, .int .i64 r.t.t.st, .int .i64 r.t.t.snap, .int .i64 r.t.t.cs, .slice r.t.ra r.t.t.rs.length r.t.rc, .slice r.t.wa r.t.t.ws.length r.t.wc, .bool r.t.t.out, .string r.t.t.nm, .string r.nm, .bool r.yes, .slice r.b.va r.b.vs.length r.b.vc, .slice r.b.pa r.b.ps.length r.b.pc, .slice r.b.qa r.b.qs.length r.b.qc, .int .i64 r.b.cs, .int .i64 r.b.nx]) := (((((((BA1.out.setO (p := ⟨w.heap.size + 1 + 1, 1, none⟩) (by show w.heap.size + 1 + 1 ≠ w.heap.size; omega) _).setO (p := ⟨w.heap.size + 1 + 1, 2, none⟩) (by show w.heap.size + 1 + 1 ≠ w.heap.size; omega) _).setO (p := ⟨w.heap.size + 1 + 1, 3, none⟩) (by show w.heap.size + 1 + 1 ≠ w.heap.size; omega) _).setO (p := ⟨w.heap.size + 1 + 1, 4, none⟩) (by show w.heap.size + 1 + 1 ≠ w.heap.size; omega) _).setO (p := ⟨w.heap.size + 1 + 1, 5, none⟩) (by show w.heap.size + 1 + 1 ≠ w.heap.size; omega) _).setO (p := ⟨w.heap.size + 1 + 1, 6, none⟩) (by show w.heap.size + 1 + 1 ≠ w.heap.size; omega) _).setO (p := ⟨w.heap.size + 1 + 1, 7, none⟩) (by show w.heap.size + 1 + 1 ≠ w.heap.size; omega) _).setO (p := ⟨w.heap.size + 1 + 1, 8, none⟩) (by show w.heap.size + 1 + 1 ≠ w.heap.size; omega) _
 replace BR1 : Hid (Bx ((((((((w1.setCell ⟨w.heap.size + 1 + 1, 1, none⟩ (.int .i64 r.t.t.id)).setCell ⟨w.heap.size + 1 + 1, 2, none⟩ (.int .i64 r.t.t.st)).setCell ⟨w.heap.size + 1 + 1, 3, none⟩ (.int .i64 r.t.t.snap)).setCell ⟨w.heap.size + 1 + 1, 4, none⟩ (.int .i64 r.t.t.cs)).setCell ⟨w.heap.size + 1 + 1, 5, none⟩ (.slice ra1 r.t.t.rs.length rc1)).setCell ⟨w.heap.size + 1 + 1, 6, none⟩ (.slice wa1 r.t.t.ws.length wc1)).setCell ⟨w.heap.size + 1 + 1, 7, none⟩ (.bool r.t.t.out)).setCell ⟨w.heap.size + 1 + 1, 8, none⟩ (.string r.t.t.nm)) (w.heap.size + 1) [.int .i64 0, .int .i64 0, .int .i64 0, .int .i64 0, .int .i64 0, .slice none 0 0, .slice none 0 0, .bool false, .string ⟨#[]⟩, .string ⟨#[]⟩, .bool false, .slice none 0 0, .slice none 0 0, .slice none 0 0, .int .i64 0, .int .i64 0]) := (((((((BR1.out.setO (p := ⟨w.heap.size + 1 + 1, 1, none⟩) (by show w.heap.size + 1 + 1 ≠ w.heap.size + 1; omega) _).setO (p := ⟨w.heap.size + 1 + 1, 2, none⟩) (by show w.heap.size + 1 + 1 ≠ w.heap.size + 1; omega) _).setO (p := ⟨w.heap.size + 1 + 1, 3, none⟩) (by show w.heap.size + 1 + 1 ≠ w.heap.size + 1; omega) _).setO (p := ⟨w.heap.size + 1 + 1, 4, none⟩) (by show w.heap.size + 1 + 1 ≠ w.heap.size + 1; omega) _).setO (p := ⟨w.heap.size + 1 + 1, 5, none⟩) (by show w.heap.size + 1 + 1 ≠ w.heap.size + 1; omega) _).setO (p := ⟨w.heap.size + 1 + 1, 6, none⟩) (by show w.heap.size + 1 + 1 ≠ w.heap.size + 1; omega) _).setO (p := ⟨w.heap.size + 1 + 1, 7, none⟩) (by show w.heap.size + 1 + 1 ≠ w.heap.size + 1; omega) _).setO (p := ⟨w.heap.size + 1 + 1, 8, none⟩) (by show w.heap.size + 1 + 1 ≠ w.heap.size + 1; omega) _
 replace BO1 : Hid (Bx ((((((((w1.setCell ⟨w.heap.size + 1 + 1, 1, none⟩ (.int .i64 r.t.t.id)).setCell ⟨w.heap.size + 1 + 1, 2, none⟩ (.int .i64 r.t.t.st)).setCell ⟨w.heap.size + 1 + 1, 3, none⟩ (.int .i64 r.t.t.snap)).setCell ⟨w.heap.size + 1 + 1, 4, none⟩ (.int .i64 r.t.t.cs)).setCell ⟨w.heap.size + 1 + 1, 5, none⟩ (.slice ra1 r.t.t.rs.length rc1)).setCell ⟨w.heap.size + 1 + 1, 6, none⟩ (.slice wa1 r.t.t.ws.length wc1)).setCell ⟨w.heap.size + 1 + 1, 7, none⟩ (.bool r.t.t.out)).setCell ⟨w.heap.size + 1 + 1, 8, none⟩ (.string r.t.t.nm)) (w.heap.size + 1 + 1) [.int .i64 r.k, .int .i64 r.t.t.id, .int .i64 r.t.t.st, .int .i64 r.t.t.snap, .int .i64 r.t.t.cs, .slice ra1 r.t.t.rs.length rc1, .slice wa1 r.t.t.ws.length wc1, .bool r.t.t.out, .string r.t.t.nm, .string ⟨#[]⟩, .bool false, .slice none 0 0, .slice none 0 0, .slice none 0 0, .int .i64 0, .int .i64 0]) := (((((((BO1.out.set 1 _).set 2 _).set 3 _).set 4 _).set 5 _).set 6 _).set 7 _).set 8 _
 replace HB1 : Hid (Below w.heap.size w ((((((((w1.setCell ⟨w.heap.size + 1 + 1, 1, none⟩ (.int .i64 r.t.t.id)).setCell ⟨w.heap.size + 1 + 1, 2, none⟩ (.int .i64 r.t.t.st)).setCell ⟨w.heap.size + 1 + 1, 3, none⟩ (.int .i64 r.t.t.snap)).setCell ⟨w.heap.size + 1 + 1, 4, none⟩ (.int .i64 r.t.t.cs)).setCell ⟨w.heap.size + 1 + 1, 5, none⟩ (.slice ra1 r.t.t.rs.length rc1)).setCell ⟨w.heap.size + 1 + 1, 6, none⟩ (.slice wa1 r.t.t.ws.length wc1)).setCell ⟨w.heap.size + 1 + 1, 7, none⟩ (.bool r.t.t.out)).setCell ⟨w.heap.size + 1 + 1, 8, none⟩ (.string r.t.t.nm))) := (((((((HB1.out.setCell (p := ⟨w.heap.size + 1 + 1, 1, none⟩) (by show _ ≤ _ + 1 + 1; omega) _).setCell (p := ⟨w.heap.size + 1 + 1, 2, none⟩) (by show _ ≤ _ + 1 + 1; omega) _).setCell (p := ⟨w.heap.size + 1 + 1, 3, none⟩) (by show _ ≤ _ + 1 + 1; omega) _).setCell (p := ⟨w.heap.size + 1 + 1, 4, none⟩) (by show _ ≤ _ + 1 + 1; omega) _).setCell (p := ⟨w.heap.size + 1 + 1, 5, none⟩) (by show _ ≤ _ + 1 + 1; omega) _).setCell (p := ⟨w.heap.size + 1 + 1, 6, none⟩) (by show _ ≤ _ + 1 + 1; omega) _).setCell (p := ⟨w.heap.size + 1 + 1, 7, none⟩) (by show _ ≤ _ + 1 + 1; omega) _).setCell (p := ⟨w.heap.size + 1 + 1, 8, none⟩) (by show _ ≤ _ + 1 + 1; omega) _
 replace R1 : Hid (TLie ((((((((w1.setCell ⟨w.heap.size + 1 + 1, 1, none⟩ (.int .i64 r.t.t.id)).setCell ⟨w.heap.size + 1 + 1, 2, none⟩ (.int .i64 r.t.t.st)).setCell ⟨w.heap.size + 1 + 1, 3, none⟩ (.int .i64 r.t.t.snap)).setCell ⟨w.heap.size + 1 + 1, 4, none⟩ (.int .i64 r.t.t.cs)).setCell ⟨w.heap.size + 1 + 1, 5, none⟩ (.slice ra1 r.t.t.rs.length rc1)).setCell ⟨w.heap.size + 1 + 1, 6, none⟩ (.slice wa1 r.t.t.ws.length wc1)).setCell ⟨w.heap.size + 1 + 1, 7, none⟩ (.bool r.t.t.out)).setCell ⟨w.heap.size + 1 + 1, 8, none⟩ (.string r.t.t.nm)) v0.heap.size w1.heap.size r.t.t ra1 rc1 wa1 wc1) := (((((((R1.out.set (a := ⟨w.heap.size + 1 + 1, 1, none⟩) (by have := LZ1.out; show w.heap.size + 1 + 1 < _; omega) _).set (a := ⟨w.heap.size + 1 + 1, 2, none⟩) (by have := LZ1.out; show w.heap.size + 1 + 1 < _; omega) _).set (a := ⟨w.heap.size + 1 + 1, 3, none⟩) (by have := LZ1.out; show w.heap.size + 1 + 1 < _; omega) _).set (a := ⟨w.heap.size + 1 + 1, 4, none⟩) (by have := LZ1.out; show w.heap.size + 1 + 1 < _; omega) _).set (a := ⟨w.heap.size + 1 + 1, 5, none⟩) (by have := LZ1.out; show w.heap.size + 1 + 1 < _; omega) _).set (a := ⟨w.heap.size + 1 + 1, 6, none⟩) (by have := LZ1.out; show w.heap.size + 1 + 1 < _; omega) _).set (a := ⟨w.heap.size + 1 + 1, 7, none⟩) (by have := LZ1.out; show w.heap.size + 1 + 1 < _; omega) _).set (a := ⟨w.heap.size + 1 + 1, 8, none⟩) (by have := LZ1.out; show w.heap.size + 1 + 1 < _; omega) _
 have YGv1 : Hid (w1.heap.size ≤ ((((((((w1.setCell ⟨w.heap.size + 1 + 1, 1, none⟩ (.int .i64 r.t.t.id)).setCell ⟨w.heap.size + 1 + 1, 2, none⟩ (.int .i64 r.t.t.st)).setCell ⟨w.heap.size + 1 + 1, 3, none⟩ (.int .i64 r.t.t.snap)).setCell ⟨w.heap.size + 1 + 1, 4, none⟩ (.int .i64 r.t.t.cs)).setCell ⟨w.heap.size + 1 + 1, 5, none⟩ (.slice ra1 r.t.t.rs.length rc1)).setCell ⟨w.heap.size + 1 + 1, 6, none⟩ (.slice wa1 r.t.t.ws.length wc1)).setCell ⟨w.heap.size + 1 + 1, 7, none⟩ (.bool r.t.t.out)).setCell ⟨w.heap.size + 1 + 1, 8, none⟩ (.string r.t.t.nm)).heap.size) := by show _ ≤ _; simp [World.setCell]
 have YHv1 : Hid (((((((((w1.setCell ⟨w.heap.size + 1 + 1, 1, none⟩ (.int .i64 r.t.t.id)).setCell ⟨w.heap.size + 1 + 1, 2, none⟩ (.int .i64 r.t.t.st)).setCell ⟨w.heap.size + 1 + 1, 3, none⟩ (.int .i64 r.t.t.snap)).setCell ⟨w.heap.size + 1 + 1, 4, none⟩ (.int .i64 r.t.t.cs)).setCell ⟨w.heap.size + 1 + 1, 5, none⟩ (.slice ra1 r.t.t.rs.length rc1)).setCell ⟨w.heap.size + 1 + 1, 6, none⟩ (.slice wa1 r.t.t.ws.length wc1)).setCell ⟨w.heap.size + 1 + 1, 7, none⟩ (.bool r.t.t.out)).setCell ⟨w.heap.size + 1 + 1, 8, none⟩ (.string r.t.t.nm)).heap.size ≤ w1.heap.size) := by show _ ≤ _; simp [World.setCell]
 generalize ((((((((w1.setCell ⟨w.heap.size + 1 + 1, 1, none⟩ (.int .i64 r.t.t.id)).setCell ⟨w.heap.size + 1 + 1, 2, none⟩ (.int .i64 r.t.t.st)).setCell ⟨w.heap.size + 1 + 1, 3, none⟩ (.int .i64 r.t.t.snap)).setCell ⟨w.heap.size + 1 + 1, 4, none⟩ (.int .i64 r.t.t.cs)).setCell ⟨w.heap.size + 1 + 1, 5, none⟩ (.slice ra1 r.t.t.rs.length rc1)).setCell ⟨w.heap.size + 1 + 1, 6, none⟩ (.slice wa1 r.t.t.ws.length wc1)).setCell ⟨w.heap.size + 1 + 1, 7, none⟩ (.bool r.t.t.out)).setCell ⟨w.heap.size + 1 + 1, 8, none⟩ (.string r.t.t.nm)) = v1 at *
 have x9 := BA1.out.c9
 have fx9 := BA1.out.fz 9
 have x10 := BA1.out.c10
 have fx10 := BA1.out.fz 10
 have x11 := BA1.out.c11
 have fx11 := BA1.out.fz 11
 have x12 := BA1.out.c12
 have fx12 := BA1.out.fz 12
 have x13 := BA1.out.c13
 have fx13 := BA1.out.fz 13
 have x14 := BA1.out.c14
 have fx14 := BA1.out.fz 14
 have x15 := BA1.out.c15
 have fx15 := BA1.out.fz 15
 have o9 := BO1.out.c9
 have fo9 := BO1.out.fz 9
 have o10 := BO1.out.c10
 have fo10 := BO1.out.fz 10
 go_upto_region 6 with fail
 clear o9 fo9 o10 fo10
 clear x9 fx9 x10 fx10
 replace BA1 : Hid (Bx ((v1.setCell ⟨w.heap.size + 1 + 1, 9, none⟩ (.string r.nm)).setCell ⟨w.heap.size + 1 + 1, 10, none⟩ (.bool r.yes)) w.heap.size [.int .i64 r.k, .int .i64 r.t.t.id, .int .i64 r.t.t.st, .int .i64 r.t.t.snap, .int .i64 r.t.t.cs, .slice r.t.ra r.t.t.rs.length r.t.rc, .slice r.t.wa r.t.t.ws.length r.t.wc, .bool r.t.t.out, .string r.t.t.nm, .string r.nm, .bool r.yes, .slice r.b.va r.b.vs.length r.b.vc, .slice r.b.pa r.b.ps.length r.b.pc, .slice r.b.qa r.b.qs.length r.b.qc, .int .i64 r.b.cs, .int .i64 r.b.nx]) := (BA1.out.setO (p := ⟨w.heap.size + 1 + 1, 9, none⟩) (by show w.heap.size + 1 + 1 ≠ w.heap.size; omega) _).setO (p := ⟨w.heap.size + 1 + 1, 10, none⟩) (by show w.heap.size + 1 + 1 ≠ w.heap.size; omega) _
 replace BR1 : Hid (Bx ((v1.setCell ⟨w.heap.size + 1 + 1, 9, none⟩ (.string r.nm)).setCell ⟨w.heap.size + 1 + 1, 10, none⟩ (.bool r.yes)) (w.heap.size + 1) [.int .i64 0, .int .i64 0, .int .i64 0, .int .i64 0, .int .i64 0, .slice none 0 0, .slice none 0 0, .bool false, .string ⟨#[]⟩, .string ⟨#[]⟩, .bool false, .slice none 0 0, .slice none 0 0, .slice none 0 0, .int .i64 0, .int .i64 0]) := (BR1.out.setO (p := ⟨w.heap.size + 1 + 1, 9, none⟩) (by show w.heap.size + 1 + 1 ≠ w.heap.size + 1; omega) _).setO (p := ⟨w.heap.size + 1 + 1, 10, none⟩) (by show w.heap.size + 1 + 1 ≠ w.heap.size + 1; omega) _
 replace BO1 : Hid (Bx ((v1.setCell ⟨w.heap.size + 1 + 1, 9, none⟩ (.string r.nm)).setCell ⟨w.heap.size + 1 + 1, 10, none⟩ (.bool r.yes)) (w.heap.size + 1 + 1) [.int .i64 r.k, .int .i64 r.t.t.id, .int .i64 r.t.t.st, .int .i64 r.t.t.snap, .int .i64 r.t.t.cs, .slice ra1 r.t.t.rs.length rc1, .slice wa1 r.t.t.ws.length wc1, .bool r.t.t.out, .string r.t.t.nm, .string r.nm, .bool r.yes, .slice none 0 0, .slice none 0 0, .slice none 0 0, .int .i64 0, .int .i64 0]) := (BO1.out.set 9 _).set 10 _
 replace HB1 : Hid (Below w.heap.size w ((v1.setCell ⟨w.heap.size + 1 + 1, 9, none⟩ (.string r.nm)).setCell ⟨w.heap.size + 1 + 1, 10, none⟩ (.bool r.yes))) := (HB1.out.setCell (p := ⟨w.heap.size + 1 + 1, 9, none⟩) (by show _ ≤ _ + 1 + 1; omega) _).setCell (p := ⟨w.heap.size + 1 + 1, 10, none⟩) (by show _ ≤ _ + 1 + 1; omega) _
 replace R1 : Hid (TLie ((v1.setCell ⟨w.heap.size + 1 + 1, 9, none⟩ (.string r.nm)).setCell ⟨w.heap.size + 1 + 1, 10, none⟩ (.bool r.yes)) v0.heap.size w1.heap.size r.t.t ra1 rc1 wa1 wc1) := (R1.out.set (a := ⟨w.heap.size + 1 + 1, 9, none⟩) (by have := LZ1.out; show w.heap.size + 1 + 1 < _; omega) _).set (a := ⟨w.heap.size + 1 + 1, 10, none⟩) (by have := LZ1.out; show w.heap.size + 1 + 1 < _; omega) _
 have YGv2 : Hid (v1.heap.size ≤ ((v1.setCell ⟨w.heap.size + 1 + 1, 9, none⟩ (.string r.nm)).setCell ⟨w.heap.size + 1 + 1, 10, none⟩ (.bool r.yes)).heap.size) := by show _ ≤ _; simp [World.setCell]
 have YHv2 : Hid (((v1.setCell ⟨w.heap.size + 1 + 1, 9, none⟩ (.string r.nm)).setCell ⟨w.heap.size + 1 + 1, 10, none⟩ (.bool r.yes)).heap.size ≤ v1.heap.size) := by show _ ≤ _; simp [World.setCell]
 generalize ((v1.setCell ⟨w.heap.size + 1 + 1, 9, none⟩ (.string r.nm)).setCell ⟨w.heap.size + 1 + 1, 10, none⟩ (.bool r.yes)) = v2 at *
 clear x11 fx11 x12 fx12 x13 fx13 x14 fx14 x15 fx15
 have x11 := BA1.out.c11
 have fx11 := BA1.out.fz 11
 have x12 := BA1.out.c12
 have fx12 := BA1.out.fz 12
 have x13 := BA1.out.c13
 have fx13 := BA1.out.fz 13
 have x14 := BA1.out.c14
 have fx14 := BA1.out.fz 14
 have x15 := BA1.out.c15
 have fx15 := BA1.out.fz 15
 go_wp2_with fail
 refine (CB.out _ HB1.out).mono ?_
 rintro e w2 ⟨c, rfl, hsm, ho, hb⟩
 have BR2 : Hid (Bx w2 (w.heap.size + 1) [.int .i64 0, .int .i64 0, .int .i64 0, .int .i64 0, .int .i64 0, .slice none 0 0, .slice none 0 0, .bool false, .string ⟨#[]⟩, .string ⟨#[]⟩, .bool false, .slice none 0 0, .slice none 0 0, .slice none 0 0, .int .i64 0, .int .i64 0]) := BR1.out.below hb
 have BA2 : Hid (Bx w2 w.heap.size [.int .i64 r.k, .int .i64 r.t.t.id, .int .i64 r.t.t.st, .int .i64 r.t.t.snap, .int .i64 r.t.t.cs, .slice r.t.ra r.t.t.rs.length r.t.rc, .slice r.t.wa r.t.t.ws.length r.t.wc, .bool r.t.t.out, .string r.t.t.nm, .string r.nm, .bool r.yes, .slice r.b.va r.b.vs.length r.b.vc, .slice r.b.pa r.b.ps.length r.b.pc, .slice r.b.qa r.b.qs.length r.b.qc, .int .i64 r.b.cs, .int .i64 r.b.nx]) := BA1.out.below hb
 have BO2 : Hid (Bx w2 (w.heap.size + 1 + 1) [.int .i64 r.k, .int .i64 r.t.t.id, .int .i64 r.t.t.st, .int .i64 r.t.t.snap, .int .i64 r.t.t.cs, .slice ra1 r.t.t.rs.length rc1, .slice wa1 r.t.t.ws.length wc1, .bool r.t.t.out, .string r.t.t.nm, .string r.nm, .bool r.yes, .slice none 0 0, .slice none 0 0, .slice none 0 0, .int .i64 0, .int .i64 0]) := BO1.out.below hb
 have HB2 : Hid (Below w.heap.size w w2) := HB1.out.trans (hb.mono HB1.out.size)
 have Y2 : Hid (v2.heap.size ≤ w2.heap.size) := hb.size
 replace R1 : Hid (TLie w2 v0.heap.size w1.heap.size r.t.t ra1 rc1 wa1 wc1) := R1.out.below hb
 have R2 : Hid (BLie w2 v2.heap.size w2.heap.size c) := ho
 have SM := hide hsm
 have LZ2 : Hid (w.heap.size + 1 + 1 + 1 ≤ v2.heap.size) := by show _ ≤ _; have := LZ1.out; have := Y1.out; have := YGv1.out; have := YGv2.out; omega
 clear ho hb hsm BA1 BR1 BO1 HB1
 clear x11 fx11 x12 fx12 x13 fx13 x14 fx14 x15 fx15
 have o11 := BO2.out.c11
 have fo11 := BO2.out.fz 11
 have o12 := BO2.out.c12
 have fo12 := BO2.out.fz 12
 have o13 := BO2.out.c13
 have fo13 := BO2.out.fz 13
 have o14 := BO2.out.c14
 have fo14 := BO2.out.fz 14
 have o15 := BO2.out.c15
 have fo15 := BO2.out.fz 15
 go_upto_region 7 with fail
 clear o11 fo11 o12 fo12 o13 fo13 o14 fo14 o15 fo15
 replace BA2 : Hid (Bx (((((w2.setCell ⟨w.heap.size + 1 + 1, 11, none⟩ (.slice c.va c.vs.length c.vc)).setCell ⟨w.heap.size + 1 + 1, 12, none⟩ (.slice c.pa c.ps.length c.pc)).setCell ⟨w.heap.size + 1 + 1, 13, none⟩ (.slice c.qa c.qs.length c.qc)).setCell ⟨w.heap.size + 1 + 1, 14, none⟩ (.int .i64 c.cs)).setCell ⟨w.heap.size + 1 + 1, 15, none⟩ (.int .i64 c.nx)) w.heap.size [.int .i64 r.k, .int .i64 r.t.t.id, .int .i64 r.t.t.st, .int .i64 r.t.t.snap, .int .i64 r.t.t.cs, .slice r.t.ra r.t.t.rs.length r.t.rc, .slice r.t.wa r.t.t.ws.length r.t.wc, .bool r.t.t.out, .string r.t.t.nm, .string r.nm, .bool r.yes, .slice r.b.va r.b.vs.length r.b.vc, .slice r.b.pa r.b.ps.length r.b.pc, .slice r.b.qa r.b.qs.length r.b.qc, .int .i64 r.b.cs, .int .i64 r.b.nx]) := ((((BA2.out.setO (p := ⟨w.heap.size + 1 + 1, 11, none⟩) (by show w.heap.size + 1 + 1 ≠ w.heap.size; omega) _).setO (p := ⟨w.heap.size + 1 + 1, 12, none⟩) (by show w.heap.size + 1 + 1 ≠ w.heap.size; omega) _).setO (p := ⟨w.heap.size + 1 + 1, 13, none⟩) (by show w.heap.size + 1 + 1 ≠ w.heap.size; omega) _).setO (p := ⟨w.heap.size + 1 + 1, 14, none⟩) (by show w.heap.size + 1 + 1 ≠ w.heap.size; omega) _).setO (p := ⟨w.heap.size + 1 + 1, 15, none⟩) (by show w.heap.size + 1 + 1 ≠ w.heap.size; omega) _
 replace BR2 : Hid (Bx (((((w2.setCell ⟨w.heap.size + 1 + 1, 11, none⟩ (.slice c.va c.vs.length c.vc)).setCell ⟨w.heap.size + 1 + 1, 12, none⟩ (.slice c.pa c.ps.length c.pc)).setCell ⟨w.heap.size + 1 + 1, 13, none⟩ (.slice c.qa c.qs.length c.qc)).setCell ⟨w.heap.size + 1 + 1, 14, none⟩ (.int .i64 c.cs)).setCell ⟨w.heap.size + 1 + 1, 15, none⟩ (.int .i64 c.nx)) (w.heap.size + 1) [.int .i64 0, .int .i64 0, .int .i64 0, .int .i64 0, .int .i64 0, .slice none 0 0, .slice none 0 0, .bool false, .string ⟨#[]⟩, .string ⟨#[]⟩, .bool false, .slice none 0 0, .slice none 0 0, .slice none 0 0, .int .i64 0, .int .i64 0]) := ((((BR2.out.setO (p := ⟨w.heap.size + 1 + 1, 11, none⟩) (by show w.heap.size + 1 + 1 ≠ w.heap.size + 1; omega) _).setO (p := ⟨w.heap.size + 1 + 1, 12, none⟩) (by show w.heap.size + 1 + 1 ≠ w.heap.size + 1; omega) _).setO (p := ⟨w.heap.size + 1 + 1, 13, none⟩) (by show w.heap.size + 1 + 1 ≠ w.heap.size + 1; omega) _).setO (p := ⟨w.heap.size + 1 + 1, 14, none⟩) (by show w.heap.size + 1 + 1 ≠ w.heap.size + 1; omega) _).setO (p := ⟨w.heap.size + 1 + 1, 15, none⟩) (by show w.heap.size + 1 + 1 ≠ w.heap.size + 1; omega) _
 replace BO2 : Hid (Bx (((((w2.setCell ⟨w.heap.size + 1 + 1, 11, none⟩ (.slice c.va c.vs.length c.vc)).setCell ⟨w.heap.size + 1 + 1, 12, none⟩ (.slice c.pa c.ps.length c.pc)).setCell ⟨w.heap.size + 1 + 1, 13, none⟩ (.slice c.qa c.qs.length c.qc)).setCell ⟨w.heap.size + 1 + 1, 14, none⟩ (.int .i64 c.cs)).setCell ⟨w.heap.size + 1 + 1, 15, none⟩ (.int .i64 c.nx)) (w.heap.size + 1 + 1) [.int .i64 r.k, .int .i64 r.t.t.id, .int .i64 r.t.t.st, .int .i64 r.t.t.snap, .int .i64 r.t.t.cs, .slice ra1 r.t.t.rs.length rc1, .slice wa1 r.t.t.ws.length wc1, .bool r.t.t.out, .string r.t.t.nm, .string r.nm, .bool r.yes, .slice c.va c.vs.length c.vc, .slice c.pa c.ps.length c.pc, .slice c.qa c.qs.length c.qc, .int .i64 c.cs, .int .i64 c.nx]) := ((((BO2.out.set 11 _).set 12 _).set 13 _).set 14 _).set 15 _
 replace HB2 : Hid (Below w.heap.size w (((((w2.setCell ⟨w.heap.size + 1 + 1, 11, none⟩ (.slice c.va c.vs.length c.vc)).setCell ⟨w.heap.size + 1 + 1, 12, none⟩ (.slice c.pa c.ps.length c.pc)).setCell ⟨w.heap.size + 1 + 1, 13, none⟩ (.slice c.qa c.qs.length c.qc)).setCell ⟨w.heap.size + 1 + 1, 14, none⟩ (.int .i64 c.cs)).setCell ⟨w.heap.size + 1 + 1, 15, none⟩ (.int .i64 c.nx))) := ((((HB2.out.setCell (p := ⟨w.heap.size + 1 + 1, 11, none⟩) (by show _ ≤ _ + 1 + 1; omega) _).setCell (p := ⟨w.heap.size + 1 + 1, 12, none⟩) (by show _ ≤ _ + 1 + 1; omega) _).setCell (p := ⟨w.heap.size + 1 + 1, 13, none⟩) (by show _ ≤ _ + 1 + 1; omega) _).setCell (p := ⟨w.heap.size + 1 + 1, 14, none⟩) (by show _ ≤ _ + 1 + 1; omega) _).setCell (p := ⟨w.heap.size + 1 + 1, 15, none⟩) (by show _ ≤ _ + 1 + 1; omega) _
 replace R1 : Hid (TLie (((((w2.setCell ⟨w.heap.size + 1 + 1, 11, none⟩ (.slice c.va c.vs.length c.vc)).setCell ⟨w.heap.size + 1 + 1, 12, none⟩ (.slice c.pa c.ps.length c.pc)).setCell ⟨w.heap.size + 1 + 1, 13, none⟩ (.slice c.qa c.qs.length c.qc)).setCell ⟨w.heap.size + 1 + 1, 14, none⟩ (.int .i64 c.cs)).setCell ⟨w.heap.size + 1 + 1, 15, none⟩ (.int .i64 c.nx)) v0.heap.size w1.heap.size r.t.t ra1 rc1 wa1 wc1) := ((((R1.out.set (a := ⟨w.heap.size + 1 + 1, 11, none⟩) (by have := LZ1.out; show w.heap.size + 1 + 1 < _; omega) _).set (a := ⟨w.heap.size + 1 + 1, 12, none⟩) (by have := LZ1.out; show w.heap.size + 1 + 1 < _; omega) _).set (a := ⟨w.heap.size + 1 + 1, 13, none⟩) (by have := LZ1.out; show w.heap.size + 1 + 1 < _; omega) _).set (a := ⟨w.heap.size + 1 + 1, 14, none⟩) (by have := LZ1.out; show w.heap.size + 1 + 1 < _; omega) _).set (a := ⟨w.heap.size + 1 + 1, 15, none⟩) (by have := LZ1.out; show w.heap.size + 1 + 1 < _; omega) _
 replace R2 : Hid (BLie (((((w2.setCell ⟨w.heap.size + 1 + 1, 11, none⟩ (.slice c.va c.vs.length c.vc)).setCell ⟨w.heap.size + 1 + 1, 12, none⟩ (.slice c.pa c.ps.length c.pc)).setCell ⟨w.heap.size + 1 + 1, 13, none⟩ (.slice c.qa c.qs.length c.qc)).setCell ⟨w.heap.size + 1 + 1, 14, none⟩ (.int .i64 c.cs)).setCell ⟨w.heap.size + 1 + 1, 15, none⟩ (.int .i64 c.nx)) v2.heap.size w2.heap.size c) := ((((R2.out.set (a := ⟨w.heap.size + 1 + 1, 11, none⟩) (by have := LZ2.out; show w.heap.size + 1 + 1 < _; omega) _).set (a := ⟨w.heap.size + 1 + 1, 12, none⟩) (by have := LZ2.out; show w.heap.size + 1 + 1 < _; omega) _).set (a := ⟨w.heap.size + 1 + 1, 13, none⟩) (by have := LZ2.out; show w.heap.size + 1 + 1 < _; omega) _).set (a := ⟨w.heap.size + 1 + 1, 14, none⟩) (by have := LZ2.out; show w.heap.size + 1 + 1 < _; omega) _).set (a := ⟨w.heap.size + 1 + 1, 15, none⟩) (by have := LZ2.out; show w.heap.size + 1 + 1 < _; omega) _
 have YGv3 : Hid (w2.heap.size ≤ (((((w2.setCell ⟨w.heap.size + 1 + 1, 11, none⟩ (.slice c.va c.vs.length c.vc)).setCell ⟨w.heap.size + 1 + 1, 12, none⟩ (.slice c.pa c.ps.length c.pc)).setCell ⟨w.heap.size + 1 + 1, 13, none⟩ (.slice c.qa c.qs.length c.qc)).setCell ⟨w.heap.size + 1 + 1, 14, none⟩ (.int .i64 c.cs)).setCell ⟨w.heap.size + 1 + 1, 15, none⟩ (.int .i64 c.nx)).heap.size) := by show _ ≤ _; simp [World.setCell]
 have YHv3 : Hid ((((((w2.setCell ⟨w.heap.size + 1 + 1, 11, none⟩ (.slice c.va c.vs.length c.vc)).setCell ⟨w.heap.size + 1 + 1, 12, none⟩ (.slice c.pa c.ps.length c.pc)).setCell ⟨w.heap.size + 1 + 1, 13, none⟩ (.slice c.qa c.qs.length c.qc)).setCell ⟨w.heap.size + 1 + 1, 14, none⟩ (.int .i64 c.cs)).setCell ⟨w.heap.size + 1 + 1, 15, none⟩ (.int .i64 c.nx)).heap.size ≤ w2.heap.size) := by show _ ≤ _; simp [World.setCell]
 generalize (((((w2.setCell ⟨w.heap.size + 1 + 1, 11, none⟩ (.slice c.va c.vs.length c.vc)).setCell ⟨w.heap.size + 1 + 1, 12, none⟩ (.slice c.pa c.ps.length c.pc)).setCell ⟨w.heap.size + 1 + 1, 13, none⟩ (.slice c.qa c.qs.length c.qc)).setCell ⟨w.heap.size + 1 + 1, 14, none⟩ (.int .i64 c.cs)).setCell ⟨w.heap.size + 1 + 1, 15, none⟩ (.int .i64 c.nx)) = v3 at *
 have HL : Hid (RcLie v3 (w.heap.size + 1 + 1 + 1) v3.heap.size ⟨r.k, ⟨r.t.t, ra1, rc1, wa1, wc1⟩, r.nm, r.yes, c⟩) := ⟨v2.heap.size, by have := LZ1.out; have := LZ2.out; omega, by have := Y2.out; have := YGv3.out; omega, R1.out.mono LZ1.out (by have := YGv1.out; have := YGv2.out; omega), R2.out.mono (Nat.le_refl _) YGv3.out⟩
 have HSM : Hid (RcSame r ⟨r.k, ⟨r.t.t, ra1, rc1, wa1, wc1⟩, r.nm, r.yes, c⟩) := ⟨rfl, rfl, rfl, rfl, SM.out⟩
 clear R1 R2 SM
 have o0 := BO2.out.c0
 have fo0 := BO2.out.fz 0
 have o1 := BO2.out.c1
 have fo1 := BO2.out.fz 1
 have o2 := BO2.out.c2
 have fo2 := BO2.out.fz 2
 have o3 := BO2.out.c3
 have fo3 := BO2.out.fz 3
 have o4 := BO2.out.c4
 have fo4 := BO2.out.fz 4
 have o5 := BO2.out.c5
 have fo5 := BO2.out.fz 5
 have o6 := BO2.out.c6
 have fo6 := BO2.out.fz 6
 have o7 := BO2.out.c7
 have fo7 := BO2.out.fz 7
 have o8 := BO2.out.c8
 have fo8 := BO2.out.fz 8
 have o9 := BO2.out.c9
 have fo9 := BO2.out.fz 9
 have o10 := BO2.out.c10
 have fo10 := BO2.out.fz 10
 have o11 := BO2.out.c11
 have fo11 := BO2.out.fz 11
 have o12 := BO2.out.c12
 have fo12 := BO2.out.fz 12
 have o13 := BO2.out.c13
 have fo13 := BO2.out.fz 13
 have o14 := BO2.out.c14
 have fo14 := BO2.out.fz 14
 have o15 := BO2.out.c15
 have fo15 := BO2.out.fz 15
 have q0 := BR2.out.c0
 have fq0 := BR2.out.fz 0
 have q1 := BR2.out.c1
 have fq1 := BR2.out.fz 1
 have q2 := BR2.out.c2
 have fq2 := BR2.out.fz 2
 have q3 := BR2.out.c3
 have fq3 := BR2.out.fz 3
 have q4 := BR2.out.c4
 have fq4 := BR2.out.fz 4
 have q5 := BR2.out.c5
 have fq5 := BR2.out.fz 5
 have q6 := BR2.out.c6
 have fq6 := BR2.out.fz 6
 have q7 := BR2.out.c7
 have fq7 := BR2.out.fz 7
 have q8 := BR2.out.c8
 have fq8 := BR2.out.fz 8
 have q9 := BR2.out.c9
 have fq9 := BR2.out.fz 9
 have q10 := BR2.out.c10
 have fq10 := BR2.out.fz 10
 have q11 := BR2.out.c11
 have fq11 := BR2.out.fz 11
 have q12 := BR2.out.c12
 have fq12 := BR2.out.fz 12
 have q13 := BR2.out.c13
 have fq13 := BR2.out.fz 13
 have q14 := BR2.out.c14
 have fq14 := BR2.out.fz 14
 have q15 := BR2.out.c15
 have fq15 := BR2.out.fz 15
 go_wp2
 refine bodyPost_ret (v := .agg #[.int .i64 r.k, .int .i64 r.t.t.id, .int .i64 r.t.t.st, .int .i64 r.t.t.snap, .int .i64 r.t.t.cs, .slice ra1 r.t.t.rs.length rc1, .slice wa1 r.t.t.ws.length wc1, .bool r.t.t.out, .string r.t.t.nm, .string r.nm, .bool r.yes, .slice c.va c.vs.length c.vc, .slice c.pa c.ps.length c.pc, .slice c.qa c.qs.length c.qc, .int .i64 c.cs, .int .i64 c.nx]) (by simp [results, Tryz.results7, go_sem, q0, q1, q2, q3, q4, q5, q6, q7, q8, q9, q10, q11, q12, q13, q14, q15]) rfl ⟨⟨r.k, ⟨r.t.t, ra1, rc1, wa1, wc1⟩, r.nm, r.yes, c⟩, rfl, HSM.out, ?_, ?_⟩
 ·exact (((((((((((((((((HL.out.set (a := ⟨w.heap.size + 1, 0, none⟩) (by show _ + 1 < _; omega) _).set (a := ⟨w.heap.size + 1, 1, none⟩) (by show _ + 1 < _; omega) _).set (a := ⟨w.heap.size + 1, 2, none⟩) (by show _ + 1 < _; omega) _).set (a := ⟨w.heap.size + 1, 3, none⟩) (by show _ + 1 < _; omega) _).set (a := ⟨w.heap.size + 1, 4, none⟩) (by show _ + 1 < _; omega) _).set (a := ⟨w.heap.size + 1, 5, none⟩) (by show _ + 1 < _; omega) _).set (a := ⟨w.heap.size + 1, 6, none⟩) (by show _ + 1 < _; omega) _).set (a := ⟨w.heap.size + 1, 7, none⟩) (by show _ + 1 < _; omega) _).set (a := ⟨w.heap.size + 1, 8, none⟩) (by show _ + 1 < _; omega) _).set (a := ⟨w.heap.size + 1, 9, none⟩) (by show _ + 1 < _; omega) _).set (a := ⟨w.heap.size + 1, 10, none⟩) (by show _ + 1 < _; omega) _).set (a := ⟨w.heap.size + 1, 11, none⟩) (by show _ + 1 < _; omega) _).set (a := ⟨w.heap.size + 1, 12, none⟩) (by show _ + 1 < _; omega) _).set (a := ⟨w.heap.size + 1, 13, none⟩) (by show _ + 1 < _; omega) _).set (a := ⟨w.heap.size + 1, 14, none⟩) (by show _ + 1 < _; omega) _).set (a := ⟨w.heap.size + 1, 15, none⟩) (by show _ + 1 < _; omega) _).mono (by omega) (by simp [World.setCell]))
 ·exact (((((((((((((((HB2.out.setCell (p := ⟨w.heap.size + 1, 0, none⟩) (by show _ ≤ _ + 1; omega) _).setCell (p := ⟨w.heap.size + 1, 1, none⟩) (by show _ ≤ _ + 1; omega) _).setCell (p := ⟨w.heap.size + 1, 2, none⟩) (by show _ ≤ _ + 1; omega) _).setCell (p := ⟨w.heap.size + 1, 3, none⟩) (by show _ ≤ _ + 1; omega) _).setCell (p := ⟨w.heap.size + 1, 4, none⟩) (by show _ ≤ _ + 1; omega) _).setCell (p := ⟨w.heap.size + 1, 5, none⟩) (by show _ ≤ _ + 1; omega) _).setCell (p := ⟨w.heap.size + 1, 6, none⟩) (by show _ ≤ _ + 1; omega) _).setCell (p := ⟨w.heap.size + 1, 7, none⟩) (by show _ ≤ _ + 1; omega) _).setCell (p := ⟨w.heap.size + 1, 8, none⟩) (by show _ ≤ _ + 1; omega) _).setCell (p := ⟨w.heap.size + 1, 9, none⟩) (by show _ ≤ _ + 1; omega) _).setCell (p := ⟨w.heap.size + 1, 10, none⟩) (by show _ ≤ _ + 1; omega) _).setCell (p := ⟨w.heap.size + 1, 11, none⟩) (by show _ ≤ _ + 1; omega) _).setCell (p := ⟨w.heap.size + 1, 12, none⟩) (by show _ ≤ _ + 1; omega) _).setCell (p := ⟨w.heap.size + 1, 13, none⟩) (by show _ ≤ _ + 1; omega) _).setCell (p := ⟨w.heap.size + 1, 14, none⟩) (by show _ ≤ _ + 1; omega) _).setCell (p := ⟨w.heap.size + 1, 15, none⟩) (by show _ ≤ _ + 1; omega) _

end Go.Proofs.YtpnnncfbodfnhaaGreatDoor
