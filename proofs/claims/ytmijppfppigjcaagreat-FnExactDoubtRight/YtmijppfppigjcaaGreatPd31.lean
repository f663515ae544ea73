/- Finish of the program. -/
import Derived.Test.YtmijppfppigjcaaGreatPd01
import Derived.Test.YtmijppfppigjcaaGreatPd30
import Derived.Test.YtmijppfppigjcaaGreatPd04
import Derived.Test.YtmijppfppigjcaaGreatPd02
import Derived.Test.YtmijppfppigjcaaGreatPd19
import Derived.Deep.QuietTactic
import Derived.BigQuiet
import Derived.Deep.RegionHeld3
import Derived.Deep.DrawnRows
import Derived.Test.YtmijppfppigjcaaGreatPd20
namespace Go.Proofs.YtmijppfppigjcaaGreat
open Go.RowKit
open KM
open VM
attribute [local go_sem ↓] Go.wp_at_zero Go.wp_at_succ

theorem at_name (xs : List Ta) {nm : ByteArray} (h : nm ∈ nms xs) : ∃ i, i < xs.length ∧ idxN (nms xs) nm 0 = (i : Int) := by
 obtain ⟨i, hi, he⟩ := idx_there (nms xs) nm 0 h
 rw [nms_len] at hi
 exact ⟨i, hi, by rw [he, Nat.zero_add]⟩
def AnsF (ex : Ending) : Prop := ∃ (a0 a1 : List Value) (k : Int), ex = .returned (.tuple #[.agg a0.toArray, .agg a1.toArray, .int .i64 k]) ∧ (k = 0 ∨ k = 3) ∧ a0.length = 6 ∧ a1.length = 16 ∧ (∀ v ∈ a0, v.oneCell' = true) ∧ (∀ v ∈ a1, v.oneCell' = true)

set_option maxRecDepth 100000 in
set_option maxHeartbeats 8000000 in
theorem ifinishA (e : En) (hf : EnFit e) (nm : ByteArray) (hin : nm ∈ nms e.b.qs) (hnm : nm.size ≤ 1048576) (w : World) (hp : EnRows w e) :
  Calls Tryz.prog 18 #[.agg #[.slice e.b.va e.b.vs.length e.b.vc, .slice e.b.pa e.b.ps.length e.b.pc, .slice e.b.qa e.b.qs.length e.b.qc, .int .i64 e.b.cs, .int .i64 e.b.nx, .slice e.oa e.os.length e.oc], .string nm, .bool true] w fun ex w' => AnsF ex ∧ Below w.heap.size w w' := by
 have HP : Hid (EnRows w e) := hp
 have HF : Hid (EnFit e) := hf
 have HIN := hide hin
 have BE : Hid (Bx ((((((w.alloc (.cells #[.slice e.b.va e.b.vs.length e.b.vc, .slice e.b.pa e.b.ps.length e.b.pc, .slice e.b.qa e.b.qs.length e.b.qc, .int .i64 e.b.cs, .int .i64 e.b.nx, .slice e.oa e.os.length e.oc] 44)).alloc (.cells #[.string nm] 9)).alloc (.cells #[.bool true] 4)).alloc (.cells #[.slice none 0 0, .slice none 0 0, .slice none 0 0, .int .i64 0, .int .i64 0, .slice none 0 0] 44)).alloc (.cells #[.int .i64 0, .int .i64 0, .int .i64 0, .int .i64 0, .int .i64 0, .slice none 0 0, .slice none 0 0, .bool false, .string ⟨#[]⟩, .string ⟨#[]⟩, .bool false, .slice none 0 0, .slice none 0 0, .slice none 0 0, .int .i64 0, .int .i64 0] 64)).alloc (.cells #[.int .i64 0, .int .i64 0, .int .i64 0, .int .i64 0, .int .i64 0, .slice none 0 0, .slice none 0 0, .bool false, .string ⟨#[]⟩, .string ⟨#[]⟩, .bool false, .slice none 0 0, .slice none 0 0, .slice none 0 0, .int .i64 0, .int .i64 0] 64)) w.heap.size [.slice e.b.va e.b.vs.length e.b.vc, .slice e.b.pa e.b.ps.length e.b.pc, .slice e.b.qa e.b.qs.length e.b.qc, .int .i64 e.b.cs, .int .i64 e.b.nx, .slice e.oa e.os.length e.oc]) := by
  have h := Bx.new w [.slice e.b.va e.b.vs.length e.b.vc, .slice e.b.pa e.b.ps.length e.b.pc, .slice e.b.qa e.b.qs.length e.b.qc, .int .i64 e.b.cs, .int .i64 e.b.nx, .slice e.oa e.os.length e.oc] 44
  exact (((((h.alloc _).alloc _).alloc _).alloc _).alloc _)
 have BN : Hid (Bx ((((((w.alloc (.cells #[.slice e.b.va e.b.vs.length e.b.vc, .slice e.b.pa e.b.ps.length e.b.pc, .slice e.b.qa e.b.qs.length e.b.qc, .int .i64 e.b.cs, .int .i64 e.b.nx, .slice e.oa e.os.length e.oc] 44)).alloc (.cells #[.string nm] 9)).alloc (.cells #[.bool true] 4)).alloc (.cells #[.slice none 0 0, .slice none 0 0, .slice none 0 0, .int .i64 0, .int .i64 0, .slice none 0 0] 44)).alloc (.cells #[.int .i64 0, .int .i64 0, .int .i64 0, .int .i64 0, .int .i64 0, .slice none 0 0, .slice none 0 0, .bool false, .string ⟨#[]⟩, .string ⟨#[]⟩, .bool false, .slice none 0 0, .slice none 0 0, .slice none 0 0, .int .i64 0, .int .i64 0] 64)).alloc (.cells #[.int .i64 0, .int .i64 0, .int .i64 0, .int .i64 0, .int .i64 0, .slice none 0 0, .slice none 0 0, .bool false, .string ⟨#[]⟩, .string ⟨#[]⟩, .bool false, .slice none 0 0, .slice none 0 0, .slice none 0 0, .int .i64 0, .int .i64 0] 64)) (w.heap.size + 1) [.string nm]) := by
  have h := Bx.new (w.alloc (.cells #[.slice e.b.va e.b.vs.length e.b.vc, .slice e.b.pa e.b.ps.length e.b.pc, .slice e.b.qa e.b.qs.length e.b.qc, .int .i64 e.b.cs, .int .i64 e.b.nx, .slice e.oa e.os.length e.oc] 44)) [.string nm] 9
  rw [World.size_alloc] at h
  exact ((((h.alloc _).alloc _).alloc _).alloc _)
 have BY : Hid (Bx ((((((w.alloc (.cells #[.slice e.b.va e.b.vs.length e.b.vc, .slice e.b.pa e.b.ps.length e.b.pc, .slice e.b.qa e.b.qs.length e.b.qc, .int .i64 e.b.cs, .int .i64 e.b.nx, .slice e.oa e.os.length e.oc] 44)).alloc (.cells #[.string nm] 9)).alloc (.cells #[.bool true] 4)).alloc (.cells #[.slice none 0 0, .slice none 0 0, .slice none 0 0, .int .i64 0, .int .i64 0, .slice none 0 0] 44)).alloc (.cells #[.int .i64 0, .int .i64 0, .int .i64 0, .int .i64 0, .int .i64 0, .slice none 0 0, .slice none 0 0, .bool false, .string ⟨#[]⟩, .string ⟨#[]⟩, .bool false, .slice none 0 0, .slice none 0 0, .slice none 0 0, .int .i64 0, .int .i64 0] 64)).alloc (.cells #[.int .i64 0, .int .i64 0, .int .i64 0, .int .i64 0, .int .i64 0, .slice none 0 0, .slice none 0 0, .bool false, .string ⟨#[]⟩, .string ⟨#[]⟩, .bool false, .slice none 0 0, .slice none 0 0, .slice none 0 0, .int .i64 0, .int .i64 0] 64)) (w.heap.size + 1 + 1) [.bool true]) := by
  have h := Bx.new ((w.alloc (.cells #[.slice e.b.va e.b.vs.length e.b.vc, .slice e.b.pa e.b.ps.length e.b.pc, .slice e.b.qa e.b.qs.length e.b.qc, .int .i64 e.b.cs, .int .i64 e.b.nx, .slice e.oa e.os.length e.oc] 44)).alloc (.cells #[.string nm] 9)) [.bool true] 4
  rw [World.size_alloc, World.size_alloc] at h
  exact (((h.alloc _).alloc _).alloc _)
 have BA : Hid (Bx ((((((w.alloc (.cells #[.slice e.b.va e.b.vs.length e.b.vc, .slice e.b.pa e.b.ps.length e.b.pc, .slice e.b.qa e.b.qs.length e.b.qc, .int .i64 e.b.cs, .int .i64 e.b.nx, .slice e.oa e.os.length e.oc] 44)).alloc (.cells #[.string nm] 9)).alloc (.cells #[.bool true] 4)).alloc (.cells #[.slice none 0 0, .slice none 0 0, .slice none 0 0, .int .i64 0, .int .i64 0, .slice none 0 0] 44)).alloc (.cells #[.int .i64 0, .int .i64 0, .int .i64 0, .int .i64 0, .int .i64 0, .slice none 0 0, .slice none 0 0, .bool false, .string ⟨#[]⟩, .string ⟨#[]⟩, .bool false, .slice none 0 0, .slice none 0 0, .slice none 0 0, .int .i64 0, .int .i64 0] 64)).alloc (.cells #[.int .i64 0, .int .i64 0, .int .i64 0, .int .i64 0, .int .i64 0, .slice none 0 0, .slice none 0 0, .bool false, .string ⟨#[]⟩, .string ⟨#[]⟩, .bool false, .slice none 0 0, .slice none 0 0, .slice none 0 0, .int .i64 0, .int .i64 0] 64)) (w.heap.size + 1 + 1 + 1) [.slice none 0 0, .slice none 0 0, .slice none 0 0, .int .i64 0, .int .i64 0, .slice none 0 0]) := by
  have h := Bx.new (((w.alloc (.cells #[.slice e.b.va e.b.vs.length e.b.vc, .slice e.b.pa e.b.ps.length e.b.pc, .slice e.b.qa e.b.qs.length e.b.qc, .int .i64 e.b.cs, .int .i64 e.b.nx, .slice e.oa e.os.length e.oc] 44)).alloc (.cells #[.string nm] 9)).alloc (.cells #[.bool true] 4)) [.slice none 0 0, .slice none 0 0, .slice none 0 0, .int .i64 0, .int .i64 0, .slice none 0 0] 44
  rw [World.size_alloc, World.size_alloc, World.size_alloc] at h
  exact ((h.alloc _).alloc _)
 have BB : Hid (Bx ((((((w.alloc (.cells #[.slice e.b.va e.b.vs.length e.b.vc, .slice e.b.pa e.b.ps.length e.b.pc, .slice e.b.qa e.b.qs.length e.b.qc, .int .i64 e.b.cs, .int .i64 e.b.nx, .slice e.oa e.os.length e.oc] 44)).alloc (.cells #[.string nm] 9)).alloc (.cells #[.bool true] 4)).alloc (.cells #[.slice none 0 0, .slice none 0 0, .slice none 0 0, .int .i64 0, .int .i64 0, .slice none 0 0] 44)).alloc (.cells #[.int .i64 0, .int .i64 0, .int .i64 0, .int .i64 0, .int .i64 0, .slice none 0 0, .slice none 0 0, .bool false, .string ⟨#[]⟩, .string ⟨#[]⟩, .bool false, .slice none 0 0, .slice none 0 0, .slice none 0 0, .int .i64 0, .int .i64 0] 64)).alloc (.cells #[.int .i64 0, .int .i64 0, .int .i64 0, .int .i64 0, .int .i64 0, .slice none 0 0, .slice none 0 0, .bool false, .string ⟨#[]⟩, .string ⟨#[]⟩, .bool false, .slice none 0 0, .slice none 0 0, .slice none 0 0, .int .i64 0, .int .i64 0] 64)) (w.heap.size + 1 + 1 + 1 + 1) [.int .i64 0, .int .i64 0, .int .i64 0, .int .i64 0, .int .i64 0, .slice none 0 0, .slice none 0 0, .bool false, .string ⟨#[]⟩, .string ⟨#[]⟩, .bool false, .slice none 0 0, .slice none 0 0, .slice none 0 0, .int .i64 0, .int .i64 0]) := by
  have h := Bx.new ((((w.alloc (.cells #[.slice e.b.va e.b.vs.length e.b.vc, .slice e.b.pa e.b.ps.length e.b.pc, .slice e.b.qa e.b.qs.length e.b.qc, .int .i64 e.b.cs, .int .i64 e.b.nx, .slice e.oa e.os.length e.oc] 44)).alloc (.cells #[.string nm] 9)).alloc (.cells #[.bool true] 4)).alloc (.cells #[.slice none 0 0, .slice none 0 0, .slice none 0 0, .int .i64 0, .int .i64 0, .slice none 0 0] 44)) [.int .i64 0, .int .i64 0, .int .i64 0, .int .i64 0, .int .i64 0, .slice none 0 0, .slice none 0 0, .bool false, .string ⟨#[]⟩, .string ⟨#[]⟩, .bool false, .slice none 0 0, .slice none 0 0, .slice none 0 0, .int .i64 0, .int .i64 0] 64
  rw [World.size_alloc, World.size_alloc, World.size_alloc, World.size_alloc] at h
  exact (h.alloc _)
 have BV : Hid (Bx ((((((w.alloc (.cells #[.slice e.b.va e.b.vs.length e.b.vc, .slice e.b.pa e.b.ps.length e.b.pc, .slice e.b.qa e.b.qs.length e.b.qc, .int .i64 e.b.cs, .int .i64 e.b.nx, .slice e.oa e.os.length e.oc] 44)).alloc (.cells #[.string nm] 9)).alloc (.cells #[.bool true] 4)).alloc (.cells #[.slice none 0 0, .slice none 0 0, .slice none 0 0, .int .i64 0, .int .i64 0, .slice none 0 0] 44)).alloc (.cells #[.int .i64 0, .int .i64 0, .int .i64 0, .int .i64 0, .int .i64 0, .slice none 0 0, .slice none 0 0, .bool false, .string ⟨#[]⟩, .string ⟨#[]⟩, .bool false, .slice none 0 0, .slice none 0 0, .slice none 0 0, .int .i64 0, .int .i64 0] 64)).alloc (.cells #[.int .i64 0, .int .i64 0, .int .i64 0, .int .i64 0, .int .i64 0, .slice none 0 0, .slice none 0 0, .bool false, .string ⟨#[]⟩, .string ⟨#[]⟩, .bool false, .slice none 0 0, .slice none 0 0, .slice none 0 0, .int .i64 0, .int .i64 0] 64)) (w.heap.size + 1 + 1 + 1 + 1 + 1) [.int .i64 0, .int .i64 0, .int .i64 0, .int .i64 0, .int .i64 0, .slice none 0 0, .slice none 0 0, .bool false, .string ⟨#[]⟩, .string ⟨#[]⟩, .bool false, .slice none 0 0, .slice none 0 0, .slice none 0 0, .int .i64 0, .int .i64 0]) := by
  have h := Bx.new (((((w.alloc (.cells #[.slice e.b.va e.b.vs.length e.b.vc, .slice e.b.pa e.b.ps.length e.b.pc, .slice e.b.qa e.b.qs.length e.b.qc, .int .i64 e.b.cs, .int .i64 e.b.nx, .slice e.oa e.os.length e.oc] 44)).alloc (.cells #[.string nm] 9)).alloc (.cells #[.bool true] 4)).alloc (.cells #[.slice none 0 0, .slice none 0 0, .slice none 0 0, .int .i64 0, .int .i64 0, .slice none 0 0] 44)).alloc (.cells #[.int .i64 0, .int .i64 0, .int .i64 0, .int .i64 0, .int .i64 0, .slice none 0 0, .slice none 0 0, .bool false, .string ⟨#[]⟩, .string ⟨#[]⟩, .bool false, .slice none 0 0, .slice none 0 0, .slice none 0 0, .int .i64 0, .int .i64 0] 64)) [.int .i64 0, .int .i64 0, .int .i64 0, .int .i64 0, .int .i64 0, .slice none 0 0, .slice none 0 0, .bool false, .string ⟨#[]⟩, .string ⟨#[]⟩, .bool false, .slice none 0 0, .slice none 0 0, .slice none 0 0, .int .i64 0, .int .i64 0] 64
  rw [World.size_alloc, World.size_alloc, World.size_alloc, World.size_alloc, World.size_alloc] at h
  exact h
 have HB : Hid (Below w.heap.size w ((((((w.alloc (.cells #[.slice e.b.va e.b.vs.length e.b.vc, .slice e.b.pa e.b.ps.length e.b.pc, .slice e.b.qa e.b.qs.length e.b.qc, .int .i64 e.b.cs, .int .i64 e.b.nx, .slice e.oa e.os.length e.oc] 44)).alloc (.cells #[.string nm] 9)).alloc (.cells #[.bool true] 4)).alloc (.cells #[.slice none 0 0, .slice none 0 0, .slice none 0 0, .int .i64 0, .int .i64 0, .slice none 0 0] 44)).alloc (.cells #[.int .i64 0, .int .i64 0, .int .i64 0, .int .i64 0, .int .i64 0, .slice none 0 0, .slice none 0 0, .bool false, .string ⟨#[]⟩, .string ⟨#[]⟩, .bool false, .slice none 0 0, .slice none 0 0, .slice none 0 0, .int .i64 0, .int .i64 0] 64)).alloc (.cells #[.int .i64 0, .int .i64 0, .int .i64 0, .int .i64 0, .int .i64 0, .slice none 0 0, .slice none 0 0, .bool false, .string ⟨#[]⟩, .string ⟨#[]⟩, .bool false, .slice none 0 0, .slice none 0 0, .slice none 0 0, .int .i64 0, .int .i64 0] 64))) := ((((((belowRefl w).alloc (Nat.le_refl _) _).alloc (by simp) _).alloc (by simp; omega) _).alloc (by simp; omega) _).alloc (by simp; omega) _).alloc (by simp; omega) _
 have HZ : Hid ((((((((w.alloc (.cells #[.slice e.b.va e.b.vs.length e.b.vc, .slice e.b.pa e.b.ps.length e.b.pc, .slice e.b.qa e.b.qs.length e.b.qc, .int .i64 e.b.cs, .int .i64 e.b.nx, .slice e.oa e.os.length e.oc] 44)).alloc (.cells #[.string nm] 9)).alloc (.cells #[.bool true] 4)).alloc (.cells #[.slice none 0 0, .slice none 0 0, .slice none 0 0, .int .i64 0, .int .i64 0, .slice none 0 0] 44)).alloc (.cells #[.int .i64 0, .int .i64 0, .int .i64 0, .int .i64 0, .int .i64 0, .slice none 0 0, .slice none 0 0, .bool false, .string ⟨#[]⟩, .string ⟨#[]⟩, .bool false, .slice none 0 0, .slice none 0 0, .slice none 0 0, .int .i64 0, .int .i64 0] 64)).alloc (.cells #[.int .i64 0, .int .i64 0, .int .i64 0, .int .i64 0, .int .i64 0, .slice none 0 0, .slice none 0 0, .bool false, .string ⟨#[]⟩, .string ⟨#[]⟩, .bool false, .slice none 0 0, .slice none 0 0, .slice none 0 0, .int .i64 0, .int .i64 0] 64))).heap.size = w.heap.size + 1 + 1 + 1 + 1 + 1 + 1) := by show _ = _; simp
 clear hp hf hin
 go_enter Tryz.func18, Tryz.ntmps18
 go_upto_region 2 with fail
 generalize ((((((w.alloc (.cells #[.slice e.b.va e.b.vs.length e.b.vc, .slice e.b.pa e.b.ps.length e.b.pc, .slice e.b.qa e.b.qs.length e.b.qc, .int .i64 e.b.cs, .int .i64 e.b.nx, .slice e.oa e.os.length e.oc] 44)).alloc (.cells #[.string nm] 9)).alloc (.cells #[.bool true] 4)).alloc (.cells #[.slice none 0 0, .slice none 0 0, .slice none 0 0, .int .i64 0, .int .i64 0, .slice none 0 0] 44)).alloc (.cells #[.int .i64 0, .int .i64 0, .int .i64 0, .int .i64 0, .int .i64 0, .slice none 0 0, .slice none 0 0, .bool false, .string ⟨#[]⟩, .string ⟨#[]⟩, .bool false, .slice none 0 0, .slice none 0 0, .slice none 0 0, .int .i64 0, .int .i64 0] 64)).alloc (.cells #[.int .i64 0, .int .i64 0, .int .i64 0, .int .i64 0, .int .i64 0, .slice none 0 0, .slice none 0 0, .bool false, .string ⟨#[]⟩, .string ⟨#[]⟩, .bool false, .slice none 0 0, .slice none 0 0, .slice none 0 0, .int .i64 0, .int .i64 0] 64)) = w0 at *
 have zs := HZ.out
 have x0 := BE.out.c0
 have x1 := BE.out.c1
 have x2 := BE.out.c2
 have x3 := BE.out.c3
 have x4 := BE.out.c4
 have x5 := BE.out.at' 5 (by simp)
 go_wp2_with fail
 refine (ihold e HF.out _ (HP.out.below HB.out)).mono ?_
 rintro ex w1 ⟨c, g, rfl, hsm, hlie, hgl, hbg, hb1⟩
 have z1 := hb1.size
 have HSM := hide hsm
 obtain ⟨m, hlx⟩ := hlie.lx
 have LX := hide hlx
 have BG : Hid (Bx w1 g [.int .i32 0, .int .u32 0, .slice c.b.va c.b.vs.length c.b.vc, .slice c.b.pa c.b.ps.length c.b.pc, .slice c.b.qa c.b.qs.length c.b.qc, .int .i64 c.b.cs, .int .i64 c.b.nx, .slice c.oa c.os.length c.oc]) := hbg
 replace BN := hide (BN.out.below hb1)
 replace BY := hide (BY.out.below hb1)
 replace BA := hide (BA.out.below hb1)
 replace BB := hide (BB.out.below hb1)
 replace BV := hide (BV.out.below hb1)
 replace HB : Hid (Below w.heap.size w w1) := HB.out.trans (hb1.mono HB.out.size)
 have hgz := hgl
 clear hsm hlie hlx hbg hb1 x0 x1 x2 x3 x4 x5 BE HZ hgl
 have hin2 : nm ∈ nms c.b.qs := by
  have h := HIN.out
  rw [nms_txs, ← HSM.out.b.q, ← nms_txs] at h
  exact h
 obtain ⟨i, hi, hat⟩ := at_name c.b.qs hin2
 have CC := hide (ichangeF c (HSM.out.fit HF.out) nm hnm i hi hat g (w.heap.size + 1) (w.heap.size + 1 + 1) (w.heap.size + 1 + 1 + 1 + 1 + 1) ⟨by omega, by omega, by omega, by omega, by omega⟩ [.int .i64 0, .int .i64 0, .int .i64 0, .int .i64 0, .int .i64 0, .slice none 0 0, .slice none 0 0, .bool false, .string ⟨#[]⟩, .string ⟨#[]⟩, .bool false, .slice none 0 0, .slice none 0 0, .slice none 0 0, .int .i64 0, .int .i64 0] rfl (List.all_eq_true.1 rfl) w1 BG.out BN.out BY.out BV.out _ m LX.out)
 clear hi hat hin2
 go_wp2_with fail
 refine CC.out.mono ?_
 rintro ex w2 ⟨k, va, pa, qa, vn, vc, pn, pc, qn, qc, cs, nx, rs, rfl, hk0, hbr, hl, h1, hkn⟩
 have z2 := hkn.size
 have HK0 := hide hk0
 have HL := hide hl
 have H1 := hide h1
 replace BV : Hid (Bx w2 (w.heap.size + 1 + 1 + 1 + 1 + 1) rs) := hbr
 replace BA := hide (BA.out.kn hkn (by intro hm; simp only [List.mem_cons, List.not_mem_nil, or_false] at hm; omega))
 replace BB := hide (BB.out.kn hkn (by intro hm; simp only [List.mem_cons, List.not_mem_nil, or_false] at hm; omega))
 replace HB : Hid (Below w.heap.size w w2) := HB.out.trans (hkn.below HB.out.size (by intro x hx; simp only [List.mem_cons, List.not_mem_nil, or_false] at hx; omega))
 clear hk0 hbr hl h1 hkn CC BG BN BY LX
 go_upto_region 3 with fail
 have hba : Below w2.heap.size w2 (w2.alloc (.cells #[.slice va vn vc, .slice pa pn pc, .slice qa qn qc, .int .i64 cs, .int .i64 nx, .slice c.oa c.os.length c.oc] 44)) := (belowRefl w2).alloc (Nat.le_refl _) _
 have BO : Hid (Bx (w2.alloc (.cells #[.slice va vn vc, .slice pa pn pc, .slice qa qn qc, .int .i64 cs, .int .i64 nx, .slice c.oa c.os.length c.oc] 44)) w2.heap.size [.slice va vn vc, .slice pa pn pc, .slice qa qn qc, .int .i64 cs, .int .i64 nx, .slice c.oa c.os.length c.oc]) := Bx.new w2 [.slice va vn vc, .slice pa pn pc, .slice qa qn qc, .int .i64 cs, .int .i64 nx, .slice c.oa c.os.length c.oc] 44
 replace BV := hide (BV.out.below hba)
 replace BA := hide (BA.out.below hba)
 replace BB := hide (BB.out.below hba)
 replace HB : Hid (Below w.heap.size w (w2.alloc (.cells #[.slice va vn vc, .slice pa pn pc, .slice qa qn qc, .int .i64 cs, .int .i64 nx, .slice c.oa c.os.length c.oc] 44))) := HB.out.trans (hba.mono HB.out.size)
 clear hba
 generalize (w2.alloc (.cells #[.slice va vn vc, .slice pa pn pc, .slice qa qn qc, .int .i64 cs, .int .i64 nx, .slice c.oa c.os.length c.oc] 44)) = w3 at *
 have ho : w.heap.size + 1 + 1 + 1 + 1 + 1 < w2.heap.size := by omega
 generalize w2.heap.size = ob at *
 have HBd : Hid (Below w3.heap.size w3 w3.drew) := (belowRefl w3).drew
 refine wp_region_held_drew (S := fun w' => Bx w' ob [.slice va vn vc, .slice pa pn pc, .slice qa qn qc, .int .i64 cs, .int .i64 nx, .slice c.oa c.os.length c.oc] ∧ Bx w' (w.heap.size + 1 + 1 + 1 + 1 + 1) rs) (by kernel_rfl) ⟨BO.out.below HBd.out, BV.out.below HBd.out⟩ (fun hHeld => ?_)
 replace BO := hide (BO.out.below HBd.out)
 replace BV := hide (BV.out.below HBd.out)
 replace BA := hide (BA.out.below HBd.out)
 replace BB := hide (BB.out.below HBd.out)
 replace HB : Hid (Below w.heap.size w w3.drew) := HB.out.trans (HBd.out.mono HB.out.size)
 clear HBd
 generalize w3.drew = w4 at *
 refine wpAnyH_take (i := 0) (v := .agg (List.toArray [.slice va vn vc, .slice pa pn pc, .slice qa qn qc, .int .i64 cs, .int .i64 nx, .slice c.oa c.os.length c.oc])) rfl (by kernel_rfl) (by kernel_rfl) (by kernel_rfl) (fun _ _ _ h => h) (yieldsIf_load_mid (by rfl) 44 _ rfl ob 0 (by rfl) [.slice va vn vc, .slice pa pn pc, .slice qa qn qc, .int .i64 cs, .int .i64 nx, .slice c.oa c.os.length c.oc] _ (fun w hw => hw.1.range) Tryz.underlying44 rfl (by kernel_rfl)) (by assumption) ?_
 simp only [Act.put, tA, tB, tD, tE, tF]
 refine wpAnyH_take (i := 1) (v := .agg rs.toArray) rfl (by kernel_rfl) (by kernel_rfl) (by kernel_rfl) (fun _ _ _ h => h) (yieldsIf_load_mid (by rfl) 64 _ rfl (w.heap.size + 1 + 1 + 1 + 1 + 1) 0 (by rfl) rs _ (fun w hw => hw.2.range) Tryz.underlying64 rfl (by rw [HL.out]; kernel_rfl)) (by assumption) ?_
 simp only [Act.put, tA, tB, tC, tD, tE, tF]
 (refine ti 2 ?_; simp only [Act.put, tA, tB, tC, tD, tE, tF])
 refine wpAnyH_ready (rs := [3]) (by kernel_rfl) (by simp) ?_
 refine AllReadyH.cons rfl (fun K hK => ?_) AllReadyH.nil
 refine stepStoreN #[.slice va vn vc, .slice pa pn pc, .slice qa qn qc, .int .i64 cs, .int .i64 nx, .slice c.oa c.os.length c.oc] rfl 44 _ _ rfl (by kernel_rfl) (by kernel_rfl) (by kernel_rfl) BA.out rfl (one_all rfl) ?_
 intro w5 b5 z5 _
 replace BO := hide (BO.out.kn (kn_zn z5) (by intro hm; simp only [List.mem_cons, List.not_mem_nil, or_false] at hm; omega))
 replace BV := hide (BV.out.kn (kn_zn z5) (by intro hm; simp only [List.mem_cons, List.not_mem_nil, or_false] at hm; omega))
 replace BB := hide (BB.out.kn (kn_zn z5) (by intro hm; simp only [List.mem_cons, List.not_mem_nil, or_false] at hm; omega))
 have BA5 : Hid (Bx w5 (w.heap.size + 1 + 1 + 1) [.slice va vn vc, .slice pa pn pc, .slice qa qn qc, .int .i64 cs, .int .i64 nx, .slice c.oa c.os.length c.oc]) := b5
 replace HB : Hid (Below w.heap.size w w5) := HB.out.trans (z5.below (by omega) HB.out.size)
 refine hK.out _ _ ⟨BO.out, BV.out⟩ (fun _ => ?_)
 clear hK K b5 z5 BA
 refine wpAnyH_ready (rs := [4]) (by kernel_rfl) (by simp) ?_
 refine AllReadyH.cons rfl (fun K hK => ?_) AllReadyH.nil
 refine stepStoreN rs.toArray rfl 64 _ _ rfl (by rw [List.size_toArray, HL.out]; kernel_rfl) (by kernel_rfl) (by kernel_rfl) BB.out (by rw [List.size_toArray, HL.out]; rfl) (all_oneCell_toArray H1.out) ?_
 intro w6 b6 z6 _
 replace BO := hide (BO.out.kn (kn_zn z6) (by intro hm; simp only [List.mem_cons, List.not_mem_nil, or_false] at hm; omega))
 replace BV := hide (BV.out.kn (kn_zn z6) (by intro hm; simp only [List.mem_cons, List.not_mem_nil, or_false] at hm; omega))
 have BA6 := hide (BA5.out.kn (kn_zn z6) (by intro hm; simp only [List.mem_cons, List.not_mem_nil, or_false] at hm; omega))
 have BB6 : Hid (Bx w6 (w.heap.size + 1 + 1 + 1 + 1) rs) := b6
 replace HB : Hid (Below w.heap.size w w6) := HB.out.trans (z6.below (by omega) HB.out.size)
 refine hK.out _ _ ⟨BO.out, BV.out⟩ (fun _ => ?_)
 clear hK K b6 z6 BA5 BB
 (refine ti 5 ?_; simp only [Act.put, tA, tB, tC, tD, tE, tF])
 refine wpAnyH_done (by kernel_rfl) ?_ _
 go_wp2
 refine bodyPost_ret (results3 rfl rfl rfl BA6.out BB6.out Tryz.underlying44 Tryz.underlying64 rfl rfl (by kernel_rfl) (by rw [HL.out]; kernel_rfl)) rfl ⟨⟨[.slice va vn vc, .slice pa pn pc, .slice qa qn qc, .int .i64 cs, .int .i64 nx, .slice c.oa c.os.length c.oc], rs, k, rfl, HK0.out, rfl, HL.out, List.all_eq_true.1 rfl, H1.out⟩, HB.out⟩

end Go.Proofs.YtmijppfppigjcaaGreat

namespace Go.Proofs.YtmijppfppigjcaaGreat
open Go.RowKit
open KM
attribute [local go_sem ↓] Go.wp_at_zero Go.wp_at_succ

def wsum (ts : List Tx) : Nat := (ts.map fun t => t.ws.length).sum
theorem wsum_next (ts : List Tx) (k : Nat) (hk : k < ts.length) : wsum (ts.take (k + 1)) = wsum (ts.take k) + (ts[k]).ws.length := by
 unfold wsum
 rw [List.take_succ_eq_append_getElem hk, List.map_append, List.sum_append]
 simp
set_option maxRecDepth 100000 in
set_option maxHeartbeats 1000000 in
theorem szSW2 (xs : List Wt) (a : Option Addr) (c : Nat) (hn : xs.length ≤ maxLen) (hl : ∀ x ∈ xs, x.1.size ≤ maxLen ∧ x.2.1.size ≤ maxLen) (L : Int) (h0 : 0 ≤ L) (h1 : L ≤ 1048576) (w : World) (hp : GRow encW w a xs) :
  Calls Tryz.prog 48 #[.slice a xs.length c, .int .i64 L] w fun e w' => Below w.heap.size w w' ∧ ∃ r : Int, e = .returned (.int .i64 r) ∧ r ≤ 1048576 ∧ (0 ≤ r → r + (xs.length : Int) ≤ L ∧ xs.length ≤ 1048576 ∧ WFit xs) := by
 have HP : Hid (GRow encW w a xs) := hp
 have HL : Hid (∀ x ∈ xs, x.1.size ≤ maxLen ∧ x.2.1.size ≤ maxLen) := hl
 clear hp hl
 unfold maxLen at hn
 by_cases hneg : L - (xs.length : Int) < 0
 ·go_enter Tryz.func48, Tryz.ntmps48
  go_wp2
  go_ret
  exact ⟨belowRefl w, -1, rfl, by omega, fun h => by omega⟩
 ·have hneg' : decide (L - (xs.length : Int) < 0) = false := by simpa using hneg
  go_enter Tryz.func48, Tryz.ntmps48
  go_wp2
  go_loopw [1, 5] (fun tl t wr => ∃ (k : Nat) (l : Int), k ≤ xs.length ∧ t = .int .i64 k ∧ tl = .int .i64 l ∧ 0 ≤ l ∧ l ≤ 1048576 ∧ l + (xs.length : Int) ≤ L ∧ Hid (∀ j (hj : j < xs.length), j < k → xs[j].1.size ≤ 1048576 ∧ xs[j].2.1.size ≤ 1048576) ∧ Hid (Below w.heap.size w wr)) (fun _ t _ => xs.length - (intOf t).toNat)
  case atStart => exact ⟨0, L - (xs.length : Int), Nat.zero_le _, rfl, rfl, by omega, by omega, by omega, fun j hj h => by omega, belowRefl w⟩
  case round =>
   obtain ⟨k, l, hk, rfl, rfl, hl0, hl1, hl2, HA, HB⟩ := hrel
   by_cases hlt : k < xs.length
   ·have hlt' : (k : Int) < (xs.length : Int) := by omega
    have hk0 : (0 : Int) ≤ (k : Int) := by omega
    obtain ⟨b, off, rfl, hbl, hc⟩ := (HP.out.below HB.out) (by omega)
    have r0 := ((wat hc) k hlt).1
    have r1 := ((wat hc) k hlt).2.1
    have r2 := ((wat hc) k hlt).2.2
    have HZ : Hid (xs[k].1.size ≤ maxLen ∧ xs[k].2.1.size ≤ maxLen) := HL.out _ (List.getElem_mem hlt)
    clear hc
    go_wp2_with fail
    refine (szw xs[k].1 xs[k].2.1 xs[k].2.2 l hl0 hl1 HZ.out.1 HZ.out.2 _).mono ?_
    rintro e w2 ⟨r, rfl, hr, hb2⟩
    have HB2 : Hid (Below w.heap.size w w2) := HB.out.trans (hb2.mono HB.out.size)
    clear hb2 r0 r1 r2
    by_cases hn2 : r < 0
    ·clear hr
     go_wp2
     go_ret
     exact ⟨HB2.out, -1, rfl, by omega, fun h => by omega⟩
    ·have hn3 : ¬ r < 0 := hn2
     have HR : Hid (0 ≤ r ∧ r ≤ l ∧ (xs[k].1.size : Int) + xs[k].2.1.size + r = l) := by
      rcases hr with hr | hr
      ·exact absurd hr hn2
      ·exact hr
     have HA2 : Hid (∀ j (hj : j < xs.length), j < k + 1 → xs[j].1.size ≤ 1048576 ∧ xs[j].2.1.size ≤ 1048576) := fun j hj h => by
      by_cases e : j = k
      ·subst e; have := HR.out; omega
      ·exact HA.out j hj (by omega)
     have hr0 : 0 ≤ r := HR.out.1
     have hr2 : r + (xs.length : Int) ≤ L := by have := HR.out.2.1; omega
     have hr1 : r ≤ 1048576 := Int.le_trans HR.out.2.1 hl1
     clear hn2 hr
     go_wp2
     go_roundw
     case rel => exact ⟨k + 1, r, by omega, by go_num, rfl, hr0, hr1, hr2, HA2, HB2⟩
     case measure => simp [intOf]; omega
   ·have hlt' : ¬ (k : Int) < (xs.length : Int) := by omega
    have HA2 : Hid (∀ x ∈ xs, x.1.size ≤ 1048576 ∧ x.2.1.size ≤ 1048576) := fun s hs => by
     obtain ⟨j, hj, rfl⟩ := List.getElem_of_mem hs
     exact HA.out j hj (by omega)
    go_wp2
    go_ret
    exact ⟨HB.out, l, rfl, hl1, fun _ => ⟨hl2, by omega, HA2.out⟩⟩

set_option maxRecDepth 100000 in
set_option maxHeartbeats 1000000 in
theorem szSR2 (xs : List Rg) (a : Option Addr) (c : Nat) (hn : xs.length ≤ maxLen) (hl : ∀ x ∈ xs, x.1.size ≤ maxLen ∧ x.2.size ≤ maxLen) (L : Int) (h0 : 0 ≤ L) (h1 : L ≤ 1048576) (w : World) (hp : GRow encR w a xs) :
  Calls Tryz.prog 47 #[.slice a xs.length c, .int .i64 L] w fun e w' => Below w.heap.size w w' ∧ ∃ r : Int, e = .returned (.int .i64 r) ∧ r ≤ 1048576 ∧ (0 ≤ r → r + (xs.length : Int) ≤ L ∧ xs.length ≤ 1048576 ∧ RFit xs) := by
 have HP : Hid (GRow encR w a xs) := hp
 have HL : Hid (∀ x ∈ xs, x.1.size ≤ maxLen ∧ x.2.size ≤ maxLen) := hl
 clear hp hl
 unfold maxLen at hn
 by_cases hneg : L - (xs.length : Int) < 0
 ·go_enter Tryz.func47, Tryz.ntmps47
  go_wp2
  go_ret
  exact ⟨belowRefl w, -1, rfl, by omega, fun h => by omega⟩
 ·have hneg' : decide (L - (xs.length : Int) < 0) = false := by simpa using hneg
  go_enter Tryz.func47, Tryz.ntmps47
  go_wp2
  go_loopw [1, 5] (fun tl t wr => ∃ (k : Nat) (l : Int), k ≤ xs.length ∧ t = .int .i64 k ∧ tl = .int .i64 l ∧ 0 ≤ l ∧ l ≤ 1048576 ∧ l + (xs.length : Int) ≤ L ∧ Hid (∀ j (hj : j < xs.length), j < k → xs[j].1.size ≤ 1048576 ∧ xs[j].2.size ≤ 1048576) ∧ Hid (Below w.heap.size w wr)) (fun _ t _ => xs.length - (intOf t).toNat)
  case atStart => exact ⟨0, L - (xs.length : Int), Nat.zero_le _, rfl, rfl, by omega, by omega, by omega, fun j hj h => by omega, belowRefl w⟩
  case round =>
   obtain ⟨k, l, hk, rfl, rfl, hl0, hl1, hl2, HA, HB⟩ := hrel
   by_cases hlt : k < xs.length
   ·have hlt' : (k : Int) < (xs.length : Int) := by omega
    have hk0 : (0 : Int) ≤ (k : Int) := by omega
    obtain ⟨b, off, rfl, hbl, hc⟩ := (HP.out.below HB.out) (by omega)
    have r0 := ((rat hc) k hlt).1
    have r1 := ((rat hc) k hlt).2
    have HZ : Hid (xs[k].1.size ≤ maxLen ∧ xs[k].2.size ≤ maxLen) := HL.out _ (List.getElem_mem hlt)
    clear hc
    go_wp2_with fail
    refine (szr xs[k].1 xs[k].2 l hl0 hl1 HZ.out.1 HZ.out.2 _).mono ?_
    rintro e w2 ⟨r, rfl, hr, hb2⟩
    have HB2 : Hid (Below w.heap.size w w2) := HB.out.trans (hb2.mono HB.out.size)
    clear hb2 r0 r1
    by_cases hn2 : r < 0
    ·clear hr
     go_wp2
     go_ret
     exact ⟨HB2.out, -1, rfl, by omega, fun h => by omega⟩
    ·have hn3 : ¬ r < 0 := hn2
     have HR : Hid (0 ≤ r ∧ r ≤ l ∧ (xs[k].1.size : Int) + xs[k].2.size + r = l) := by
      rcases hr with hr | hr
      ·exact absurd hr hn2
      ·exact hr
     have HA2 : Hid (∀ j (hj : j < xs.length), j < k + 1 → xs[j].1.size ≤ 1048576 ∧ xs[j].2.size ≤ 1048576) := fun j hj h => by
      by_cases e : j = k
      ·subst e; have := HR.out; omega
      ·exact HA.out j hj (by omega)
     have hr0 : 0 ≤ r := HR.out.1
     have hr2 : r + (xs.length : Int) ≤ L := by have := HR.out.2.1; omega
     have hr1 : r ≤ 1048576 := Int.le_trans HR.out.2.1 hl1
     clear hn2 hr
     go_wp2
     go_roundw
     case rel => exact ⟨k + 1, r, by omega, by go_num, rfl, hr0, hr1, hr2, HA2, HB2⟩
     case measure => simp [intOf]; omega
   ·have hlt' : ¬ (k : Int) < (xs.length : Int) := by omega
    have HA2 : Hid (∀ x ∈ xs, x.1.size ≤ 1048576 ∧ x.2.size ≤ 1048576) := fun s hs => by
     obtain ⟨j, hj, rfl⟩ := List.getElem_of_mem hs
     exact HA.out j hj (by omega)
    go_wp2
    go_ret
    exact ⟨HB.out, l, rfl, hl1, fun _ => ⟨hl2, by omega, HA2.out⟩⟩

set_option maxRecDepth 100000 in
set_option maxHeartbeats 2000000 in
theorem szT2 (t : Tx) (ra wa : Option Addr) (rc wc : Nat) (L : Int) (h0 : 0 ≤ L) (h1 : L ≤ 1048576) (w : World) (hp : TArg w t ra wa) :
  Calls Tryz.prog 25 #[.agg #[.int .i64 t.id, .int .i64 t.st, .int .i64 t.snap, .int .i64 t.cs, .slice ra t.rs.length rc, .slice wa t.ws.length wc, .bool t.out, .string t.nm], .int .i64 L] w fun e w' => Below w.heap.size w w' ∧ ∃ r : Int, e = .returned (.int .i64 r) ∧ r ≤ 1048576 ∧ (0 ≤ r → r + (t.ws.length : Int) ≤ L ∧ TFit t) := by
 have HP : Hid (TArg w t ra wa) := hp
 have hnm := hp.nm
 unfold maxLen at hnm
 clear hp
 have BX0 : Hid (Bx (w.alloc (.cells #[.int .i64 t.id, .int .i64 t.st, .int .i64 t.snap, .int .i64 t.cs, .slice ra t.rs.length rc, .slice wa t.ws.length wc, .bool t.out, .string t.nm] 81)) w.heap.size [.int .i64 t.id, .int .i64 t.st, .int .i64 t.snap, .int .i64 t.cs, .slice ra t.rs.length rc, .slice wa t.ws.length wc, .bool t.out, .string t.nm]) := Bx.new w [.int .i64 t.id, .int .i64 t.st, .int .i64 t.snap, .int .i64 t.cs, .slice ra t.rs.length rc, .slice wa t.ws.length wc, .bool t.out, .string t.nm] 81
 have HB0 : Hid (Below w.heap.size w (w.alloc (.cells #[.int .i64 t.id, .int .i64 t.st, .int .i64 t.snap, .int .i64 t.cs, .slice ra t.rs.length rc, .slice wa t.ws.length wc, .bool t.out, .string t.nm] 81))) := (belowRefl w).alloc (Nat.le_refl _) _
 go_enter Tryz.func25, Tryz.ntmps25
 go_wp2_with fail
 refine (szSR2 t.rs ra rc HP.out.rl HP.out.rf L h0 h1 _ (HP.out.row.r.below HB0.out)).mono ?_
 rintro e w1 ⟨hb1, r0, rfl, hu0, hr0⟩
 have HR0 : Hid (0 ≤ r0 → r0 + (t.rs.length : Int) ≤ L ∧ t.rs.length ≤ 1048576 ∧ RFit t.rs) := hr0
 have HB1 : Hid (Below w.heap.size w w1) := HB0.out.trans (hb1.mono HB0.out.size)
 have BX1 : Hid (Bx w1 w.heap.size [.int .i64 t.id, .int .i64 t.st, .int .i64 t.snap, .int .i64 t.cs, .slice ra t.rs.length rc, .slice wa t.ws.length wc, .bool t.out, .string t.nm]) := BX0.out.below hb1
 clear hb1 hr0
 by_cases hn0 : r0 < 0
 ·go_wp2
  go_ret
  exact ⟨HB1.out, -1, rfl, by omega, fun h => by omega⟩
 have x5 := BX1.out.c5
 go_wp2_with fail
 refine (szSW2 t.ws wa wc HP.out.wl HP.out.wf r0 (by omega) hu0 _ (HP.out.row.w.below HB1.out)).mono ?_
 rintro e w2 ⟨hb2, r1, rfl, hu1, hr1⟩
 have HR1 : Hid (0 ≤ r1 → r1 + (t.ws.length : Int) ≤ r0 ∧ t.ws.length ≤ 1048576 ∧ WFit t.ws) := hr1
 have HB2 : Hid (Below w.heap.size w w2) := HB1.out.trans (hb2.mono HB1.out.size)
 have BX2 : Hid (Bx w2 w.heap.size [.int .i64 t.id, .int .i64 t.st, .int .i64 t.snap, .int .i64 t.cs, .slice ra t.rs.length rc, .slice wa t.ws.length wc, .bool t.out, .string t.nm]) := BX1.out.below hb2
 clear hb2 hr1 x5
 by_cases hn1 : r1 < 0
 ·go_wp2
  go_ret
  exact ⟨HB2.out, -1, rfl, by omega, fun h => by omega⟩
 have x7 := BX2.out.c7
 have ew : IntKind.i64.wrap (r1 - (t.nm.size : Int)) = r1 - t.nm.size := by rw [IntKind.wrap_i64]; omega
 by_cases hn2 : r1 - (t.nm.size : Int) < 0
 ·go_wp2
  go_ret
  exact ⟨HB2.out, -1, rfl, by omega, fun h => by omega⟩
 ·have hn3 : ¬ r1 - (t.nm.size : Int) < 0 := hn2
  have HT : Hid (TFit t) := ⟨(HR0.out (by omega)).2.1, (HR0.out (by omega)).2.2, (HR1.out (by omega)).2.1, (HR1.out (by omega)).2.2, by omega⟩
  have hsm : r1 - (t.nm.size : Int) + (t.ws.length : Int) ≤ L := by have h1 := (HR0.out (by omega)).1; have h2 := (HR1.out (by omega)).1; omega
  go_wp2
  go_ret
  exact ⟨HB2.out, _, rfl, by omega, fun _ => ⟨hsm, HT.out⟩⟩

set_option maxRecDepth 100000 in
set_option maxHeartbeats 2000000 in
theorem szL2 (xs : List Ta) (a : Option Addr) (c : Nat) (L : Int) (h0 : 0 ≤ L) (h1 : L ≤ 1048576) (w : World) (hp : LArg w a xs) :
  Calls Tryz.prog 10 #[.slice a xs.length c, .int .i64 L] w fun e w' => Below w.heap.size w w' ∧ ∃ r : Int, e = .returned (.int .i64 r) ∧ r ≤ 1048576 ∧ (0 ≤ r → r + (wsum (txs xs) : Int) ≤ L ∧ LFit (txs xs)) := by
 have HP : Hid (LArg w a xs) := hp
 have hn := hp.len
 clear hp
 unfold maxLen at hn
 by_cases hneg : L - (xs.length : Int) < 0
 ·go_enter Tryz.func10, Tryz.ntmps10
  go_wp2
  go_ret
  exact ⟨belowRefl w, -1, rfl, by omega, fun h => by omega⟩
 ·have hneg' : decide (L - (xs.length : Int) < 0) = false := by simpa using hneg
  go_enter Tryz.func10, Tryz.ntmps10
  go_wp2
  go_loopw [1, 5] (fun tl t wr => ∃ (k : Nat) (l : Int), k ≤ xs.length ∧ t = .int .i64 k ∧ tl = .int .i64 l ∧ 0 ≤ l ∧ l ≤ 1048576 ∧ Hid (l + (wsum ((txs xs).take k) : Int) ≤ L) ∧ Hid (∀ j (hj : j < xs.length), j < k → TFit xs[j].t) ∧ Hid (Below w.heap.size w wr)) (fun _ t _ => xs.length - (intOf t).toNat)
  case atStart => exact ⟨0, L - (xs.length : Int), Nat.zero_le _, rfl, rfl, by omega, by omega, (by show _ ≤ _; simp [wsum]; omega), fun j hj h => by omega, belowRefl w⟩
  case round =>
   obtain ⟨k, l, hk, rfl, rfl, hl0, hl1, HSM, HA, HB⟩ := hrel
   by_cases hlt : k < xs.length
   ·have hlt' : (k : Int) < (xs.length : Int) := by omega
    have hk0 : (0 : Int) ≤ (k : Int) := by omega
    have HR0 := hide (HP.out.below HB.out)
    obtain ⟨b, off, rfl, hbl, hc, -⟩ := HR0.out.rows.cls k hlt
    obtain ⟨x, hx⟩ : ∃ x, x = xs[k] := ⟨_, rfl⟩
    rw [← hx] at hc
    have HX : Hid (x = xs[k]) := hx
    have HT : Hid (TArg wr x.t x.ra x.wa) := by rw [hx]; exact HR0.out.each _ (List.getElem_mem hlt)
    clear hx
    have r0 := hc.c0
    have r1 := hc.c1
    have r2 := hc.c2
    have r3 := hc.c3
    have r4 := hc.c4
    have r5 := hc.c5
    have r6 := hc.c6
    have r7 := hc.c7
    clear hc
    go_wp2_with fail
    refine (szT2 x.t x.ra x.wa x.rc x.wc l hl0 hl1 _ HT.out).mono ?_
    rintro e w2 ⟨hb2, r, rfl, hr1, hr⟩
    have HB2 : Hid (Below w.heap.size w w2) := HB.out.trans (hb2.mono HB.out.size)
    have HF : Hid (0 ≤ r → TFit x.t) := fun h => (hr h).2
    have HSM2 : Hid (0 ≤ r → r + (wsum ((txs xs).take (k + 1)) : Int) ≤ L) := fun h => by
     have h1 := (hr h).1
     have h2 := HSM.out
     have h3 := wsum_next (txs xs) k (by rw [txs_len]; exact hlt)
     have h4 : (txs xs)[k]'(by rw [txs_len]; exact hlt) = x.t := by rw [HX.out]; simp [txs]
     rw [h4] at h3
     omega
    clear hb2 hr r0 r1 r2 r3 r4 r5 r6 r7
    by_cases hn2 : r < 0
    ·go_wp2
     go_ret
     exact ⟨HB2.out, -1, rfl, by omega, fun h => by omega⟩
    ·have hn3 : ¬ r < 0 := hn2
     have HA2 : Hid (∀ j (hj : j < xs.length), j < k + 1 → TFit xs[j].t) := fun j hj h => by
      by_cases e : j = k
      ·subst e; rw [← HX.out]; exact HF.out (by omega)
      ·exact HA.out j hj (by omega)
     have hr0 : 0 ≤ r := by omega
     clear hn2
     go_wp2
     go_roundw
     case rel => exact ⟨k + 1, r, by omega, by go_num, rfl, hr0, hr1, HSM2.out hr0, HA2, HB2⟩
     case measure => simp [intOf]; omega
   ·have hlt' : ¬ (k : Int) < (xs.length : Int) := by omega
    have HSM3 : Hid (l + (wsum (txs xs) : Int) ≤ L) := by have h := HSM.out; rw [List.take_of_length_le (by rw [txs_len]; omega)] at h; exact h
    have HA2 : Hid (LFit (txs xs)) := ⟨by rw [txs_len]; omega, fun s hs => by
     obtain ⟨y, hy, rfl⟩ := List.mem_map.1 hs
     obtain ⟨j, hj, rfl⟩ := List.getElem_of_mem hy
     exact HA.out j hj (by omega)⟩
    go_wp2
    go_ret
    exact ⟨HB.out, l, rfl, hl1, fun _ => ⟨HSM3.out, HA2.out⟩⟩

end Go.Proofs.YtmijppfppigjcaaGreat

namespace Go.Proofs.YtmijppfppigjcaaGreat
open Go.RowKit
open DM
attribute [local go_sem ↓] Go.wp_at_zero Go.wp_at_succ

set_option maxRecDepth 100000 in
set_option maxHeartbeats 1000000 in
theorem eq72 (a1 a2 : Option Addr) (c1 c2 : Nat) (ss : List ByteArray) (hn : ss.length ≤ 100000000) (w : World) (h1 : SRow w a1 ss) (h2 : SRow w a2 ss) :
  Calls Tryz.prog 22 #[.slice a1 ss.length c1, .slice a2 ss.length c2] w fun e w' => e = .returned (.bool true) ∧ Below w.heap.size w w' := by
 have H1 : Hid (SRow w a1 ss) := h1
 have H2 : Hid (SRow w a2 ss) := h2
 clear h1 h2
 go_enter Tryz.func22, Tryz.ntmps22
 go_wp2
 go_loopw [5] (fun t wr => ∃ k : Nat, k ≤ ss.length ∧ t = .int .i64 k ∧ Hid (Below w.heap.size w wr)) (fun t _ => ss.length - (intOf t).toNat)
 case atStart => exact ⟨0, Nat.zero_le _, rfl, Below.refl _ _⟩
 case round =>
  obtain ⟨k, hk, rfl, HB⟩ := hrel
  by_cases hlt : k < ss.length
  ·have hlt' : (k : Int) < (ss.length : Int) := by omega
   have h0 : (0 : Int) ≤ (k : Int) := by omega
   obtain ⟨b1, off1, rfl, hl1, q1⟩ := (H1.out.below HB.out) (by omega)
   obtain ⟨b2, off2, rfl, hl2, q2⟩ := (H2.out.below HB.out) (by omega)
   have r1 := q1 k hlt
   have r2 := q2 k hlt
   clear q1 q2
   go_wp2
   go_quiet (fail)
   go_wp2
   go_roundw
   case rel => exact ⟨k + 1, by omega, by go_num, below_drewN HB.out _⟩
   case measure => simp [intOf]; omega
  ·have hd : ¬ (k : Int) < (ss.length : Int) := by omega
   go_wp2
   go_ret
   exact ⟨rfl, HB.out⟩

set_option maxHeartbeats 400000 in
theorem eq86 (x : Int) (t : ByteArray) (w : World) :
  Calls Tryz.prog 113 #[.agg #[.int .i64 x, .string t], .agg #[.int .i64 x, .string t]] w fun e w' => e = .returned (.bool true) ∧ Below w.heap.size w w' := by
 go_enter Tryz.func113, Tryz.ntmps113
 go_wp2
 go_ret
 exact ⟨rfl, ((belowRefl w).alloc (Nat.le_refl _) _).alloc (by simp) _⟩

set_option maxRecDepth 100000 in
set_option maxHeartbeats 1000000 in
theorem eq73 (a1 a2 : Option Addr) (c1 c2 : Nat) (ps : List Wr) (hn : ps.length ≤ 100000000) (w : World) (h1 : PRow w a1 ps) (h2 : PRow w a2 ps) :
  Calls Tryz.prog 74 #[.slice a1 ps.length c1, .slice a2 ps.length c2] w fun e w' => e = .returned (.bool true) ∧ Below w.heap.size w w' := by
 have H1 : Hid (PRow w a1 ps) := h1
 have H2 : Hid (PRow w a2 ps) := h2
 clear h1 h2
 go_enter Tryz.func74, Tryz.ntmps74
 go_wp2
 go_loopw [5] (fun t wr => ∃ k : Nat, k ≤ ps.length ∧ t = .int .i64 k ∧ Hid (Below w.heap.size w wr)) (fun t _ => ps.length - (intOf t).toNat)
 case atStart => exact ⟨0, Nat.zero_le _, rfl, Below.refl _ _⟩
 case round =>
  obtain ⟨k, hk, rfl, HB⟩ := hrel
  by_cases hlt : k < ps.length
  ·have hlt' : (k : Int) < (ps.length : Int) := by omega
   have h0 : (0 : Int) ≤ (k : Int) := by omega
   obtain ⟨b1, off1, rfl, hl1, q1⟩ := (H1.out.below HB.out) (by omega)
   obtain ⟨b2, off2, rfl, hl2, q2⟩ := (H2.out.below HB.out) (by omega)
   have r1 := (q1 k hlt).1
   have s1 := (q1 k hlt).2
   have r2 := (q2 k hlt).1
   have s2 := (q2 k hlt).2
   clear q1 q2
   go_wp2
   go_region_held3 (fun w' => w'.cell? ⟨b1, off1 + k * 2, none⟩ = some (.int .i64 ps[k].1) ∧ w'.cell? ⟨b1, off1 + k * 2 + 1, none⟩ = some (.string ps[k].2) ∧ w'.cell? ⟨b2, off2 + k * 2, none⟩ = some (.int .i64 ps[k].1) ∧ w'.cell? ⟨b2, off2 + k * 2 + 1, none⟩ = some (.string ps[k].2)) (first | go_keep | exact ⟨(hbm.cell (p := ⟨b1, off1 + k * 2, none⟩) hl1).trans r1, (hbm.cell (p := ⟨b1, off1 + k * 2 + 1, none⟩) hl1).trans s1, (hbm.cell (p := ⟨b2, off2 + k * 2, none⟩) hl2).trans r2, (hbm.cell (p := ⟨b2, off2 + k * 2 + 1, none⟩) hl2).trans s2⟩) ((go_at_call 113; refine (eq86 _ _ _).mono ?_; rintro e w2 ⟨rfl, hbm⟩))
   all_goals
    go_wp2
    go_roundw
    case rel => exact ⟨k + 1, by omega, by go_num, (HB.out.drew).trans (hbm.mono HB.out.size)⟩
    case measure => simp [intOf]; omega
  ·have hd : ¬ (k : Int) < (ps.length : Int) := by omega
   go_wp2
   go_ret
   exact ⟨rfl, HB.out⟩

set_option maxRecDepth 100000 in
set_option maxHeartbeats 1000000 in
theorem eq40 (a1 a2 b1 b2 : Option Addr) (c1 c2 d1 d2 : Nat) (ss : List ByteArray) (ps : List Wr) (hn : ss.length ≤ 100000000) (hm : ps.length ≤ 100000000) (w : World) (h1 : SRow w a1 ss) (h2 : PRow w a2 ps) (h3 : SRow w b1 ss) (h4 : PRow w b2 ps) :
  Calls Tryz.prog 43 #[.agg #[.slice a1 ss.length c1, .slice a2 ps.length c2], .agg #[.slice b1 ss.length d1, .slice b2 ps.length d2]] w fun e w' => e = .returned (.bool true) ∧ Below w.heap.size w w' := by
 have H1 : Hid (SRow w a1 ss) := h1
 have H2 : Hid (PRow w a2 ps) := h2
 have H3 : Hid (SRow w b1 ss) := h3
 have H4 : Hid (PRow w b2 ps) := h4
 clear h1 h2 h3 h4
 go_enter Tryz.func43, Tryz.ntmps43
 go_wp2_with fail
 refine (eq72 a1 b1 c1 d1 ss hn _ (H1.out.below (((belowRefl w).alloc (Nat.le_refl _) _).alloc (by simp) _)) (H3.out.below (((belowRefl w).alloc (Nat.le_refl _) _).alloc (by simp) _))).mono ?_
 rintro e w1 ⟨rfl, hb1⟩
 have HB1 : Hid (Below w.heap.size w w1) := (((belowRefl w).alloc (Nat.le_refl _) _).alloc (by simp) _).trans (hb1.mono (by simp; omega))
 obtain ⟨hc1, hf1⟩ := bcell hb1
 clear hb1
 go_wp2_with fail
 refine (eq73 a2 b2 c2 d2 ps hm _ (H2.out.below HB1.out) (H4.out.below HB1.out)).mono ?_
 rintro e w2 ⟨rfl, hb2⟩
 have HB2 : Hid (Below w.heap.size w w2) := HB1.out.trans (hb2.mono HB1.out.size)
 clear hb2
 go_wp2
 go_ret
 exact ⟨rfl, HB2.out⟩
end Go.Proofs.YtmijppfppigjcaaGreat

namespace Go.Proofs.YtmijppfppigjcaaGreat
open Go.RowKit
open DM
attribute [local go_sem ↓] Go.wp_at_zero Go.wp_at_succ

theorem SRow.drew {w : World} {a : Option Addr} {ss : List ByteArray} (h : SRow w a ss) : SRow w.drew a ss := h
theorem PRow.drew {w : World} {a : Option Addr} {ps : List Wr} (h : PRow w a ps) : PRow w.drew a ps := h
end Go.Proofs.YtmijppfppigjcaaGreat
