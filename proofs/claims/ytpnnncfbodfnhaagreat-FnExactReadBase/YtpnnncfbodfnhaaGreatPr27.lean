/- What impl.ReadBase returns. -/
import Derived.Test.YtpnnncfbodfnhaaGreatPr22
import Derived.Test.YtpnnncfbodfnhaaGreatPr24
import Derived.Defers
import Derived.Recover
import Derived.Laws.Pointers
namespace Go.Proofs.YtpnnncfbodfnhaaGreat
open Go.RowKit
open KM
open VM
attribute [local go_sem ↓] Go.wp_at_zero Go.wp_at_succ

set_option maxRecDepth 100000 in
set_option maxHeartbeats 2000000 in
theorem iclob (x : ByteArray) (rb ob g : Nat) (p : Int) (hs : x.size ≤ 1048576) (hog : ob ≠ g) (w : World) (hr : Bx w rb [.pointer (some ⟨g, 0, none⟩)]) (ho : Bx w ob [.slice none 0 0, .slice none 0 0, .slice none 0 0, .int .i64 0, .int .i64 0]) (hd : Rd w g x p) :
  Calls Tryz.prog 52 #[.pointer (some ⟨rb, 0, none⟩), .pointer (some ⟨ob, 0, none⟩)] w fun e w' => Kn [g, ob] w w' ∧ ((e = .panicked PAN ∧ rBs x p = none) ∨ ∃ s q c, rBs x p = some (s, q) ∧ q ≤ x.size ∧ e = .returned (.tuple #[]) ∧ BSame s c ∧ BLie w' w.heap.size w'.heap.size c ∧ Rd w' g x (q : Int) ∧ Bx w' ob [.slice c.va c.vs.length c.vc, .slice c.pa c.ps.length c.pc, .slice c.qa c.qs.length c.qc, .int .i64 c.cs, .int .i64 c.nx]) := by
 have HR : Hid (Bx w rb [.pointer (some ⟨g, 0, none⟩)]) := hr
 have HO : Hid (Bx w ob [.slice none 0 0, .slice none 0 0, .slice none 0 0, .int .i64 0, .int .i64 0]) := ho
 have HD : Hid (Rd w g x p) := hd
 have hol := ho.lt
 have r0 := hr.c0
 clear hr ho hd
 go_enter Tryz.func52, Tryz.ntmps52
 go_wp2_with fail
 refine (ibs x g p hs _ HD.out).mono ?_
 rintro e w1 ⟨hg, ⟨rfl, hx⟩ | ⟨s, q, c, hx, hq, rfl, hsm, hl, hd⟩⟩
 ·have HK : Hid (Kn [g, ob] w w1) := ⟨hg.os, hg.tape, hg.output, hg.size, fun j hj hn => hg.block j hj (fun e => hn (by simp [Option.some.inj e]))⟩
  have HX := hide hx
  clear hx hg r0
  go_wp2
  exact ⟨rfl, HK.out, Or.inl ⟨rfl, HX.out⟩⟩
 ·have HK : Hid (Kn [g, ob] w w1) := ⟨hg.os, hg.tape, hg.output, hg.size, fun j hj hn => hg.block j hj (fun e => hn (by simp [Option.some.inj e]))⟩
  have HX := hide hx
  have HQ := hide hq
  have HL := hide hl
  have HM := hide hsm
  have HD1 := hide hd
  have HO1 := hide (HO.out.grown hg hog)
  clear hx hq hl hd hg r0 HR HO HD hsm
  have q0_ := HO1.out.c0
  have fq0 := HO1.out.fz 0
  have q1_ := HO1.out.c1
  have fq1 := HO1.out.fz 1
  have q2_ := HO1.out.c2
  have fq2 := HO1.out.fz 2
  have q3_ := HO1.out.c3
  have fq3 := HO1.out.fz 3
  have q4_ := HO1.out.c4
  have fq4 := HO1.out.fz 4
  go_wp2
  go_end0
  have hb : ∀ x ∈ [ob], x ∈ [g, ob] := fun x hx => by rw [List.mem_singleton.1 hx]; simp
  refine ⟨?_, Or.inr ⟨s, q, c, HX.out, HQ.out, rfl, HM.out, ?_, ?_, ?_⟩⟩
  ·exact ((((HK.out.trans ((Kn.set _ ob 0 _).mono hb)).trans ((Kn.set _ ob 1 _).mono hb)).trans ((Kn.set _ ob 2 _).mono hb)).trans ((Kn.set _ ob 3 _).mono hb)).trans ((Kn.set _ ob 4 _).mono hb)
  ·exact (((((HL.out.set (a := ⟨ob, 0, none⟩) hol _).set (a := ⟨ob, 1, none⟩) hol _).set (a := ⟨ob, 2, none⟩) hol _).set (a := ⟨ob, 3, none⟩) hol _).set (a := ⟨ob, 4, none⟩) hol _).mono (Nat.le_refl _) (by simp [World.setCell])
  ·exact ((((HD1.out.setO (p := ⟨ob, 0, none⟩) hog _).setO (p := ⟨ob, 1, none⟩) hog _).setO (p := ⟨ob, 2, none⟩) hog _).setO (p := ⟨ob, 3, none⟩) hog _).setO (p := ⟨ob, 4, none⟩) hog _
  ·exact ((((HO1.out.set 0 _).set 1 _).set 2 _).set 3 _).set 4 _

set_option maxRecDepth 100000 in
set_option maxHeartbeats 2000000 in
theorem iwholeb (x : ByteArray) (rb ob g : Nat) (p : Int) (hs : x.size ≤ 1048576) (hog : ob ≠ g) (w : World) (hr : Bx w rb [.pointer (some ⟨g, 0, none⟩)]) (ho : Bx w ob [.slice none 0 0, .slice none 0 0, .slice none 0 0, .int .i64 0, .int .i64 0]) (hd : Rd w g x p) :
  Calls Tryz.prog 51 #[.func (.func 52) #[] #[.pointer (some ⟨rb, 0, none⟩), .pointer (some ⟨ob, 0, none⟩)]] w fun e w' => Kn [g, ob] w w' ∧ ((e = .returned (.bool false) ∧ rBs x p = none) ∨ ∃ s q c, rBs x p = some (s, q) ∧ q ≤ x.size ∧ e = .returned (.bool true) ∧ BSame s c ∧ BLie w' w.heap.size w'.heap.size c ∧ Rd w' g x (q : Int) ∧ Bx w' ob [.slice c.va c.vs.length c.vc, .slice c.pa c.ps.length c.pc, .slice c.qa c.qs.length c.qc, .int .i64 c.cs, .int .i64 c.nx]) := by
 have hmf : ∀ (fn : Fn) (first cap : Array Value) (w : World), (Instr.makeFunc fn first cap).run Tryz.prog w = .ok (.func fn first cap) w := fun _ _ _ _ => rfl
 have hol := ho.lt
 have hgl := hd.lt
 have HR : Hid (Bx (w.alloc (.cells #[.bool false] 4)) rb [.pointer (some ⟨g, 0, none⟩)]) := hr.alloc _
 have HO : Hid (Bx (w.alloc (.cells #[.bool false] 4)) ob [.slice none 0 0, .slice none 0 0, .slice none 0 0, .int .i64 0, .int .i64 0]) := ho.alloc _
 have HD : Hid (Rd (w.alloc (.cells #[.bool false] 4)) g x p) := hd.alloc _
 have HC : Hid (Bx (w.alloc (.cells #[.bool false] 4)) w.heap.size [.bool false]) := Bx.new w [.bool false] 4
 have HB : Hid (Below w.heap.size w (w.alloc (.cells #[.bool false] 4))) := (belowRefl w).alloc (Nat.le_refl _) _
 have hcg : w.heap.size ∉ [g, ob] := by simp; omega
 clear hr ho hd
 go_enter_defers Tryz.func51, Tryz.ntmps51
 go_wp2_with fail
 generalize hWW : (w.alloc (.cells #[.bool false] 4)) = W1 at HR HO HD HC HB ⊢
 have HS1 : Hid (w.heap.size < W1.heap.size) := HC.out.lt
 have HS : Hid (w.heap.size ≤ W1.heap.size) := HB.out.size
 clear hWW
 refine (iclob x rb ob g p hs hog _ HR.out HO.out HD.out).mono ?_
 rintro e w1 ⟨hk, ⟨rfl, hx⟩ | ⟨s, q, c, hx, hq, rfl, hsm, hl, hd, ho⟩⟩
 ·have HC1 := hide (HC.out.kn hk hcg)
  have HK := hide hk
  have HX := hide hx
  clear hk hx HC
  go_wp2
  refine leaves_cons (f := 92) (args := #[.pointer (some ⟨w.heap.size, 0, none⟩)]) (by simp) (by simp [go_sem]) ?_
  refine (catch_pan w.heap.size false _ HC1.out.c0 (HC1.out.fz 0) HC1.out.lt).mono ?_
  rintro e u' w2 ⟨rfl, rfl, rfl⟩
  have q0 := ((HC1.out.set 0 (.bool false)).alloc (.cells #[] 152)).c0
  refine ⟨.bool false, by simp [results, Tryz.results51, go_sem, q0], ?_, Or.inl ⟨rfl, HX.out⟩⟩
  exact kn_new HB.out HK.out (below_ca (Nat.le_trans HS.out HK.out.size) _)
 ·have HC1 := hide (HC.out.kn hk hcg)
  have HK := hide hk
  have HX := hide hx
  have HQ := hide hq
  have HL := hide hl
  have HM := hide hsm
  have HD1 := hide hd
  have HO1 := hide ho
  clear hk hx hq hl hd ho HC hsm
  go_wp2
  refine leaves_cons (f := 92) (args := #[.pointer (some ⟨w.heap.size, 0, none⟩)]) (by simp) (by simp [go_sem]) ?_
  refine (catch_idle w.heap.size false _ HC1.out.c0 (HC1.out.fz 0) HC1.out.lt).mono ?_
  rintro e u' w2 ⟨rfl, rfl, rfl⟩
  have q0 := ((HC1.out.set 0 (.bool true)).alloc (.cells #[] 152)).c0
  have hne : ∀ v, Below w.heap.size w1 ((w1.setCell ⟨w.heap.size, 0, none⟩ v).alloc (.cells #[] 152)) := fun v => below_ca (Nat.le_trans HS.out HK.out.size) v
  refine ⟨.bool true, by simp [results, Tryz.results51, go_sem, q0], ?_, Or.inr ⟨s, q, c, HX.out, HQ.out, rfl, HM.out, ?_, ?_, ?_⟩⟩
  ·exact kn_new HB.out HK.out (hne _)
  ·refine (BLie.mono (((HL.out.set (a := ⟨w.heap.size, 0, none⟩) HS1.out _)).below ((belowRefl _).alloc (Nat.le_refl _) _)) HS.out ?_)
   simp [World.setCell]
  ·exact (HD1.out.setO (p := ⟨w.heap.size, 0, none⟩) (by show w.heap.size ≠ g; omega) _).alloc _
  ·exact (HO1.out.setO (p := ⟨w.heap.size, 0, none⟩) (by show w.heap.size ≠ ob; omega) _).alloc _

def zB : Bb := ⟨[], [], [], 0, 0, none, 0, none, 0, none, 0⟩
def ansB : Option (Bb × Nat) → Bb × Nat × Bool
 | none => (zB, 0, false)
 | some r => (r.1, r.2, true)
theorem zBlie (w : World) (lo hi : Nat) (h : lo ≤ hi) : BLie w lo hi zB := ⟨hi, hi, h, Nat.le_refl _, Nat.le_refl _, ⟨World.ownsRow_nil _ _ _ _, fun g hg => by cases hg⟩, ⟨⟨World.ownsRow_nil _ _ _ _, fun g hg => by cases hg⟩, (show hi ≤ hi from Nat.le_refl _)⟩, ⟨⟨World.ownsRow_nil _ _ _ _, fun g hg => by cases hg⟩, (show hi ≤ hi from Nat.le_refl _)⟩⟩

set_option maxRecDepth 100000 in
set_option maxHeartbeats 4000000 in
theorem irb (x : ByteArray) (p : Int) (hs : x.size ≤ 1048576) (s : Bb) (q : Nat) (bo : Bool) (ha : ansB (rBs x p) = (s, q, bo)) (w : World) :
  Calls Tryz.prog 18 #[.string x, .int .i64 p] w fun e w' => ∃ c, e = .returned (.tuple #[.agg #[.slice c.va c.vs.length c.vc, .slice c.pa c.ps.length c.pc, .slice c.qa c.qs.length c.qc, .int .i64 c.cs, .int .i64 c.nx], .int .i64 (q : Int), .bool bo]) ∧ BSame s c ∧ BLie w' w.heap.size w'.heap.size c ∧ Below w.heap.size w w' := by
 have hmf : ∀ (fn : Fn) (first cap : Array Value) (w : World), (Instr.makeFunc fn first cap).run Tryz.prog w = .ok (.func fn first cap) w := fun _ _ _ _ => rfl
 have HA : Hid (ansB (rBs x p) = (s, q, bo)) := ha
 clear ha
 have B0 : Hid (Bx ((((w.alloc (.cells #[.slice none 0 0, .slice none 0 0, .slice none 0 0, .int .i64 0, .int .i64 0] 41)).alloc (.cells #[.string x, .int .i64 p] 101)).alloc (.cells #[.pointer (some ⟨w.heap.size + 1, 0, none⟩)] 99)).alloc (.cells #[.slice none 0 0, .slice none 0 0, .slice none 0 0, .int .i64 0, .int .i64 0] 41)) w.heap.size [.slice none 0 0, .slice none 0 0, .slice none 0 0, .int .i64 0, .int .i64 0]) := (((Bx.new w [.slice none 0 0, .slice none 0 0, .slice none 0 0, .int .i64 0, .int .i64 0] 41).alloc _).alloc _).alloc _
 have BG : Hid (Rd ((((w.alloc (.cells #[.slice none 0 0, .slice none 0 0, .slice none 0 0, .int .i64 0, .int .i64 0] 41)).alloc (.cells #[.string x, .int .i64 p] 101)).alloc (.cells #[.pointer (some ⟨w.heap.size + 1, 0, none⟩)] 99)).alloc (.cells #[.slice none 0 0, .slice none 0 0, .slice none 0 0, .int .i64 0, .int .i64 0] 41)) (w.heap.size + 1) x p) := by
  have h := Bx.new (w.alloc (.cells #[.slice none 0 0, .slice none 0 0, .slice none 0 0, .int .i64 0, .int .i64 0] 41)) [.string x, .int .i64 p] 101
  rw [World.size_alloc] at h
  exact (h.alloc _).alloc _
 have BR : Hid (Bx ((((w.alloc (.cells #[.slice none 0 0, .slice none 0 0, .slice none 0 0, .int .i64 0, .int .i64 0] 41)).alloc (.cells #[.string x, .int .i64 p] 101)).alloc (.cells #[.pointer (some ⟨w.heap.size + 1, 0, none⟩)] 99)).alloc (.cells #[.slice none 0 0, .slice none 0 0, .slice none 0 0, .int .i64 0, .int .i64 0] 41)) (w.heap.size + 1 + 1) [.pointer (some ⟨w.heap.size + 1, 0, none⟩)]) := by
  have h := Bx.new ((w.alloc (.cells #[.slice none 0 0, .slice none 0 0, .slice none 0 0, .int .i64 0, .int .i64 0] 41)).alloc (.cells #[.string x, .int .i64 p] 101)) [.pointer (some ⟨w.heap.size + 1, 0, none⟩)] 99
  rw [World.size_alloc, World.size_alloc] at h
  exact h.alloc _
 have BO : Hid (Bx ((((w.alloc (.cells #[.slice none 0 0, .slice none 0 0, .slice none 0 0, .int .i64 0, .int .i64 0] 41)).alloc (.cells #[.string x, .int .i64 p] 101)).alloc (.cells #[.pointer (some ⟨w.heap.size + 1, 0, none⟩)] 99)).alloc (.cells #[.slice none 0 0, .slice none 0 0, .slice none 0 0, .int .i64 0, .int .i64 0] 41)) (w.heap.size + 1 + 1 + 1) [.slice none 0 0, .slice none 0 0, .slice none 0 0, .int .i64 0, .int .i64 0]) := by
  have h := Bx.new (((w.alloc (.cells #[.slice none 0 0, .slice none 0 0, .slice none 0 0, .int .i64 0, .int .i64 0] 41)).alloc (.cells #[.string x, .int .i64 p] 101)).alloc (.cells #[.pointer (some ⟨w.heap.size + 1, 0, none⟩)] 99)) [.slice none 0 0, .slice none 0 0, .slice none 0 0, .int .i64 0, .int .i64 0] 41
  rw [World.size_alloc, World.size_alloc, World.size_alloc] at h
  exact h
 have HB : Hid (Below w.heap.size w ((((w.alloc (.cells #[.slice none 0 0, .slice none 0 0, .slice none 0 0, .int .i64 0, .int .i64 0] 41)).alloc (.cells #[.string x, .int .i64 p] 101)).alloc (.cells #[.pointer (some ⟨w.heap.size + 1, 0, none⟩)] 99)).alloc (.cells #[.slice none 0 0, .slice none 0 0, .slice none 0 0, .int .i64 0, .int .i64 0] 41))) := ((((belowRefl w).alloc (Nat.le_refl _) _).alloc (by simp) _).alloc (by simp; omega) _).alloc (by simp; omega) _
 have HS : Hid (((((w.alloc (.cells #[.slice none 0 0, .slice none 0 0, .slice none 0 0, .int .i64 0, .int .i64 0] 41)).alloc (.cells #[.string x, .int .i64 p] 101)).alloc (.cells #[.pointer (some ⟨w.heap.size + 1, 0, none⟩)] 99)).alloc (.cells #[.slice none 0 0, .slice none 0 0, .slice none 0 0, .int .i64 0, .int .i64 0] 41)).heap.size = w.heap.size + 1 + 1 + 1 + 1) := by show _ = _; rw [World.size_alloc, World.size_alloc, World.size_alloc, World.size_alloc]
 go_enter Tryz.func18, Tryz.ntmps18
 go_wp2_with fail
 generalize hWW : ((((w.alloc (.cells #[.slice none 0 0, .slice none 0 0, .slice none 0 0, .int .i64 0, .int .i64 0] 41)).alloc (.cells #[.string x, .int .i64 p] 101)).alloc (.cells #[.pointer (some ⟨w.heap.size + 1, 0, none⟩)] 99)).alloc (.cells #[.slice none 0 0, .slice none 0 0, .slice none 0 0, .int .i64 0, .int .i64 0] 41)) = W at B0 BG BR BO HB HS ⊢
 clear hWW
 refine (iwholeb x (w.heap.size + 1 + 1) (w.heap.size + 1 + 1 + 1) (w.heap.size + 1) p hs (by omega) _ BR.out BO.out BG.out).mono ?_
 rintro e w1 ⟨hk, ⟨rfl, hx⟩ | ⟨s', q', c, hx, hq, rfl, hsm, hl, hd, ho⟩⟩
 ·have B1 := hide (B0.out.kn hk (by simp <;> omega))
  have HB1 : Hid (Below w.heap.size w w1) := HB.out.trans (hk.below (by have := HS.out; omega) (by simp <;> omega))
  have h := HA.out
  rw [hx] at h
  cases h
  clear hx hk B0 BG BR BO HB
  have q0_ := B1.out.c0
  have fq0 := B1.out.fz 0
  have q1_ := B1.out.c1
  have fq1 := B1.out.fz 1
  have q2_ := B1.out.c2
  have fq2 := B1.out.fz 2
  have q3_ := B1.out.c3
  have fq3 := B1.out.fz 3
  have q4_ := B1.out.c4
  have fq4 := B1.out.fz 4
  go_wp2
  have HBF : Below w.heap.size w (((((w1.setCell ⟨w.heap.size, 0, none⟩ (.slice none 0 0)).setCell ⟨w.heap.size, 1, none⟩ (.slice none 0 0)).setCell ⟨w.heap.size, 2, none⟩ (.slice none 0 0)).setCell ⟨w.heap.size, 3, none⟩ (.int .i64 0)).setCell ⟨w.heap.size, 4, none⟩ (.int .i64 0)) := ((((HB1.out.setCell (p := ⟨w.heap.size, 0, none⟩) (Nat.le_refl _) _).setCell (p := ⟨w.heap.size, 1, none⟩) (Nat.le_refl _) _).setCell (p := ⟨w.heap.size, 2, none⟩) (Nat.le_refl _) _).setCell (p := ⟨w.heap.size, 3, none⟩) (Nat.le_refl _) _).setCell (p := ⟨w.heap.size, 4, none⟩) (Nat.le_refl _) _
  refine bodyPost_ret (v := .tuple #[.agg #[.slice none 0 0, .slice none 0 0, .slice none 0 0, .int .i64 0, .int .i64 0], .int .i64 0, .bool false]) (by simp [results, Tryz.results18, go_sem, q0_, q1_, q2_, q3_, q4_]) rfl ⟨zB, rfl, ⟨rfl, rfl, rfl, rfl, rfl⟩, zBlie _ _ _ HBF.size, HBF⟩
 ·have B1 := hide (B0.out.kn hk (by simp <;> omega))
  have R1 := hide (BR.out.kn hk (by simp <;> omega))
  have HB1 : Hid (Below w.heap.size w w1) := HB.out.trans (hk.below (by have := HS.out; omega) (by simp <;> omega))
  have G1 := hide hd
  have O1 := hide ho
  have HL := hide hl
  have HM := hide hsm
  have h := HA.out
  rw [hx] at h
  obtain ⟨rfl, rfl, rfl⟩ : s = s' ∧ q = q' ∧ bo = true := by cases h; exact ⟨rfl, rfl, rfl⟩
  clear h
  clear hx hk B0 BG BR BO HB hl hd ho hsm
  go_wp2
  refine wp_region_held_drew (S := fun w' => w'.cell? ⟨w.heap.size + 1 + 1 + 1, 0, none⟩ = some (.slice c.va c.vs.length c.vc) ∧ w'.cell? ⟨w.heap.size + 1 + 1 + 1, 1, none⟩ = some (.slice c.pa c.ps.length c.pc) ∧ w'.cell? ⟨w.heap.size + 1 + 1 + 1, 2, none⟩ = some (.slice c.qa c.qs.length c.qc) ∧ w'.cell? ⟨w.heap.size + 1 + 1 + 1, 3, none⟩ = some (.int .i64 c.cs) ∧ w'.cell? ⟨w.heap.size + 1 + 1 + 1, 4, none⟩ = some (.int .i64 c.nx) ∧ w'.cell? ⟨w.heap.size + 1 + 1, 0, none⟩ = some (.pointer (some ⟨w.heap.size + 1, 0, none⟩)) ∧ w'.cell? ⟨w.heap.size + 1, 1, none⟩ = some (.int .i64 (q : Int))) (by kernel_rfl) ⟨O1.out.c0, O1.out.c1, O1.out.c2, O1.out.c3, O1.out.c4, R1.out.c0, G1.out.c1⟩ (fun hHeld => ?_)
  (refine wpAnyH_take (i := 0) (v := ?_) rfl (by kernel_rfl) (by kernel_rfl) (by kernel_rfl) (fun _ _ _ h => h) (Or.inl ⟨by rfl, ?_⟩) (by assumption) ?_; rotate_left; (focus (intro w hSw; (try dsimp only at hSw); go_simp; (try with_reducible rfl); done)); simp only [Act.put, List.getElem_toArray, List.getElem_cons_zero, List.setIfInBounds_toArray, List.set_cons_zero, List.set_cons_succ])
  (refine wpAnyH_take (i := 1) (v := ?_) rfl (by kernel_rfl) (by kernel_rfl) (by kernel_rfl) (fun _ _ _ h => h) (Or.inl ⟨by rfl, ?_⟩) (by assumption) ?_; rotate_left; (focus (intro w hSw; (try dsimp only at hSw); go_simp; (try with_reducible rfl); done)); simp only [Act.put, List.getElem_toArray, List.getElem_cons_zero, List.getElem_cons_succ, List.setIfInBounds_toArray, List.set_cons_zero, List.set_cons_succ])
  (refine wpAnyH_take (i := 2) (v := ?_) rfl (by kernel_rfl) (by kernel_rfl) (by kernel_rfl) (fun _ _ _ h => h) (Or.inl ⟨by rfl, ?_⟩) (by assumption) ?_; rotate_left; (focus (intro w hSw; (try dsimp only at hSw); go_simp; (try with_reducible rfl); done)); simp only [Act.put, List.getElem_toArray, List.getElem_cons_zero, List.getElem_cons_succ, List.setIfInBounds_toArray, List.set_cons_zero, List.set_cons_succ])
  (refine wpAnyH_take (i := 3) (v := ?_) rfl (by kernel_rfl) (by kernel_rfl) (by kernel_rfl) (fun _ _ _ h => h) (Or.inl ⟨by rfl, ?_⟩) (by assumption) ?_; rotate_left; (focus (intro w hSw; (try dsimp only at hSw); go_simp; (try with_reducible rfl); done)); simp only [Act.put, List.getElem_toArray, List.getElem_cons_zero, List.getElem_cons_succ, List.setIfInBounds_toArray, List.set_cons_zero, List.set_cons_succ])
  (refine wpAnyH_take (i := 4) (v := ?_) rfl (by kernel_rfl) (by kernel_rfl) (by kernel_rfl) (fun _ _ _ h => h) (Or.inl ⟨by rfl, ?_⟩) (by assumption) ?_; rotate_left; (focus (intro w hSw; (try dsimp only at hSw); go_simp; (try with_reducible rfl); done)); simp only [Act.put, List.getElem_toArray, List.getElem_cons_zero, List.getElem_cons_succ, List.setIfInBounds_toArray, List.set_cons_zero, List.set_cons_succ])
  have B2 : Hid (Bx w1.drew w.heap.size [.slice none 0 0, .slice none 0 0, .slice none 0 0, .int .i64 0, .int .i64 0]) := B1.out.drew
  have O2 : Hid (Bx w1.drew (w.heap.size + 1 + 1 + 1) [.slice c.va c.vs.length c.vc, .slice c.pa c.ps.length c.pc, .slice c.qa c.qs.length c.qc, .int .i64 c.cs, .int .i64 c.nx]) := O1.out.drew
  have R2 : Hid (Bx w1.drew (w.heap.size + 1 + 1) [.pointer (some ⟨w.heap.size + 1, 0, none⟩)]) := R1.out.drew
  have G2 : Hid (Rd w1.drew (w.heap.size + 1) x (q : Int)) := G1.out.drew
  have HB2 : Hid (Below w.heap.size w w1.drew) := HB1.out.drew
  have HL2 : Hid (BLie w1.drew W.heap.size w1.drew.heap.size c) := HL.out.below (belowRefl w1).drew
  clear hHeld B1 O1 R1 G1 HB1 HL
  generalize w1.drew = wd at *
  have q0_ := B2.out.c0
  have fq0 := B2.out.fz 0
  have q1_ := B2.out.c1
  have fq1 := B2.out.fz 1
  have q2_ := B2.out.c2
  have fq2 := B2.out.fz 2
  have q3_ := B2.out.c3
  have fq3 := B2.out.fz 3
  have q4_ := B2.out.c4
  have fq4 := B2.out.fz 4
  refine wpAnyH_ready (rs := [5]) (by kernel_rfl) (by simp) ?_
  refine AllReadyH.cons rfl (fun K hK => ?_) AllReadyH.nil
  go_simp
  have O3 : Bx (((((wd.setCell ⟨w.heap.size, 0, none⟩ (.slice c.va c.vs.length c.vc)).setCell ⟨w.heap.size, 1, none⟩ (.slice c.pa c.ps.length c.pc)).setCell ⟨w.heap.size, 2, none⟩ (.slice c.qa c.qs.length c.qc)).setCell ⟨w.heap.size, 3, none⟩ (.int .i64 c.cs)).setCell ⟨w.heap.size, 4, none⟩ (.int .i64 c.nx)) (w.heap.size + 1 + 1 + 1) [.slice c.va c.vs.length c.vc, .slice c.pa c.ps.length c.pc, .slice c.qa c.qs.length c.qc, .int .i64 c.cs, .int .i64 c.nx] := ((((O2.out.setO (p := ⟨w.heap.size, 0, none⟩) (by show w.heap.size ≠ _; omega) _).setO (p := ⟨w.heap.size, 1, none⟩) (by show w.heap.size ≠ _; omega) _).setO (p := ⟨w.heap.size, 2, none⟩) (by show w.heap.size ≠ _; omega) _).setO (p := ⟨w.heap.size, 3, none⟩) (by show w.heap.size ≠ _; omega) _).setO (p := ⟨w.heap.size, 4, none⟩) (by show w.heap.size ≠ _; omega) _
  have R3 : Bx (((((wd.setCell ⟨w.heap.size, 0, none⟩ (.slice c.va c.vs.length c.vc)).setCell ⟨w.heap.size, 1, none⟩ (.slice c.pa c.ps.length c.pc)).setCell ⟨w.heap.size, 2, none⟩ (.slice c.qa c.qs.length c.qc)).setCell ⟨w.heap.size, 3, none⟩ (.int .i64 c.cs)).setCell ⟨w.heap.size, 4, none⟩ (.int .i64 c.nx)) (w.heap.size + 1 + 1) [.pointer (some ⟨w.heap.size + 1, 0, none⟩)] := ((((R2.out.setO (p := ⟨w.heap.size, 0, none⟩) (by show w.heap.size ≠ _; omega) _).setO (p := ⟨w.heap.size, 1, none⟩) (by show w.heap.size ≠ _; omega) _).setO (p := ⟨w.heap.size, 2, none⟩) (by show w.heap.size ≠ _; omega) _).setO (p := ⟨w.heap.size, 3, none⟩) (by show w.heap.size ≠ _; omega) _).setO (p := ⟨w.heap.size, 4, none⟩) (by show w.heap.size ≠ _; omega) _
  have G3 : Rd (((((wd.setCell ⟨w.heap.size, 0, none⟩ (.slice c.va c.vs.length c.vc)).setCell ⟨w.heap.size, 1, none⟩ (.slice c.pa c.ps.length c.pc)).setCell ⟨w.heap.size, 2, none⟩ (.slice c.qa c.qs.length c.qc)).setCell ⟨w.heap.size, 3, none⟩ (.int .i64 c.cs)).setCell ⟨w.heap.size, 4, none⟩ (.int .i64 c.nx)) (w.heap.size + 1) x (q : Int) := ((((G2.out.setO (p := ⟨w.heap.size, 0, none⟩) (by show w.heap.size ≠ _; omega) _).setO (p := ⟨w.heap.size, 1, none⟩) (by show w.heap.size ≠ _; omega) _).setO (p := ⟨w.heap.size, 2, none⟩) (by show w.heap.size ≠ _; omega) _).setO (p := ⟨w.heap.size, 3, none⟩) (by show w.heap.size ≠ _; omega) _).setO (p := ⟨w.heap.size, 4, none⟩) (by show w.heap.size ≠ _; omega) _
  refine hK.out _ _ ⟨O3.c0, O3.c1, O3.c2, O3.c3, O3.c4, R3.c0, G3.c1⟩ (fun hHeld2 => ?_)
  clear hK K
  (refine wpAnyH_take (i := 6) (v := ?_) rfl (by kernel_rfl) (by kernel_rfl) (by kernel_rfl) (fun _ _ _ h => h) (Or.inl ⟨by rfl, ?_⟩) (by assumption) ?_; rotate_left; (focus (intro w hSw; (try dsimp only at hSw); go_simp; (try with_reducible rfl); done)); simp only [Act.put, List.getElem_toArray, List.getElem_cons_zero, List.getElem_cons_succ, List.setIfInBounds_toArray, List.set_cons_zero, List.set_cons_succ])
  (refine wpAnyH_take (i := 7) (v := ?_) rfl (by kernel_rfl) (by kernel_rfl) (by kernel_rfl) (fun _ _ _ h => h) (Or.inl ⟨by rfl, ?_⟩) (by assumption) ?_; rotate_left; (focus (intro w hSw; (try dsimp only at hSw); go_simp; (try with_reducible rfl); done)); simp only [Act.put, List.getElem_toArray, List.getElem_cons_zero, List.getElem_cons_succ, List.setIfInBounds_toArray, List.set_cons_zero, List.set_cons_succ])
  refine wpAnyH_done (by kernel_rfl) ?_ _
  have BF : Hid (Bx (((((wd.setCell ⟨w.heap.size, 0, none⟩ (.slice c.va c.vs.length c.vc)).setCell ⟨w.heap.size, 1, none⟩ (.slice c.pa c.ps.length c.pc)).setCell ⟨w.heap.size, 2, none⟩ (.slice c.qa c.qs.length c.qc)).setCell ⟨w.heap.size, 3, none⟩ (.int .i64 c.cs)).setCell ⟨w.heap.size, 4, none⟩ (.int .i64 c.nx)) w.heap.size [.slice c.va c.vs.length c.vc, .slice c.pa c.ps.length c.pc, .slice c.qa c.qs.length c.qc, .int .i64 c.cs, .int .i64 c.nx]) := ((((B2.out.set 0 _).set 1 _).set 2 _).set 3 _).set 4 _
  have HBF : Hid (Below w.heap.size w (((((wd.setCell ⟨w.heap.size, 0, none⟩ (.slice c.va c.vs.length c.vc)).setCell ⟨w.heap.size, 1, none⟩ (.slice c.pa c.ps.length c.pc)).setCell ⟨w.heap.size, 2, none⟩ (.slice c.qa c.qs.length c.qc)).setCell ⟨w.heap.size, 3, none⟩ (.int .i64 c.cs)).setCell ⟨w.heap.size, 4, none⟩ (.int .i64 c.nx))) := ((((HB2.out.setCell (p := ⟨w.heap.size, 0, none⟩) (Nat.le_refl _) _).setCell (p := ⟨w.heap.size, 1, none⟩) (Nat.le_refl _) _).setCell (p := ⟨w.heap.size, 2, none⟩) (Nat.le_refl _) _).setCell (p := ⟨w.heap.size, 3, none⟩) (Nat.le_refl _) _).setCell (p := ⟨w.heap.size, 4, none⟩) (Nat.le_refl _) _
  have LF : Hid (BLie (((((wd.setCell ⟨w.heap.size, 0, none⟩ (.slice c.va c.vs.length c.vc)).setCell ⟨w.heap.size, 1, none⟩ (.slice c.pa c.ps.length c.pc)).setCell ⟨w.heap.size, 2, none⟩ (.slice c.qa c.qs.length c.qc)).setCell ⟨w.heap.size, 3, none⟩ (.int .i64 c.cs)).setCell ⟨w.heap.size, 4, none⟩ (.int .i64 c.nx)) w.heap.size (((((wd.setCell ⟨w.heap.size, 0, none⟩ (.slice c.va c.vs.length c.vc)).setCell ⟨w.heap.size, 1, none⟩ (.slice c.pa c.ps.length c.pc)).setCell ⟨w.heap.size, 2, none⟩ (.slice c.qa c.qs.length c.qc)).setCell ⟨w.heap.size, 3, none⟩ (.int .i64 c.cs)).setCell ⟨w.heap.size, 4, none⟩ (.int .i64 c.nx)).heap.size c) := (((((HL2.out.set (a := ⟨w.heap.size, 0, none⟩) (by have := HS.out; show w.heap.size < _; omega) _).set (a := ⟨w.heap.size, 1, none⟩) (by have := HS.out; show w.heap.size < _; omega) _).set (a := ⟨w.heap.size, 2, none⟩) (by have := HS.out; show w.heap.size < _; omega) _).set (a := ⟨w.heap.size, 3, none⟩) (by have := HS.out; show w.heap.size < _; omega) _).set (a := ⟨w.heap.size, 4, none⟩) (by have := HS.out; show w.heap.size < _; omega) _).mono (by have := HS.out; omega) (by simp [World.setCell])
  clear q0_ fq0 q1_ fq1 q2_ fq2 q3_ fq3 q4_ fq4
  have q0_ := BF.out.c0
  have q1_ := BF.out.c1
  have q2_ := BF.out.c2
  have q3_ := BF.out.c3
  have q4_ := BF.out.c4
  go_wp2
  refine bodyPost_ret (v := .tuple #[.agg #[.slice c.va c.vs.length c.vc, .slice c.pa c.ps.length c.pc, .slice c.qa c.qs.length c.qc, .int .i64 c.cs, .int .i64 c.nx], .int .i64 (q : Int), .bool true]) (by simp [results, Tryz.results18, go_sem, q0_, q1_, q2_, q3_, q4_]) rfl ⟨c, rfl, HM.out, LF.out, HBF.out⟩

end Go.Proofs.YtpnnncfbodfnhaaGreat
