/- What is drawn for SameTexts and CutRight. -/
import Derived.Test.YtekjpoenbcnhdaaGreatPa01
import Derived.Test.YtekjpoenbcnhdaaGreatPa24
import Derived.Deep.Cut
import Derived.Deep.CutRange
import Derived.Deep.RegionHeld3
namespace Go.Proofs.YtekjpoenbcnhdaaGreat
open Go.RowKit
open DM
open FM
attribute [local go_sem ↓] Go.wp_at_zero Go.wp_at_succ

def Q7 (w : World) (e : Ending) (w' : World) : Prop := ∃ (s1 : List ByteArray) (p1 : List Wr) (x1 : Option Addr) (x2 : Nat) (x3 : Option Addr) (x4 : Nat) (s2 : List ByteArray) (p2 : List Wr) (y1 : Option Addr) (y2 : Nat) (y3 : Option Addr) (y4 : Nat), e = .returned (.tuple #[.agg #[.slice x1 s1.length x2, .slice x3 p1.length x4], .agg #[.slice y1 s2.length y2, .slice y3 p2.length y4]]) ∧ LbI s1 p1 ∧ LbI s2 p2 ∧ SRow w' x1 s1 ∧ PRow w' x3 p1 ∧ SRow w' y1 s2 ∧ PRow w' y3 p2 ∧ Below w.heap.size w w'
def Q8 (w : World) (e : Ending) (w' : World) : Prop := ∃ (s1 : List ByteArray) (p1 : List Wr) (x1 : Option Addr) (x2 : Nat) (x3 : Option Addr) (x4 : Nat) (s2 : List ByteArray) (p2 : List Wr) (y1 : Option Addr) (y2 : Nat) (y3 : Option Addr) (y4 : Nat) (s3 : List ByteArray) (p3 : List Wr) (z1 : Option Addr) (z2 : Nat) (z3 : Option Addr) (z4 : Nat), e = .returned (.tuple #[.agg #[.slice x1 s1.length x2, .slice x3 p1.length x4], .agg #[.slice y1 s2.length y2, .slice y3 p2.length y4], .agg #[.slice z1 s3.length z2, .slice z3 p3.length z4]]) ∧ LbI s1 p1 ∧ LbI s2 p2 ∧ LbI s3 p3 ∧ SRow w' x1 s1 ∧ PRow w' x3 p1 ∧ SRow w' y1 s2 ∧ PRow w' y3 p2 ∧ SRow w' z1 s3 ∧ PRow w' z3 p3 ∧ Below w.heap.size w w'

set_option maxRecDepth 100000 in
set_option maxHeartbeats 8000000 in
theorem dst7 (len cap : Nat) (a : Option Addr) (hl : len ≤ 1048576) (w : World) (hr : CodeRow w a len) :
  Calls Tryz.prog 7 #[.slice a len cap] w fun e w' => Q7 w e w' := by
 have HR : Hid (CodeRow w a len) := hr
 have HCODE : Hid (∀ b off, a = some ⟨b, off, none⟩ → 0 < len → b < w.heap.size) := hr.blk
 clear hr
 have z0 : ((w.alloc (.cells #[.slice none 0 0, .slice none 0 0] 27)).alloc (.cells #[.slice none 0 0, .slice none 0 0] 27)).heap.size = w.heap.size + 2 := by simp
 have HB : Hid (Below w.heap.size w ((w.alloc (.cells #[.slice none 0 0, .slice none 0 0] 27)).alloc (.cells #[.slice none 0 0, .slice none 0 0] 27))) := (((belowRefl w).alloc (by simp) _).alloc (by simp <;> omega) _)
 have R0 : Hid (Bx ((w.alloc (.cells #[.slice none 0 0, .slice none 0 0] 27)).alloc (.cells #[.slice none 0 0, .slice none 0 0] 27)) w.heap.size (.slice none 0 0) (.slice none 0 0)) := by
  have h := Bx.new w (.slice none 0 0) (.slice none 0 0) 27
  exact (h.alloc _)
 have R1 : Hid (Bx ((w.alloc (.cells #[.slice none 0 0, .slice none 0 0] 27)).alloc (.cells #[.slice none 0 0, .slice none 0 0] 27)) (w.heap.size + 1) (.slice none 0 0) (.slice none 0 0)) := by
  have h := Bx.new (w.alloc (.cells #[.slice none 0 0, .slice none 0 0] 27)) (.slice none 0 0) (.slice none 0 0) 27
  rw [show (w.alloc (.cells #[.slice none 0 0, .slice none 0 0] 27)).heap.size = w.heap.size + 1 by simp] at h
  exact h
 go_enter Tryz.func7, Tryz.ntmps7
 go_wp2_with fail
 refine (new16 len cap a hl _ (HR.out.below HB.out)).mono ?_
 rintro e w1 ⟨rfl, hc1, hb1, hz1⟩
 rw [z0] at hc1 hz1
 replace HB : Hid (Below w.heap.size w w1) := HB.out.trans (hb1.mono HB.out.size)
 replace R0 : Hid (Bx w1 w.heap.size (.slice none 0 0) (.slice none 0 0)) := R0.out.keep hb1 R0.out.lt
 replace R1 : Hid (Bx w1 (w.heap.size + 1) (.slice none 0 0) (.slice none 0 0)) := R1.out.keep hb1 R1.out.lt
 obtain ⟨g, hgE⟩ : ∃ g, g = w.heap.size + 2 := ⟨_, rfl⟩
 rw [← hgE] at hc1 hz1
 rw [z0, ← hgE]
 have HC : Hid (CurOk w1 g a len cap) := hc1
 have GL : Hid (g < w1.heap.size) := hz1
 have hgl : w.heap.size < g := by omega
 have NR0 : Hid (w.heap.size ≠ g) := by show _ ≠ _; omega
 have hgr0 : w.heap.size < g := by omega
 have NR1 : Hid (w.heap.size + 1 ≠ g) := by show _ ≠ _; omega
 have hgr1 : w.heap.size + 1 < g := by omega
 clear hb1 hc1 hz1 z0 hgE
 go_wp2_with fail
 refine (any83s g len cap a hl _ HC.out GL.out (fun b off e h0 => Nat.lt_of_lt_of_le (HCODE.out b off e h0) HB.out.size)).mono ?_
 rintro e w2 ⟨s1, p1, x1, x2, x3, x4, rfl, hd, hI, hc, hg⟩
 have MD1 : Hid (g < w1.heap.size) := GL.out
 replace HB : Hid (Below w.heap.size w w2) := HB.out.trans (below_of_grown hg (by omega) HB.out.size)
 replace R0 : Hid (Bx w2 w.heap.size (.slice none 0 0) (.slice none 0 0)) := R0.out.keepG hg (fun e => by have := Option.some.inj e; have := NR0.out; omega)
 replace R1 : Hid (Bx w2 (w.heap.size + 1) (.slice none 0 0) (.slice none 0 0)) := R1.out.keepG hg (fun e => by have := Option.some.inj e; have := NR1.out; omega)
 replace HC : Hid (CurOk w2 g a len cap) := hc
 replace GL : Hid (g < w2.heap.size) := Nat.lt_of_lt_of_le GL.out hg.size
 have D1 : Hid (DOwn w2 w1.heap.size x1 x2 x3 x4 s1 p1) := hd
 have HI : Hid (LbI s1 p1) := hI
 clear hd hI hc hg
 have GBx : Hid (g < w2.heap.size) := GL.out
 have hba : Below w2.heap.size w2 (w2.alloc (.cells #[.slice x1 s1.length x2, .slice x3 p1.length x4] 27)) := (belowRefl w2).alloc (Nat.le_refl _) _
 have NX5 : Hid (w2.heap.size ≠ g) := by have := GL.out; show _ ≠ _; omega
 replace HB : Hid (Below w.heap.size w (w2.alloc (.cells #[.slice x1 s1.length x2, .slice x3 p1.length x4] 27))) := HB.out.trans (hba.mono HB.out.size)
 replace R0 : Hid (Bx (w2.alloc (.cells #[.slice x1 s1.length x2, .slice x3 p1.length x4] 27)) w.heap.size (.slice none 0 0) (.slice none 0 0)) := R0.out.keep hba R0.out.lt
 replace R1 : Hid (Bx (w2.alloc (.cells #[.slice x1 s1.length x2, .slice x3 p1.length x4] 27)) (w.heap.size + 1) (.slice none 0 0) (.slice none 0 0)) := R1.out.keep hba R1.out.lt
 replace HC : Hid (CurOk (w2.alloc (.cells #[.slice x1 s1.length x2, .slice x3 p1.length x4] 27)) g a len cap) := HC.out.below hba GL.out
 replace D1 : Hid (DOwn (w2.alloc (.cells #[.slice x1 s1.length x2, .slice x3 p1.length x4] 27)) w1.heap.size x1 x2 x3 x4 s1 p1) := D1.out.below hba
 replace GL : Hid (g < (w2.alloc (.cells #[.slice x1 s1.length x2, .slice x3 p1.length x4] 27)).heap.size) := Nat.lt_of_lt_of_le GL.out hba.size
 have X5 : Hid (Bx (w2.alloc (.cells #[.slice x1 s1.length x2, .slice x3 p1.length x4] 27)) w2.heap.size (.slice x1 s1.length x2) (.slice x3 p1.length x4)) := Bx.new w2 _ _ 27
 clear hba
 skip
 go_wp2_with fail
 generalize (w2.alloc (.cells #[.slice x1 s1.length x2, .slice x3 p1.length x4] 27)) = v2 at *
 have GB5 : Hid (g < w2.heap.size) := GBx.out
 generalize w2.heap.size = B5 at *
 refine (once19 g len cap a 2 (by omega) (by omega) hl _ HC.out).mono ?_
 rintro e w3 ⟨b, rfl, hc, hg⟩
 replace HB : Hid (Below w.heap.size w w3) := HB.out.trans (below_of_grown hg (by omega) HB.out.size)
 replace R0 : Hid (Bx w3 w.heap.size (.slice none 0 0) (.slice none 0 0)) := R0.out.keepG hg (fun e => by have := Option.some.inj e; have := NR0.out; omega)
 replace R1 : Hid (Bx w3 (w.heap.size + 1) (.slice none 0 0) (.slice none 0 0)) := R1.out.keepG hg (fun e => by have := Option.some.inj e; have := NR1.out; omega)
 replace HC : Hid (CurOk w3 g a len cap) := hc
 replace D1 : Hid (DOwn w3 w1.heap.size x1 x2 x3 x4 s1 p1) := D1.out.keptG hg (by have := MD1.out; omega)
 replace X5 : Hid (Bx w3 B5 (.slice x1 s1.length x2) (.slice x3 p1.length x4)) := X5.out.keepG hg (fun e => by have := Option.some.inj e; have := NX5.out; omega)
 replace GL : Hid (g < w3.heap.size) := Nat.lt_of_lt_of_le GL.out hg.size
 clear hc hg
 have PX5 : Hid (g < B5) := GB5.out
 cases b with
 | true =>
  have GL3 : Hid (g < w3.heap.size) := GL.out
  go_upto_region 4 with fail
  refine wp_region_held_drew (S := fun w' => w'.cell? ⟨B5, 0, none⟩ = some (.slice x1 s1.length x2) ∧ w'.cell? ⟨B5, 1, none⟩ = some (.slice x3 p1.length x4)) (by kernel_rfl) ⟨X5.out.c0, X5.out.c1⟩ (fun hHeld => ?_)
  (refine tk 0 ?_ rfl (Or.inl ⟨by rfl, ?_⟩) ?_; rotate_left; (focus (intro w h; (try dsimp only at h); go_simp; (try with_reducible rfl))); simp only [Act.put, tA, tB, tD, tE, tF])
  (refine tk 1 ?_ rfl (Or.inl ⟨by rfl, ?_⟩) ?_; rotate_left; (focus (intro w h; (try dsimp only at h); go_simp; (try with_reducible rfl))); simp only [Act.put, tA, tB, tC, tD, tE, tF])
  refine wpAnyH_ready (rs := [2]) (by kernel_rfl) (by simp) ?_
  refine AllReadyH.cons rfl (fun K hK => ?_) AllReadyH.nil
  go_simp
  go_wp2_with fail
  refine (copy64 s1 p1 x1 x3 x2 x4 _ (by have := HI.out.1; omega) (by have := HI.out.2.1; omega) _ D1.out.drew).mono ?_
  rintro e w4 ⟨y1, y2, y3, y4, rfl, hd, hb⟩
  have hz9 := hb.size
  replace hb := undrew hb
  replace HB : Hid (Below w.heap.size w w4) := HB.out.trans (hb.mono HB.out.size)
  replace R0 : Hid (Bx w4 w.heap.size (.slice none 0 0) (.slice none 0 0)) := R0.out.keep hb R0.out.lt
  replace R1 : Hid (Bx w4 (w.heap.size + 1) (.slice none 0 0) (.slice none 0 0)) := R1.out.keep hb R1.out.lt
  replace HC : Hid (CurOk w4 g a len cap) := HC.out.below hb GL.out
  replace D1 : Hid (DOwn w4 w1.heap.size x1 x2 x3 x4 s1 p1) := D1.out.below hb
  replace X5 : Hid (Bx w4 B5 (.slice x1 s1.length x2) (.slice x3 p1.length x4)) := X5.out.keep hb X5.out.lt
  replace GL : Hid (g < w4.heap.size) := Nat.lt_of_lt_of_le GL.out hb.size
  have D2 : Hid (DOwn w4 w3.drew.heap.size y1 y2 y3 y4 s1 p1) := hd
  have MD2 : Hid (g < w3.drew.heap.size) := GL3.out
  clear hd
  clear hb
  go_wp2_with fail
  refine hK.out _ _ ⟨X5.out.c0, X5.out.c1⟩ (fun _ => ?_)
  clear hK K
  refine wpAnyH_ready (rs := [3]) (by kernel_rfl) (by simp) ?_
  refine AllReadyH.cons rfl (fun K hK => ?_) AllReadyH.nil
  have r0 := R0.out.c0
  have r1 := R0.out.c1
  have rf := R0.out.fz
  go_simp
  clear r0 r1 rf
  replace HB : Hid (Below w.heap.size w ((w4.setCell ⟨w.heap.size, 0, none⟩ (.slice x1 s1.length x2)).setCell ⟨w.heap.size, 1, none⟩ (.slice x3 p1.length x4))) := (HB.out.setCell (by show _ ≤ w.heap.size; omega) _).setCell (by show _ ≤ w.heap.size; omega) _
  replace R0 : Hid (Bx ((w4.setCell ⟨w.heap.size, 0, none⟩ (.slice x1 s1.length x2)).setCell ⟨w.heap.size, 1, none⟩ (.slice x3 p1.length x4)) w.heap.size (.slice x1 s1.length x2) (.slice x3 p1.length x4)) := (R0.out.set0 _).set1 _
  replace R1 : Hid (Bx ((w4.setCell ⟨w.heap.size, 0, none⟩ (.slice x1 s1.length x2)).setCell ⟨w.heap.size, 1, none⟩ (.slice x3 p1.length x4)) (w.heap.size + 1) (.slice none 0 0) (.slice none 0 0)) := (R1.out.setO (by show w.heap.size ≠ (w.heap.size + 1); first | omega | (have := PR1.out; omega)) _).setO (by show w.heap.size ≠ (w.heap.size + 1); first | omega | (have := PR1.out; omega)) _
  replace D1 : Hid (DOwn ((w4.setCell ⟨w.heap.size, 0, none⟩ (.slice x1 s1.length x2)).setCell ⟨w.heap.size, 1, none⟩ (.slice x3 p1.length x4)) w1.heap.size x1 x2 x3 x4 s1 p1) := ⟨(D1.out.s.set (by show w.heap.size < _; have := MD1.out; omega) _).set (by show w.heap.size < _; have := MD1.out; omega) _, (D1.out.p.set (by show w.heap.size < _; have := MD1.out; omega) _).set (by show w.heap.size < _; have := MD1.out; omega) _⟩
  replace X5 : Hid (Bx ((w4.setCell ⟨w.heap.size, 0, none⟩ (.slice x1 s1.length x2)).setCell ⟨w.heap.size, 1, none⟩ (.slice x3 p1.length x4)) B5 (.slice x1 s1.length x2) (.slice x3 p1.length x4)) := (X5.out.setO (by show w.heap.size ≠ B5; first | omega | (have := PX5.out; omega)) _).setO (by show w.heap.size ≠ B5; first | omega | (have := PX5.out; omega)) _
  replace D2 : Hid (DOwn ((w4.setCell ⟨w.heap.size, 0, none⟩ (.slice x1 s1.length x2)).setCell ⟨w.heap.size, 1, none⟩ (.slice x3 p1.length x4)) w3.drew.heap.size y1 y2 y3 y4 s1 p1) := ⟨(D2.out.s.set (by show w.heap.size < _; have := MD2.out; omega) _).set (by show w.heap.size < _; have := MD2.out; omega) _, (D2.out.p.set (by show w.heap.size < _; have := MD2.out; omega) _).set (by show w.heap.size < _; have := MD2.out; omega) _⟩
  clear HC
  clear GL
  refine hK.out _ _ ⟨X5.out.c0, X5.out.c1⟩ (fun _ => ?_)
  clear hK K
  generalize ((w4.setCell ⟨w.heap.size, 0, none⟩ (.slice x1 s1.length x2)).setCell ⟨w.heap.size, 1, none⟩ (.slice x3 p1.length x4)) = q0 at *
  refine wpAnyH_ready (rs := [4]) (by kernel_rfl) (by simp) ?_
  refine AllReadyH.cons rfl (fun K hK => ?_) AllReadyH.nil
  have r0 := R1.out.c0
  have r1 := R1.out.c1
  have rf := R1.out.fz
  go_simp
  clear r0 r1 rf
  replace HB : Hid (Below w.heap.size w ((q0.setCell ⟨w.heap.size + 1, 0, none⟩ (.slice y1 s1.length y2)).setCell ⟨w.heap.size + 1, 1, none⟩ (.slice y3 p1.length y4))) := (HB.out.setCell (by show _ ≤ w.heap.size + 1; omega) _).setCell (by show _ ≤ w.heap.size + 1; omega) _
  replace R0 : Hid (Bx ((q0.setCell ⟨w.heap.size + 1, 0, none⟩ (.slice y1 s1.length y2)).setCell ⟨w.heap.size + 1, 1, none⟩ (.slice y3 p1.length y4)) w.heap.size (.slice x1 s1.length x2) (.slice x3 p1.length x4)) := (R0.out.setO (by show w.heap.size + 1 ≠ w.heap.size; first | omega | (have := PR0.out; omega)) _).setO (by show w.heap.size + 1 ≠ w.heap.size; first | omega | (have := PR0.out; omega)) _
  replace R1 : Hid (Bx ((q0.setCell ⟨w.heap.size + 1, 0, none⟩ (.slice y1 s1.length y2)).setCell ⟨w.heap.size + 1, 1, none⟩ (.slice y3 p1.length y4)) (w.heap.size + 1) (.slice y1 s1.length y2) (.slice y3 p1.length y4)) := (R1.out.set0 _).set1 _
  replace D1 : Hid (DOwn ((q0.setCell ⟨w.heap.size + 1, 0, none⟩ (.slice y1 s1.length y2)).setCell ⟨w.heap.size + 1, 1, none⟩ (.slice y3 p1.length y4)) w1.heap.size x1 x2 x3 x4 s1 p1) := ⟨(D1.out.s.set (by show w.heap.size + 1 < _; have := MD1.out; omega) _).set (by show w.heap.size + 1 < _; have := MD1.out; omega) _, (D1.out.p.set (by show w.heap.size + 1 < _; have := MD1.out; omega) _).set (by show w.heap.size + 1 < _; have := MD1.out; omega) _⟩
  replace X5 : Hid (Bx ((q0.setCell ⟨w.heap.size + 1, 0, none⟩ (.slice y1 s1.length y2)).setCell ⟨w.heap.size + 1, 1, none⟩ (.slice y3 p1.length y4)) B5 (.slice x1 s1.length x2) (.slice x3 p1.length x4)) := (X5.out.setO (by show w.heap.size + 1 ≠ B5; first | omega | (have := PX5.out; omega)) _).setO (by show w.heap.size + 1 ≠ B5; first | omega | (have := PX5.out; omega)) _
  replace D2 : Hid (DOwn ((q0.setCell ⟨w.heap.size + 1, 0, none⟩ (.slice y1 s1.length y2)).setCell ⟨w.heap.size + 1, 1, none⟩ (.slice y3 p1.length y4)) w3.drew.heap.size y1 y2 y3 y4 s1 p1) := ⟨(D2.out.s.set (by show w.heap.size + 1 < _; have := MD2.out; omega) _).set (by show w.heap.size + 1 < _; have := MD2.out; omega) _, (D2.out.p.set (by show w.heap.size + 1 < _; have := MD2.out; omega) _).set (by show w.heap.size + 1 < _; have := MD2.out; omega) _⟩
  refine hK.out _ _ ⟨X5.out.c0, X5.out.c1⟩ (fun _ => ?_)
  clear hK K
  generalize ((q0.setCell ⟨w.heap.size + 1, 0, none⟩ (.slice y1 s1.length y2)).setCell ⟨w.heap.size + 1, 1, none⟩ (.slice y3 p1.length y4)) = q1 at *
  refine wpAnyH_done (by kernel_rfl) ?_ _
  have v00 := R0.out.c0
  have v01 := R0.out.c1
  have v10 := R1.out.c0
  have v11 := R1.out.c1
  go_wp2
  refine bodyPost_ret (v := .tuple #[.agg #[.slice x1 s1.length x2, .slice x3 p1.length x4], .agg #[.slice y1 s1.length y2, .slice y3 p1.length y4]]) (by simp [results, Tryz.results7, go_sem, v00, v01, v10, v11]) rfl ⟨s1, p1, x1, x2, x3, x4, s1, p1, y1, y2, y3, y4, rfl, HI.out, HI.out, D1.out.s.srow, D1.out.p.prow, D2.out.s.srow, D2.out.p.prow, HB.out⟩
 | false =>
  have GL3 : Hid (g < w3.heap.size) := GL.out
  go_upto_region 5 with fail
  refine wp_region_held_drew (S := fun w' => w'.cell? ⟨B5, 0, none⟩ = some (.slice x1 s1.length x2) ∧ w'.cell? ⟨B5, 1, none⟩ = some (.slice x3 p1.length x4)) (by kernel_rfl) ⟨X5.out.c0, X5.out.c1⟩ (fun hHeld => ?_)
  (refine tk 0 ?_ rfl (Or.inl ⟨by rfl, ?_⟩) ?_; rotate_left; (focus (intro w h; (try dsimp only at h); go_simp; (try with_reducible rfl))); simp only [Act.put, tA, tB, tD, tE, tF])
  (refine tk 1 ?_ rfl (Or.inl ⟨by rfl, ?_⟩) ?_; rotate_left; (focus (intro w h; (try dsimp only at h); go_simp; (try with_reducible rfl))); simp only [Act.put, tA, tB, tC, tD, tE, tF])
  refine wpAnyH_ready (rs := [2]) (by kernel_rfl) (by simp) ?_
  refine AllReadyH.cons rfl (fun K hK => ?_) AllReadyH.nil
  go_simp
  go_wp2_with fail
  refine (any83s g len cap a hl _ (HC.out.below (belowRefl _).drew GL.out) GL.out (fun b off e h0 => Nat.lt_of_lt_of_le (HCODE.out b off e h0) HB.out.size)).mono ?_
  rintro e w4 ⟨s2, p2, y1, y2, y3, y4, rfl, hd, hJ, hc, hg⟩
  replace HB : Hid (Below w.heap.size w w3.drew) := HB.out.drew
  replace R0 : Hid (Bx w3.drew w.heap.size (.slice none 0 0) (.slice none 0 0)) := R0.out.drew
  replace R1 : Hid (Bx w3.drew (w.heap.size + 1) (.slice none 0 0) (.slice none 0 0)) := R1.out.drew
  replace GL : Hid (g < w3.drew.heap.size) := GL.out
  replace D1 : Hid (DOwn w3.drew w1.heap.size x1 x2 x3 x4 s1 p1) := D1.out.drew
  replace X5 : Hid (Bx w3.drew B5 (.slice x1 s1.length x2) (.slice x3 p1.length x4)) := X5.out.drew
  replace HB : Hid (Below w.heap.size w w4) := HB.out.trans (below_of_grown hg (by omega) HB.out.size)
  replace R0 : Hid (Bx w4 w.heap.size (.slice none 0 0) (.slice none 0 0)) := R0.out.keepG hg (fun e => by have := Option.some.inj e; have := NR0.out; omega)
  replace R1 : Hid (Bx w4 (w.heap.size + 1) (.slice none 0 0) (.slice none 0 0)) := R1.out.keepG hg (fun e => by have := Option.some.inj e; have := NR1.out; omega)
  replace HC : Hid (CurOk w4 g a len cap) := hc
  replace D1 : Hid (DOwn w4 w1.heap.size x1 x2 x3 x4 s1 p1) := D1.out.keptG hg (by have := MD1.out; omega)
  replace X5 : Hid (Bx w4 B5 (.slice x1 s1.length x2) (.slice x3 p1.length x4)) := X5.out.keepG hg (fun e => by have := Option.some.inj e; have := NX5.out; omega)
  replace GL : Hid (g < w4.heap.size) := Nat.lt_of_lt_of_le GL.out hg.size
  have D2 : Hid (DOwn w4 w3.drew.heap.size y1 y2 y3 y4 s2 p2) := hd
  have MD2 : Hid (g < w3.drew.heap.size) := GL3.out
  have HJ : Hid (LbI s2 p2) := hJ
  clear hd hJ
  clear hg hc
  go_wp2_with fail
  refine hK.out _ _ ⟨X5.out.c0, X5.out.c1⟩ (fun _ => ?_)
  clear hK K
  refine wpAnyH_ready (rs := [3]) (by kernel_rfl) (by simp) ?_
  refine AllReadyH.cons rfl (fun K hK => ?_) AllReadyH.nil
  have r0 := R0.out.c0
  have r1 := R0.out.c1
  have rf := R0.out.fz
  go_simp
  clear r0 r1 rf
  replace HB : Hid (Below w.heap.size w ((w4.setCell ⟨w.heap.size, 0, none⟩ (.slice x1 s1.length x2)).setCell ⟨w.heap.size, 1, none⟩ (.slice x3 p1.length x4))) := (HB.out.setCell (by show _ ≤ w.heap.size; omega) _).setCell (by show _ ≤ w.heap.size; omega) _
  replace R0 : Hid (Bx ((w4.setCell ⟨w.heap.size, 0, none⟩ (.slice x1 s1.length x2)).setCell ⟨w.heap.size, 1, none⟩ (.slice x3 p1.length x4)) w.heap.size (.slice x1 s1.length x2) (.slice x3 p1.length x4)) := (R0.out.set0 _).set1 _
  replace R1 : Hid (Bx ((w4.setCell ⟨w.heap.size, 0, none⟩ (.slice x1 s1.length x2)).setCell ⟨w.heap.size, 1, none⟩ (.slice x3 p1.length x4)) (w.heap.size + 1) (.slice none 0 0) (.slice none 0 0)) := (R1.out.setO (by show w.heap.size ≠ (w.heap.size + 1); first | omega | (have := PR1.out; omega)) _).setO (by show w.heap.size ≠ (w.heap.size + 1); first | omega | (have := PR1.out; omega)) _
  replace D1 : Hid (DOwn ((w4.setCell ⟨w.heap.size, 0, none⟩ (.slice x1 s1.length x2)).setCell ⟨w.heap.size, 1, none⟩ (.slice x3 p1.length x4)) w1.heap.size x1 x2 x3 x4 s1 p1) := ⟨(D1.out.s.set (by show w.heap.size < _; have := MD1.out; omega) _).set (by show w.heap.size < _; have := MD1.out; omega) _, (D1.out.p.set (by show w.heap.size < _; have := MD1.out; omega) _).set (by show w.heap.size < _; have := MD1.out; omega) _⟩
  replace X5 : Hid (Bx ((w4.setCell ⟨w.heap.size, 0, none⟩ (.slice x1 s1.length x2)).setCell ⟨w.heap.size, 1, none⟩ (.slice x3 p1.length x4)) B5 (.slice x1 s1.length x2) (.slice x3 p1.length x4)) := (X5.out.setO (by show w.heap.size ≠ B5; first | omega | (have := PX5.out; omega)) _).setO (by show w.heap.size ≠ B5; first | omega | (have := PX5.out; omega)) _
  replace D2 : Hid (DOwn ((w4.setCell ⟨w.heap.size, 0, none⟩ (.slice x1 s1.length x2)).setCell ⟨w.heap.size, 1, none⟩ (.slice x3 p1.length x4)) w3.drew.heap.size y1 y2 y3 y4 s2 p2) := ⟨(D2.out.s.set (by show w.heap.size < _; have := MD2.out; omega) _).set (by show w.heap.size < _; have := MD2.out; omega) _, (D2.out.p.set (by show w.heap.size < _; have := MD2.out; omega) _).set (by show w.heap.size < _; have := MD2.out; omega) _⟩
  clear HC
  clear GL
  refine hK.out _ _ ⟨X5.out.c0, X5.out.c1⟩ (fun _ => ?_)
  clear hK K
  generalize ((w4.setCell ⟨w.heap.size, 0, none⟩ (.slice x1 s1.length x2)).setCell ⟨w.heap.size, 1, none⟩ (.slice x3 p1.length x4)) = q0 at *
  refine wpAnyH_ready (rs := [4]) (by kernel_rfl) (by simp) ?_
  refine AllReadyH.cons rfl (fun K hK => ?_) AllReadyH.nil
  have r0 := R1.out.c0
  have r1 := R1.out.c1
  have rf := R1.out.fz
  go_simp
  clear r0 r1 rf
  replace HB : Hid (Below w.heap.size w ((q0.setCell ⟨w.heap.size + 1, 0, none⟩ (.slice y1 s2.length y2)).setCell ⟨w.heap.size + 1, 1, none⟩ (.slice y3 p2.length y4))) := (HB.out.setCell (by show _ ≤ w.heap.size + 1; omega) _).setCell (by show _ ≤ w.heap.size + 1; omega) _
  replace R0 : Hid (Bx ((q0.setCell ⟨w.heap.size + 1, 0, none⟩ (.slice y1 s2.length y2)).setCell ⟨w.heap.size + 1, 1, none⟩ (.slice y3 p2.length y4)) w.heap.size (.slice x1 s1.length x2) (.slice x3 p1.length x4)) := (R0.out.setO (by show w.heap.size + 1 ≠ w.heap.size; first | omega | (have := PR0.out; omega)) _).setO (by show w.heap.size + 1 ≠ w.heap.size; first | omega | (have := PR0.out; omega)) _
  replace R1 : Hid (Bx ((q0.setCell ⟨w.heap.size + 1, 0, none⟩ (.slice y1 s2.length y2)).setCell ⟨w.heap.size + 1, 1, none⟩ (.slice y3 p2.length y4)) (w.heap.size + 1) (.slice y1 s2.length y2) (.slice y3 p2.length y4)) := (R1.out.set0 _).set1 _
  replace D1 : Hid (DOwn ((q0.setCell ⟨w.heap.size + 1, 0, none⟩ (.slice y1 s2.length y2)).setCell ⟨w.heap.size + 1, 1, none⟩ (.slice y3 p2.length y4)) w1.heap.size x1 x2 x3 x4 s1 p1) := ⟨(D1.out.s.set (by show w.heap.size + 1 < _; have := MD1.out; omega) _).set (by show w.heap.size + 1 < _; have := MD1.out; omega) _, (D1.out.p.set (by show w.heap.size + 1 < _; have := MD1.out; omega) _).set (by show w.heap.size + 1 < _; have := MD1.out; omega) _⟩
  replace X5 : Hid (Bx ((q0.setCell ⟨w.heap.size + 1, 0, none⟩ (.slice y1 s2.length y2)).setCell ⟨w.heap.size + 1, 1, none⟩ (.slice y3 p2.length y4)) B5 (.slice x1 s1.length x2) (.slice x3 p1.length x4)) := (X5.out.setO (by show w.heap.size + 1 ≠ B5; first | omega | (have := PX5.out; omega)) _).setO (by show w.heap.size + 1 ≠ B5; first | omega | (have := PX5.out; omega)) _
  replace D2 : Hid (DOwn ((q0.setCell ⟨w.heap.size + 1, 0, none⟩ (.slice y1 s2.length y2)).setCell ⟨w.heap.size + 1, 1, none⟩ (.slice y3 p2.length y4)) w3.drew.heap.size y1 y2 y3 y4 s2 p2) := ⟨(D2.out.s.set (by show w.heap.size + 1 < _; have := MD2.out; omega) _).set (by show w.heap.size + 1 < _; have := MD2.out; omega) _, (D2.out.p.set (by show w.heap.size + 1 < _; have := MD2.out; omega) _).set (by show w.heap.size + 1 < _; have := MD2.out; omega) _⟩
  refine hK.out _ _ ⟨X5.out.c0, X5.out.c1⟩ (fun _ => ?_)
  clear hK K
  generalize ((q0.setCell ⟨w.heap.size + 1, 0, none⟩ (.slice y1 s2.length y2)).setCell ⟨w.heap.size + 1, 1, none⟩ (.slice y3 p2.length y4)) = q1 at *
  refine wpAnyH_done (by kernel_rfl) ?_ _
  have v00 := R0.out.c0
  have v01 := R0.out.c1
  have v10 := R1.out.c0
  have v11 := R1.out.c1
  go_wp2
  refine bodyPost_ret (v := .tuple #[.agg #[.slice x1 s1.length x2, .slice x3 p1.length x4], .agg #[.slice y1 s2.length y2, .slice y3 p2.length y4]]) (by simp [results, Tryz.results7, go_sem, v00, v01, v10, v11]) rfl ⟨s1, p1, x1, x2, x3, x4, s2, p2, y1, y2, y3, y4, rfl, HI.out, HJ.out, D1.out.s.srow, D1.out.p.prow, D2.out.s.srow, D2.out.p.prow, HB.out⟩

end Go.Proofs.YtekjpoenbcnhdaaGreat
