/- What is drawn for CutRight. -/
import Derived.Test.YtekjpoenbcnhdaaGreatPa01
import Derived.Test.YtekjpoenbcnhdaaGreatPa31
namespace Go.Proofs.YtekjpoenbcnhdaaGreat
open Go.RowKit
open DM
open FM
attribute [local go_sem ↓] Go.wp_at_zero Go.wp_at_succ

set_option maxRecDepth 100000 in
set_option maxHeartbeats 8000000 in
theorem dcr8 (len cap : Nat) (a : Option Addr) (hl : len ≤ 1048576) (w : World) (hr : CodeRow w a len) :
  Calls Tryz.prog 8 #[.slice a len cap] w fun e w' => Q8 w e w' := by
 have HR : Hid (CodeRow w a len) := hr
 have HCODE : Hid (∀ b off, a = some ⟨b, off, none⟩ → 0 < len → b < w.heap.size) := hr.blk
 clear hr
 have z0 : (((w.alloc (.cells #[.slice none 0 0, .slice none 0 0] 27)).alloc (.cells #[.slice none 0 0, .slice none 0 0] 27)).alloc (.cells #[.slice none 0 0, .slice none 0 0] 27)).heap.size = w.heap.size + 3 := by simp
 have HB : Hid (Below w.heap.size w (((w.alloc (.cells #[.slice none 0 0, .slice none 0 0] 27)).alloc (.cells #[.slice none 0 0, .slice none 0 0] 27)).alloc (.cells #[.slice none 0 0, .slice none 0 0] 27))) := ((((belowRefl w).alloc (by simp) _).alloc (by simp <;> omega) _).alloc (by simp <;> omega) _)
 have R0 : Hid (Bx (((w.alloc (.cells #[.slice none 0 0, .slice none 0 0] 27)).alloc (.cells #[.slice none 0 0, .slice none 0 0] 27)).alloc (.cells #[.slice none 0 0, .slice none 0 0] 27)) w.heap.size (.slice none 0 0) (.slice none 0 0)) := by
  have h := Bx.new w (.slice none 0 0) (.slice none 0 0) 27
  exact ((h.alloc _).alloc _)
 have R1 : Hid (Bx (((w.alloc (.cells #[.slice none 0 0, .slice none 0 0] 27)).alloc (.cells #[.slice none 0 0, .slice none 0 0] 27)).alloc (.cells #[.slice none 0 0, .slice none 0 0] 27)) (w.heap.size + 1) (.slice none 0 0) (.slice none 0 0)) := by
  have h := Bx.new (w.alloc (.cells #[.slice none 0 0, .slice none 0 0] 27)) (.slice none 0 0) (.slice none 0 0) 27
  rw [show (w.alloc (.cells #[.slice none 0 0, .slice none 0 0] 27)).heap.size = w.heap.size + 1 by simp] at h
  exact (h.alloc _)
 have R2 : Hid (Bx (((w.alloc (.cells #[.slice none 0 0, .slice none 0 0] 27)).alloc (.cells #[.slice none 0 0, .slice none 0 0] 27)).alloc (.cells #[.slice none 0 0, .slice none 0 0] 27)) (w.heap.size + 2) (.slice none 0 0) (.slice none 0 0)) := by
  have h := Bx.new ((w.alloc (.cells #[.slice none 0 0, .slice none 0 0] 27)).alloc (.cells #[.slice none 0 0, .slice none 0 0] 27)) (.slice none 0 0) (.slice none 0 0) 27
  rw [show ((w.alloc (.cells #[.slice none 0 0, .slice none 0 0] 27)).alloc (.cells #[.slice none 0 0, .slice none 0 0] 27)).heap.size = w.heap.size + 2 by simp] at h
  exact h
 go_enter Tryz.func8, Tryz.ntmps8
 go_wp2_with fail
 refine (new16 len cap a hl _ (HR.out.below HB.out)).mono ?_
 rintro e w1 ⟨rfl, hc1, hb1, hz1⟩
 rw [z0] at hc1 hz1
 replace HB : Hid (Below w.heap.size w w1) := HB.out.trans (hb1.mono HB.out.size)
 replace R0 : Hid (Bx w1 w.heap.size (.slice none 0 0) (.slice none 0 0)) := R0.out.keep hb1 R0.out.lt
 replace R1 : Hid (Bx w1 (w.heap.size + 1) (.slice none 0 0) (.slice none 0 0)) := R1.out.keep hb1 R1.out.lt
 replace R2 : Hid (Bx w1 (w.heap.size + 2) (.slice none 0 0) (.slice none 0 0)) := R2.out.keep hb1 R2.out.lt
 obtain ⟨g, hgE⟩ : ∃ g, g = w.heap.size + 3 := ⟨_, rfl⟩
 rw [← hgE] at hc1 hz1
 rw [z0, ← hgE]
 have HC : Hid (CurOk w1 g a len cap) := hc1
 have GL : Hid (g < w1.heap.size) := hz1
 have hgl : w.heap.size < g := by omega
 have NR0 : Hid (w.heap.size ≠ g) := by show _ ≠ _; omega
 have hgr0 : w.heap.size < g := by omega
 have NR1 : Hid (w.heap.size + 1 ≠ g) := by show _ ≠ _; omega
 have hgr1 : w.heap.size + 1 < g := by omega
 have NR2 : Hid (w.heap.size + 2 ≠ g) := by show _ ≠ _; omega
 have hgr2 : w.heap.size + 2 < g := by omega
 clear hb1 hc1 hz1 z0 hgE
 go_wp2_with fail
 refine (below21 g len cap a 3 (by omega) (by omega) hl _ HC.out).mono ?_
 rintro e w2 ⟨k, hk, rfl, hc, hg⟩
 replace HB : Hid (Below w.heap.size w w2) := HB.out.trans (below_of_grown hg (by omega) HB.out.size)
 replace R0 : Hid (Bx w2 w.heap.size (.slice none 0 0) (.slice none 0 0)) := R0.out.keepG hg (fun e => by have := Option.some.inj e; have := NR0.out; omega)
 replace R1 : Hid (Bx w2 (w.heap.size + 1) (.slice none 0 0) (.slice none 0 0)) := R1.out.keepG hg (fun e => by have := Option.some.inj e; have := NR1.out; omega)
 replace R2 : Hid (Bx w2 (w.heap.size + 2) (.slice none 0 0) (.slice none 0 0)) := R2.out.keepG hg (fun e => by have := Option.some.inj e; have := NR2.out; omega)
 replace HC : Hid (CurOk w2 g a len cap) := hc
 replace GL : Hid (g < w2.heap.size) := Nat.lt_of_lt_of_le GL.out hg.size
 clear hc hg
 go_wp2_with fail
 refine (slogd73 g len cap a hl _ HC.out GL.out (fun b off e h0 => Nat.lt_of_lt_of_le (HCODE.out b off e h0) HB.out.size)).mono ?_
 rintro e w3 ⟨s1, x1, x2, x3, x4, rfl, hd, hI, hc, hg⟩
 obtain ⟨P, hP⟩ : ∃ P, P = lgP := ⟨_, rfl⟩
 rw [← hP] at hd
 rw [← hP]
 have hP0 : P = [] := hP
 have hlog : logB s1 [] = true := hI.1
 have hA := act_01 s1 []
 obtain ⟨hrec, hI2⟩ := hI.put (by omega) hA (t := ⟨#[109, 111, 114, 101]⟩) (by decide) (by decide)
 obtain ⟨s2, hs2⟩ : ∃ s2, s2 = putS s1 [] (act s1 []) ⟨#[109, 111, 114, 101]⟩ := ⟨_, rfl⟩
 have hpr : prB s1 [] (act s1 []) ⟨#[109, 111, 114, 101]⟩ = true := by unfold prB; rw [hlog, hrec]; rfl
 have hps : prS s1 [] (act s1 []) ⟨#[109, 111, 114, 101]⟩ = s2 := by rw [hs2]; exact if_pos hpr
 have HI : Hid (LbI s1 P) := by rw [hP0]; exact LbI.ok (logB_parts hlog).1
 have HJ : Hid (LbI s2 P) := by rw [hP0, hs2]; exact LbI.ok (logB_parts hI2.1).1
 have HAP : Hid (∀ (B : Nat) (W : World), DOwn W B x1 x2 x3 x4 s1 P → Calls Tryz.prog 27 #[.agg #[.slice x1 s1.length x2, .slice x3 P.length x4], .string ⟨#[109, 111, 114, 101]⟩] W fun e w' => ∃ f1 f2 f3 f4, e = .returned (.tuple #[.agg #[.slice f1 s2.length f2, .slice f3 P.length f4], .bool true]) ∧ DOwn w' W.heap.size f1 f2 f3 f4 s2 P ∧ Below W.heap.size W w') := fun B W h => by
  subst hP0
  have f := HI.out.wide
  have q := sapp38 s1 [] ⟨#[109, 111, 114, 101]⟩ x1 x3 x2 x4 B f.1 f.2.1 f.2.2.1 f.2.2.2 (by decide) W h
  rw [hpr, hps] at q
  exact q
 have MD1 : Hid (g < w2.heap.size) := GL.out
 replace HB : Hid (Below w.heap.size w w3) := HB.out.trans (below_of_grown hg (by omega) HB.out.size)
 replace R0 : Hid (Bx w3 w.heap.size (.slice none 0 0) (.slice none 0 0)) := R0.out.keepG hg (fun e => by have := Option.some.inj e; have := NR0.out; omega)
 replace R1 : Hid (Bx w3 (w.heap.size + 1) (.slice none 0 0) (.slice none 0 0)) := R1.out.keepG hg (fun e => by have := Option.some.inj e; have := NR1.out; omega)
 replace R2 : Hid (Bx w3 (w.heap.size + 2) (.slice none 0 0) (.slice none 0 0)) := R2.out.keepG hg (fun e => by have := Option.some.inj e; have := NR2.out; omega)
 replace HC : Hid (CurOk w3 g a len cap) := hc
 replace GL : Hid (g < w3.heap.size) := Nat.lt_of_lt_of_le GL.out hg.size
 have D1 : Hid (DOwn w3 w2.heap.size x1 x2 x3 x4 s1 P) := hd
 clear hd hI hI2 hc hg hP hP0 hlog hA hrec hs2 hpr hps
 have PX7 : Hid (g < w3.heap.size) := GL.out
 have hba : Below w3.heap.size w3 (w3.alloc (.cells #[.slice x1 s1.length x2, .slice x3 P.length x4] 27)) := (belowRefl w3).alloc (Nat.le_refl _) _
 have NX7 : Hid (w3.heap.size ≠ g) := by have := GL.out; show _ ≠ _; omega
 replace HB : Hid (Below w.heap.size w (w3.alloc (.cells #[.slice x1 s1.length x2, .slice x3 P.length x4] 27))) := HB.out.trans (hba.mono HB.out.size)
 replace R0 : Hid (Bx (w3.alloc (.cells #[.slice x1 s1.length x2, .slice x3 P.length x4] 27)) w.heap.size (.slice none 0 0) (.slice none 0 0)) := R0.out.keep hba R0.out.lt
 replace R1 : Hid (Bx (w3.alloc (.cells #[.slice x1 s1.length x2, .slice x3 P.length x4] 27)) (w.heap.size + 1) (.slice none 0 0) (.slice none 0 0)) := R1.out.keep hba R1.out.lt
 replace R2 : Hid (Bx (w3.alloc (.cells #[.slice x1 s1.length x2, .slice x3 P.length x4] 27)) (w.heap.size + 2) (.slice none 0 0) (.slice none 0 0)) := R2.out.keep hba R2.out.lt
 replace HC : Hid (CurOk (w3.alloc (.cells #[.slice x1 s1.length x2, .slice x3 P.length x4] 27)) g a len cap) := HC.out.below hba GL.out
 replace D1 : Hid (DOwn (w3.alloc (.cells #[.slice x1 s1.length x2, .slice x3 P.length x4] 27)) w2.heap.size x1 x2 x3 x4 s1 P) := D1.out.below hba
 replace GL : Hid (g < (w3.alloc (.cells #[.slice x1 s1.length x2, .slice x3 P.length x4] 27)).heap.size) := Nat.lt_of_lt_of_le GL.out hba.size
 have X7 : Hid (Bx (w3.alloc (.cells #[.slice x1 s1.length x2, .slice x3 P.length x4] 27)) w3.heap.size (.slice x1 s1.length x2) (.slice x3 P.length x4)) := Bx.new w3 _ _ 27
 clear hba
 have g0 := X7.out.c0
 have g1 := X7.out.c1
 go_wp2_with fail
 generalize (w3.alloc (.cells #[.slice x1 s1.length x2, .slice x3 P.length x4] 27)) = v3 at *
 generalize w3.heap.size = B7 at *
 refine (HAP.out _ _ D1.out).mono ?_
 rintro e w4 ⟨y1, y2, y3, y4, rfl, hd, hb⟩
 have MD2 : Hid (g < v3.heap.size) := GL.out
 replace HB : Hid (Below w.heap.size w w4) := HB.out.trans (hb.mono HB.out.size)
 replace R0 : Hid (Bx w4 w.heap.size (.slice none 0 0) (.slice none 0 0)) := R0.out.keep hb R0.out.lt
 replace R1 : Hid (Bx w4 (w.heap.size + 1) (.slice none 0 0) (.slice none 0 0)) := R1.out.keep hb R1.out.lt
 replace R2 : Hid (Bx w4 (w.heap.size + 2) (.slice none 0 0) (.slice none 0 0)) := R2.out.keep hb R2.out.lt
 replace HC : Hid (CurOk w4 g a len cap) := HC.out.below hb GL.out
 replace D1 : Hid (DOwn w4 w2.heap.size x1 x2 x3 x4 s1 P) := D1.out.below hb
 replace X7 : Hid (Bx w4 B7 (.slice x1 s1.length x2) (.slice x3 P.length x4)) := X7.out.keep hb X7.out.lt
 replace GL : Hid (g < w4.heap.size) := Nat.lt_of_lt_of_le GL.out hb.size
 have D2 : Hid (DOwn w4 v3.heap.size y1 y2 y3 y4 s2 P) := hd
 clear hd hb g0 g1 HAP
 have PX8 : Hid (g < w4.heap.size) := GL.out
 have hba : Below w4.heap.size w4 (w4.alloc (.cells #[.slice y1 s2.length y2, .slice y3 P.length y4] 27)) := (belowRefl w4).alloc (Nat.le_refl _) _
 have NX8 : Hid (w4.heap.size ≠ g) := by have := GL.out; show _ ≠ _; omega
 replace HB : Hid (Below w.heap.size w (w4.alloc (.cells #[.slice y1 s2.length y2, .slice y3 P.length y4] 27))) := HB.out.trans (hba.mono HB.out.size)
 replace R0 : Hid (Bx (w4.alloc (.cells #[.slice y1 s2.length y2, .slice y3 P.length y4] 27)) w.heap.size (.slice none 0 0) (.slice none 0 0)) := R0.out.keep hba R0.out.lt
 replace R1 : Hid (Bx (w4.alloc (.cells #[.slice y1 s2.length y2, .slice y3 P.length y4] 27)) (w.heap.size + 1) (.slice none 0 0) (.slice none 0 0)) := R1.out.keep hba R1.out.lt
 replace R2 : Hid (Bx (w4.alloc (.cells #[.slice y1 s2.length y2, .slice y3 P.length y4] 27)) (w.heap.size + 2) (.slice none 0 0) (.slice none 0 0)) := R2.out.keep hba R2.out.lt
 replace HC : Hid (CurOk (w4.alloc (.cells #[.slice y1 s2.length y2, .slice y3 P.length y4] 27)) g a len cap) := HC.out.below hba GL.out
 replace D1 : Hid (DOwn (w4.alloc (.cells #[.slice y1 s2.length y2, .slice y3 P.length y4] 27)) w2.heap.size x1 x2 x3 x4 s1 P) := D1.out.below hba
 replace X7 : Hid (Bx (w4.alloc (.cells #[.slice y1 s2.length y2, .slice y3 P.length y4] 27)) B7 (.slice x1 s1.length x2) (.slice x3 P.length x4)) := X7.out.keep hba X7.out.lt
 replace D2 : Hid (DOwn (w4.alloc (.cells #[.slice y1 s2.length y2, .slice y3 P.length y4] 27)) v3.heap.size y1 y2 y3 y4 s2 P) := D2.out.below hba
 replace GL : Hid (g < (w4.alloc (.cells #[.slice y1 s2.length y2, .slice y3 P.length y4] 27)).heap.size) := Nat.lt_of_lt_of_le GL.out hba.size
 have X8 : Hid (Bx (w4.alloc (.cells #[.slice y1 s2.length y2, .slice y3 P.length y4] 27)) w4.heap.size (.slice y1 s2.length y2) (.slice y3 P.length y4)) := Bx.new w4 _ _ 27
 clear hba
 go_upto_region 5 with fail
 generalize (w4.alloc (.cells #[.slice y1 s2.length y2, .slice y3 P.length y4] 27)) = v4 at *
 generalize w4.heap.size = B8 at *
 have hk3 : k = 0 ∨ k = 1 ∨ k = 2 := by omega
 clear hk
 have GL3 : Hid (g < v4.heap.size) := GL.out
 rcases hk3 with rfl | rfl | rfl
 ·skip
  go_upto_region 7 with fail
  refine wp_region_held_drew (S := fun w' => w'.cell? ⟨B7, 0, none⟩ = some (.slice x1 s1.length x2) ∧ w'.cell? ⟨B7, 1, none⟩ = some (.slice x3 P.length x4) ∧ w'.cell? ⟨B8, 0, none⟩ = some (.slice y1 s2.length y2) ∧ w'.cell? ⟨B8, 1, none⟩ = some (.slice y3 P.length y4)) (by kernel_rfl) ⟨X7.out.c0, X7.out.c1, X8.out.c0, X8.out.c1⟩ (fun hHeld => ?_)
  (refine tk 0 ?_ rfl (Or.inl ⟨by rfl, ?_⟩) ?_; rotate_left; (focus (intro w h; (try dsimp only at h); go_simp; (try with_reducible rfl))); simp only [Act.put, tA, tB, tD, tE, tF])
  (refine tk 1 ?_ rfl (Or.inl ⟨by rfl, ?_⟩) ?_; rotate_left; (focus (intro w h; (try dsimp only at h); go_simp; (try with_reducible rfl))); simp only [Act.put, tA, tB, tC, tD, tE, tF])
  (refine tk 2 ?_ rfl (Or.inl ⟨by rfl, ?_⟩) ?_; rotate_left; (focus (intro w h; (try dsimp only at h); go_simp; (try with_reducible rfl))); simp only [Act.put, tA, tB, tC, tD, tE, tF])
  refine wpAnyH_ready (rs := [3]) (by kernel_rfl) (by simp) ?_
  refine AllReadyH.cons rfl (fun K hK => ?_) AllReadyH.nil
  go_simp
  go_wp2_with fail
  refine (copy64 s1 P x1 x3 x2 x4 _ (by have := HI.out.1; omega) (by have := HI.out.2.1; omega) _ D1.out.drew).mono ?_
  rintro e w5 ⟨z1, z2, z3, z4, rfl, hd, hb⟩
  have hz9 := hb.size
  replace hb := undrew hb
  replace HB : Hid (Below w.heap.size w w5) := HB.out.trans (hb.mono HB.out.size)
  replace R0 : Hid (Bx w5 w.heap.size (.slice none 0 0) (.slice none 0 0)) := R0.out.keep hb R0.out.lt
  replace R1 : Hid (Bx w5 (w.heap.size + 1) (.slice none 0 0) (.slice none 0 0)) := R1.out.keep hb R1.out.lt
  replace R2 : Hid (Bx w5 (w.heap.size + 2) (.slice none 0 0) (.slice none 0 0)) := R2.out.keep hb R2.out.lt
  replace HC : Hid (CurOk w5 g a len cap) := HC.out.below hb GL.out
  replace D1 : Hid (DOwn w5 w2.heap.size x1 x2 x3 x4 s1 P) := D1.out.below hb
  replace X7 : Hid (Bx w5 B7 (.slice x1 s1.length x2) (.slice x3 P.length x4)) := X7.out.keep hb X7.out.lt
  replace D2 : Hid (DOwn w5 v3.heap.size y1 y2 y3 y4 s2 P) := D2.out.below hb
  replace X8 : Hid (Bx w5 B8 (.slice y1 s2.length y2) (.slice y3 P.length y4)) := X8.out.keep hb X8.out.lt
  replace GL : Hid (g < w5.heap.size) := Nat.lt_of_lt_of_le GL.out hb.size
  have D3 : Hid (DOwn w5 v4.drew.heap.size z1 z2 z3 z4 s1 P) := hd
  have MD3 : Hid (g < v4.drew.heap.size) := GL3.out
  clear hd
  clear hb
  go_wp2_with fail
  refine hK.out _ _ ⟨X7.out.c0, X7.out.c1, X8.out.c0, X8.out.c1⟩ (fun _ => ?_)
  clear hK K
  refine wpAnyH_ready (rs := [4]) (by kernel_rfl) (by simp) ?_
  refine AllReadyH.cons rfl (fun K hK => ?_) AllReadyH.nil
  have r0 := R0.out.c0
  have r1 := R0.out.c1
  have rf := R0.out.fz
  go_simp
  clear r0 r1 rf
  replace HB : Hid (Below w.heap.size w ((w5.setCell ⟨w.heap.size, 0, none⟩ (.slice x1 s1.length x2)).setCell ⟨w.heap.size, 1, none⟩ (.slice x3 P.length x4))) := (HB.out.setCell (by show _ ≤ w.heap.size; omega) _).setCell (by show _ ≤ w.heap.size; omega) _
  replace R0 : Hid (Bx ((w5.setCell ⟨w.heap.size, 0, none⟩ (.slice x1 s1.length x2)).setCell ⟨w.heap.size, 1, none⟩ (.slice x3 P.length x4)) w.heap.size (.slice x1 s1.length x2) (.slice x3 P.length x4)) := (R0.out.set0 _).set1 _
  replace R1 : Hid (Bx ((w5.setCell ⟨w.heap.size, 0, none⟩ (.slice x1 s1.length x2)).setCell ⟨w.heap.size, 1, none⟩ (.slice x3 P.length x4)) (w.heap.size + 1) (.slice none 0 0) (.slice none 0 0)) := (R1.out.setO (by show w.heap.size ≠ (w.heap.size + 1); first | omega | (have := PR1.out; omega)) _).setO (by show w.heap.size ≠ (w.heap.size + 1); first | omega | (have := PR1.out; omega)) _
  replace R2 : Hid (Bx ((w5.setCell ⟨w.heap.size, 0, none⟩ (.slice x1 s1.length x2)).setCell ⟨w.heap.size, 1, none⟩ (.slice x3 P.length x4)) (w.heap.size + 2) (.slice none 0 0) (.slice none 0 0)) := (R2.out.setO (by show w.heap.size ≠ (w.heap.size + 2); first | omega | (have := PR2.out; omega)) _).setO (by show w.heap.size ≠ (w.heap.size + 2); first | omega | (have := PR2.out; omega)) _
  replace D1 : Hid (DOwn ((w5.setCell ⟨w.heap.size, 0, none⟩ (.slice x1 s1.length x2)).setCell ⟨w.heap.size, 1, none⟩ (.slice x3 P.length x4)) w2.heap.size x1 x2 x3 x4 s1 P) := ⟨(D1.out.s.set (by show w.heap.size < _; have := MD1.out; omega) _).set (by show w.heap.size < _; have := MD1.out; omega) _, (D1.out.p.set (by show w.heap.size < _; have := MD1.out; omega) _).set (by show w.heap.size < _; have := MD1.out; omega) _⟩
  replace X7 : Hid (Bx ((w5.setCell ⟨w.heap.size, 0, none⟩ (.slice x1 s1.length x2)).setCell ⟨w.heap.size, 1, none⟩ (.slice x3 P.length x4)) B7 (.slice x1 s1.length x2) (.slice x3 P.length x4)) := (X7.out.setO (by show w.heap.size ≠ B7; first | omega | (have := PX7.out; omega)) _).setO (by show w.heap.size ≠ B7; first | omega | (have := PX7.out; omega)) _
  replace D2 : Hid (DOwn ((w5.setCell ⟨w.heap.size, 0, none⟩ (.slice x1 s1.length x2)).setCell ⟨w.heap.size, 1, none⟩ (.slice x3 P.length x4)) v3.heap.size y1 y2 y3 y4 s2 P) := ⟨(D2.out.s.set (by show w.heap.size < _; have := MD2.out; omega) _).set (by show w.heap.size < _; have := MD2.out; omega) _, (D2.out.p.set (by show w.heap.size < _; have := MD2.out; omega) _).set (by show w.heap.size < _; have := MD2.out; omega) _⟩
  replace X8 : Hid (Bx ((w5.setCell ⟨w.heap.size, 0, none⟩ (.slice x1 s1.length x2)).setCell ⟨w.heap.size, 1, none⟩ (.slice x3 P.length x4)) B8 (.slice y1 s2.length y2) (.slice y3 P.length y4)) := (X8.out.setO (by show w.heap.size ≠ B8; first | omega | (have := PX8.out; omega)) _).setO (by show w.heap.size ≠ B8; first | omega | (have := PX8.out; omega)) _
  replace D3 : Hid (DOwn ((w5.setCell ⟨w.heap.size, 0, none⟩ (.slice x1 s1.length x2)).setCell ⟨w.heap.size, 1, none⟩ (.slice x3 P.length x4)) v4.drew.heap.size z1 z2 z3 z4 s1 P) := ⟨(D3.out.s.set (by show w.heap.size < _; have := MD3.out; omega) _).set (by show w.heap.size < _; have := MD3.out; omega) _, (D3.out.p.set (by show w.heap.size < _; have := MD3.out; omega) _).set (by show w.heap.size < _; have := MD3.out; omega) _⟩
  clear HC
  clear GL
  refine hK.out _ _ ⟨X7.out.c0, X7.out.c1, X8.out.c0, X8.out.c1⟩ (fun _ => ?_)
  clear hK K
  generalize ((w5.setCell ⟨w.heap.size, 0, none⟩ (.slice x1 s1.length x2)).setCell ⟨w.heap.size, 1, none⟩ (.slice x3 P.length x4)) = q0 at *
  refine wpAnyH_ready (rs := [5]) (by kernel_rfl) (by simp) ?_
  refine AllReadyH.cons rfl (fun K hK => ?_) AllReadyH.nil
  have r0 := R1.out.c0
  have r1 := R1.out.c1
  have rf := R1.out.fz
  go_simp
  clear r0 r1 rf
  replace HB : Hid (Below w.heap.size w ((q0.setCell ⟨w.heap.size + 1, 0, none⟩ (.slice y1 s2.length y2)).setCell ⟨w.heap.size + 1, 1, none⟩ (.slice y3 P.length y4))) := (HB.out.setCell (by show _ ≤ w.heap.size + 1; omega) _).setCell (by show _ ≤ w.heap.size + 1; omega) _
  replace R0 : Hid (Bx ((q0.setCell ⟨w.heap.size + 1, 0, none⟩ (.slice y1 s2.length y2)).setCell ⟨w.heap.size + 1, 1, none⟩ (.slice y3 P.length y4)) w.heap.size (.slice x1 s1.length x2) (.slice x3 P.length x4)) := (R0.out.setO (by show w.heap.size + 1 ≠ w.heap.size; first | omega | (have := PR0.out; omega)) _).setO (by show w.heap.size + 1 ≠ w.heap.size; first | omega | (have := PR0.out; omega)) _
  replace R1 : Hid (Bx ((q0.setCell ⟨w.heap.size + 1, 0, none⟩ (.slice y1 s2.length y2)).setCell ⟨w.heap.size + 1, 1, none⟩ (.slice y3 P.length y4)) (w.heap.size + 1) (.slice y1 s2.length y2) (.slice y3 P.length y4)) := (R1.out.set0 _).set1 _
  replace R2 : Hid (Bx ((q0.setCell ⟨w.heap.size + 1, 0, none⟩ (.slice y1 s2.length y2)).setCell ⟨w.heap.size + 1, 1, none⟩ (.slice y3 P.length y4)) (w.heap.size + 2) (.slice none 0 0) (.slice none 0 0)) := (R2.out.setO (by show w.heap.size + 1 ≠ (w.heap.size + 2); first | omega | (have := PR2.out; omega)) _).setO (by show w.heap.size + 1 ≠ (w.heap.size + 2); first | omega | (have := PR2.out; omega)) _
  replace D1 : Hid (DOwn ((q0.setCell ⟨w.heap.size + 1, 0, none⟩ (.slice y1 s2.length y2)).setCell ⟨w.heap.size + 1, 1, none⟩ (.slice y3 P.length y4)) w2.heap.size x1 x2 x3 x4 s1 P) := ⟨(D1.out.s.set (by show w.heap.size + 1 < _; have := MD1.out; omega) _).set (by show w.heap.size + 1 < _; have := MD1.out; omega) _, (D1.out.p.set (by show w.heap.size + 1 < _; have := MD1.out; omega) _).set (by show w.heap.size + 1 < _; have := MD1.out; omega) _⟩
  replace X7 : Hid (Bx ((q0.setCell ⟨w.heap.size + 1, 0, none⟩ (.slice y1 s2.length y2)).setCell ⟨w.heap.size + 1, 1, none⟩ (.slice y3 P.length y4)) B7 (.slice x1 s1.length x2) (.slice x3 P.length x4)) := (X7.out.setO (by show w.heap.size + 1 ≠ B7; first | omega | (have := PX7.out; omega)) _).setO (by show w.heap.size + 1 ≠ B7; first | omega | (have := PX7.out; omega)) _
  replace D2 : Hid (DOwn ((q0.setCell ⟨w.heap.size + 1, 0, none⟩ (.slice y1 s2.length y2)).setCell ⟨w.heap.size + 1, 1, none⟩ (.slice y3 P.length y4)) v3.heap.size y1 y2 y3 y4 s2 P) := ⟨(D2.out.s.set (by show w.heap.size + 1 < _; have := MD2.out; omega) _).set (by show w.heap.size + 1 < _; have := MD2.out; omega) _, (D2.out.p.set (by show w.heap.size + 1 < _; have := MD2.out; omega) _).set (by show w.heap.size + 1 < _; have := MD2.out; omega) _⟩
  replace X8 : Hid (Bx ((q0.setCell ⟨w.heap.size + 1, 0, none⟩ (.slice y1 s2.length y2)).setCell ⟨w.heap.size + 1, 1, none⟩ (.slice y3 P.length y4)) B8 (.slice y1 s2.length y2) (.slice y3 P.length y4)) := (X8.out.setO (by show w.heap.size + 1 ≠ B8; first | omega | (have := PX8.out; omega)) _).setO (by show w.heap.size + 1 ≠ B8; first | omega | (have := PX8.out; omega)) _
  replace D3 : Hid (DOwn ((q0.setCell ⟨w.heap.size + 1, 0, none⟩ (.slice y1 s2.length y2)).setCell ⟨w.heap.size + 1, 1, none⟩ (.slice y3 P.length y4)) v4.drew.heap.size z1 z2 z3 z4 s1 P) := ⟨(D3.out.s.set (by show w.heap.size + 1 < _; have := MD3.out; omega) _).set (by show w.heap.size + 1 < _; have := MD3.out; omega) _, (D3.out.p.set (by show w.heap.size + 1 < _; have := MD3.out; omega) _).set (by show w.heap.size + 1 < _; have := MD3.out; omega) _⟩
  refine hK.out _ _ ⟨X7.out.c0, X7.out.c1, X8.out.c0, X8.out.c1⟩ (fun _ => ?_)
  clear hK K
  generalize ((q0.setCell ⟨w.heap.size + 1, 0, none⟩ (.slice y1 s2.length y2)).setCell ⟨w.heap.size + 1, 1, none⟩ (.slice y3 P.length y4)) = q1 at *
  refine wpAnyH_ready (rs := [6]) (by kernel_rfl) (by simp) ?_
  refine AllReadyH.cons rfl (fun K hK => ?_) AllReadyH.nil
  have r0 := R2.out.c0
  have r1 := R2.out.c1
  have rf := R2.out.fz
  go_simp
  clear r0 r1 rf
  replace HB : Hid (Below w.heap.size w ((q1.setCell ⟨w.heap.size + 2, 0, none⟩ (.slice z1 s1.length z2)).setCell ⟨w.heap.size + 2, 1, none⟩ (.slice z3 P.length z4))) := (HB.out.setCell (by show _ ≤ w.heap.size + 2; omega) _).setCell (by show _ ≤ w.heap.size + 2; omega) _
  replace R0 : Hid (Bx ((q1.setCell ⟨w.heap.size + 2, 0, none⟩ (.slice z1 s1.length z2)).setCell ⟨w.heap.size + 2, 1, none⟩ (.slice z3 P.length z4)) w.heap.size (.slice x1 s1.length x2) (.slice x3 P.length x4)) := (R0.out.setO (by show w.heap.size + 2 ≠ w.heap.size; first | omega | (have := PR0.out; omega)) _).setO (by show w.heap.size + 2 ≠ w.heap.size; first | omega | (have := PR0.out; omega)) _
  replace R1 : Hid (Bx ((q1.setCell ⟨w.heap.size + 2, 0, none⟩ (.slice z1 s1.length z2)).setCell ⟨w.heap.size + 2, 1, none⟩ (.slice z3 P.length z4)) (w.heap.size + 1) (.slice y1 s2.length y2) (.slice y3 P.length y4)) := (R1.out.setO (by show w.heap.size + 2 ≠ (w.heap.size + 1); first | omega | (have := PR1.out; omega)) _).setO (by show w.heap.size + 2 ≠ (w.heap.size + 1); first | omega | (have := PR1.out; omega)) _
  replace R2 : Hid (Bx ((q1.setCell ⟨w.heap.size + 2, 0, none⟩ (.slice z1 s1.length z2)).setCell ⟨w.heap.size + 2, 1, none⟩ (.slice z3 P.length z4)) (w.heap.size + 2) (.slice z1 s1.length z2) (.slice z3 P.length z4)) := (R2.out.set0 _).set1 _
  replace D1 : Hid (DOwn ((q1.setCell ⟨w.heap.size + 2, 0, none⟩ (.slice z1 s1.length z2)).setCell ⟨w.heap.size + 2, 1, none⟩ (.slice z3 P.length z4)) w2.heap.size x1 x2 x3 x4 s1 P) := ⟨(D1.out.s.set (by show w.heap.size + 2 < _; have := MD1.out; omega) _).set (by show w.heap.size + 2 < _; have := MD1.out; omega) _, (D1.out.p.set (by show w.heap.size + 2 < _; have := MD1.out; omega) _).set (by show w.heap.size + 2 < _; have := MD1.out; omega) _⟩
  replace X7 : Hid (Bx ((q1.setCell ⟨w.heap.size + 2, 0, none⟩ (.slice z1 s1.length z2)).setCell ⟨w.heap.size + 2, 1, none⟩ (.slice z3 P.length z4)) B7 (.slice x1 s1.length x2) (.slice x3 P.length x4)) := (X7.out.setO (by show w.heap.size + 2 ≠ B7; first | omega | (have := PX7.out; omega)) _).setO (by show w.heap.size + 2 ≠ B7; first | omega | (have := PX7.out; omega)) _
  replace D2 : Hid (DOwn ((q1.setCell ⟨w.heap.size + 2, 0, none⟩ (.slice z1 s1.length z2)).setCell ⟨w.heap.size + 2, 1, none⟩ (.slice z3 P.length z4)) v3.heap.size y1 y2 y3 y4 s2 P) := ⟨(D2.out.s.set (by show w.heap.size + 2 < _; have := MD2.out; omega) _).set (by show w.heap.size + 2 < _; have := MD2.out; omega) _, (D2.out.p.set (by show w.heap.size + 2 < _; have := MD2.out; omega) _).set (by show w.heap.size + 2 < _; have := MD2.out; omega) _⟩
  replace X8 : Hid (Bx ((q1.setCell ⟨w.heap.size + 2, 0, none⟩ (.slice z1 s1.length z2)).setCell ⟨w.heap.size + 2, 1, none⟩ (.slice z3 P.length z4)) B8 (.slice y1 s2.length y2) (.slice y3 P.length y4)) := (X8.out.setO (by show w.heap.size + 2 ≠ B8; first | omega | (have := PX8.out; omega)) _).setO (by show w.heap.size + 2 ≠ B8; first | omega | (have := PX8.out; omega)) _
  replace D3 : Hid (DOwn ((q1.setCell ⟨w.heap.size + 2, 0, none⟩ (.slice z1 s1.length z2)).setCell ⟨w.heap.size + 2, 1, none⟩ (.slice z3 P.length z4)) v4.drew.heap.size z1 z2 z3 z4 s1 P) := ⟨(D3.out.s.set (by show w.heap.size + 2 < _; have := MD3.out; omega) _).set (by show w.heap.size + 2 < _; have := MD3.out; omega) _, (D3.out.p.set (by show w.heap.size + 2 < _; have := MD3.out; omega) _).set (by show w.heap.size + 2 < _; have := MD3.out; omega) _⟩
  refine hK.out _ _ ⟨X7.out.c0, X7.out.c1, X8.out.c0, X8.out.c1⟩ (fun _ => ?_)
  clear hK K
  generalize ((q1.setCell ⟨w.heap.size + 2, 0, none⟩ (.slice z1 s1.length z2)).setCell ⟨w.heap.size + 2, 1, none⟩ (.slice z3 P.length z4)) = q2 at *
  refine wpAnyH_done (by kernel_rfl) ?_ _
  have v00 := R0.out.c0
  have v01 := R0.out.c1
  have v10 := R1.out.c0
  have v11 := R1.out.c1
  have v20 := R2.out.c0
  have v21 := R2.out.c1
  go_wp2
  refine bodyPost_ret (v := .tuple #[.agg #[.slice x1 s1.length x2, .slice x3 P.length x4], .agg #[.slice y1 s2.length y2, .slice y3 P.length y4], .agg #[.slice z1 s1.length z2, .slice z3 P.length z4]]) (by simp [results, Tryz.results8, go_sem, v00, v01, v10, v11, v20, v21]) rfl ⟨s1, P, x1, x2, x3, x4, s2, P, y1, y2, y3, y4, s1, P, z1, z2, z3, z4, rfl, HI.out, HJ.out, HI.out, D1.out.s.srow, D1.out.p.prow, D2.out.s.srow, D2.out.p.prow, D3.out.s.srow, D3.out.p.prow, HB.out⟩
 ·skip
  go_upto_region 9 with fail
  refine wp_region_held_drew (S := fun w' => w'.cell? ⟨B7, 0, none⟩ = some (.slice x1 s1.length x2) ∧ w'.cell? ⟨B7, 1, none⟩ = some (.slice x3 P.length x4) ∧ w'.cell? ⟨B8, 0, none⟩ = some (.slice y1 s2.length y2) ∧ w'.cell? ⟨B8, 1, none⟩ = some (.slice y3 P.length y4)) (by kernel_rfl) ⟨X7.out.c0, X7.out.c1, X8.out.c0, X8.out.c1⟩ (fun hHeld => ?_)
  (refine tk 0 ?_ rfl (Or.inl ⟨by rfl, ?_⟩) ?_; rotate_left; (focus (intro w h; (try dsimp only at h); go_simp; (try with_reducible rfl))); simp only [Act.put, tA, tB, tD, tE, tF])
  (refine tk 1 ?_ rfl (Or.inl ⟨by rfl, ?_⟩) ?_; rotate_left; (focus (intro w h; (try dsimp only at h); go_simp; (try with_reducible rfl))); simp only [Act.put, tA, tB, tC, tD, tE, tF])
  (refine tk 2 ?_ rfl (Or.inl ⟨by rfl, ?_⟩) ?_; rotate_left; (focus (intro w h; (try dsimp only at h); go_simp; (try with_reducible rfl))); simp only [Act.put, tA, tB, tC, tD, tE, tF])
  refine wpAnyH_ready (rs := [3]) (by kernel_rfl) (by simp) ?_
  refine AllReadyH.cons rfl (fun K hK => ?_) AllReadyH.nil
  go_simp
  go_wp2_with fail
  refine (copy64 s2 P y1 y3 y2 y4 _ (by have := HJ.out.1; omega) (by have := HJ.out.2.1; omega) _ D2.out.drew).mono ?_
  rintro e w5 ⟨z1, z2, z3, z4, rfl, hd, hb⟩
  have hz9 := hb.size
  replace hb := undrew hb
  replace HB : Hid (Below w.heap.size w w5) := HB.out.trans (hb.mono HB.out.size)
  replace R0 : Hid (Bx w5 w.heap.size (.slice none 0 0) (.slice none 0 0)) := R0.out.keep hb R0.out.lt
  replace R1 : Hid (Bx w5 (w.heap.size + 1) (.slice none 0 0) (.slice none 0 0)) := R1.out.keep hb R1.out.lt
  replace R2 : Hid (Bx w5 (w.heap.size + 2) (.slice none 0 0) (.slice none 0 0)) := R2.out.keep hb R2.out.lt
  replace HC : Hid (CurOk w5 g a len cap) := HC.out.below hb GL.out
  replace D1 : Hid (DOwn w5 w2.heap.size x1 x2 x3 x4 s1 P) := D1.out.below hb
  replace X7 : Hid (Bx w5 B7 (.slice x1 s1.length x2) (.slice x3 P.length x4)) := X7.out.keep hb X7.out.lt
  replace D2 : Hid (DOwn w5 v3.heap.size y1 y2 y3 y4 s2 P) := D2.out.below hb
  replace X8 : Hid (Bx w5 B8 (.slice y1 s2.length y2) (.slice y3 P.length y4)) := X8.out.keep hb X8.out.lt
  replace GL : Hid (g < w5.heap.size) := Nat.lt_of_lt_of_le GL.out hb.size
  have D3 : Hid (DOwn w5 v4.drew.heap.size z1 z2 z3 z4 s2 P) := hd
  have MD3 : Hid (g < v4.drew.heap.size) := GL3.out
  clear hd
  clear hb
  go_wp2_with fail
  refine hK.out _ _ ⟨X7.out.c0, X7.out.c1, X8.out.c0, X8.out.c1⟩ (fun _ => ?_)
  clear hK K
  refine wpAnyH_ready (rs := [4]) (by kernel_rfl) (by simp) ?_
  refine AllReadyH.cons rfl (fun K hK => ?_) AllReadyH.nil
  have r0 := R0.out.c0
  have r1 := R0.out.c1
  have rf := R0.out.fz
  go_simp
  clear r0 r1 rf
  replace HB : Hid (Below w.heap.size w ((w5.setCell ⟨w.heap.size, 0, none⟩ (.slice x1 s1.length x2)).setCell ⟨w.heap.size, 1, none⟩ (.slice x3 P.length x4))) := (HB.out.setCell (by show _ ≤ w.heap.size; omega) _).setCell (by show _ ≤ w.heap.size; omega) _
  replace R0 : Hid (Bx ((w5.setCell ⟨w.heap.size, 0, none⟩ (.slice x1 s1.length x2)).setCell ⟨w.heap.size, 1, none⟩ (.slice x3 P.length x4)) w.heap.size (.slice x1 s1.length x2) (.slice x3 P.length x4)) := (R0.out.set0 _).set1 _
  replace R1 : Hid (Bx ((w5.setCell ⟨w.heap.size, 0, none⟩ (.slice x1 s1.length x2)).setCell ⟨w.heap.size, 1, none⟩ (.slice x3 P.length x4)) (w.heap.size + 1) (.slice none 0 0) (.slice none 0 0)) := (R1.out.setO (by show w.heap.size ≠ (w.heap.size + 1); first | omega | (have := PR1.out; omega)) _).setO (by show w.heap.size ≠ (w.heap.size + 1); first | omega | (have := PR1.out; omega)) _
  replace R2 : Hid (Bx ((w5.setCell ⟨w.heap.size, 0, none⟩ (.slice x1 s1.length x2)).setCell ⟨w.heap.size, 1, none⟩ (.slice x3 P.length x4)) (w.heap.size + 2) (.slice none 0 0) (.slice none 0 0)) := (R2.out.setO (by show w.heap.size ≠ (w.heap.size + 2); first | omega | (have := PR2.out; omega)) _).setO (by show w.heap.size ≠ (w.heap.size + 2); first | omega | (have := PR2.out; omega)) _
  replace D1 : Hid (DOwn ((w5.setCell ⟨w.heap.size, 0, none⟩ (.slice x1 s1.length x2)).setCell ⟨w.heap.size, 1, none⟩ (.slice x3 P.length x4)) w2.heap.size x1 x2 x3 x4 s1 P) := ⟨(D1.out.s.set (by show w.heap.size < _; have := MD1.out; omega) _).set (by show w.heap.size < _; have := MD1.out; omega) _, (D1.out.p.set (by show w.heap.size < _; have := MD1.out; omega) _).set (by show w.heap.size < _; have := MD1.out; omega) _⟩
  replace X7 : Hid (Bx ((w5.setCell ⟨w.heap.size, 0, none⟩ (.slice x1 s1.length x2)).setCell ⟨w.heap.size, 1, none⟩ (.slice x3 P.length x4)) B7 (.slice x1 s1.length x2) (.slice x3 P.length x4)) := (X7.out.setO (by show w.heap.size ≠ B7; first | omega | (have := PX7.out; omega)) _).setO (by show w.heap.size ≠ B7; first | omega | (have := PX7.out; omega)) _
  replace D2 : Hid (DOwn ((w5.setCell ⟨w.heap.size, 0, none⟩ (.slice x1 s1.length x2)).setCell ⟨w.heap.size, 1, none⟩ (.slice x3 P.length x4)) v3.heap.size y1 y2 y3 y4 s2 P) := ⟨(D2.out.s.set (by show w.heap.size < _; have := MD2.out; omega) _).set (by show w.heap.size < _; have := MD2.out; omega) _, (D2.out.p.set (by show w.heap.size < _; have := MD2.out; omega) _).set (by show w.heap.size < _; have := MD2.out; omega) _⟩
  replace X8 : Hid (Bx ((w5.setCell ⟨w.heap.size, 0, none⟩ (.slice x1 s1.length x2)).setCell ⟨w.heap.size, 1, none⟩ (.slice x3 P.length x4)) B8 (.slice y1 s2.length y2) (.slice y3 P.length y4)) := (X8.out.setO (by show w.heap.size ≠ B8; first | omega | (have := PX8.out; omega)) _).setO (by show w.heap.size ≠ B8; first | omega | (have := PX8.out; omega)) _
  replace D3 : Hid (DOwn ((w5.setCell ⟨w.heap.size, 0, none⟩ (.slice x1 s1.length x2)).setCell ⟨w.heap.size, 1, none⟩ (.slice x3 P.length x4)) v4.drew.heap.size z1 z2 z3 z4 s2 P) := ⟨(D3.out.s.set (by show w.heap.size < _; have := MD3.out; omega) _).set (by show w.heap.size < _; have := MD3.out; omega) _, (D3.out.p.set (by show w.heap.size < _; have := MD3.out; omega) _).set (by show w.heap.size < _; have := MD3.out; omega) _⟩
  clear HC
  clear GL
  refine hK.out _ _ ⟨X7.out.c0, X7.out.c1, X8.out.c0, X8.out.c1⟩ (fun _ => ?_)
  clear hK K
  generalize ((w5.setCell ⟨w.heap.size, 0, none⟩ (.slice x1 s1.length x2)).setCell ⟨w.heap.size, 1, none⟩ (.slice x3 P.length x4)) = q0 at *
  refine wpAnyH_ready (rs := [5]) (by kernel_rfl) (by simp) ?_
  refine AllReadyH.cons rfl (fun K hK => ?_) AllReadyH.nil
  have r0 := R1.out.c0
  have r1 := R1.out.c1
  have rf := R1.out.fz
  go_simp
  clear r0 r1 rf
  replace HB : Hid (Below w.heap.size w ((q0.setCell ⟨w.heap.size + 1, 0, none⟩ (.slice y1 s2.length y2)).setCell ⟨w.heap.size + 1, 1, none⟩ (.slice y3 P.length y4))) := (HB.out.setCell (by show _ ≤ w.heap.size + 1; omega) _).setCell (by show _ ≤ w.heap.size + 1; omega) _
  replace R0 : Hid (Bx ((q0.setCell ⟨w.heap.size + 1, 0, none⟩ (.slice y1 s2.length y2)).setCell ⟨w.heap.size + 1, 1, none⟩ (.slice y3 P.length y4)) w.heap.size (.slice x1 s1.length x2) (.slice x3 P.length x4)) := (R0.out.setO (by show w.heap.size + 1 ≠ w.heap.size; first | omega | (have := PR0.out; omega)) _).setO (by show w.heap.size + 1 ≠ w.heap.size; first | omega | (have := PR0.out; omega)) _
  replace R1 : Hid (Bx ((q0.setCell ⟨w.heap.size + 1, 0, none⟩ (.slice y1 s2.length y2)).setCell ⟨w.heap.size + 1, 1, none⟩ (.slice y3 P.length y4)) (w.heap.size + 1) (.slice y1 s2.length y2) (.slice y3 P.length y4)) := (R1.out.set0 _).set1 _
  replace R2 : Hid (Bx ((q0.setCell ⟨w.heap.size + 1, 0, none⟩ (.slice y1 s2.length y2)).setCell ⟨w.heap.size + 1, 1, none⟩ (.slice y3 P.length y4)) (w.heap.size + 2) (.slice none 0 0) (.slice none 0 0)) := (R2.out.setO (by show w.heap.size + 1 ≠ (w.heap.size + 2); first | omega | (have := PR2.out; omega)) _).setO (by show w.heap.size + 1 ≠ (w.heap.size + 2); first | omega | (have := PR2.out; omega)) _
  replace D1 : Hid (DOwn ((q0.setCell ⟨w.heap.size + 1, 0, none⟩ (.slice y1 s2.length y2)).setCell ⟨w.heap.size + 1, 1, none⟩ (.slice y3 P.length y4)) w2.heap.size x1 x2 x3 x4 s1 P) := ⟨(D1.out.s.set (by show w.heap.size + 1 < _; have := MD1.out; omega) _).set (by show w.heap.size + 1 < _; have := MD1.out; omega) _, (D1.out.p.set (by show w.heap.size + 1 < _; have := MD1.out; omega) _).set (by show w.heap.size + 1 < _; have := MD1.out; omega) _⟩
  replace X7 : Hid (Bx ((q0.setCell ⟨w.heap.size + 1, 0, none⟩ (.slice y1 s2.length y2)).setCell ⟨w.heap.size + 1, 1, none⟩ (.slice y3 P.length y4)) B7 (.slice x1 s1.length x2) (.slice x3 P.length x4)) := (X7.out.setO (by show w.heap.size + 1 ≠ B7; first | omega | (have := PX7.out; omega)) _).setO (by show w.heap.size + 1 ≠ B7; first | omega | (have := PX7.out; omega)) _
  replace D2 : Hid (DOwn ((q0.setCell ⟨w.heap.size + 1, 0, none⟩ (.slice y1 s2.length y2)).setCell ⟨w.heap.size + 1, 1, none⟩ (.slice y3 P.length y4)) v3.heap.size y1 y2 y3 y4 s2 P) := ⟨(D2.out.s.set (by show w.heap.size + 1 < _; have := MD2.out; omega) _).set (by show w.heap.size + 1 < _; have := MD2.out; omega) _, (D2.out.p.set (by show w.heap.size + 1 < _; have := MD2.out; omega) _).set (by show w.heap.size + 1 < _; have := MD2.out; omega) _⟩
  replace X8 : Hid (Bx ((q0.setCell ⟨w.heap.size + 1, 0, none⟩ (.slice y1 s2.length y2)).setCell ⟨w.heap.size + 1, 1, none⟩ (.slice y3 P.length y4)) B8 (.slice y1 s2.length y2) (.slice y3 P.length y4)) := (X8.out.setO (by show w.heap.size + 1 ≠ B8; first | omega | (have := PX8.out; omega)) _).setO (by show w.heap.size + 1 ≠ B8; first | omega | (have := PX8.out; omega)) _
  replace D3 : Hid (DOwn ((q0.setCell ⟨w.heap.size + 1, 0, none⟩ (.slice y1 s2.length y2)).setCell ⟨w.heap.size + 1, 1, none⟩ (.slice y3 P.length y4)) v4.drew.heap.size z1 z2 z3 z4 s2 P) := ⟨(D3.out.s.set (by show w.heap.size + 1 < _; have := MD3.out; omega) _).set (by show w.heap.size + 1 < _; have := MD3.out; omega) _, (D3.out.p.set (by show w.heap.size + 1 < _; have := MD3.out; omega) _).set (by show w.heap.size + 1 < _; have := MD3.out; omega) _⟩
  refine hK.out _ _ ⟨X7.out.c0, X7.out.c1, X8.out.c0, X8.out.c1⟩ (fun _ => ?_)
  clear hK K
  generalize ((q0.setCell ⟨w.heap.size + 1, 0, none⟩ (.slice y1 s2.length y2)).setCell ⟨w.heap.size + 1, 1, none⟩ (.slice y3 P.length y4)) = q1 at *
  refine wpAnyH_ready (rs := [6]) (by kernel_rfl) (by simp) ?_
  refine AllReadyH.cons rfl (fun K hK => ?_) AllReadyH.nil
  have r0 := R2.out.c0
  have r1 := R2.out.c1
  have rf := R2.out.fz
  go_simp
  clear r0 r1 rf
  replace HB : Hid (Below w.heap.size w ((q1.setCell ⟨w.heap.size + 2, 0, none⟩ (.slice z1 s2.length z2)).setCell ⟨w.heap.size + 2, 1, none⟩ (.slice z3 P.length z4))) := (HB.out.setCell (by show _ ≤ w.heap.size + 2; omega) _).setCell (by show _ ≤ w.heap.size + 2; omega) _
  replace R0 : Hid (Bx ((q1.setCell ⟨w.heap.size + 2, 0, none⟩ (.slice z1 s2.length z2)).setCell ⟨w.heap.size + 2, 1, none⟩ (.slice z3 P.length z4)) w.heap.size (.slice x1 s1.length x2) (.slice x3 P.length x4)) := (R0.out.setO (by show w.heap.size + 2 ≠ w.heap.size; first | omega | (have := PR0.out; omega)) _).setO (by show w.heap.size + 2 ≠ w.heap.size; first | omega | (have := PR0.out; omega)) _
  replace R1 : Hid (Bx ((q1.setCell ⟨w.heap.size + 2, 0, none⟩ (.slice z1 s2.length z2)).setCell ⟨w.heap.size + 2, 1, none⟩ (.slice z3 P.length z4)) (w.heap.size + 1) (.slice y1 s2.length y2) (.slice y3 P.length y4)) := (R1.out.setO (by show w.heap.size + 2 ≠ (w.heap.size + 1); first | omega | (have := PR1.out; omega)) _).setO (by show w.heap.size + 2 ≠ (w.heap.size + 1); first | omega | (have := PR1.out; omega)) _
  replace R2 : Hid (Bx ((q1.setCell ⟨w.heap.size + 2, 0, none⟩ (.slice z1 s2.length z2)).setCell ⟨w.heap.size + 2, 1, none⟩ (.slice z3 P.length z4)) (w.heap.size + 2) (.slice z1 s2.length z2) (.slice z3 P.length z4)) := (R2.out.set0 _).set1 _
  replace D1 : Hid (DOwn ((q1.setCell ⟨w.heap.size + 2, 0, none⟩ (.slice z1 s2.length z2)).setCell ⟨w.heap.size + 2, 1, none⟩ (.slice z3 P.length z4)) w2.heap.size x1 x2 x3 x4 s1 P) := ⟨(D1.out.s.set (by show w.heap.size + 2 < _; have := MD1.out; omega) _).set (by show w.heap.size + 2 < _; have := MD1.out; omega) _, (D1.out.p.set (by show w.heap.size + 2 < _; have := MD1.out; omega) _).set (by show w.heap.size + 2 < _; have := MD1.out; omega) _⟩
  replace X7 : Hid (Bx ((q1.setCell ⟨w.heap.size + 2, 0, none⟩ (.slice z1 s2.length z2)).setCell ⟨w.heap.size + 2, 1, none⟩ (.slice z3 P.length z4)) B7 (.slice x1 s1.length x2) (.slice x3 P.length x4)) := (X7.out.setO (by show w.heap.size + 2 ≠ B7; first | omega | (have := PX7.out; omega)) _).setO (by show w.heap.size + 2 ≠ B7; first | omega | (have := PX7.out; omega)) _
  replace D2 : Hid (DOwn ((q1.setCell ⟨w.heap.size + 2, 0, none⟩ (.slice z1 s2.length z2)).setCell ⟨w.heap.size + 2, 1, none⟩ (.slice z3 P.length z4)) v3.heap.size y1 y2 y3 y4 s2 P) := ⟨(D2.out.s.set (by show w.heap.size + 2 < _; have := MD2.out; omega) _).set (by show w.heap.size + 2 < _; have := MD2.out; omega) _, (D2.out.p.set (by show w.heap.size + 2 < _; have := MD2.out; omega) _).set (by show w.heap.size + 2 < _; have := MD2.out; omega) _⟩
  replace X8 : Hid (Bx ((q1.setCell ⟨w.heap.size + 2, 0, none⟩ (.slice z1 s2.length z2)).setCell ⟨w.heap.size + 2, 1, none⟩ (.slice z3 P.length z4)) B8 (.slice y1 s2.length y2) (.slice y3 P.length y4)) := (X8.out.setO (by show w.heap.size + 2 ≠ B8; first | omega | (have := PX8.out; omega)) _).setO (by show w.heap.size + 2 ≠ B8; first | omega | (have := PX8.out; omega)) _
  replace D3 : Hid (DOwn ((q1.setCell ⟨w.heap.size + 2, 0, none⟩ (.slice z1 s2.length z2)).setCell ⟨w.heap.size + 2, 1, none⟩ (.slice z3 P.length z4)) v4.drew.heap.size z1 z2 z3 z4 s2 P) := ⟨(D3.out.s.set (by show w.heap.size + 2 < _; have := MD3.out; omega) _).set (by show w.heap.size + 2 < _; have := MD3.out; omega) _, (D3.out.p.set (by show w.heap.size + 2 < _; have := MD3.out; omega) _).set (by show w.heap.size + 2 < _; have := MD3.out; omega) _⟩
  refine hK.out _ _ ⟨X7.out.c0, X7.out.c1, X8.out.c0, X8.out.c1⟩ (fun _ => ?_)
  clear hK K
  generalize ((q1.setCell ⟨w.heap.size + 2, 0, none⟩ (.slice z1 s2.length z2)).setCell ⟨w.heap.size + 2, 1, none⟩ (.slice z3 P.length z4)) = q2 at *
  refine wpAnyH_done (by kernel_rfl) ?_ _
  have v00 := R0.out.c0
  have v01 := R0.out.c1
  have v10 := R1.out.c0
  have v11 := R1.out.c1
  have v20 := R2.out.c0
  have v21 := R2.out.c1
  go_wp2
  refine bodyPost_ret (v := .tuple #[.agg #[.slice x1 s1.length x2, .slice x3 P.length x4], .agg #[.slice y1 s2.length y2, .slice y3 P.length y4], .agg #[.slice z1 s2.length z2, .slice z3 P.length z4]]) (by simp [results, Tryz.results8, go_sem, v00, v01, v10, v11, v20, v21]) rfl ⟨s1, P, x1, x2, x3, x4, s2, P, y1, y2, y3, y4, s2, P, z1, z2, z3, z4, rfl, HI.out, HJ.out, HJ.out, D1.out.s.srow, D1.out.p.prow, D2.out.s.srow, D2.out.p.prow, D3.out.s.srow, D3.out.p.prow, HB.out⟩
 ·skip
  go_upto_region 10 with fail
  refine wp_region_held_drew (S := fun w' => w'.cell? ⟨B7, 0, none⟩ = some (.slice x1 s1.length x2) ∧ w'.cell? ⟨B7, 1, none⟩ = some (.slice x3 P.length x4) ∧ w'.cell? ⟨B8, 0, none⟩ = some (.slice y1 s2.length y2) ∧ w'.cell? ⟨B8, 1, none⟩ = some (.slice y3 P.length y4)) (by kernel_rfl) ⟨X7.out.c0, X7.out.c1, X8.out.c0, X8.out.c1⟩ (fun hHeld => ?_)
  (refine tk 0 ?_ rfl (Or.inl ⟨by rfl, ?_⟩) ?_; rotate_left; (focus (intro w h; (try dsimp only at h); go_simp; (try with_reducible rfl))); simp only [Act.put, tA, tB, tD, tE, tF])
  (refine tk 1 ?_ rfl (Or.inl ⟨by rfl, ?_⟩) ?_; rotate_left; (focus (intro w h; (try dsimp only at h); go_simp; (try with_reducible rfl))); simp only [Act.put, tA, tB, tC, tD, tE, tF])
  (refine tk 2 ?_ rfl (Or.inl ⟨by rfl, ?_⟩) ?_; rotate_left; (focus (intro w h; (try dsimp only at h); go_simp; (try with_reducible rfl))); simp only [Act.put, tA, tB, tC, tD, tE, tF])
  refine wpAnyH_ready (rs := [3]) (by kernel_rfl) (by simp) ?_
  refine AllReadyH.cons rfl (fun K hK => ?_) AllReadyH.nil
  go_simp
  go_wp2_with fail
  refine (any83s g len cap a hl _ (HC.out.below (belowRefl _).drew GL.out) GL.out (fun b off e h0 => Nat.lt_of_lt_of_le (HCODE.out b off e h0) HB.out.size)).mono ?_
  rintro e w5 ⟨s3, p3, z1, z2, z3, z4, rfl, hd, hK3, hc, hg⟩
  replace HB : Hid (Below w.heap.size w v4.drew) := HB.out.drew
  replace R0 : Hid (Bx v4.drew w.heap.size (.slice none 0 0) (.slice none 0 0)) := R0.out.drew
  replace R1 : Hid (Bx v4.drew (w.heap.size + 1) (.slice none 0 0) (.slice none 0 0)) := R1.out.drew
  replace R2 : Hid (Bx v4.drew (w.heap.size + 2) (.slice none 0 0) (.slice none 0 0)) := R2.out.drew
  replace GL : Hid (g < v4.drew.heap.size) := GL.out
  replace D1 : Hid (DOwn v4.drew w2.heap.size x1 x2 x3 x4 s1 P) := D1.out.drew
  replace X7 : Hid (Bx v4.drew B7 (.slice x1 s1.length x2) (.slice x3 P.length x4)) := X7.out.drew
  replace D2 : Hid (DOwn v4.drew v3.heap.size y1 y2 y3 y4 s2 P) := D2.out.drew
  replace X8 : Hid (Bx v4.drew B8 (.slice y1 s2.length y2) (.slice y3 P.length y4)) := X8.out.drew
  replace HB : Hid (Below w.heap.size w w5) := HB.out.trans (below_of_grown hg (by omega) HB.out.size)
  replace R0 : Hid (Bx w5 w.heap.size (.slice none 0 0) (.slice none 0 0)) := R0.out.keepG hg (fun e => by have := Option.some.inj e; have := NR0.out; omega)
  replace R1 : Hid (Bx w5 (w.heap.size + 1) (.slice none 0 0) (.slice none 0 0)) := R1.out.keepG hg (fun e => by have := Option.some.inj e; have := NR1.out; omega)
  replace R2 : Hid (Bx w5 (w.heap.size + 2) (.slice none 0 0) (.slice none 0 0)) := R2.out.keepG hg (fun e => by have := Option.some.inj e; have := NR2.out; omega)
  replace HC : Hid (CurOk w5 g a len cap) := hc
  replace D1 : Hid (DOwn w5 w2.heap.size x1 x2 x3 x4 s1 P) := D1.out.keptG hg (by have := MD1.out; omega)
  replace X7 : Hid (Bx w5 B7 (.slice x1 s1.length x2) (.slice x3 P.length x4)) := X7.out.keepG hg (fun e => by have := Option.some.inj e; have := NX7.out; omega)
  replace D2 : Hid (DOwn w5 v3.heap.size y1 y2 y3 y4 s2 P) := D2.out.keptG hg (by have := MD2.out; omega)
  replace X8 : Hid (Bx w5 B8 (.slice y1 s2.length y2) (.slice y3 P.length y4)) := X8.out.keepG hg (fun e => by have := Option.some.inj e; have := NX8.out; omega)
  replace GL : Hid (g < w5.heap.size) := Nat.lt_of_lt_of_le GL.out hg.size
  have D3 : Hid (DOwn w5 v4.drew.heap.size z1 z2 z3 z4 s3 p3) := hd
  have MD3 : Hid (g < v4.drew.heap.size) := GL3.out
  have HK3 : Hid (LbI s3 p3) := hK3
  clear hd hK3
  clear hg hc
  go_wp2_with fail
  refine hK.out _ _ ⟨X7.out.c0, X7.out.c1, X8.out.c0, X8.out.c1⟩ (fun _ => ?_)
  clear hK K
  refine wpAnyH_ready (rs := [4]) (by kernel_rfl) (by simp) ?_
  refine AllReadyH.cons rfl (fun K hK => ?_) AllReadyH.nil
  have r0 := R0.out.c0
  have r1 := R0.out.c1
  have rf := R0.out.fz
  go_simp
  clear r0 r1 rf
  replace HB : Hid (Below w.heap.size w ((w5.setCell ⟨w.heap.size, 0, none⟩ (.slice x1 s1.length x2)).setCell ⟨w.heap.size, 1, none⟩ (.slice x3 P.length x4))) := (HB.out.setCell (by show _ ≤ w.heap.size; omega) _).setCell (by show _ ≤ w.heap.size; omega) _
  replace R0 : Hid (Bx ((w5.setCell ⟨w.heap.size, 0, none⟩ (.slice x1 s1.length x2)).setCell ⟨w.heap.size, 1, none⟩ (.slice x3 P.length x4)) w.heap.size (.slice x1 s1.length x2) (.slice x3 P.length x4)) := (R0.out.set0 _).set1 _
  replace R1 : Hid (Bx ((w5.setCell ⟨w.heap.size, 0, none⟩ (.slice x1 s1.length x2)).setCell ⟨w.heap.size, 1, none⟩ (.slice x3 P.length x4)) (w.heap.size + 1) (.slice none 0 0) (.slice none 0 0)) := (R1.out.setO (by show w.heap.size ≠ (w.heap.size + 1); first | omega | (have := PR1.out; omega)) _).setO (by show w.heap.size ≠ (w.heap.size + 1); first | omega | (have := PR1.out; omega)) _
  replace R2 : Hid (Bx ((w5.setCell ⟨w.heap.size, 0, none⟩ (.slice x1 s1.length x2)).setCell ⟨w.heap.size, 1, none⟩ (.slice x3 P.length x4)) (w.heap.size + 2) (.slice none 0 0) (.slice none 0 0)) := (R2.out.setO (by show w.heap.size ≠ (w.heap.size + 2); first | omega | (have := PR2.out; omega)) _).setO (by show w.heap.size ≠ (w.heap.size + 2); first | omega | (have := PR2.out; omega)) _
  replace D1 : Hid (DOwn ((w5.setCell ⟨w.heap.size, 0, none⟩ (.slice x1 s1.length x2)).setCell ⟨w.heap.size, 1, none⟩ (.slice x3 P.length x4)) w2.heap.size x1 x2 x3 x4 s1 P) := ⟨(D1.out.s.set (by show w.heap.size < _; have := MD1.out; omega) _).set (by show w.heap.size < _; have := MD1.out; omega) _, (D1.out.p.set (by show w.heap.size < _; have := MD1.out; omega) _).set (by show w.heap.size < _; have := MD1.out; omega) _⟩
  replace X7 : Hid (Bx ((w5.setCell ⟨w.heap.size, 0, none⟩ (.slice x1 s1.length x2)).setCell ⟨w.heap.size, 1, none⟩ (.slice x3 P.length x4)) B7 (.slice x1 s1.length x2) (.slice x3 P.length x4)) := (X7.out.setO (by show w.heap.size ≠ B7; first | omega | (have := PX7.out; omega)) _).setO (by show w.heap.size ≠ B7; first | omega | (have := PX7.out; omega)) _
  replace D2 : Hid (DOwn ((w5.setCell ⟨w.heap.size, 0, none⟩ (.slice x1 s1.length x2)).setCell ⟨w.heap.size, 1, none⟩ (.slice x3 P.length x4)) v3.heap.size y1 y2 y3 y4 s2 P) := ⟨(D2.out.s.set (by show w.heap.size < _; have := MD2.out; omega) _).set (by show w.heap.size < _; have := MD2.out; omega) _, (D2.out.p.set (by show w.heap.size < _; have := MD2.out; omega) _).set (by show w.heap.size < _; have := MD2.out; omega) _⟩
  replace X8 : Hid (Bx ((w5.setCell ⟨w.heap.size, 0, none⟩ (.slice x1 s1.length x2)).setCell ⟨w.heap.size, 1, none⟩ (.slice x3 P.length x4)) B8 (.slice y1 s2.length y2) (.slice y3 P.length y4)) := (X8.out.setO (by show w.heap.size ≠ B8; first | omega | (have := PX8.out; omega)) _).setO (by show w.heap.size ≠ B8; first | omega | (have := PX8.out; omega)) _
  replace D3 : Hid (DOwn ((w5.setCell ⟨w.heap.size, 0, none⟩ (.slice x1 s1.length x2)).setCell ⟨w.heap.size, 1, none⟩ (.slice x3 P.length x4)) v4.drew.heap.size z1 z2 z3 z4 s3 p3) := ⟨(D3.out.s.set (by show w.heap.size < _; have := MD3.out; omega) _).set (by show w.heap.size < _; have := MD3.out; omega) _, (D3.out.p.set (by show w.heap.size < _; have := MD3.out; omega) _).set (by show w.heap.size < _; have := MD3.out; omega) _⟩
  clear HC
  clear GL
  refine hK.out _ _ ⟨X7.out.c0, X7.out.c1, X8.out.c0, X8.out.c1⟩ (fun _ => ?_)
  clear hK K
  generalize ((w5.setCell ⟨w.heap.size, 0, none⟩ (.slice x1 s1.length x2)).setCell ⟨w.heap.size, 1, none⟩ (.slice x3 P.length x4)) = q0 at *
  refine wpAnyH_ready (rs := [5]) (by kernel_rfl) (by simp) ?_
  refine AllReadyH.cons rfl (fun K hK => ?_) AllReadyH.nil
  have r0 := R1.out.c0
  have r1 := R1.out.c1
  have rf := R1.out.fz
  go_simp
  clear r0 r1 rf
  replace HB : Hid (Below w.heap.size w ((q0.setCell ⟨w.heap.size + 1, 0, none⟩ (.slice y1 s2.length y2)).setCell ⟨w.heap.size + 1, 1, none⟩ (.slice y3 P.length y4))) := (HB.out.setCell (by show _ ≤ w.heap.size + 1; omega) _).setCell (by show _ ≤ w.heap.size + 1; omega) _
  replace R0 : Hid (Bx ((q0.setCell ⟨w.heap.size + 1, 0, none⟩ (.slice y1 s2.length y2)).setCell ⟨w.heap.size + 1, 1, none⟩ (.slice y3 P.length y4)) w.heap.size (.slice x1 s1.length x2) (.slice x3 P.length x4)) := (R0.out.setO (by show w.heap.size + 1 ≠ w.heap.size; first | omega | (have := PR0.out; omega)) _).setO (by show w.heap.size + 1 ≠ w.heap.size; first | omega | (have := PR0.out; omega)) _
  replace R1 : Hid (Bx ((q0.setCell ⟨w.heap.size + 1, 0, none⟩ (.slice y1 s2.length y2)).setCell ⟨w.heap.size + 1, 1, none⟩ (.slice y3 P.length y4)) (w.heap.size + 1) (.slice y1 s2.length y2) (.slice y3 P.length y4)) := (R1.out.set0 _).set1 _
  replace R2 : Hid (Bx ((q0.setCell ⟨w.heap.size + 1, 0, none⟩ (.slice y1 s2.length y2)).setCell ⟨w.heap.size + 1, 1, none⟩ (.slice y3 P.length y4)) (w.heap.size + 2) (.slice none 0 0) (.slice none 0 0)) := (R2.out.setO (by show w.heap.size + 1 ≠ (w.heap.size + 2); first | omega | (have := PR2.out; omega)) _).setO (by show w.heap.size + 1 ≠ (w.heap.size + 2); first | omega | (have := PR2.out; omega)) _
  replace D1 : Hid (DOwn ((q0.setCell ⟨w.heap.size + 1, 0, none⟩ (.slice y1 s2.length y2)).setCell ⟨w.heap.size + 1, 1, none⟩ (.slice y3 P.length y4)) w2.heap.size x1 x2 x3 x4 s1 P) := ⟨(D1.out.s.set (by show w.heap.size + 1 < _; have := MD1.out; omega) _).set (by show w.heap.size + 1 < _; have := MD1.out; omega) _, (D1.out.p.set (by show w.heap.size + 1 < _; have := MD1.out; omega) _).set (by show w.heap.size + 1 < _; have := MD1.out; omega) _⟩
  replace X7 : Hid (Bx ((q0.setCell ⟨w.heap.size + 1, 0, none⟩ (.slice y1 s2.length y2)).setCell ⟨w.heap.size + 1, 1, none⟩ (.slice y3 P.length y4)) B7 (.slice x1 s1.length x2) (.slice x3 P.length x4)) := (X7.out.setO (by show w.heap.size + 1 ≠ B7; first | omega | (have := PX7.out; omega)) _).setO (by show w.heap.size + 1 ≠ B7; first | omega | (have := PX7.out; omega)) _
  replace D2 : Hid (DOwn ((q0.setCell ⟨w.heap.size + 1, 0, none⟩ (.slice y1 s2.length y2)).setCell ⟨w.heap.size + 1, 1, none⟩ (.slice y3 P.length y4)) v3.heap.size y1 y2 y3 y4 s2 P) := ⟨(D2.out.s.set (by show w.heap.size + 1 < _; have := MD2.out; omega) _).set (by show w.heap.size + 1 < _; have := MD2.out; omega) _, (D2.out.p.set (by show w.heap.size + 1 < _; have := MD2.out; omega) _).set (by show w.heap.size + 1 < _; have := MD2.out; omega) _⟩
  replace X8 : Hid (Bx ((q0.setCell ⟨w.heap.size + 1, 0, none⟩ (.slice y1 s2.length y2)).setCell ⟨w.heap.size + 1, 1, none⟩ (.slice y3 P.length y4)) B8 (.slice y1 s2.length y2) (.slice y3 P.length y4)) := (X8.out.setO (by show w.heap.size + 1 ≠ B8; first | omega | (have := PX8.out; omega)) _).setO (by show w.heap.size + 1 ≠ B8; first | omega | (have := PX8.out; omega)) _
  replace D3 : Hid (DOwn ((q0.setCell ⟨w.heap.size + 1, 0, none⟩ (.slice y1 s2.length y2)).setCell ⟨w.heap.size + 1, 1, none⟩ (.slice y3 P.length y4)) v4.drew.heap.size z1 z2 z3 z4 s3 p3) := ⟨(D3.out.s.set (by show w.heap.size + 1 < _; have := MD3.out; omega) _).set (by show w.heap.size + 1 < _; have := MD3.out; omega) _, (D3.out.p.set (by show w.heap.size + 1 < _; have := MD3.out; omega) _).set (by show w.heap.size + 1 < _; have := MD3.out; omega) _⟩
  refine hK.out _ _ ⟨X7.out.c0, X7.out.c1, X8.out.c0, X8.out.c1⟩ (fun _ => ?_)
  clear hK K
  generalize ((q0.setCell ⟨w.heap.size + 1, 0, none⟩ (.slice y1 s2.length y2)).setCell ⟨w.heap.size + 1, 1, none⟩ (.slice y3 P.length y4)) = q1 at *
  refine wpAnyH_ready (rs := [6]) (by kernel_rfl) (by simp) ?_
  refine AllReadyH.cons rfl (fun K hK => ?_) AllReadyH.nil
  have r0 := R2.out.c0
  have r1 := R2.out.c1
  have rf := R2.out.fz
  go_simp
  clear r0 r1 rf
  replace HB : Hid (Below w.heap.size w ((q1.setCell ⟨w.heap.size + 2, 0, none⟩ (.slice z1 s3.length z2)).setCell ⟨w.heap.size + 2, 1, none⟩ (.slice z3 p3.length z4))) := (HB.out.setCell (by show _ ≤ w.heap.size + 2; omega) _).setCell (by show _ ≤ w.heap.size + 2; omega) _
  replace R0 : Hid (Bx ((q1.setCell ⟨w.heap.size + 2, 0, none⟩ (.slice z1 s3.length z2)).setCell ⟨w.heap.size + 2, 1, none⟩ (.slice z3 p3.length z4)) w.heap.size (.slice x1 s1.length x2) (.slice x3 P.length x4)) := (R0.out.setO (by show w.heap.size + 2 ≠ w.heap.size; first | omega | (have := PR0.out; omega)) _).setO (by show w.heap.size + 2 ≠ w.heap.size; first | omega | (have := PR0.out; omega)) _
  replace R1 : Hid (Bx ((q1.setCell ⟨w.heap.size + 2, 0, none⟩ (.slice z1 s3.length z2)).setCell ⟨w.heap.size + 2, 1, none⟩ (.slice z3 p3.length z4)) (w.heap.size + 1) (.slice y1 s2.length y2) (.slice y3 P.length y4)) := (R1.out.setO (by show w.heap.size + 2 ≠ (w.heap.size + 1); first | omega | (have := PR1.out; omega)) _).setO (by show w.heap.size + 2 ≠ (w.heap.size + 1); first | omega | (have := PR1.out; omega)) _
  replace R2 : Hid (Bx ((q1.setCell ⟨w.heap.size + 2, 0, none⟩ (.slice z1 s3.length z2)).setCell ⟨w.heap.size + 2, 1, none⟩ (.slice z3 p3.length z4)) (w.heap.size + 2) (.slice z1 s3.length z2) (.slice z3 p3.length z4)) := (R2.out.set0 _).set1 _
  replace D1 : Hid (DOwn ((q1.setCell ⟨w.heap.size + 2, 0, none⟩ (.slice z1 s3.length z2)).setCell ⟨w.heap.size + 2, 1, none⟩ (.slice z3 p3.length z4)) w2.heap.size x1 x2 x3 x4 s1 P) := ⟨(D1.out.s.set (by show w.heap.size + 2 < _; have := MD1.out; omega) _).set (by show w.heap.size + 2 < _; have := MD1.out; omega) _, (D1.out.p.set (by show w.heap.size + 2 < _; have := MD1.out; omega) _).set (by show w.heap.size + 2 < _; have := MD1.out; omega) _⟩
  replace X7 : Hid (Bx ((q1.setCell ⟨w.heap.size + 2, 0, none⟩ (.slice z1 s3.length z2)).setCell ⟨w.heap.size + 2, 1, none⟩ (.slice z3 p3.length z4)) B7 (.slice x1 s1.length x2) (.slice x3 P.length x4)) := (X7.out.setO (by show w.heap.size + 2 ≠ B7; first | omega | (have := PX7.out; omega)) _).setO (by show w.heap.size + 2 ≠ B7; first | omega | (have := PX7.out; omega)) _
  replace D2 : Hid (DOwn ((q1.setCell ⟨w.heap.size + 2, 0, none⟩ (.slice z1 s3.length z2)).setCell ⟨w.heap.size + 2, 1, none⟩ (.slice z3 p3.length z4)) v3.heap.size y1 y2 y3 y4 s2 P) := ⟨(D2.out.s.set (by show w.heap.size + 2 < _; have := MD2.out; omega) _).set (by show w.heap.size + 2 < _; have := MD2.out; omega) _, (D2.out.p.set (by show w.heap.size + 2 < _; have := MD2.out; omega) _).set (by show w.heap.size + 2 < _; have := MD2.out; omega) _⟩
  replace X8 : Hid (Bx ((q1.setCell ⟨w.heap.size + 2, 0, none⟩ (.slice z1 s3.length z2)).setCell ⟨w.heap.size + 2, 1, none⟩ (.slice z3 p3.length z4)) B8 (.slice y1 s2.length y2) (.slice y3 P.length y4)) := (X8.out.setO (by show w.heap.size + 2 ≠ B8; first | omega | (have := PX8.out; omega)) _).setO (by show w.heap.size + 2 ≠ B8; first | omega | (have := PX8.out; omega)) _
  replace D3 : Hid (DOwn ((q1.setCell ⟨w.heap.size + 2, 0, none⟩ (.slice z1 s3.length z2)).setCell ⟨w.heap.size + 2, 1, none⟩ (.slice z3 p3.length z4)) v4.drew.heap.size z1 z2 z3 z4 s3 p3) := ⟨(D3.out.s.set (by show w.heap.size + 2 < _; have := MD3.out; omega) _).set (by show w.heap.size + 2 < _; have := MD3.out; omega) _, (D3.out.p.set (by show w.heap.size + 2 < _; have := MD3.out; omega) _).set (by show w.heap.size + 2 < _; have := MD3.out; omega) _⟩
  refine hK.out _ _ ⟨X7.out.c0, X7.out.c1, X8.out.c0, X8.out.c1⟩ (fun _ => ?_)
  clear hK K
  generalize ((q1.setCell ⟨w.heap.size + 2, 0, none⟩ (.slice z1 s3.length z2)).setCell ⟨w.heap.size + 2, 1, none⟩ (.slice z3 p3.length z4)) = q2 at *
  refine wpAnyH_done (by kernel_rfl) ?_ _
  have v00 := R0.out.c0
  have v01 := R0.out.c1
  have v10 := R1.out.c0
  have v11 := R1.out.c1
  have v20 := R2.out.c0
  have v21 := R2.out.c1
  go_wp2
  refine bodyPost_ret (v := .tuple #[.agg #[.slice x1 s1.length x2, .slice x3 P.length x4], .agg #[.slice y1 s2.length y2, .slice y3 P.length y4], .agg #[.slice z1 s3.length z2, .slice z3 p3.length z4]]) (by simp [results, Tryz.results8, go_sem, v00, v01, v10, v11, v20, v21]) rfl ⟨s1, P, x1, x2, x3, x4, s2, P, y1, y2, y3, y4, s3, p3, z1, z2, z3, z4, rfl, HI.out, HJ.out, HK3.out, D1.out.s.srow, D1.out.p.prow, D2.out.s.srow, D2.out.p.prow, D3.out.s.srow, D3.out.p.prow, HB.out⟩
end Go.Proofs.YtekjpoenbcnhdaaGreat
