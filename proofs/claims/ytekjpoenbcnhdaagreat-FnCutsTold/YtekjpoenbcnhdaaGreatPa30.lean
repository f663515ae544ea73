/- What a crash leaves of the bytes of a log. -/
import Derived.Test.YtekjpoenbcnhdaaGreatPa28
import Derived.Test.YtekjpoenbcnhdaaGreatPa29
import Derived.Test.YtekjpoenbcnhdaaGreatPa20
import Derived.Test.YtekjpoenbcnhdaaGreatPa26
import Derived.Test.YtekjpoenbcnhdaaGreatPa08
import Derived.Test.YtekjpoenbcnhdaaGreatPa01
import Derived.Test.YtekjpoenbcnhdaaGreatPa24
import Derived.Deep.Cut
import Derived.Deep.CutRange
import Derived.Deep.RegionHeld3
namespace Go.Proofs.YtekjpoenbcnhdaaGreat
open Go.RowKit
open DM
open FM

end Go.Proofs.YtekjpoenbcnhdaaGreat

namespace Go.Proofs.YtekjpoenbcnhdaaGreat
open Go.RowKit
open DM

end Go.Proofs.YtekjpoenbcnhdaaGreat

namespace Go.Proofs.YtekjpoenbcnhdaaGreat
open Go.RowKit
open DM
open FM

def txOf (ss : List ByteArray) (ps : List Wr) : List ByteArray := oL (raO ss ps (act ss ps))
end Go.Proofs.YtekjpoenbcnhdaaGreat

namespace Go.Proofs.YtekjpoenbcnhdaaGreat
open Go.RowKit
open DM
open FM
attribute [local go_sem ↓] Go.wp_at_zero Go.wp_at_succ

theorem shape3 {w : World} {base : Nat} {v : Value} {l : List ByteArray} (h : SOwn w base v l) : ∃ va vc, v = .slice va l.length vc := by
 obtain ⟨ao, cap, e, _⟩ := h.row
 exact ⟨ao, cap, e⟩
theorem toList_dataN (s : ByteArray) : s.toList = s.data.toList := by
 obtain ⟨⟨l⟩⟩ := s
 exact ByteArray.toList_mk l
theorem ba_of_list {x y : ByteArray} (h : x.toList = y.toList) : x = y := by
 rw [toList_dataN, toList_dataN] at h
 obtain ⟨⟨a⟩⟩ := x
 obtain ⟨⟨b⟩⟩ := y
 have h' : a = b := h
 rw [h']
theorem toList_ne {x y : ByteArray} (h : x ≠ y) : ¬ x.toList = y.toList := fun e => h (ba_of_list e)

set_option maxRecDepth 100000 in
set_option maxHeartbeats 8000000 in
theorem equ40 (xs ys : List ByteArray) (a1 a2 : Option Addr) (c1 c2 : Nat) (hn : xs.length ≤ 100000000) (_hm : ys.length ≤ 100000000) (b : Bool) (hb : b = true ↔ xs = ys) (w : World) (h1 : SRow w a1 xs) (h2 : SRow w a2 ys) :
  Calls Tryz.prog 49 #[.slice a1 xs.length c1, .slice a2 ys.length c2] w fun e w' => e = .returned (.bool b) ∧ Below w.heap.size w w' := by
 have H1 : Hid (SRow w a1 xs) := h1
 have H2 : Hid (SRow w a2 ys) := h2
 have HB0 : Hid (b = true ↔ xs = ys) := hb
 clear h1 h2 hb
 by_cases hl : xs.length = ys.length
 ·have HL : Hid (xs.length = ys.length) := hl
  rw [← hl]
  clear hl
  go_enter Tryz.func49, Tryz.ntmps49
  go_wp2
  go_loopw [13] (fun t wr => ∃ k : Nat, k ≤ xs.length ∧ t = .int .i64 k ∧ Hid (∀ j (h1 : j < xs.length) (h2 : j < ys.length), j < k → xs[j] = ys[j]) ∧ Hid (Below w.heap.size w wr)) (fun t _ => xs.length - (intOf t).toNat)
  case atStart => exact ⟨0, Nat.zero_le _, rfl, fun j _ _ h => by omega, Below.refl _ _⟩
  case round =>
   obtain ⟨k, hk, rfl, HJ, HB⟩ := hrel
   by_cases hlt : k < xs.length
   ·have hlt' : (k : Int) < (xs.length : Int) := by omega
    have h0 : (0 : Int) ≤ (k : Int) := by omega
    have hlt2 : k < ys.length := by rw [← HL.out]; exact hlt
    obtain ⟨b1, off1, rfl, hl1, q1⟩ := (H1.out.below HB.out) (by omega)
    obtain ⟨b2, off2, rfl, hl2, q2⟩ := (H2.out.below HB.out) (by omega)
    have r1 := q1 k hlt
    have r2 := q2 k hlt2
    clear q1 q2
    by_cases he : xs[k] = ys[k]
    ·have HE : Hid (xs[k] = ys[k]) := he
     rw [← he] at r2
     clear he
     go_wp2
     go_quiet (fail)
     go_wp2
     go_roundw
     case rel => exact ⟨k + 1, by omega, by go_num, fun j g1 g2 g3 => by
      by_cases hj : j = k
      ·subst hj; exact HE.out
      ·exact HJ.out j g1 g2 (by omega), below_drewN HB.out _⟩
     case measure => simp [intOf]; omega
    ·have hq0 := toList_ne he
     have hq1 : (xs[k].toList == ys[k].toList) = false := by simp [hq0]
     have HE : Hid (¬ xs[k] = ys[k]) := he
     have hbf : b = false := by
      cases hbb : b with
      | false => rfl
      | true =>
       have e := HB0.out.1 hbb
       exact absurd (by simp [e]) he
     clear he
     go_wp2
     go_quiet (fail)
     go_wp2
     go_ret
     exact ⟨by first | rfl | (rw [hbf]; rfl) | simp [hbf], below_drewN HB.out _⟩
   ·have hd : ¬ (k : Int) < (xs.length : Int) := by omega
    have hbt : b = true := HB0.out.2 (List.ext_getElem HL.out (fun j g1 g2 => HJ.out j g1 g2 (by omega)))
    go_wp2
    go_ret
    exact ⟨by first | rfl | (rw [hbt]; rfl) | simp [hbt], HB.out⟩
 ·have hl' : ¬ (xs.length : Int) = (ys.length : Int) := by omega
  have hbf : b = false := by
   cases hbb : b with
   | false => rfl
   | true => exact absurd (by rw [HB0.out.1 hbb]) hl
  clear HB0 H1 H2
  go_enter Tryz.func49, Tryz.ntmps49
  go_wp2
  go_ret
  exact ⟨by first | rfl | (rw [hbf]; rfl) | simp [hbf], Below.refl _ _⟩

theorem tx_len {ss : List ByteArray} {ps : List Wr} : (txOf ss ps).length ≤ 1000 := by
 unfold txOf raO
 split
 ·split
  ·cases h : recsGo (arT ss ps (act ss ps)) (cnt ss ps (act ss ps)).toNat [] 0 with
   | none => exact Nat.zero_le 1000
   | some q =>
    obtain ⟨l, n⟩ := q
    have h1 := recs_len _ _ _ _ _ h
    have h2 := cnt_le ss ps (act ss ps)
    show l.length ≤ 1000
    simp at h1
    omega
  ·exact Nat.zero_le 1000
 ·exact Nat.zero_le 1000

set_option maxRecDepth 100000 in
set_option maxHeartbeats 8000000 in
theorem isame14 (s1 : List ByteArray) (p1 : List Wr) (s2 : List ByteArray) (p2 : List Wr) (x1 : Option Addr) (x2 : Nat) (x3 : Option Addr) (x4 : Nat) (y1 : Option Addr) (y2 : Nat) (y3 : Option Addr) (y4 : Nat) (hI : LbI s1 p1) (hJ : LbI s2 p2) (b : Bool) (hb : b = true ↔ txOf s1 p1 = txOf s2 p2) (w : World) (hs1 : SRow w x1 s1) (hp1 : PRow w x3 p1) (hs2 : SRow w y1 s2) (hp2 : PRow w y3 p2) :
  Calls Tryz.prog 14 #[.agg #[.slice x1 s1.length x2, .slice x3 p1.length x4], .agg #[.slice y1 s2.length y2, .slice y3 p2.length y4]] w fun e w' => e = .returned (.bool b) ∧ Below w.heap.size w w' := by
 have H1 : Hid (∀ W : World, Below w.heap.size w W → Calls Tryz.prog 50 #[.agg #[.slice x1 s1.length x2, .slice x3 p1.length x4]] W fun e w' => ∃ va vc, e = .returned (.slice va (txOf s1 p1).length vc) ∧ SRow w' va (txOf s1 p1) ∧ Below W.heap.size W w') := fun W h => by
  refine (ilt32 s1 p1 x1 x3 x2 x4 hI.wide.1 hI.wide.2.1 hI.wide.2.2.1 hI.wide.2.2.2 (fun b => arT_b hI b) W (hs1.below h) (hp1.below h)).mono ?_
  rintro e w' ⟨v, rfl, h3, h4⟩
  obtain ⟨va, vc, rfl⟩ := shape3 h3
  exact ⟨va, vc, rfl, h3.srow, h4⟩
 have H2 : Hid (∀ W : World, Below w.heap.size w W → Calls Tryz.prog 50 #[.agg #[.slice y1 s2.length y2, .slice y3 p2.length y4]] W fun e w' => ∃ va vc, e = .returned (.slice va (txOf s2 p2).length vc) ∧ SRow w' va (txOf s2 p2) ∧ Below W.heap.size W w') := fun W h => by
  refine (ilt32 s2 p2 y1 y3 y2 y4 hJ.wide.1 hJ.wide.2.1 hJ.wide.2.2.1 hJ.wide.2.2.2 (fun b => arT_b hJ b) W (hs2.below h) (hp2.below h)).mono ?_
  rintro e w' ⟨v, rfl, h3, h4⟩
  obtain ⟨va, vc, rfl⟩ := shape3 h3
  exact ⟨va, vc, rfl, h3.srow, h4⟩
 have hz1 := tx_len (ss := s1) (ps := p1)
 have hz2 := tx_len (ss := s2) (ps := p2)
 clear hs1 hp1 hs2 hp2 hI hJ
 generalize txOf s1 p1 = T1 at *
 generalize txOf s2 p2 = T2 at *
 have b0 : Hid (Below w.heap.size w ((w.alloc (.cells #[.slice x1 s1.length x2, .slice x3 p1.length x4] 27)).alloc (.cells #[.slice y1 s2.length y2, .slice y3 p2.length y4] 27))) := ((belowRefl w).alloc (Nat.le_refl _) _).alloc (by simp) _
 have X0 : Hid (Bx ((w.alloc (.cells #[.slice x1 s1.length x2, .slice x3 p1.length x4] 27)).alloc (.cells #[.slice y1 s2.length y2, .slice y3 p2.length y4] 27)) w.heap.size (.slice x1 s1.length x2) (.slice x3 p1.length x4)) := (Bx.new w _ _ _).alloc _
 have X1 : Hid (Bx ((w.alloc (.cells #[.slice x1 s1.length x2, .slice x3 p1.length x4] 27)).alloc (.cells #[.slice y1 s2.length y2, .slice y3 p2.length y4] 27)) (w.heap.size + 1) (.slice y1 s2.length y2) (.slice y3 p2.length y4)) := by
  have h := Bx.new (w.alloc (.cells #[.slice x1 s1.length x2, .slice x3 p1.length x4] 27)) (.slice y1 s2.length y2) (.slice y3 p2.length y4) 27
  rw [World.size_alloc] at h
  exact h
 go_enter Tryz.func14, Tryz.ntmps14
 go_upto_region 1 with fail
 generalize ((w.alloc (.cells #[.slice x1 s1.length x2, .slice x3 p1.length x4] 27)).alloc (.cells #[.slice y1 s2.length y2, .slice y3 p2.length y4] 27)) = v0 at *
 refine wp_region_held_drew (S := fun w' => w'.cell? ⟨w.heap.size, 0, none⟩ = some (.slice x1 s1.length x2) ∧ w'.cell? ⟨w.heap.size, 1, none⟩ = some (.slice x3 p1.length x4) ∧ w'.cell? ⟨w.heap.size + 1, 0, none⟩ = some (.slice y1 s2.length y2) ∧ w'.cell? ⟨w.heap.size + 1, 1, none⟩ = some (.slice y3 p2.length y4)) (by kernel_rfl) ⟨X0.out.c0, X0.out.c1, X1.out.c0, X1.out.c1⟩ (fun hHeld => ?_)
 (refine tk 0 ?_ rfl (Or.inl ⟨by rfl, ?_⟩) ?_; rotate_left; (focus (intro w h; (try dsimp only at h); go_simp; (try with_reducible rfl))); simp only [Act.put, tA, tB, tD, tE, tF])
 (refine tk 2 ?_ rfl (Or.inl ⟨by rfl, ?_⟩) ?_; rotate_left; (focus (intro w h; (try dsimp only at h); go_simp; (try with_reducible rfl))); simp only [Act.put, tA, tB, tC, tD, tE, tF])
 refine wpAnyH_ready (rs := [1]) (by kernel_rfl) (by simp) ?_
 refine AllReadyH.cons rfl (fun K hK => ?_) AllReadyH.nil
 go_simp
 go_wp2_with fail
 refine (H1.out _ b0.out.drew).mono ?_
 rintro e w1 ⟨va, vc, rfl, hv, hb1⟩
 replace hb1 := undrew hb1
 replace X0 : Hid (Bx w1 w.heap.size (.slice x1 s1.length x2) (.slice x3 p1.length x4)) := X0.out.keep hb1 X0.out.lt
 replace X1 : Hid (Bx w1 (w.heap.size + 1) (.slice y1 s2.length y2) (.slice y3 p2.length y4)) := X1.out.keep hb1 X1.out.lt
 replace b0 : Hid (Below w.heap.size w w1) := b0.out.trans (hb1.mono b0.out.size)
 have V1 : Hid (SRow w1 va T1) := hv
 clear hv hb1
 go_wp2_with fail
 refine hK.out _ _ ⟨X0.out.c0, X0.out.c1, X1.out.c0, X1.out.c1⟩ (fun hHeld1 => ?_)
 clear hK K
 refine wpAnyH_ready (rs := [3]) (by kernel_rfl) (by simp) ?_
 refine AllReadyH.cons rfl (fun K hK => ?_) AllReadyH.nil
 go_simp
 go_wp2_with fail
 refine (H2.out _ b0.out).mono ?_
 rintro e w2 ⟨vb, vd, rfl, hv, hb1⟩
 replace X0 : Hid (Bx w2 w.heap.size (.slice x1 s1.length x2) (.slice x3 p1.length x4)) := X0.out.keep hb1 X0.out.lt
 replace X1 : Hid (Bx w2 (w.heap.size + 1) (.slice y1 s2.length y2) (.slice y3 p2.length y4)) := X1.out.keep hb1 X1.out.lt
 replace b0 : Hid (Below w.heap.size w w2) := b0.out.trans (hb1.mono b0.out.size)
 replace V1 : Hid (SRow w2 va T1) := V1.out.below hb1
 have V2 : Hid (SRow w2 vb T2) := hv
 clear hv hb1
 go_wp2_with fail
 refine hK.out _ _ ⟨X0.out.c0, X0.out.c1, X1.out.c0, X1.out.c1⟩ (fun hHeld2 => ?_)
 clear hK K
 refine wpAnyH_ready (rs := [4]) (by kernel_rfl) (by simp) ?_
 refine AllReadyH.cons rfl (fun K hK => ?_) AllReadyH.nil
 go_simp
 go_wp2_with fail
 refine (equ40 T1 T2 va vb vc vd (by omega) (by omega) b hb _ V1.out V2.out).mono ?_
 rintro e w3 ⟨rfl, hb1⟩
 replace X0 : Hid (Bx w3 w.heap.size (.slice x1 s1.length x2) (.slice x3 p1.length x4)) := X0.out.keep hb1 X0.out.lt
 replace X1 : Hid (Bx w3 (w.heap.size + 1) (.slice y1 s2.length y2) (.slice y3 p2.length y4)) := X1.out.keep hb1 X1.out.lt
 replace b0 : Hid (Below w.heap.size w w3) := b0.out.trans (hb1.mono b0.out.size)
 clear hb1
 go_wp2_with fail
 refine hK.out _ _ ⟨X0.out.c0, X0.out.c1, X1.out.c0, X1.out.c1⟩ (fun hHeld3 => ?_)
 clear hK K
 (refine tk 5 ?_ rfl (Or.inl ⟨by rfl, ?_⟩) ?_; rotate_left; (focus (intro w h; (try dsimp only at h); go_simp; (try with_reducible rfl))); simp only [Act.put, tA, tB, tC, tD, tE, tF])
 refine wpAnyH_done (by kernel_rfl) ?_ _
 go_wp2
 go_ret
 exact ⟨rfl, b0.out⟩

end Go.Proofs.YtekjpoenbcnhdaaGreat

namespace Go.Proofs.YtekjpoenbcnhdaaGreat
open Go.RowKit
open DM
open FM
attribute [local go_sem ↓] Go.wp_at_zero Go.wp_at_succ

set_option maxRecDepth 100000 in
set_option maxHeartbeats 8000000 in
theorem ssame15 (s1 : List ByteArray) (p1 : List Wr) (s2 : List ByteArray) (p2 : List Wr) (x1 : Option Addr) (x2 : Nat) (x3 : Option Addr) (x4 : Nat) (y1 : Option Addr) (y2 : Nat) (y3 : Option Addr) (y4 : Nat) (hI : LbI s1 p1) (hJ : LbI s2 p2) (b : Bool) (hb : b = true ↔ txOf s1 p1 = txOf s2 p2) (w : World) (hs1 : SRow w x1 s1) (hp1 : PRow w x3 p1) (hs2 : SRow w y1 s2) (hp2 : PRow w y3 p2) :
  Calls Tryz.prog 15 #[.agg #[.slice x1 s1.length x2, .slice x3 p1.length x4], .agg #[.slice y1 s2.length y2, .slice y3 p2.length y4]] w fun e w' => e = .returned (.bool b) ∧ Below w.heap.size w w' := by
 have H1 : Hid (∀ W : World, Below w.heap.size w W → Calls Tryz.prog 51 #[.agg #[.slice x1 s1.length x2, .slice x3 p1.length x4]] W fun e w' => ∃ va vc, e = .returned (.slice va (txOf s1 p1).length vc) ∧ SRow w' va (txOf s1 p1) ∧ Below W.heap.size W w') := fun W h => by
  refine (slt52 s1 p1 x1 x3 x2 x4 hI W (hs1.below h) (hp1.below h)).mono ?_
  rintro e w' ⟨va, vc, he, h3, h4⟩
  exact ⟨va, vc, he, h3.srow, h4⟩
 have H2 : Hid (∀ W : World, Below w.heap.size w W → Calls Tryz.prog 51 #[.agg #[.slice y1 s2.length y2, .slice y3 p2.length y4]] W fun e w' => ∃ va vc, e = .returned (.slice va (txOf s2 p2).length vc) ∧ SRow w' va (txOf s2 p2) ∧ Below W.heap.size W w') := fun W h => by
  refine (slt52 s2 p2 y1 y3 y2 y4 hJ W (hs2.below h) (hp2.below h)).mono ?_
  rintro e w' ⟨va, vc, he, h3, h4⟩
  exact ⟨va, vc, he, h3.srow, h4⟩
 have hz1 := tx_len (ss := s1) (ps := p1)
 have hz2 := tx_len (ss := s2) (ps := p2)
 clear hs1 hp1 hs2 hp2 hI hJ
 generalize txOf s1 p1 = T1 at *
 generalize txOf s2 p2 = T2 at *
 have b0 : Hid (Below w.heap.size w ((w.alloc (.cells #[.slice x1 s1.length x2, .slice x3 p1.length x4] 27)).alloc (.cells #[.slice y1 s2.length y2, .slice y3 p2.length y4] 27))) := ((belowRefl w).alloc (Nat.le_refl _) _).alloc (by simp) _
 have X0 : Hid (Bx ((w.alloc (.cells #[.slice x1 s1.length x2, .slice x3 p1.length x4] 27)).alloc (.cells #[.slice y1 s2.length y2, .slice y3 p2.length y4] 27)) w.heap.size (.slice x1 s1.length x2) (.slice x3 p1.length x4)) := (Bx.new w _ _ _).alloc _
 have X1 : Hid (Bx ((w.alloc (.cells #[.slice x1 s1.length x2, .slice x3 p1.length x4] 27)).alloc (.cells #[.slice y1 s2.length y2, .slice y3 p2.length y4] 27)) (w.heap.size + 1) (.slice y1 s2.length y2) (.slice y3 p2.length y4)) := by
  have h := Bx.new (w.alloc (.cells #[.slice x1 s1.length x2, .slice x3 p1.length x4] 27)) (.slice y1 s2.length y2) (.slice y3 p2.length y4) 27
  rw [World.size_alloc] at h
  exact h
 have HB0 : Hid (b = true ↔ T1 = T2) := hb
 clear hb
 have g0 := X0.out.c0
 have g1 := X0.out.c1
 go_enter Tryz.func15, Tryz.ntmps15
 go_wp2_with fail
 generalize ((w.alloc (.cells #[.slice x1 s1.length x2, .slice x3 p1.length x4] 27)).alloc (.cells #[.slice y1 s2.length y2, .slice y3 p2.length y4] 27)) = v0 at *
 refine (H1.out _ b0.out).mono ?_
 rintro e w1 ⟨va, vc, rfl, hv, hb1⟩
 replace X1 : Hid (Bx w1 (w.heap.size + 1) (.slice y1 s2.length y2) (.slice y3 p2.length y4)) := X1.out.keep hb1 X1.out.lt
 replace b0 : Hid (Below w.heap.size w w1) := b0.out.trans (hb1.mono b0.out.size)
 have V1 : Hid (SRow w1 va T1) := hv
 clear hv hb1 g0 g1 X0 H1
 have g0 := X1.out.c0
 have g1 := X1.out.c1
 go_wp2_with fail
 refine (H2.out _ b0.out).mono ?_
 rintro e w2 ⟨vb, vd, rfl, hv, hb1⟩
 replace b0 : Hid (Below w.heap.size w w2) := b0.out.trans (hb1.mono b0.out.size)
 replace V1 : Hid (SRow w2 va T1) := V1.out.below hb1
 have V2 : Hid (SRow w2 vb T2) := hv
 clear hv hb1 g0 g1 X1 H2
 by_cases hl : T1.length = T2.length
 ·have HL : Hid (T1.length = T2.length) := hl
  rw [← hl]
  clear hl hz2
  go_wp2
  go_loopw [7] (fun t wr => ∃ k : Nat, k ≤ T1.length ∧ t = .int .i64 k ∧ Hid (∀ j (h1 : j < T1.length) (h2 : j < T2.length), j < k → T1[j] = T2[j]) ∧ Hid (Below w.heap.size w wr) ∧ Hid (SRow wr va T1) ∧ Hid (SRow wr vb T2)) (fun t _ => T1.length - (intOf t).toNat)
  case atStart => exact ⟨0, Nat.zero_le _, rfl, fun j _ _ h => by omega, b0, V1, V2⟩
  case round =>
   clear b0 V1 V2
   obtain ⟨k, hk, rfl, HJ, HB, V1, V2⟩ := hrel
   by_cases hlt : k < T1.length
   ·have hlt' : (k : Int) < (T1.length : Int) := by omega
    have h0 : (0 : Int) ≤ (k : Int) := by omega
    have hlt2 : k < T2.length := by rw [← HL.out]; exact hlt
    obtain ⟨b1, off1, rfl, hl1, q1⟩ := V1.out (by omega)
    obtain ⟨b2, off2, rfl, hl2, q2⟩ := V2.out (by omega)
    have r1 := q1 k hlt
    have r2 := q2 k hlt2
    clear q1 q2
    by_cases he : T1[k] = T2[k]
    ·have HE : Hid (T1[k] = T2[k]) := he
     rw [← he] at r2
     clear he
     go_wp2
     go_quiet (fail)
     go_wp2
     go_roundw
     case rel => exact ⟨k + 1, by omega, by go_num, fun j g1 g2 g3 => by
      by_cases hj : j = k
      ·subst hj; exact HE.out
      ·exact HJ.out j g1 g2 (by omega), below_drewN HB.out _, V1.out.below (below_drewN (Below.refl _ _) _), V2.out.below (below_drewN (Below.refl _ _) _)⟩
     case measure => simp [intOf]; omega
    ·have hq0 := toList_ne he
     have hq1 : (T1[k].toList == T2[k].toList) = false := by simp [hq0]
     have HE : Hid (¬ T1[k] = T2[k]) := he
     have hbf : b = false := by
      cases hbb : b with
      | false => rfl
      | true =>
       have e := HB0.out.1 hbb
       exact absurd (by simp [e]) he
     clear he
     go_wp2
     go_quiet (fail)
     go_wp2
     go_ret
     exact ⟨by first | rfl | (rw [hbf]; rfl) | simp [hbf], below_drewN HB.out _⟩
   ·have hd : ¬ (k : Int) < (T1.length : Int) := by omega
    have hbt : b = true := HB0.out.2 (List.ext_getElem HL.out (fun j g1 g2 => HJ.out j g1 g2 (by omega)))
    go_wp2
    go_ret
    exact ⟨by first | rfl | (rw [hbt]; rfl) | simp [hbt], HB.out⟩
 ·have hl' : ¬ (T1.length : Int) = (T2.length : Int) := by omega
  have hbf : b = false := by
   cases hbb : b with
   | false => rfl
   | true => exact absurd (by rw [HB0.out.1 hbb]) hl
  clear HB0 V1 V2
  go_wp2
  go_ret
  exact ⟨by first | rfl | (rw [hbf]; rfl) | simp [hbf], b0.out⟩

set_option maxRecDepth 100000 in
set_option maxHeartbeats 8000000 in
theorem icrg16 (s1 : List ByteArray) (p1 : List Wr) (s2 : List ByteArray) (p2 : List Wr) (s3 : List ByteArray) (p3 : List Wr) (x1 : Option Addr) (x2 : Nat) (x3 : Option Addr) (x4 : Nat) (y1 : Option Addr) (y2 : Nat) (y3 : Option Addr) (y4 : Nat) (z1 : Option Addr) (z2 : Nat) (z3 : Option Addr) (z4 : Nat) (hI : LbI s1 p1) (hJ : LbI s2 p2) (hK : LbI s3 p3) (lg b1 b2 : Bool) (hlog : logB s3 p3 = lg) (hb1 : b1 = true ↔ txOf s3 p3 = txOf s1 p1) (hb2 : b2 = true ↔ txOf s3 p3 = txOf s2 p2) (w : World) (hs1 : SRow w x1 s1) (hp1 : PRow w x3 p1) (hs2 : SRow w y1 s2) (hp2 : PRow w y3 p2) (hs3 : SRow w z1 s3) (hp3 : PRow w z3 p3) :
  Calls Tryz.prog 16 #[.agg #[.slice x1 s1.length x2, .slice x3 p1.length x4], .agg #[.slice y1 s2.length y2, .slice y3 p2.length y4], .agg #[.slice z1 s3.length z2, .slice z3 p3.length z4]] w fun e w' => e = .returned (.bool (lg && (b1 || b2))) ∧ Below w.heap.size w w' := by
 have HLO : Hid (∀ W : World, Below w.heap.size w W → Calls Tryz.prog 52 #[.agg #[.slice z1 s3.length z2, .slice z3 p3.length z4]] W fun e w' => e = .returned (.bool lg) ∧ Below W.heap.size W w') := fun W h => by
  have q := ilok24 s3 p3 z1 z3 z2 z4 hK.wide.1 hK.wide.2.1 hK.wide.2.2.1 hK.wide.2.2.2 W (hs3.below h) (hp3.below h)
  rw [hlog] at q
  exact q
 have HA : Hid (∀ W : World, Below w.heap.size w W → Calls Tryz.prog 14 #[.agg #[.slice z1 s3.length z2, .slice z3 p3.length z4], .agg #[.slice x1 s1.length x2, .slice x3 p1.length x4]] W fun e w' => e = .returned (.bool b1) ∧ Below W.heap.size W w') := fun W h => isame14 s3 p3 s1 p1 z1 z2 z3 z4 x1 x2 x3 x4 hK hI b1 hb1 W (hs3.below h) (hp3.below h) (hs1.below h) (hp1.below h)
 have HBo : Hid (∀ W : World, Below w.heap.size w W → Calls Tryz.prog 14 #[.agg #[.slice z1 s3.length z2, .slice z3 p3.length z4], .agg #[.slice y1 s2.length y2, .slice y3 p2.length y4]] W fun e w' => e = .returned (.bool b2) ∧ Below W.heap.size W w') := fun W h => isame14 s3 p3 s2 p2 z1 z2 z3 z4 y1 y2 y3 y4 hK hJ b2 hb2 W (hs3.below h) (hp3.below h) (hs2.below h) (hp2.below h)
 have b0 : Hid (Below w.heap.size w (((w.alloc (.cells #[.slice x1 s1.length x2, .slice x3 p1.length x4] 27)).alloc (.cells #[.slice y1 s2.length y2, .slice y3 p2.length y4] 27)).alloc (.cells #[.slice z1 s3.length z2, .slice z3 p3.length z4] 27))) := (((belowRefl w).alloc (Nat.le_refl _) _).alloc (by simp) _).alloc (by rw [World.size_alloc, World.size_alloc]; omega) _
 have X0 : Hid (Bx (((w.alloc (.cells #[.slice x1 s1.length x2, .slice x3 p1.length x4] 27)).alloc (.cells #[.slice y1 s2.length y2, .slice y3 p2.length y4] 27)).alloc (.cells #[.slice z1 s3.length z2, .slice z3 p3.length z4] 27)) w.heap.size (.slice x1 s1.length x2) (.slice x3 p1.length x4)) := ((Bx.new w _ _ _).alloc _).alloc _
 have X1 : Hid (Bx (((w.alloc (.cells #[.slice x1 s1.length x2, .slice x3 p1.length x4] 27)).alloc (.cells #[.slice y1 s2.length y2, .slice y3 p2.length y4] 27)).alloc (.cells #[.slice z1 s3.length z2, .slice z3 p3.length z4] 27)) (w.heap.size + 1) (.slice y1 s2.length y2) (.slice y3 p2.length y4)) := by
  have h := Bx.new (w.alloc (.cells #[.slice x1 s1.length x2, .slice x3 p1.length x4] 27)) (.slice y1 s2.length y2) (.slice y3 p2.length y4) 27
  rw [World.size_alloc] at h
  exact h.alloc _
 have X2 : Hid (Bx (((w.alloc (.cells #[.slice x1 s1.length x2, .slice x3 p1.length x4] 27)).alloc (.cells #[.slice y1 s2.length y2, .slice y3 p2.length y4] 27)).alloc (.cells #[.slice z1 s3.length z2, .slice z3 p3.length z4] 27)) (w.heap.size + 1 + 1) (.slice z1 s3.length z2) (.slice z3 p3.length z4)) := by
  have h := Bx.new ((w.alloc (.cells #[.slice x1 s1.length x2, .slice x3 p1.length x4] 27)).alloc (.cells #[.slice y1 s2.length y2, .slice y3 p2.length y4] 27)) (.slice z1 s3.length z2) (.slice z3 p3.length z4) 27
  rw [World.size_alloc, World.size_alloc] at h
  exact h
 clear hs1 hp1 hs2 hp2 hs3 hp3 hI hJ hK hlog hb1 hb2
 have g0 := X2.out.c0
 have g1 := X2.out.c1
 go_enter Tryz.func16, Tryz.ntmps16
 go_wp2_with fail
 generalize (((w.alloc (.cells #[.slice x1 s1.length x2, .slice x3 p1.length x4] 27)).alloc (.cells #[.slice y1 s2.length y2, .slice y3 p2.length y4] 27)).alloc (.cells #[.slice z1 s3.length z2, .slice z3 p3.length z4] 27)) = v0 at *
 refine (HLO.out _ b0.out).mono ?_
 rintro e w1 ⟨rfl, hb⟩
 clear g0 g1
 replace X0 : Hid (Bx w1 w.heap.size (.slice x1 s1.length x2) (.slice x3 p1.length x4)) := X0.out.keep hb X0.out.lt
 replace X1 : Hid (Bx w1 (w.heap.size + 1) (.slice y1 s2.length y2) (.slice y3 p2.length y4)) := X1.out.keep hb X1.out.lt
 replace X2 : Hid (Bx w1 (w.heap.size + 1 + 1) (.slice z1 s3.length z2) (.slice z3 p3.length z4)) := X2.out.keep hb X2.out.lt
 replace b0 : Hid (Below w.heap.size w w1) := b0.out.trans (hb.mono b0.out.size)
 clear hb
 cases lg with
 | false =>
  go_wp2
  go_ret
  exact ⟨rfl, b0.out⟩
 | true =>
  have g0 := X2.out.c0
  have g1 := X2.out.c1
  have k0 := X0.out.c0
  have k1 := X0.out.c1
  go_wp2_with fail
  refine (HA.out _ b0.out).mono ?_
  rintro e w2 ⟨rfl, hb⟩
  clear g0 g1 k0 k1
  replace X0 : Hid (Bx w2 w.heap.size (.slice x1 s1.length x2) (.slice x3 p1.length x4)) := X0.out.keep hb X0.out.lt
  replace X1 : Hid (Bx w2 (w.heap.size + 1) (.slice y1 s2.length y2) (.slice y3 p2.length y4)) := X1.out.keep hb X1.out.lt
  replace X2 : Hid (Bx w2 (w.heap.size + 1 + 1) (.slice z1 s3.length z2) (.slice z3 p3.length z4)) := X2.out.keep hb X2.out.lt
  replace b0 : Hid (Below w.heap.size w w2) := b0.out.trans (hb.mono b0.out.size)
  clear hb
  cases b1 with
  | true =>
   go_wp2
   go_ret
   exact ⟨rfl, b0.out⟩
  | false =>
   have g0 := X2.out.c0
   have g1 := X2.out.c1
   have k0 := X1.out.c0
   have k1 := X1.out.c1
   go_wp2_with fail
   refine (HBo.out _ b0.out).mono ?_
   rintro e w3 ⟨rfl, hb⟩
   have b9 := b0.out.trans (hb.mono b0.out.size)
   clear g0 g1 k0 k1 hb
   go_wp2
   go_ret
   exact ⟨by cases b2 <;> rfl, b9⟩

set_option maxRecDepth 100000 in
set_option maxHeartbeats 8000000 in
theorem scrg17 (s1 : List ByteArray) (p1 : List Wr) (s2 : List ByteArray) (p2 : List Wr) (s3 : List ByteArray) (p3 : List Wr) (x1 : Option Addr) (x2 : Nat) (x3 : Option Addr) (x4 : Nat) (y1 : Option Addr) (y2 : Nat) (y3 : Option Addr) (y4 : Nat) (z1 : Option Addr) (z2 : Nat) (z3 : Option Addr) (z4 : Nat) (hI : LbI s1 p1) (hJ : LbI s2 p2) (hK : LbI s3 p3) (lg b1 b2 : Bool) (hlog : logB s3 p3 = lg) (hb1 : b1 = true ↔ txOf s3 p3 = txOf s1 p1) (hb2 : b2 = true ↔ txOf s3 p3 = txOf s2 p2) (w : World) (hs1 : SRow w x1 s1) (hp1 : PRow w x3 p1) (hs2 : SRow w y1 s2) (hp2 : PRow w y3 p2) (hs3 : SRow w z1 s3) (hp3 : PRow w z3 p3) :
  Calls Tryz.prog 17 #[.agg #[.slice x1 s1.length x2, .slice x3 p1.length x4], .agg #[.slice y1 s2.length y2, .slice y3 p2.length y4], .agg #[.slice z1 s3.length z2, .slice z3 p3.length z4]] w fun e w' => e = .returned (.bool (lg && (b1 || b2))) ∧ Below w.heap.size w w' := by
 have HLO : Hid (∀ W : World, Below w.heap.size w W → Calls Tryz.prog 53 #[.agg #[.slice z1 s3.length z2, .slice z3 p3.length z4]] W fun e w' => e = .returned (.bool lg) ∧ Below W.heap.size W w') := fun W h => by
  have q := slok22 s3 p3 z1 z3 z2 z4 hK.wide.1 hK.wide.2.1 hK.wide.2.2.1 hK.wide.2.2.2 W (hs3.below h) (hp3.below h)
  rw [hlog] at q
  exact q
 have HA : Hid (∀ W : World, Below w.heap.size w W → Calls Tryz.prog 15 #[.agg #[.slice z1 s3.length z2, .slice z3 p3.length z4], .agg #[.slice x1 s1.length x2, .slice x3 p1.length x4]] W fun e w' => e = .returned (.bool b1) ∧ Below W.heap.size W w') := fun W h => ssame15 s3 p3 s1 p1 z1 z2 z3 z4 x1 x2 x3 x4 hK hI b1 hb1 W (hs3.below h) (hp3.below h) (hs1.below h) (hp1.below h)
 have HBo : Hid (∀ W : World, Below w.heap.size w W → Calls Tryz.prog 15 #[.agg #[.slice z1 s3.length z2, .slice z3 p3.length z4], .agg #[.slice y1 s2.length y2, .slice y3 p2.length y4]] W fun e w' => e = .returned (.bool b2) ∧ Below W.heap.size W w') := fun W h => ssame15 s3 p3 s2 p2 z1 z2 z3 z4 y1 y2 y3 y4 hK hJ b2 hb2 W (hs3.below h) (hp3.below h) (hs2.below h) (hp2.below h)
 have b0 : Hid (Below w.heap.size w (((w.alloc (.cells #[.slice x1 s1.length x2, .slice x3 p1.length x4] 27)).alloc (.cells #[.slice y1 s2.length y2, .slice y3 p2.length y4] 27)).alloc (.cells #[.slice z1 s3.length z2, .slice z3 p3.length z4] 27))) := (((belowRefl w).alloc (Nat.le_refl _) _).alloc (by simp) _).alloc (by rw [World.size_alloc, World.size_alloc]; omega) _
 have X0 : Hid (Bx (((w.alloc (.cells #[.slice x1 s1.length x2, .slice x3 p1.length x4] 27)).alloc (.cells #[.slice y1 s2.length y2, .slice y3 p2.length y4] 27)).alloc (.cells #[.slice z1 s3.length z2, .slice z3 p3.length z4] 27)) w.heap.size (.slice x1 s1.length x2) (.slice x3 p1.length x4)) := ((Bx.new w _ _ _).alloc _).alloc _
 have X1 : Hid (Bx (((w.alloc (.cells #[.slice x1 s1.length x2, .slice x3 p1.length x4] 27)).alloc (.cells #[.slice y1 s2.length y2, .slice y3 p2.length y4] 27)).alloc (.cells #[.slice z1 s3.length z2, .slice z3 p3.length z4] 27)) (w.heap.size + 1) (.slice y1 s2.length y2) (.slice y3 p2.length y4)) := by
  have h := Bx.new (w.alloc (.cells #[.slice x1 s1.length x2, .slice x3 p1.length x4] 27)) (.slice y1 s2.length y2) (.slice y3 p2.length y4) 27
  rw [World.size_alloc] at h
  exact h.alloc _
 have X2 : Hid (Bx (((w.alloc (.cells #[.slice x1 s1.length x2, .slice x3 p1.length x4] 27)).alloc (.cells #[.slice y1 s2.length y2, .slice y3 p2.length y4] 27)).alloc (.cells #[.slice z1 s3.length z2, .slice z3 p3.length z4] 27)) (w.heap.size + 1 + 1) (.slice z1 s3.length z2) (.slice z3 p3.length z4)) := by
  have h := Bx.new ((w.alloc (.cells #[.slice x1 s1.length x2, .slice x3 p1.length x4] 27)).alloc (.cells #[.slice y1 s2.length y2, .slice y3 p2.length y4] 27)) (.slice z1 s3.length z2) (.slice z3 p3.length z4) 27
  rw [World.size_alloc, World.size_alloc] at h
  exact h
 clear hs1 hp1 hs2 hp2 hs3 hp3 hI hJ hK hlog hb1 hb2
 have g0 := X2.out.c0
 have g1 := X2.out.c1
 go_enter Tryz.func17, Tryz.ntmps17
 go_wp2_with fail
 generalize (((w.alloc (.cells #[.slice x1 s1.length x2, .slice x3 p1.length x4] 27)).alloc (.cells #[.slice y1 s2.length y2, .slice y3 p2.length y4] 27)).alloc (.cells #[.slice z1 s3.length z2, .slice z3 p3.length z4] 27)) = v0 at *
 refine (HLO.out _ b0.out).mono ?_
 rintro e w1 ⟨rfl, hb⟩
 clear g0 g1
 replace X0 : Hid (Bx w1 w.heap.size (.slice x1 s1.length x2) (.slice x3 p1.length x4)) := X0.out.keep hb X0.out.lt
 replace X1 : Hid (Bx w1 (w.heap.size + 1) (.slice y1 s2.length y2) (.slice y3 p2.length y4)) := X1.out.keep hb X1.out.lt
 replace X2 : Hid (Bx w1 (w.heap.size + 1 + 1) (.slice z1 s3.length z2) (.slice z3 p3.length z4)) := X2.out.keep hb X2.out.lt
 replace b0 : Hid (Below w.heap.size w w1) := b0.out.trans (hb.mono b0.out.size)
 clear hb
 cases lg with
 | false =>
  go_wp2
  go_ret
  exact ⟨rfl, b0.out⟩
 | true =>
  have g0 := X2.out.c0
  have g1 := X2.out.c1
  have k0 := X0.out.c0
  have k1 := X0.out.c1
  go_wp2_with fail
  refine (HA.out _ b0.out).mono ?_
  rintro e w2 ⟨rfl, hb⟩
  clear g0 g1 k0 k1
  replace X0 : Hid (Bx w2 w.heap.size (.slice x1 s1.length x2) (.slice x3 p1.length x4)) := X0.out.keep hb X0.out.lt
  replace X1 : Hid (Bx w2 (w.heap.size + 1) (.slice y1 s2.length y2) (.slice y3 p2.length y4)) := X1.out.keep hb X1.out.lt
  replace X2 : Hid (Bx w2 (w.heap.size + 1 + 1) (.slice z1 s3.length z2) (.slice z3 p3.length z4)) := X2.out.keep hb X2.out.lt
  replace b0 : Hid (Below w.heap.size w w2) := b0.out.trans (hb.mono b0.out.size)
  clear hb
  cases b1 with
  | true =>
   go_wp2
   go_ret
   exact ⟨rfl, b0.out⟩
  | false =>
   have g0 := X2.out.c0
   have g1 := X2.out.c1
   have k0 := X1.out.c0
   have k1 := X1.out.c1
   go_wp2_with fail
   refine (HBo.out _ b0.out).mono ?_
   rintro e w3 ⟨rfl, hb⟩
   have b9 := b0.out.trans (hb.mono b0.out.size)
   clear g0 g1 k0 k1 hb
   go_wp2
   go_ret
   exact ⟨by cases b2 <;> rfl, b9⟩

end Go.Proofs.YtekjpoenbcnhdaaGreat
