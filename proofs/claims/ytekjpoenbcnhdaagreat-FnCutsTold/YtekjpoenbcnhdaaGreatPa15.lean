/- What impl.firstByteWritten and impl.countWritten return, of a right disk with nothing waiting. -/
import Derived.Test.YtekjpoenbcnhdaaGreatPa14
import Derived.Test.YtekjpoenbcnhdaaGreatPa10
import Derived.Test.YtekjpoenbcnhdaaGreatPa13
namespace Go.Proofs.YtekjpoenbcnhdaaGreat
open Go.RowKit
open DM
attribute [local go_sem ↓] Go.wp_at_zero Go.wp_at_succ

set_option maxRecDepth 100000 in
set_option maxHeartbeats 4000000 in
theorem ifb99 (ss : List ByteArray) (ps : List Wr) (k0 c : Nat) (a1 a2 : Option Addr) (c1 c2 : Nat) (hok : okB ss ps = true) (hps : ps = []) (hk0 : k0 + 47 ≤ ss.length) (hc : c ≤ 255) (w : World) (hs : SRow w a1 ss) (hp : PRow w a2 ps) :
  Calls Tryz.prog 71 #[.agg #[.slice a1 ss.length c1, .slice a2 ps.length c2], .int .i64 (k0 : Int), .int .i64 (c : Int)] w fun e w' => ∃ b1 d1 b2 d2, e = .returned (.agg #[.slice b1 ss.length d1, .slice b2 (wb ss k0 0 [UInt8.ofNat c]).length d2]) ∧ DOwn w' w.heap.size b1 d1 b2 d2 ss (wb ss k0 0 [UInt8.ofNat c]) ∧ okB ss (wb ss k0 0 [UInt8.ofNat c]) = true ∧ Below w.heap.size w w' := by
 have HWB : Hid (∀ W : World, SRow W a1 ss → PRow W a2 ps → Calls Tryz.prog 69 #[.agg #[.slice a1 ss.length c1, .slice a2 ps.length c2], .int .i64 (k0 : Int), .int .i64 0, .string ⟨#[UInt8.ofNat c]⟩] W fun e w' => ∃ b1 d1 b2 d2, e = .returned (.tuple #[.agg #[.slice b1 ss.length d1, .slice b2 (wb ss k0 0 [UInt8.ofNat c]).length d2], .bool true]) ∧ DOwn w' W.heap.size b1 d1 b2 d2 ss (wb ss k0 0 [UInt8.ofNat c]) ∧ okB ss (wb ss k0 0 [UInt8.ofNat c]) = true ∧ Below W.heap.size W w') := fun W h1 h2 => iwb98 ss ps k0 0 (oneB c) a1 a2 c1 c2 hok hps hk0 (by show 0 + 1 ≤ 3008; omega) W h1 h2
 have b0 : Hid (Below w.heap.size w ((w.alloc (.cells #[.slice a1 ss.length c1, .slice a2 ps.length c2] 27)).alloc (.cells #[.slice none 0 0, .slice none 0 0] 27))) := ((belowRefl w).alloc (Nat.le_refl _) _).alloc (by simp) _
 have X0 : Hid (Bx ((w.alloc (.cells #[.slice a1 ss.length c1, .slice a2 ps.length c2] 27)).alloc (.cells #[.slice none 0 0, .slice none 0 0] 27)) w.heap.size (.slice a1 ss.length c1) (.slice a2 ps.length c2)) := (Bx.new w _ _ _).alloc _
 have X1 : Hid (Bx ((w.alloc (.cells #[.slice a1 ss.length c1, .slice a2 ps.length c2] 27)).alloc (.cells #[.slice none 0 0, .slice none 0 0] 27)) (w.heap.size + 1) (.slice none 0 0) (.slice none 0 0)) := by
  have h := Bx.new (w.alloc (.cells #[.slice a1 ss.length c1, .slice a2 ps.length c2] 27)) (.slice none 0 0) (.slice none 0 0) 27
  rw [World.size_alloc] at h
  exact h
 have hx : (c : Int) = ((UInt8.ofNat c).toNat : Int) := (toNat_ofNat c (by omega)).symm
 have hcv := conv1 ((w.alloc (.cells #[.slice a1 ss.length c1, .slice a2 ps.length c2] 27)).alloc (.cells #[.slice none 0 0, .slice none 0 0] 27)) (UInt8.ofNat c) (c : Int) hx
 simp only [World.size_alloc] at hcv
 have HS0 : Hid (SRow (((w.alloc (.cells #[.slice a1 ss.length c1, .slice a2 ps.length c2] 27)).alloc (.cells #[.slice none 0 0, .slice none 0 0] 27)).alloc (.cells #[.int .u8 (c : Int)] 5)) a1 ss) := (hs.below b0.out).below ((belowRefl _).alloc (Nat.le_refl _) _)
 have HP0 : Hid (PRow (((w.alloc (.cells #[.slice a1 ss.length c1, .slice a2 ps.length c2] 27)).alloc (.cells #[.slice none 0 0, .slice none 0 0] 27)).alloc (.cells #[.int .u8 (c : Int)] 5)) a2 ps) := (hp.below b0.out).below ((belowRefl _).alloc (Nat.le_refl _) _)
 have Z0 : Hid (Bx (((w.alloc (.cells #[.slice a1 ss.length c1, .slice a2 ps.length c2] 27)).alloc (.cells #[.slice none 0 0, .slice none 0 0] 27)).alloc (.cells #[.int .u8 (c : Int)] 5)) (w.heap.size + 1) (.slice none 0 0) (.slice none 0 0)) := X1.out.alloc _
 have HB0 : Hid (Below w.heap.size w (((w.alloc (.cells #[.slice a1 ss.length c1, .slice a2 ps.length c2] 27)).alloc (.cells #[.slice none 0 0, .slice none 0 0] 27)).alloc (.cells #[.int .u8 (c : Int)] 5))) := b0.out.alloc b0.out.size _
 have hz : w.heap.size + 1 + 1 ≤ (((w.alloc (.cells #[.slice a1 ss.length c1, .slice a2 ps.length c2] 27)).alloc (.cells #[.slice none 0 0, .slice none 0 0] 27)).alloc (.cells #[.int .u8 (c : Int)] 5)).heap.size := by simp
 clear hs hp hok hps hx
 generalize wb ss k0 0 [UInt8.ofNat c] = WB at *
 go_enter Tryz.func71, Tryz.ntmps71
 go_wp2_with fail
 refine (HWB.out _ HS0.out HP0.out).mono ?_
 rintro e w8 ⟨y1, y2, y3, y4, rfl, hd8, hk8, hb8⟩
 have Y18 : Hid (Bx w8 (w.heap.size + 1) (.slice none 0 0) (.slice none 0 0)) := Z0.out.keep hb8 Z0.out.lt
 have r0 := Y18.out.c0
 have r1 := Y18.out.c1
 have rf := Y18.out.fz
 have rl := Y18.out.lt
 have V : Hid (Bx (((w8.setCell ⟨w.heap.size + 1, 0, none⟩ (.slice y1 ss.length y2)).setCell ⟨w.heap.size + 1, 1, none⟩ (.slice y3 WB.length y4)).alloc (.cells #[.slice y1 ss.length y2, .slice y3 WB.length y4] 27)) (w.heap.size + 1) (.slice y1 ss.length y2) (.slice y3 WB.length y4)) := ((Y18.out.set0 _).set1 _).alloc _
 have v0 := V.out.c0
 have v1 := V.out.c1
 have HB8 : Hid (Below w.heap.size w w8) := HB0.out.trans (hb8.mono HB0.out.size)
 have hz8 := hb8.size
 have HD8 : Hid (DOwn w8 (w.heap.size + 1 + 1) y1 y2 y3 y4 ss WB) := hd8.mono hz
 clear hd8 hb8
 go_wp2
 refine bodyPost_ret (v := .agg #[.slice y1 ss.length y2, .slice y3 WB.length y4]) (by simp [results, Tryz.results71, go_sem, v0, v1]) rfl ⟨y1, y2, y3, y4, rfl, ⟨?_, ?_⟩, hk8, ?_⟩
 ·exact (((HD8.out.s.set (by show w.heap.size + 1 < _; omega) _).set (by show w.heap.size + 1 < _; omega) _).alloc _).mono (by omega)
 ·exact (((HD8.out.p.set (by show w.heap.size + 1 < _; omega) _).set (by show w.heap.size + 1 < _; omega) _).alloc _).mono (by omega)
 ·exact ((HB8.out.setCell (by show _ ≤ w.heap.size + 1; omega) _).setCell (by show _ ≤ w.heap.size + 1; omega) _).alloc (by simp [World.setCell]; omega) _
end Go.Proofs.YtekjpoenbcnhdaaGreat

namespace Go.Proofs.YtekjpoenbcnhdaaGreat
open Go.RowKit
open DM
attribute [local go_sem ↓] Go.wp_at_zero Go.wp_at_succ

set_option maxHeartbeats 400000 in
theorem sone256 (w : World) :
  Calls Tryz.prog 59 #[.int .i64 256] w fun e w' => e = .returned (.string (oneB 256)) ∧ Below w.heap.size w w' := by
 have hx : (0 : Int) = ((UInt8.ofNat 256).toNat : Int) := by decide
 have hcv := conv1 w (UInt8.ofNat 256) 0 hx
 clear hx
 go_enter Tryz.func59, Tryz.ntmps59
 go_wp2
 go_ret
 exact ⟨rfl, (belowRefl w).alloc (Nat.le_refl _) _⟩
theorem sone_any (c : Nat) (hc : c ≤ 256) (w : World) :
  Calls Tryz.prog 59 #[.int .i64 (c : Int)] w fun e w' => e = .returned (.string (oneB c)) ∧ Below w.heap.size w w' := by
 by_cases h : c = 256
 ·subst h; exact sone256 w
 ·exact sone101 c (by omega) w

set_option maxRecDepth 100000 in
set_option maxHeartbeats 4000000 in
theorem ifb99z (ss : List ByteArray) (ps : List Wr) (k0 : Nat) (a1 a2 : Option Addr) (c1 c2 : Nat) (hok : okB ss ps = true) (hps : ps = []) (hk0 : k0 + 47 ≤ ss.length) (w : World) (hs : SRow w a1 ss) (hp : PRow w a2 ps) :
  Calls Tryz.prog 71 #[.agg #[.slice a1 ss.length c1, .slice a2 ps.length c2], .int .i64 (k0 : Int), .int .i64 256] w fun e w' => ∃ b1 d1 b2 d2, e = .returned (.agg #[.slice b1 ss.length d1, .slice b2 (wb ss k0 0 [UInt8.ofNat 256]).length d2]) ∧ DOwn w' w.heap.size b1 d1 b2 d2 ss (wb ss k0 0 [UInt8.ofNat 256]) ∧ okB ss (wb ss k0 0 [UInt8.ofNat 256]) = true ∧ Below w.heap.size w w' := by
 have HWB : Hid (∀ W : World, SRow W a1 ss → PRow W a2 ps → Calls Tryz.prog 69 #[.agg #[.slice a1 ss.length c1, .slice a2 ps.length c2], .int .i64 (k0 : Int), .int .i64 0, .string ⟨#[UInt8.ofNat 256]⟩] W fun e w' => ∃ b1 d1 b2 d2, e = .returned (.tuple #[.agg #[.slice b1 ss.length d1, .slice b2 (wb ss k0 0 [UInt8.ofNat 256]).length d2], .bool true]) ∧ DOwn w' W.heap.size b1 d1 b2 d2 ss (wb ss k0 0 [UInt8.ofNat 256]) ∧ okB ss (wb ss k0 0 [UInt8.ofNat 256]) = true ∧ Below W.heap.size W w') := fun W h1 h2 => iwb98 ss ps k0 0 (oneB 256) a1 a2 c1 c2 hok hps hk0 (by show 0 + 1 ≤ 3008; omega) W h1 h2
 have b0 : Hid (Below w.heap.size w ((w.alloc (.cells #[.slice a1 ss.length c1, .slice a2 ps.length c2] 27)).alloc (.cells #[.slice none 0 0, .slice none 0 0] 27))) := ((belowRefl w).alloc (Nat.le_refl _) _).alloc (by simp) _
 have X0 : Hid (Bx ((w.alloc (.cells #[.slice a1 ss.length c1, .slice a2 ps.length c2] 27)).alloc (.cells #[.slice none 0 0, .slice none 0 0] 27)) w.heap.size (.slice a1 ss.length c1) (.slice a2 ps.length c2)) := (Bx.new w _ _ _).alloc _
 have X1 : Hid (Bx ((w.alloc (.cells #[.slice a1 ss.length c1, .slice a2 ps.length c2] 27)).alloc (.cells #[.slice none 0 0, .slice none 0 0] 27)) (w.heap.size + 1) (.slice none 0 0) (.slice none 0 0)) := by
  have h := Bx.new (w.alloc (.cells #[.slice a1 ss.length c1, .slice a2 ps.length c2] 27)) (.slice none 0 0) (.slice none 0 0) 27
  rw [World.size_alloc] at h
  exact h
 have hx : (0 : Int) = ((UInt8.ofNat 256).toNat : Int) := by decide
 have hcv := conv1 ((w.alloc (.cells #[.slice a1 ss.length c1, .slice a2 ps.length c2] 27)).alloc (.cells #[.slice none 0 0, .slice none 0 0] 27)) (UInt8.ofNat 256) 0 hx
 simp only [World.size_alloc] at hcv
 have HS0 : Hid (SRow (((w.alloc (.cells #[.slice a1 ss.length c1, .slice a2 ps.length c2] 27)).alloc (.cells #[.slice none 0 0, .slice none 0 0] 27)).alloc (.cells #[.int .u8 0] 5)) a1 ss) := (hs.below b0.out).below ((belowRefl _).alloc (Nat.le_refl _) _)
 have HP0 : Hid (PRow (((w.alloc (.cells #[.slice a1 ss.length c1, .slice a2 ps.length c2] 27)).alloc (.cells #[.slice none 0 0, .slice none 0 0] 27)).alloc (.cells #[.int .u8 0] 5)) a2 ps) := (hp.below b0.out).below ((belowRefl _).alloc (Nat.le_refl _) _)
 have Z0 : Hid (Bx (((w.alloc (.cells #[.slice a1 ss.length c1, .slice a2 ps.length c2] 27)).alloc (.cells #[.slice none 0 0, .slice none 0 0] 27)).alloc (.cells #[.int .u8 0] 5)) (w.heap.size + 1) (.slice none 0 0) (.slice none 0 0)) := X1.out.alloc _
 have HB0 : Hid (Below w.heap.size w (((w.alloc (.cells #[.slice a1 ss.length c1, .slice a2 ps.length c2] 27)).alloc (.cells #[.slice none 0 0, .slice none 0 0] 27)).alloc (.cells #[.int .u8 0] 5))) := b0.out.alloc b0.out.size _
 have hz : w.heap.size + 1 + 1 ≤ (((w.alloc (.cells #[.slice a1 ss.length c1, .slice a2 ps.length c2] 27)).alloc (.cells #[.slice none 0 0, .slice none 0 0] 27)).alloc (.cells #[.int .u8 0] 5)).heap.size := by simp
 clear hs hp hok hps hx
 generalize wb ss k0 0 [UInt8.ofNat 256] = WB at *
 go_enter Tryz.func71, Tryz.ntmps71
 go_wp2_with fail
 refine (HWB.out _ HS0.out HP0.out).mono ?_
 rintro e w8 ⟨y1, y2, y3, y4, rfl, hd8, hk8, hb8⟩
 have Y18 : Hid (Bx w8 (w.heap.size + 1) (.slice none 0 0) (.slice none 0 0)) := Z0.out.keep hb8 Z0.out.lt
 have r0 := Y18.out.c0
 have r1 := Y18.out.c1
 have rf := Y18.out.fz
 have rl := Y18.out.lt
 have V : Hid (Bx (((w8.setCell ⟨w.heap.size + 1, 0, none⟩ (.slice y1 ss.length y2)).setCell ⟨w.heap.size + 1, 1, none⟩ (.slice y3 WB.length y4)).alloc (.cells #[.slice y1 ss.length y2, .slice y3 WB.length y4] 27)) (w.heap.size + 1) (.slice y1 ss.length y2) (.slice y3 WB.length y4)) := ((Y18.out.set0 _).set1 _).alloc _
 have v0 := V.out.c0
 have v1 := V.out.c1
 have HB8 : Hid (Below w.heap.size w w8) := HB0.out.trans (hb8.mono HB0.out.size)
 have hz8 := hb8.size
 have HD8 : Hid (DOwn w8 (w.heap.size + 1 + 1) y1 y2 y3 y4 ss WB) := hd8.mono hz
 clear hd8 hb8
 go_wp2
 refine bodyPost_ret (v := .agg #[.slice y1 ss.length y2, .slice y3 WB.length y4]) (by simp [results, Tryz.results71, go_sem, v0, v1]) rfl ⟨y1, y2, y3, y4, rfl, ⟨?_, ?_⟩, hk8, ?_⟩
 ·exact (((HD8.out.s.set (by show w.heap.size + 1 < _; omega) _).set (by show w.heap.size + 1 < _; omega) _).alloc _).mono (by omega)
 ·exact (((HD8.out.p.set (by show w.heap.size + 1 < _; omega) _).set (by show w.heap.size + 1 < _; omega) _).alloc _).mono (by omega)
 ·exact ((HB8.out.setCell (by show _ ≤ w.heap.size + 1; omega) _).setCell (by show _ ≤ w.heap.size + 1; omega) _).alloc (by simp [World.setCell]; omega) _

theorem ifb_any (ss : List ByteArray) (ps : List Wr) (k0 c : Nat) (a1 a2 : Option Addr) (c1 c2 : Nat) (hok : okB ss ps = true) (hps : ps = []) (hk0 : k0 + 47 ≤ ss.length) (hc : c ≤ 256) (w : World) (hs : SRow w a1 ss) (hp : PRow w a2 ps) :
  Calls Tryz.prog 71 #[.agg #[.slice a1 ss.length c1, .slice a2 ps.length c2], .int .i64 (k0 : Int), .int .i64 (c : Int)] w fun e w' => ∃ b1 d1 b2 d2, e = .returned (.agg #[.slice b1 ss.length d1, .slice b2 (wb ss k0 0 [UInt8.ofNat c]).length d2]) ∧ DOwn w' w.heap.size b1 d1 b2 d2 ss (wb ss k0 0 [UInt8.ofNat c]) ∧ okB ss (wb ss k0 0 [UInt8.ofNat c]) = true ∧ Below w.heap.size w w' := by
 by_cases h : c = 256
 ·subst h; exact ifb99z ss ps k0 a1 a2 c1 c2 hok hps hk0 w hs hp
 ·exact ifb99 ss ps k0 c a1 a2 c1 c2 hok hps hk0 (by omega) w hs hp

def tuW (ss : List ByteArray) (ps : List Wr) : List Wr := wb ss 0 0 [UInt8.ofNat ((fb (rdR ss ps 0)).toNat + 1)]

set_option maxRecDepth 100000 in
set_option maxHeartbeats 8000000 in
theorem sturn75 (ss : List ByteArray) (ps : List Wr) (a1 a2 : Option Addr) (c1 c2 B0 : Nat) (hok : okB ss ps = true) (hps : ps = []) (h97 : ss.length = 97) (w : World) (hd : DOwn w B0 a1 c1 a2 c2 ss ps) :
  Calls Tryz.prog 48 #[.agg #[.slice a1 ss.length c1, .slice a2 ps.length c2]] w fun e w' => ∃ b1 d1 b2 d2, e = .returned (.tuple #[.agg #[.slice b1 ss.length d1, .slice b2 (tuW ss ps).length d2], .bool true]) ∧ DOwn w' w.heap.size b1 d1 b2 d2 ss (tuW ss ps) ∧ okB ss (tuW ss ps) = true ∧ Below w.heap.size w w' := by
 have HO : Hid (OkD ss ps) := okB_iff.1 hok
 have hs100 : ss.length ≤ 100 := HO.out.2.1
 have hpl : ps.length ≤ 60 := HO.out.2.2.1
 have hfb := fb_le (rdR ss ps 0)
 obtain ⟨c, hc⟩ := Int.eq_ofNat_of_zero_le hfb.1
 have hc255 : c ≤ 255 := by omega
 have HBY : Hid (∀ W : World, DOwn W B0 a1 c1 a2 c2 ss ps → Calls Tryz.prog 79 #[.agg #[.slice a1 ss.length c1, .slice a2 ps.length c2], .int .i64 0] W fun e w' => e = .returned (.int .i64 (c : Int)) ∧ Below W.heap.size W w') := fun W h => by
  have h2 := sby61 ss ps 0 a1 a2 c1 c2 (by omega) (by omega) W h.s.srow h.p.prow
  rw [hc] at h2
  exact h2
 have HON : Hid (∀ W : World, Calls Tryz.prog 59 #[.int .i64 ((c : Int) + 1)] W fun e w' => e = .returned (.string (oneB (c + 1))) ∧ Below W.heap.size W w') := fun W => sone_any (c + 1) (by omega) W
 have HWB : Hid (∀ W : World, DOwn W B0 a1 c1 a2 c2 ss ps → Calls Tryz.prog 57 #[.agg #[.slice a1 ss.length c1, .slice a2 ps.length c2], .int .i64 0, .int .i64 0, .string (oneB (c + 1))] W fun e w' => ∃ f1 f2 f3 f4, e = .returned (.tuple #[.agg #[.slice f1 ss.length f2, .slice f3 (tuW ss ps).length f4], .bool true]) ∧ DOwn w' W.heap.size f1 f2 f3 f4 ss (tuW ss ps) ∧ okB ss (tuW ss ps) = true ∧ Below W.heap.size W w') := fun W h => by
  have h2 := swb100 ss ps 0 0 (oneB (c + 1)) a1 a2 c1 c2 B0 hok hps (by omega) (by show 0 + 1 ≤ 3008; omega) W h
  have e : tuW ss ps = wb ss 0 0 [UInt8.ofNat (c + 1)] := by unfold tuW; rw [hc]; rfl
  rw [e]
  exact h2
 have b0 : Hid (Below w.heap.size w ((w.alloc (.cells #[.slice a1 ss.length c1, .slice a2 ps.length c2] 27)).alloc (.cells #[.slice none 0 0, .slice none 0 0] 27))) := ((belowRefl w).alloc (Nat.le_refl _) _).alloc (by simp) _
 have X0 : Hid (Bx ((w.alloc (.cells #[.slice a1 ss.length c1, .slice a2 ps.length c2] 27)).alloc (.cells #[.slice none 0 0, .slice none 0 0] 27)) w.heap.size (.slice a1 ss.length c1) (.slice a2 ps.length c2)) := (Bx.new w _ _ _).alloc _
 have X1 : Hid (Bx ((w.alloc (.cells #[.slice a1 ss.length c1, .slice a2 ps.length c2] 27)).alloc (.cells #[.slice none 0 0, .slice none 0 0] 27)) (w.heap.size + 1) (.slice none 0 0) (.slice none 0 0)) := by
  have h := Bx.new (w.alloc (.cells #[.slice a1 ss.length c1, .slice a2 ps.length c2] 27)) (.slice none 0 0) (.slice none 0 0) 27
  rw [World.size_alloc] at h
  exact h
 have HD0 : Hid (DOwn ((w.alloc (.cells #[.slice a1 ss.length c1, .slice a2 ps.length c2] 27)).alloc (.cells #[.slice none 0 0, .slice none 0 0] 27)) B0 a1 c1 a2 c2 ss ps) := hd.below b0.out
 have hne : w.heap.size + 1 ≠ w.heap.size := by omega
 have hcw : IntKind.i64.wrap ((c : Int) + 1) = (c : Int) + 1 := by rw [IntKind.wrap_i64]; omega
 clear hd hok hps h97 HO hc hfb
 generalize tuW ss ps = WB at *
 generalize oneB (c + 1) = tb at *
 generalize hW0 : ((w.alloc (.cells #[.slice a1 ss.length c1, .slice a2 ps.length c2] 27)).alloc (.cells #[.slice none 0 0, .slice none 0 0] 27)) = W0 at *
 have g0 := X0.out.c0
 have g1 := X0.out.c1
 go_enter Tryz.func48, Tryz.ntmps48
 go_wp2
 clear hW0
 go_region_held3 (fun w' => w'.cell? ⟨w.heap.size, 0, none⟩ = some (.slice a1 ss.length c1) ∧ w'.cell? ⟨w.heap.size, 1, none⟩ = some (.slice a2 ps.length c2))
  (first | exact ⟨g0, g1⟩ | exact t5.out | exact t6.out | exact t8.out | exact ⟨((Y08.out.setO hne _).setO hne _).c0, ((Y08.out.setO hne _).setO hne _).c1⟩)
  ((first
   | (go_at_call 79
      refine (HBY.out _ HD0.out.drew).mono ?_
      rintro e w5 ⟨rfl, hb5⟩
      have Y05 : Hid (Bx w5 w.heap.size (.slice a1 ss.length c1) (.slice a2 ps.length c2)) := X0.out.keep (undrew hb5) X0.out.lt
      have Y15 : Hid (Bx w5 (w.heap.size + 1) (.slice none 0 0) (.slice none 0 0)) := X1.out.keep (undrew hb5) X1.out.lt
      have t5 : Hid (w5.cell? ⟨w.heap.size, 0, none⟩ = some (.slice a1 ss.length c1) ∧ w5.cell? ⟨w.heap.size, 1, none⟩ = some (.slice a2 ps.length c2)) := ⟨Y05.out.c0, Y05.out.c1⟩
      have HB5 : Hid (Below w.heap.size w w5) := b0.out.trans ((undrew hb5).mono b0.out.size)
      have HD5 : Hid (DOwn w5 B0 a1 c1 a2 c2 ss ps) := HD0.out.below (undrew hb5))
   | (go_at_call 59
      refine (HON.out _).mono ?_
      rintro e w6 ⟨rfl, hb6⟩
      have Y06 : Hid (Bx w6 w.heap.size (.slice a1 ss.length c1) (.slice a2 ps.length c2)) := Y05.out.keep hb6 Y05.out.lt
      have Y16 : Hid (Bx w6 (w.heap.size + 1) (.slice none 0 0) (.slice none 0 0)) := Y15.out.keep hb6 Y15.out.lt
      have t6 : Hid (w6.cell? ⟨w.heap.size, 0, none⟩ = some (.slice a1 ss.length c1) ∧ w6.cell? ⟨w.heap.size, 1, none⟩ = some (.slice a2 ps.length c2)) := ⟨Y06.out.c0, Y06.out.c1⟩
      have HB6 : Hid (Below w.heap.size w w6) := HB5.out.trans (hb6.mono HB5.out.size)
      have HD6 : Hid (DOwn w6 B0 a1 c1 a2 c2 ss ps) := HD5.out.below hb6)
   | (go_at_call 57
      refine (HWB.out _ HD6.out).mono ?_
      rintro e w8 ⟨y1, y2, y3, y4, rfl, hd8, hk8, hb8⟩
      have Y08 : Hid (Bx w8 w.heap.size (.slice a1 ss.length c1) (.slice a2 ps.length c2)) := Y06.out.keep hb8 Y06.out.lt
      have Y18 : Hid (Bx w8 (w.heap.size + 1) (.slice none 0 0) (.slice none 0 0)) := Y16.out.keep hb8 Y16.out.lt
      have t8 : Hid (w8.cell? ⟨w.heap.size, 0, none⟩ = some (.slice a1 ss.length c1) ∧ w8.cell? ⟨w.heap.size, 1, none⟩ = some (.slice a2 ps.length c2)) := ⟨Y08.out.c0, Y08.out.c1⟩
      have HB8 : Hid (Below w.heap.size w w8) := HB6.out.trans (hb8.mono HB6.out.size)
      have HD8 : Hid (DOwn w8 (w.heap.size + 1 + 1) y1 y2 y3 y4 ss WB) := hd8.mono Y16.out.lt
      have r0 := Y18.out.c0
      have r1 := Y18.out.c1
      have rf := Y18.out.fz)))
 all_goals
  have V9 : Hid (Bx ((w8.setCell ⟨w.heap.size + 1, 0, none⟩ (.slice y1 ss.length y2)).setCell ⟨w.heap.size + 1, 1, none⟩ (.slice y3 WB.length y4)) (w.heap.size + 1) (.slice y1 ss.length y2) (.slice y3 WB.length y4)) := (Y18.out.set0 _).set1 _
  have q0 := V9.out.c0
  have q1 := V9.out.c1
  go_wp2
  refine bodyPost_ret (v := .tuple #[.agg #[.slice y1 ss.length y2, .slice y3 WB.length y4], .bool true]) (by simp [results, Tryz.results48, go_sem, q0, q1]) rfl ⟨y1, y2, y3, y4, rfl, ⟨?_, ?_⟩, hk8, ?_⟩
  ·exact ((HD8.out.s.set (by show w.heap.size + 1 < _; omega) _).set (by show w.heap.size + 1 < _; omega) _).mono (by omega)
  ·exact ((HD8.out.p.set (by show w.heap.size + 1 < _; omega) _).set (by show w.heap.size + 1 < _; omega) _).mono (by omega)
  ·exact (HB8.out.setCell (by show _ ≤ w.heap.size + 1; omega) _).setCell (by show _ ≤ w.heap.size + 1; omega) _

set_option maxRecDepth 100000 in
set_option maxHeartbeats 8000000 in
theorem iturn78 (ss : List ByteArray) (ps : List Wr) (a1 a2 : Option Addr) (c1 c2 : Nat) (hok : okB ss ps = true) (hps : ps = []) (h97 : ss.length = 97) (w : World) (hsr : SRow w a1 ss) (hpr : PRow w a2 ps) :
  Calls Tryz.prog 44 #[.agg #[.slice a1 ss.length c1, .slice a2 ps.length c2]] w fun e w' => ∃ b1 d1 b2 d2, e = .returned (.agg #[.slice b1 ss.length d1, .slice b2 (tuW ss ps).length d2]) ∧ DOwn w' w.heap.size b1 d1 b2 d2 ss (tuW ss ps) ∧ okB ss (tuW ss ps) = true ∧ Below w.heap.size w w' := by
 have HO : Hid (OkD ss ps) := okB_iff.1 hok
 have hs100 : ss.length ≤ 100 := HO.out.2.1
 have hpl : ps.length ≤ 60 := HO.out.2.2.1
 have hfb := fb_le (rdR ss ps 0)
 obtain ⟨c, hc⟩ := Int.eq_ofNat_of_zero_le hfb.1
 have hc255 : c ≤ 255 := by omega
 have HBY : Hid (∀ W : World, Below w.heap.size w W → Calls Tryz.prog 66 #[.agg #[.slice a1 ss.length c1, .slice a2 ps.length c2], .int .i64 0] W fun e w' => e = .returned (.int .i64 (c : Int)) ∧ Below W.heap.size W w') := fun W h => by
  have h2 := iby62 ss ps 0 a1 a2 c1 c2 (by omega) (by omega) (fun s h => by have := HO.out.2.2.2.1 s h; omega) (fun p h => by have := (HO.out.2.2.2.2 p h).2.2; omega) W (hsr.below h) (hpr.below h)
  rw [hc] at h2
  exact h2
 have HWB : Hid (∀ W : World, Below w.heap.size w W → Calls Tryz.prog 71 #[.agg #[.slice a1 ss.length c1, .slice a2 ps.length c2], .int .i64 0, .int .i64 ((c : Int) + 1)] W fun e w' => ∃ f1 f2 f3 f4, e = .returned (.agg #[.slice f1 ss.length f2, .slice f3 (tuW ss ps).length f4]) ∧ DOwn w' W.heap.size f1 f2 f3 f4 ss (tuW ss ps) ∧ okB ss (tuW ss ps) = true ∧ Below W.heap.size W w') := fun W h => by
  have h2 := ifb_any ss ps 0 (c + 1) a1 a2 c1 c2 hok hps (by omega) (by omega) W (hsr.below h) (hpr.below h)
  have e : tuW ss ps = wb ss 0 0 [UInt8.ofNat (c + 1)] := by unfold tuW; rw [hc]; rfl
  rw [e]
  exact h2
 have b0 : Hid (Below w.heap.size w ((w.alloc (.cells #[.slice a1 ss.length c1, .slice a2 ps.length c2] 27)).alloc (.cells #[.slice none 0 0, .slice none 0 0] 27))) := ((belowRefl w).alloc (Nat.le_refl _) _).alloc (by simp) _
 have X0 : Hid (Bx ((w.alloc (.cells #[.slice a1 ss.length c1, .slice a2 ps.length c2] 27)).alloc (.cells #[.slice none 0 0, .slice none 0 0] 27)) w.heap.size (.slice a1 ss.length c1) (.slice a2 ps.length c2)) := (Bx.new w _ _ _).alloc _
 have X1 : Hid (Bx ((w.alloc (.cells #[.slice a1 ss.length c1, .slice a2 ps.length c2] 27)).alloc (.cells #[.slice none 0 0, .slice none 0 0] 27)) (w.heap.size + 1) (.slice none 0 0) (.slice none 0 0)) := by
  have h := Bx.new (w.alloc (.cells #[.slice a1 ss.length c1, .slice a2 ps.length c2] 27)) (.slice none 0 0) (.slice none 0 0) 27
  rw [World.size_alloc] at h
  exact h
 have hne : w.heap.size + 1 ≠ w.heap.size := by omega
 have hcw : IntKind.i64.wrap ((c : Int) + 1) = (c : Int) + 1 := by rw [IntKind.wrap_i64]; omega
 clear hsr hpr hok hps h97 HO hc hfb
 generalize tuW ss ps = WB at *
 generalize hW0 : ((w.alloc (.cells #[.slice a1 ss.length c1, .slice a2 ps.length c2] 27)).alloc (.cells #[.slice none 0 0, .slice none 0 0] 27)) = W0 at *
 have g0 := X0.out.c0
 have g1 := X0.out.c1
 go_enter Tryz.func44, Tryz.ntmps44
 go_wp2
 clear hW0
 go_region_held3 (fun w' => w'.cell? ⟨w.heap.size, 0, none⟩ = some (.slice a1 ss.length c1) ∧ w'.cell? ⟨w.heap.size, 1, none⟩ = some (.slice a2 ps.length c2))
  (first | exact ⟨g0, g1⟩ | exact t5.out | exact t8.out | exact ⟨((Y08.out.setO hne _).setO hne _).c0, ((Y08.out.setO hne _).setO hne _).c1⟩)
  ((first
   | (go_at_call 66
      refine (HBY.out _ b0.out.drew).mono ?_
      rintro e w5 ⟨rfl, hb5⟩
      have Y05 : Hid (Bx w5 w.heap.size (.slice a1 ss.length c1) (.slice a2 ps.length c2)) := X0.out.keep (undrew hb5) X0.out.lt
      have Y15 : Hid (Bx w5 (w.heap.size + 1) (.slice none 0 0) (.slice none 0 0)) := X1.out.keep (undrew hb5) X1.out.lt
      have t5 : Hid (w5.cell? ⟨w.heap.size, 0, none⟩ = some (.slice a1 ss.length c1) ∧ w5.cell? ⟨w.heap.size, 1, none⟩ = some (.slice a2 ps.length c2)) := ⟨Y05.out.c0, Y05.out.c1⟩
      have HB5 : Hid (Below w.heap.size w w5) := b0.out.trans ((undrew hb5).mono b0.out.size))
   | (go_at_call 71
      refine (HWB.out _ HB5.out).mono ?_
      rintro e w8 ⟨y1, y2, y3, y4, rfl, hd8, hk8, hb8⟩
      have Y08 : Hid (Bx w8 w.heap.size (.slice a1 ss.length c1) (.slice a2 ps.length c2)) := Y05.out.keep hb8 Y05.out.lt
      have Y18 : Hid (Bx w8 (w.heap.size + 1) (.slice none 0 0) (.slice none 0 0)) := Y15.out.keep hb8 Y15.out.lt
      have t8 : Hid (w8.cell? ⟨w.heap.size, 0, none⟩ = some (.slice a1 ss.length c1) ∧ w8.cell? ⟨w.heap.size, 1, none⟩ = some (.slice a2 ps.length c2)) := ⟨Y08.out.c0, Y08.out.c1⟩
      have HB8 : Hid (Below w.heap.size w w8) := HB5.out.trans (hb8.mono HB5.out.size)
      have HD8 : Hid (DOwn w8 (w.heap.size + 1 + 1) y1 y2 y3 y4 ss WB) := hd8.mono Y15.out.lt
      have r0 := Y18.out.c0
      have r1 := Y18.out.c1
      have rf := Y18.out.fz)))
 all_goals
  have V9 : Hid (Bx ((w8.setCell ⟨w.heap.size + 1, 0, none⟩ (.slice y1 ss.length y2)).setCell ⟨w.heap.size + 1, 1, none⟩ (.slice y3 WB.length y4)) (w.heap.size + 1) (.slice y1 ss.length y2) (.slice y3 WB.length y4)) := (Y18.out.set0 _).set1 _
  have q0 := V9.out.c0
  have q1 := V9.out.c1
  go_wp2
  refine bodyPost_ret (v := .agg #[.slice y1 ss.length y2, .slice y3 WB.length y4]) (by simp [results, Tryz.results44, go_sem, q0, q1]) rfl ⟨y1, y2, y3, y4, rfl, ⟨?_, ?_⟩, hk8, ?_⟩
  ·exact ((HD8.out.s.set (by show w.heap.size + 1 < _; omega) _).set (by show w.heap.size + 1 < _; omega) _).mono (by omega)
  ·exact ((HD8.out.p.set (by show w.heap.size + 1 < _; omega) _).set (by show w.heap.size + 1 < _; omega) _).mono (by omega)
  ·exact (HB8.out.setCell (by show _ ≤ w.heap.size + 1; omega) _).setCell (by show _ ≤ w.heap.size + 1; omega) _

end Go.Proofs.YtekjpoenbcnhdaaGreat

namespace Go.Proofs.YtekjpoenbcnhdaaGreat
open Go.RowKit
open DM
attribute [local go_sem ↓] Go.wp_at_zero Go.wp_at_succ

theorem zero108 : Tryz.zeroCells100 = (bv (List.replicate 3008 0)).toArray := by kernel_rfl

theorem run_copy_at (W : World) (g T ty o dLen dCap n : Nat) (s : ByteArray) (l : List UInt8) (hg : W.heap[g]? = some (.cells (bv l).toArray T (0, 0))) (hn : n = min s.size dLen) (hfit : o + n ≤ l.length) :
  (Builtin.copy_ #[22, 9] ty #[.slice (some ⟨g, o, none⟩) dLen dCap, .string s]).run Tryz.prog W = .ok (goInt n) (W.setRow g (bv (l.take o ++ s.data.toList.take n ++ l.drop (o + n))).toArray) := by
 have es : s.data.toList.length = s.size := by simp
 have hlen : (bv (s.data.toList.take n)).length = n := by rw [bv_len, List.length_take]; omega
 have hst := run_storeCells_at Tryz.prog g o T (bv (s.data.toList.take n)) 0 (bv l).toArray W hg (by rw [hlen, List.size_toArray, bv_len]; omega) (bv_one _)
 have hmin : Nat.min s.size dLen = n := hn.symm
 have htk : List.take n (List.map (fun b : UInt8 => Value.int IntKind.u8 (b.toNat : Int)) s.data.toList) = bv (s.data.toList.take n) := by
  unfold bv
  rw [List.map_take]
 rw [hlen] at hst
 simp only [Nat.add_zero] at hst
 have e1 : List.take o (bv l).toArray.toList ++ bv (s.data.toList.take n) ++ List.drop (o + n) (bv l).toArray.toList = bv (l.take o ++ s.data.toList.take n ++ l.drop (o + n)) := by
  simp [bv]
 rw [e1] at hst
 cases hq : Tryz.prog.info? 5 with
 | none => have hs := info5s; rw [hq] at hs; cases hs
 | some i =>
  simp [Builtin.copy_, run_underlying Tryz.underlying22, Builtin.lenOf, Builtin.firstCells, sizeOf, typeInfo, hq, hmin]
  rw [htk, hst]
  simp only [Result.andThen, List.append_assoc]

theorem setRow_get (W : World) (g : Nat) (cs cur : Array Value) (T : TypeId) (m : Nat × Nat) (hg : W.heap[g]? = some (.cells cur T m)) : (W.setRow g cs).heap[g]? = some (.cells cs T m) := by
 unfold World.setRow
 simp [Array.getElem?_modify, hg]
theorem setRow_below {w W : World} {B g : Nat} (h : Below B w W) (hB : B ≤ g) (cs : Array Value) : Below B w (W.setRow g cs) := by
 refine ⟨h.os, h.tape, h.output, ?_, fun k hk => ?_⟩
 ·unfold World.setRow; simpa using h.size
 ·rw [← h.block k hk]
  unfold World.setRow
  simp only [Array.getElem?_modify]
  rw [if_neg (by omega)]
end Go.Proofs.YtekjpoenbcnhdaaGreat

namespace Go.Proofs.YtekjpoenbcnhdaaGreat
open Go.RowKit
open DM
attribute [local go_sem ↓] Go.wp_at_zero Go.wp_at_succ

theorem rec_cells (at' : Nat) (V t : ByteArray) (l0 : List UInt8) (h0 : l0.length = 3008) (hr : V.size + t.size + at' ≤ 3008) (j : Nat) (hj : j < V.size + t.size) :
  ((l0.take at' ++ V.data.toList.take V.size ++ l0.drop (at' + V.size)).take (at' + V.size) ++ t.data.toList.take t.size ++ (l0.take at' ++ V.data.toList.take V.size ++ l0.drop (at' + V.size)).drop (at' + V.size + t.size))[at' + j]? = (V.data.toList ++ t.data.toList)[j]? := by
 have e1 : V.data.toList.length = V.size := by simp
 have e2 : t.data.toList.length = t.size := by simp
 rw [List.take_of_length_le (i := V.size) (by omega), List.take_of_length_le (i := t.size) (by omega)]
 have e3 : (l0.take at' ++ V.data.toList ++ l0.drop (at' + V.size)).take (at' + V.size) = l0.take at' ++ V.data.toList := by
  rw [List.take_append_of_le_length (by simp; omega), List.take_of_length_le (by simp; omega)]
 rw [e3, List.append_assoc, List.append_assoc, List.getElem?_append_right (by simp; omega)]
 have e4 : (l0.take at').length = at' := by rw [List.length_take]; omega
 rw [e4, show at' + j - at' = j by omega, ← List.append_assoc, List.getElem?_append_left (by simp; omega)]

set_option maxRecDepth 100000 in
set_option maxHeartbeats 4000000 in
theorem irf97 (at' : Nat) (t : ByteArray) (hat : at' ≤ 3008) (htz : t.size ≤ 1048576) (ht0 : 0 < t.size) (w : World) :
  Calls Tryz.prog 68 #[.int .i64 (at' : Int), .string t] w fun e w' => ∃ v, e = .returned (.tuple #[v, .bool (decide ((recL t).length + at' ≤ 3008))]) ∧ ((recL t).length + at' ≤ 3008 → v = .slice (some ⟨w.heap.size, at', none⟩) (recL t).length (recL t).length ∧ ∀ j (hj : j < (recL t).length), w'.cell? ⟨w.heap.size, at' + j, none⟩ = some (.int .u8 ((recL t)[j].toNat : Int))) ∧ Below w.heap.size w w' := by
 obtain ⟨V, hV⟩ : ∃ V : ByteArray, V = ⟨(WM.varL t.size).toArray⟩ := ⟨_, rfl⟩
 have hVs : V.size = (WM.varL t.size).length := by rw [hV]; show (WM.varL t.size).toArray.size = _; simp
 have hV1 : 1 ≤ V.size := by rw [hVs]; exact WM.varL_pos _
 have hV5 : V.size ≤ 5 := by rw [hVs]; exact WM.varL_len5 _ (by omega)
 have HVAR : Hid (∀ W : World, Calls Tryz.prog 93 #[.int .i64 (t.size : Int)] W fun e w' => e = .returned (.tuple #[.string V, .bool true]) ∧ Below W.heap.size W w') := fun W => by rw [hV]; exact ivar_yes t.size (by omega) W
 have hrl : (recL t).length = V.size + t.size := by rw [recL_len, hVs]
 have HRL : Hid ((recL t).length = V.size + t.size) := hrl
 have HRV : Hid (recL t = V.data.toList ++ t.data.toList) := by show _ = _; rw [hV]; simp [recL]
 obtain ⟨n1, hn1⟩ : ∃ n1, n1 = min V.size (3008 - at') := ⟨_, rfl⟩
 obtain ⟨n2, hn2⟩ : ∃ n2, n2 = min t.size (3008 - at' - n1) := ⟨_, rfl⟩
 have HN1 : Hid (n1 = min V.size (3008 - at')) := hn1
 have HN2 : Hid (n2 = min t.size (3008 - at' - n1)) := hn2
 have hs1 : n1 ≤ 3008 - at' := by omega
 have hs2 : n1 + n2 ≤ 3008 - at' := by omega
 have hs3 : n1 ≤ 5 := by omega
 have HEQ : Hid (((n1 + n2 : Nat) : Int) = (V.size : Int) + (t.size : Int) ↔ V.size + t.size + at' ≤ 3008) := by show _ ↔ _; omega
 have HZ : Hid (((w.alloc (.cells Tryz.zeroCells100 100)).heap[w.heap.size]? = some (.cells (bv (List.replicate 3008 0)).toArray 100 (0, 0)))) := by
  show _ = _
  rw [← zero108]
  exact heap_alloc_new w _
 clear hV hVs hrl hn1 hn2
 have ha0 : (0 : Int) ≤ (at' : Int) := by omega
 have ha1 : (at' : Int) ≤ 3008 := by omega
 have hc0 : (0 : Int) ≤ (n1 : Int) := by omega
 go_enter Tryz.func68, Tryz.ntmps68
 go_wp2_with fail
 refine (HVAR.out _).mono ?_
 rintro e w2 ⟨rfl, hb2⟩
 have HG2 : Hid (w2.heap[w.heap.size]? = some (.cells (bv (List.replicate 3008 0)).toArray 100 (0, 0))) := (hb2.block w.heap.size (by simp)).trans HZ.out
 have HB2 : Hid (Below w.heap.size w w2) := ((belowRefl w).alloc (Nat.le_refl _) _).trans (hb2.mono (by simp))
 clear hb2 HZ HVAR
 by_cases h3008 : at' = 3008
 ·subst h3008
  have HND : Hid (decide ((recL t).length + 3008 ≤ 3008) = false) := decide_eq_false (by rw [HRL.out]; omega)
  have HNI : Hid (¬ (recL t).length + 3008 ≤ 3008) := by show ¬ _; rw [HRL.out]; omega
  have heq : ((0 : Int) == (V.size : Int) + (t.size : Int)) = false := by rw [beq_eq_false_iff_ne]; omega
  go_wp2
  rw [run_copy_at w2 w.heap.size 100 _ 0 0 _ 0 V (List.replicate 3008 0) HG2.out (by omega) (by simp)]
  obtain ⟨l1, hl1⟩ : ∃ l1, l1 = (List.replicate 3008 (0 : UInt8)).take 0 ++ V.data.toList.take 0 ++ (List.replicate 3008 (0 : UInt8)).drop (0 + 0) := ⟨_, rfl⟩
  rw [← hl1]
  have HG3 : Hid ((w2.setRow w.heap.size (bv l1).toArray).heap[w.heap.size]? = some (.cells (bv l1).toArray 100 (0, 0))) := setRow_get _ _ _ _ _ _ HG2.out
  have HB3 : Hid (Below w.heap.size w (w2.setRow w.heap.size (bv l1).toArray)) := setRow_below HB2.out (Nat.le_refl _) _
  clear hl1 HG2 HB2
  generalize w2.setRow w.heap.size (bv l1).toArray = w3 at *
  go_wp2
  rw [run_copy_at w3 w.heap.size 100 _ 0 0 _ 0 t l1 HG3.out (by omega) (by omega)]
  have HB4 : Hid (Below w.heap.size w (w3.setRow w.heap.size (bv (l1.take 0 ++ t.data.toList.take 0 ++ l1.drop (0 + 0))).toArray)) := setRow_below HB3.out (Nat.le_refl _) _
  generalize w3.setRow w.heap.size (bv (l1.take 0 ++ t.data.toList.take 0 ++ l1.drop (0 + 0))).toArray = w4 at *
  go_wp2
  go_ret2
  exact ⟨.slice (some ⟨w.heap.size, 0, none⟩) 0 0, by rw [HND.out]; rfl, fun h => absurd h HNI.out, HB4.out⟩
 ·have h3008' : at' < 3008 := by omega
  have hz1 : ¬ 3008 - at' = 0 := by omega
  have hz2 : 0 < 3008 - at' := by omega
  go_wp2
  rw [run_copy_at w2 w.heap.size 100 _ at' (3008 - at') _ n1 V (List.replicate 3008 0) HG2.out HN1.out (by simp; omega)]
  obtain ⟨l1, hl1⟩ : ∃ l1, l1 = ((List.replicate 3008 (0 : UInt8)).take at' ++ V.data.toList.take n1 ++ (List.replicate 3008 (0 : UInt8)).drop (at' + n1)) := ⟨_, rfl⟩
  rw [← hl1]
  have hl1l : l1.length = 3008 := by
   have e1 : V.data.toList.length = V.size := by simp
   have e2 := HN1.out
   rw [hl1]
   simp only [List.length_append, List.length_take, List.length_drop, List.length_replicate]
   omega
  have HL1 : Hid (l1 = ((List.replicate 3008 (0 : UInt8)).take at' ++ V.data.toList.take n1 ++ (List.replicate 3008 (0 : UInt8)).drop (at' + n1))) := hl1
  have HL1l : Hid (l1.length = 3008) := hl1l
  clear hl1 hl1l
  have HG3 : Hid ((w2.setRow w.heap.size (bv l1).toArray).heap[w.heap.size]? = some (.cells (bv l1).toArray 100 (0, 0))) := setRow_get _ _ _ _ _ _ HG2.out
  have HB3 : Hid (Below w.heap.size w (w2.setRow w.heap.size (bv l1).toArray)) := setRow_below HB2.out (Nat.le_refl _) _
  generalize w2.setRow w.heap.size (bv l1).toArray = w3 at *
  have hni : (n1 : Int) ≤ 3008 - (at' : Int) := by omega
  by_cases hfull : n1 = 3008 - at'
  ·have h1v : n1 ≤ V.size := by have := HN1.out; omega
   have HND : Hid (decide ((recL t).length + at' ≤ 3008) = false) := decide_eq_false (by rw [HRL.out]; omega)
   have HNI : Hid (¬ (recL t).length + at' ≤ 3008) := by show ¬ _; rw [HRL.out]; omega
   have hzz : 3008 - at' - n1 = 0 := by omega
   have heq : ((n1 : Int) == (V.size : Int) + (t.size : Int)) = false := by rw [beq_eq_false_iff_ne]; omega
   have HNN : Hid (n1 = 3008 - at') := hfull
   have hn00 : (0 : Int) ≤ (n1 : Int) := by omega
   have hlt0 : 0 < n1 := by omega
   clear hfull
   go_wp2
   rw [run_copy_at w3 w.heap.size 100 _ at' 0 _ 0 t l1 HG3.out (by omega) (by rw [HL1l.out]; omega)]
   have HB4 : Hid (Below w.heap.size w (w3.setRow w.heap.size (bv (l1.take at' ++ t.data.toList.take 0 ++ l1.drop (at' + 0))).toArray)) := setRow_below HB3.out (Nat.le_refl _) _
   generalize w3.setRow w.heap.size (bv (l1.take at' ++ t.data.toList.take 0 ++ l1.drop (at' + 0))).toArray = w4 at *
   go_wp2
   go_ret2
   exact ⟨.slice (some ⟨w.heap.size, at', none⟩) n1 n1, by rw [HND.out]; rfl, fun h => absurd h HNI.out, HB4.out⟩
  ·have hnf : n1 < 3008 - at' := by omega
   have hnf2 : ¬ 3008 - at' - n1 = 0 := by omega
   have hn1v : n1 = V.size := by have := HN1.out; omega
   subst hn1v
   go_wp2
   rw [run_copy_at w3 w.heap.size 100 _ (at' + V.size) (3008 - at' - V.size) _ n2 t l1 HG3.out HN2.out (by rw [HL1l.out]; omega)]
   obtain ⟨l2, hl2⟩ : ∃ l2, l2 = l1.take (at' + V.size) ++ t.data.toList.take n2 ++ l1.drop (at' + V.size + n2) := ⟨_, rfl⟩
   rw [← hl2]
   have HG4 : Hid ((w3.setRow w.heap.size (bv l2).toArray).heap[w.heap.size]? = some (.cells (bv l2).toArray 100 (0, 0))) := setRow_get _ _ _ _ _ _ HG3.out
   have HB4 : Hid (Below w.heap.size w (w3.setRow w.heap.size (bv l2).toArray)) := setRow_below HB3.out (Nat.le_refl _) _
   generalize w3.setRow w.heap.size (bv l2).toArray = w4 at *
   have HL2 : Hid (l2 = l1.take (at' + V.size) ++ t.data.toList.take n2 ++ l1.drop (at' + V.size + n2)) := hl2
   clear hl2
   by_cases hroom : V.size + t.size + at' ≤ 3008
   ·have hn2t : n2 = t.size := by have := HN2.out; omega
    subst hn2t
    have HND : Hid (decide ((recL t).length + at' ≤ 3008) = true) := decide_eq_true (by rw [HRL.out]; omega)
    have HC : Hid (∀ j (hj : j < (recL t).length), w4.cell? ⟨w.heap.size, at' + j, none⟩ = some (.int .u8 ((recL t)[j].toNat : Int))) := fun j hj => by
     have h := rec_cells at' V t (List.replicate 3008 0) (by simp) (by omega) j (by have := HRL.out; omega)
     rw [← HL1.out, ← HL2.out, ← HRV.out] at h
     rw [cell_of_row w4 w.heap.size (at' + j) _ 100 (0, 0) HG4.out]
     simp only [bv, List.getElem?_toArray, List.getElem?_map, h]
     rw [List.getElem?_eq_getElem hj]
     rfl
    go_wp2
    go_ret2
    exact ⟨.slice (some ⟨w.heap.size, at', none⟩) (V.size + t.size) (V.size + t.size), by rw [HND.out]; rfl, fun _ => ⟨by rw [HRL.out], HC.out⟩, HB4.out⟩
   ·have HND : Hid (decide ((recL t).length + at' ≤ 3008) = false) := decide_eq_false (by rw [HRL.out]; omega)
    have HNI : Hid (¬ (recL t).length + at' ≤ 3008) := by show ¬ _; rw [HRL.out]; omega
    have h2v : n2 < t.size := by have := HN2.out; omega
    have heq : ((V.size : Int) + (n2 : Int) == (V.size : Int) + (t.size : Int)) = false := by rw [beq_eq_false_iff_ne]; omega
    go_wp2
    go_ret2
    exact ⟨.slice (some ⟨w.heap.size, at', none⟩) (V.size + n2) (V.size + n2), by rw [HND.out]; rfl, fun h => absurd h HNI.out, HB4.out⟩
end Go.Proofs.YtekjpoenbcnhdaaGreat
