/- What impl.firstByteWritten and impl.countWritten return, of a right disk with nothing waiting. -/
import Derived.Test.YtekjpoenbcnhdaaPb23
import Derived.Test.YtekjpoenbcnhdaaPb15
import Derived.Test.YtekjpoenbcnhdaaPb22
import Derived.Test.YtekjpoenbcnhdaaPb16
namespace Go.Proofs.Ytekjpoenbcnhdaa
open Go.RowKit
open DM
attribute [local go_sem ↓] Go.wp_at_zero Go.wp_at_succ

set_option maxRecDepth 100000 in
set_option maxHeartbeats 4000000 in
theorem ifb99 (ss : List ByteArray) (ps : List Wr) (k0 c : Nat) (a1 a2 : Option Addr) (c1 c2 : Nat) (hok : okB ss ps = true) (hps : ps = []) (hk0 : k0 + 47 ≤ ss.length) (hc : c ≤ 255) (w : World) (hs : SRow w a1 ss) (hp : PRow w a2 ps) :
    Calls Try.prog 59 #[.agg #[.slice a1 ss.length c1, .slice a2 ps.length c2], .int .i64 (k0 : Int), .int .i64 (c : Int)] w fun e w' => ∃ b1 d1 b2 d2, e = .returned (.agg #[.slice b1 ss.length d1, .slice b2 (wb ss k0 0 [UInt8.ofNat c]).length d2]) ∧ DOwn w' w.heap.size b1 d1 b2 d2 ss (wb ss k0 0 [UInt8.ofNat c]) ∧ okB ss (wb ss k0 0 [UInt8.ofNat c]) = true ∧ Below w.heap.size w w' := by
  have HWB : Hid (∀ W : World, SRow W a1 ss → PRow W a2 ps → Calls Try.prog 57 #[.agg #[.slice a1 ss.length c1, .slice a2 ps.length c2], .int .i64 (k0 : Int), .int .i64 0, .string ⟨#[UInt8.ofNat c]⟩] W fun e w' => ∃ b1 d1 b2 d2, e = .returned (.tuple #[.agg #[.slice b1 ss.length d1, .slice b2 (wb ss k0 0 [UInt8.ofNat c]).length d2], .bool true]) ∧ DOwn w' W.heap.size b1 d1 b2 d2 ss (wb ss k0 0 [UInt8.ofNat c]) ∧ okB ss (wb ss k0 0 [UInt8.ofNat c]) = true ∧ Below W.heap.size W w') := fun W h1 h2 => iwb98 ss ps k0 0 (oneB c) a1 a2 c1 c2 hok hps hk0 (by show 0 + 1 ≤ 3008; omega) W h1 h2
  have b0 : Hid (Below w.heap.size w ((w.alloc (.cells #[.slice a1 ss.length c1, .slice a2 ps.length c2] 27)).alloc (.cells #[.slice none 0 0, .slice none 0 0] 27))) := ((belowRefl w).alloc (Nat.le_refl _) _).alloc (by simp) _
  have X0 : Hid (Bx ((w.alloc (.cells #[.slice a1 ss.length c1, .slice a2 ps.length c2] 27)).alloc (.cells #[.slice none 0 0, .slice none 0 0] 27)) w.heap.size (.slice a1 ss.length c1) (.slice a2 ps.length c2)) := (Bx.new w _ _ _).alloc _
  have X1 : Hid (Bx ((w.alloc (.cells #[.slice a1 ss.length c1, .slice a2 ps.length c2] 27)).alloc (.cells #[.slice none 0 0, .slice none 0 0] 27)) (w.heap.size + 1) (.slice none 0 0) (.slice none 0 0)) := by
    have h := Bx.new (w.alloc (.cells #[.slice a1 ss.length c1, .slice a2 ps.length c2] 27)) (.slice none 0 0) (.slice none 0 0) 27
    rw [World.size_alloc] at h
    exact h
  have hx : (c : Int) = ((UInt8.ofNat c).toNat : Int) := (toNat_ofNat c (by omega)).symm
  have hcv := conv1 ((w.alloc (.cells #[.slice a1 ss.length c1, .slice a2 ps.length c2] 27)).alloc (.cells #[.slice none 0 0, .slice none 0 0] 27)) (UInt8.ofNat c) (c : Int) hx
  simp only [World.size_alloc] at hcv
  have HS0 : Hid (SRow (((w.alloc (.cells #[.slice a1 ss.length c1, .slice a2 ps.length c2] 27)).alloc (.cells #[.slice none 0 0, .slice none 0 0] 27)).alloc (.cells #[.int .u8 (c : Int)] 5)) a1 ss) := (hs.below b0.out).below ((belowRefl _).alloc (Nat.le_refl _) _)
  have HP0 : Hid (PRow (((w.alloc (.cells #[.slice a1 ss.length c1, .slice a2 ps.length c2] 27)).alloc (.cells #[.slice none 0 0, .slice none 0 0] 27)).alloc (.cells #[.int .u8 (c : Int)] 5)) a2 ps) := (hp.below b0.out).below ((belowRefl _).alloc (Nat.le_refl _) _)
  have Z0 : Hid (Bx (((w.alloc (.cells #[.slice a1 ss.length c1, .slice a2 ps.length c2] 27)).alloc (.cells #[.slice none 0 0, .slice none 0 0] 27)).alloc (.cells #[.int .u8 (c : Int)] 5)) (w.heap.size + 1) (.slice none 0 0) (.slice none 0 0)) := X1.out.alloc _
  have HB0 : Hid (Below w.heap.size w (((w.alloc (.cells #[.slice a1 ss.length c1, .slice a2 ps.length c2] 27)).alloc (.cells #[.slice none 0 0, .slice none 0 0] 27)).alloc (.cells #[.int .u8 (c : Int)] 5))) := b0.out.alloc b0.out.size _
  have hz : w.heap.size + 1 + 1 ≤ (((w.alloc (.cells #[.slice a1 ss.length c1, .slice a2 ps.length c2] 27)).alloc (.cells #[.slice none 0 0, .slice none 0 0] 27)).alloc (.cells #[.int .u8 (c : Int)] 5)).heap.size := by simp
  clear hs hp hok hps hx
  generalize wb ss k0 0 [UInt8.ofNat c] = WB at *
  go_enter Try.func59, Try.ntmps59
  go_wp2_with fail
  refine (HWB.out _ HS0.out HP0.out).mono ?_
  rintro e w8 ⟨y1, y2, y3, y4, rfl, hd8, hk8, hb8⟩
  have Y18 : Hid (Bx w8 (w.heap.size + 1) (.slice none 0 0) (.slice none 0 0)) := Z0.out.keep hb8 Z0.out.lt
  have r0 := Y18.out.c0
  have r1 := Y18.out.c1
  have rf := Y18.out.fz
  have rl := Y18.out.lt
  have V : Hid (Bx (((w8.setCell ⟨w.heap.size + 1, 0, none⟩ (.slice y1 ss.length y2)).setCell ⟨w.heap.size + 1, 1, none⟩ (.slice y3 WB.length y4)).alloc (.cells #[.slice y1 ss.length y2, .slice y3 WB.length y4] 27)) (w.heap.size + 1) (.slice y1 ss.length y2) (.slice y3 WB.length y4)) := ((Y18.out.set0 _).set1 _).alloc _
  have v0 := V.out.c0
  have v1 := V.out.c1
  have HB8 : Hid (Below w.heap.size w w8) := HB0.out.trans (hb8.mono HB0.out.size)
  have hz8 := hb8.size
  have HD8 : Hid (DOwn w8 (w.heap.size + 1 + 1) y1 y2 y3 y4 ss WB) := hd8.mono hz
  clear hd8 hb8
  go_wp2
  refine bodyPost_ret (v := .agg #[.slice y1 ss.length y2, .slice y3 WB.length y4]) (by simp [results, Try.results59, go_sem, v0, v1]) rfl ⟨y1, y2, y3, y4, rfl, ⟨?_, ?_⟩, hk8, ?_⟩
  · exact (((HD8.out.s.set (by show w.heap.size + 1 < _; omega) _).set (by show w.heap.size + 1 < _; omega) _).alloc _).mono (by omega)
  · exact (((HD8.out.p.set (by show w.heap.size + 1 < _; omega) _).set (by show w.heap.size + 1 < _; omega) _).alloc _).mono (by omega)
  · exact ((HB8.out.setCell (by show _ ≤ w.heap.size + 1; omega) _).setCell (by show _ ≤ w.heap.size + 1; omega) _).alloc (by simp [World.setCell]; omega) _
end Go.Proofs.Ytekjpoenbcnhdaa

namespace Go.Proofs.Ytekjpoenbcnhdaa
open Go.RowKit
open DM
attribute [local go_sem ↓] Go.wp_at_zero Go.wp_at_succ

set_option maxHeartbeats 400000 in
theorem sone256 (w : World) :
    Calls Try.prog 52 #[.int .i64 256] w fun e w' => e = .returned (.string (oneB 256)) ∧ Below w.heap.size w w' := by
  have hx : (0 : Int) = ((UInt8.ofNat 256).toNat : Int) := by decide
  have hcv := conv1 w (UInt8.ofNat 256) 0 hx
  clear hx
  go_enter Try.func52, Try.ntmps52
  go_wp2
  go_ret
  exact ⟨rfl, (belowRefl w).alloc (Nat.le_refl _) _⟩
theorem sone_any (c : Nat) (hc : c ≤ 256) (w : World) :
    Calls Try.prog 52 #[.int .i64 (c : Int)] w fun e w' => e = .returned (.string (oneB c)) ∧ Below w.heap.size w w' := by
  by_cases h : c = 256
  · subst h; exact sone256 w
  · exact sone101 c (by omega) w

set_option maxRecDepth 100000 in
set_option maxHeartbeats 4000000 in
theorem ifb99z (ss : List ByteArray) (ps : List Wr) (k0 : Nat) (a1 a2 : Option Addr) (c1 c2 : Nat) (hok : okB ss ps = true) (hps : ps = []) (hk0 : k0 + 47 ≤ ss.length) (w : World) (hs : SRow w a1 ss) (hp : PRow w a2 ps) :
    Calls Try.prog 59 #[.agg #[.slice a1 ss.length c1, .slice a2 ps.length c2], .int .i64 (k0 : Int), .int .i64 256] w fun e w' => ∃ b1 d1 b2 d2, e = .returned (.agg #[.slice b1 ss.length d1, .slice b2 (wb ss k0 0 [UInt8.ofNat 256]).length d2]) ∧ DOwn w' w.heap.size b1 d1 b2 d2 ss (wb ss k0 0 [UInt8.ofNat 256]) ∧ okB ss (wb ss k0 0 [UInt8.ofNat 256]) = true ∧ Below w.heap.size w w' := by
  have HWB : Hid (∀ W : World, SRow W a1 ss → PRow W a2 ps → Calls Try.prog 57 #[.agg #[.slice a1 ss.length c1, .slice a2 ps.length c2], .int .i64 (k0 : Int), .int .i64 0, .string ⟨#[UInt8.ofNat 256]⟩] W fun e w' => ∃ b1 d1 b2 d2, e = .returned (.tuple #[.agg #[.slice b1 ss.length d1, .slice b2 (wb ss k0 0 [UInt8.ofNat 256]).length d2], .bool true]) ∧ DOwn w' W.heap.size b1 d1 b2 d2 ss (wb ss k0 0 [UInt8.ofNat 256]) ∧ okB ss (wb ss k0 0 [UInt8.ofNat 256]) = true ∧ Below W.heap.size W w') := fun W h1 h2 => iwb98 ss ps k0 0 (oneB 256) a1 a2 c1 c2 hok hps hk0 (by show 0 + 1 ≤ 3008; omega) W h1 h2
  have b0 : Hid (Below w.heap.size w ((w.alloc (.cells #[.slice a1 ss.length c1, .slice a2 ps.length c2] 27)).alloc (.cells #[.slice none 0 0, .slice none 0 0] 27))) := ((belowRefl w).alloc (Nat.le_refl _) _).alloc (by simp) _
  have X0 : Hid (Bx ((w.alloc (.cells #[.slice a1 ss.length c1, .slice a2 ps.length c2] 27)).alloc (.cells #[.slice none 0 0, .slice none 0 0] 27)) w.heap.size (.slice a1 ss.length c1) (.slice a2 ps.length c2)) := (Bx.new w _ _ _).alloc _
  have X1 : Hid (Bx ((w.alloc (.cells #[.slice a1 ss.length c1, .slice a2 ps.length c2] 27)).alloc (.cells #[.slice none 0 0, .slice none 0 0] 27)) (w.heap.size + 1) (.slice none 0 0) (.slice none 0 0)) := by
    have h := Bx.new (w.alloc (.cells #[.slice a1 ss.length c1, .slice a2 ps.length c2] 27)) (.slice none 0 0) (.slice none 0 0) 27
    rw [World.size_alloc] at h
    exact h
  have hx : (0 : Int) = ((UInt8.ofNat 256).toNat : Int) := by decide
  have hcv := conv1 ((w.alloc (.cells #[.slice a1 ss.length c1, .slice a2 ps.length c2] 27)).alloc (.cells #[.slice none 0 0, .slice none 0 0] 27)) (UInt8.ofNat 256) 0 hx
  simp only [World.size_alloc] at hcv
  have HS0 : Hid (SRow (((w.alloc (.cells #[.slice a1 ss.length c1, .slice a2 ps.length c2] 27)).alloc (.cells #[.slice none 0 0, .slice none 0 0] 27)).alloc (.cells #[.int .u8 0] 5)) a1 ss) := (hs.below b0.out).below ((belowRefl _).alloc (Nat.le_refl _) _)
  have HP0 : Hid (PRow (((w.alloc (.cells #[.slice a1 ss.length c1, .slice a2 ps.length c2] 27)).alloc (.cells #[.slice none 0 0, .slice none 0 0] 27)).alloc (.cells #[.int .u8 0] 5)) a2 ps) := (hp.below b0.out).below ((belowRefl _).alloc (Nat.le_refl _) _)
  have Z0 : Hid (Bx (((w.alloc (.cells #[.slice a1 ss.length c1, .slice a2 ps.length c2] 27)).alloc (.cells #[.slice none 0 0, .slice none 0 0] 27)).alloc (.cells #[.int .u8 0] 5)) (w.heap.size + 1) (.slice none 0 0) (.slice none 0 0)) := X1.out.alloc _
  have HB0 : Hid (Below w.heap.size w (((w.alloc (.cells #[.slice a1 ss.length c1, .slice a2 ps.length c2] 27)).alloc (.cells #[.slice none 0 0, .slice none 0 0] 27)).alloc (.cells #[.int .u8 0] 5))) := b0.out.alloc b0.out.size _
  have hz : w.heap.size + 1 + 1 ≤ (((w.alloc (.cells #[.slice a1 ss.length c1, .slice a2 ps.length c2] 27)).alloc (.cells #[.slice none 0 0, .slice none 0 0] 27)).alloc (.cells #[.int .u8 0] 5)).heap.size := by simp
  clear hs hp hok hps hx
  generalize wb ss k0 0 [UInt8.ofNat 256] = WB at *
  go_enter Try.func59, Try.ntmps59
  go_wp2_with fail
  refine (HWB.out _ HS0.out HP0.out).mono ?_
  rintro e w8 ⟨y1, y2, y3, y4, rfl, hd8, hk8, hb8⟩
  have Y18 : Hid (Bx w8 (w.heap.size + 1) (.slice none 0 0) (.slice none 0 0)) := Z0.out.keep hb8 Z0.out.lt
  have r0 := Y18.out.c0
  have r1 := Y18.out.c1
  have rf := Y18.out.fz
  have rl := Y18.out.lt
  have V : Hid (Bx (((w8.setCell ⟨w.heap.size + 1, 0, none⟩ (.slice y1 ss.length y2)).setCell ⟨w.heap.size + 1, 1, none⟩ (.slice y3 WB.length y4)).alloc (.cells #[.slice y1 ss.length y2, .slice y3 WB.length y4] 27)) (w.heap.size + 1) (.slice y1 ss.length y2) (.slice y3 WB.length y4)) := ((Y18.out.set0 _).set1 _).alloc _
  have v0 := V.out.c0
  have v1 := V.out.c1
  have HB8 : Hid (Below w.heap.size w w8) := HB0.out.trans (hb8.mono HB0.out.size)
  have hz8 := hb8.size
  have HD8 : Hid (DOwn w8 (w.heap.size + 1 + 1) y1 y2 y3 y4 ss WB) := hd8.mono hz
  clear hd8 hb8
  go_wp2
  refine bodyPost_ret (v := .agg #[.slice y1 ss.length y2, .slice y3 WB.length y4]) (by simp [results, Try.results59, go_sem, v0, v1]) rfl ⟨y1, y2, y3, y4, rfl, ⟨?_, ?_⟩, hk8, ?_⟩
  · exact (((HD8.out.s.set (by show w.heap.size + 1 < _; omega) _).set (by show w.heap.size + 1 < _; omega) _).alloc _).mono (by omega)
  · exact (((HD8.out.p.set (by show w.heap.size + 1 < _; omega) _).set (by show w.heap.size + 1 < _; omega) _).alloc _).mono (by omega)
  · exact ((HB8.out.setCell (by show _ ≤ w.heap.size + 1; omega) _).setCell (by show _ ≤ w.heap.size + 1; omega) _).alloc (by simp [World.setCell]; omega) _

theorem ifb_any (ss : List ByteArray) (ps : List Wr) (k0 c : Nat) (a1 a2 : Option Addr) (c1 c2 : Nat) (hok : okB ss ps = true) (hps : ps = []) (hk0 : k0 + 47 ≤ ss.length) (hc : c ≤ 256) (w : World) (hs : SRow w a1 ss) (hp : PRow w a2 ps) :
    Calls Try.prog 59 #[.agg #[.slice a1 ss.length c1, .slice a2 ps.length c2], .int .i64 (k0 : Int), .int .i64 (c : Int)] w fun e w' => ∃ b1 d1 b2 d2, e = .returned (.agg #[.slice b1 ss.length d1, .slice b2 (wb ss k0 0 [UInt8.ofNat c]).length d2]) ∧ DOwn w' w.heap.size b1 d1 b2 d2 ss (wb ss k0 0 [UInt8.ofNat c]) ∧ okB ss (wb ss k0 0 [UInt8.ofNat c]) = true ∧ Below w.heap.size w w' := by
  by_cases h : c = 256
  · subst h; exact ifb99z ss ps k0 a1 a2 c1 c2 hok hps hk0 w hs hp
  · exact ifb99 ss ps k0 c a1 a2 c1 c2 hok hps hk0 (by omega) w hs hp

def tuW (ss : List ByteArray) (ps : List Wr) : List Wr := wb ss 0 0 [UInt8.ofNat ((fb (rdR ss ps 0)).toNat + 1)]

set_option maxRecDepth 100000 in
set_option maxHeartbeats 8000000 in
theorem sturn75 (ss : List ByteArray) (ps : List Wr) (a1 a2 : Option Addr) (c1 c2 B0 : Nat) (hok : okB ss ps = true) (hps : ps = []) (h97 : ss.length = 97) (w : World) (hd : DOwn w B0 a1 c1 a2 c2 ss ps) :
    Calls Try.prog 26 #[.agg #[.slice a1 ss.length c1, .slice a2 ps.length c2]] w fun e w' => ∃ b1 d1 b2 d2, e = .returned (.tuple #[.agg #[.slice b1 ss.length d1, .slice b2 (tuW ss ps).length d2], .bool true]) ∧ DOwn w' w.heap.size b1 d1 b2 d2 ss (tuW ss ps) ∧ okB ss (tuW ss ps) = true ∧ Below w.heap.size w w' := by
  have HO : Hid (OkD ss ps) := okB_iff.1 hok
  have hs100 : ss.length ≤ 100 := HO.out.2.1
  have hpl : ps.length ≤ 60 := HO.out.2.2.1
  have hfb := fb_le (rdR ss ps 0)
  obtain ⟨c, hc⟩ := Int.eq_ofNat_of_zero_le hfb.1
  have hc255 : c ≤ 255 := by omega
  have HBY : Hid (∀ W : World, DOwn W B0 a1 c1 a2 c2 ss ps → Calls Try.prog 49 #[.agg #[.slice a1 ss.length c1, .slice a2 ps.length c2], .int .i64 0] W fun e w' => e = .returned (.int .i64 (c : Int)) ∧ Below W.heap.size W w') := fun W h => by
    have h2 := sby61 ss ps 0 a1 a2 c1 c2 (by omega) (by omega) W h.s.srow h.p.prow
    rw [hc] at h2
    exact h2
  have HON : Hid (∀ W : World, Calls Try.prog 52 #[.int .i64 ((c : Int) + 1)] W fun e w' => e = .returned (.string (oneB (c + 1))) ∧ Below W.heap.size W w') := fun W => sone_any (c + 1) (by omega) W
  have HWB : Hid (∀ W : World, DOwn W B0 a1 c1 a2 c2 ss ps → Calls Try.prog 51 #[.agg #[.slice a1 ss.length c1, .slice a2 ps.length c2], .int .i64 0, .int .i64 0, .string (oneB (c + 1))] W fun e w' => ∃ f1 f2 f3 f4, e = .returned (.tuple #[.agg #[.slice f1 ss.length f2, .slice f3 (tuW ss ps).length f4], .bool true]) ∧ DOwn w' W.heap.size f1 f2 f3 f4 ss (tuW ss ps) ∧ okB ss (tuW ss ps) = true ∧ Below W.heap.size W w') := fun W h => by
    have h2 := swb100 ss ps 0 0 (oneB (c + 1)) a1 a2 c1 c2 B0 hok hps (by omega) (by show 0 + 1 ≤ 3008; omega) W h
    have e : tuW ss ps = wb ss 0 0 [UInt8.ofNat (c + 1)] := by unfold tuW; rw [hc]; rfl
    rw [e]
    exact h2
  have b0 : Hid (Below w.heap.size w ((w.alloc (.cells #[.slice a1 ss.length c1, .slice a2 ps.length c2] 27)).alloc (.cells #[.slice none 0 0, .slice none 0 0] 27))) := ((belowRefl w).alloc (Nat.le_refl _) _).alloc (by simp) _
  have X0 : Hid (Bx ((w.alloc (.cells #[.slice a1 ss.length c1, .slice a2 ps.length c2] 27)).alloc (.cells #[.slice none 0 0, .slice none 0 0] 27)) w.heap.size (.slice a1 ss.length c1) (.slice a2 ps.length c2)) := (Bx.new w _ _ _).alloc _
  have X1 : Hid (Bx ((w.alloc (.cells #[.slice a1 ss.length c1, .slice a2 ps.length c2] 27)).alloc (.cells #[.slice none 0 0, .slice none 0 0] 27)) (w.heap.size + 1) (.slice none 0 0) (.slice none 0 0)) := by
    have h := Bx.new (w.alloc (.cells #[.slice a1 ss.length c1, .slice a2 ps.length c2] 27)) (.slice none 0 0) (.slice none 0 0) 27
    rw [World.size_alloc] at h
    exact h
  have HD0 : Hid (DOwn ((w.alloc (.cells #[.slice a1 ss.length c1, .slice a2 ps.length c2] 27)).alloc (.cells #[.slice none 0 0, .slice none 0 0] 27)) B0 a1 c1 a2 c2 ss ps) := hd.below b0.out
  have hne : w.heap.size + 1 ≠ w.heap.size := by omega
  have hcw : IntKind.i64.wrap ((c : Int) + 1) = (c : Int) + 1 := by rw [IntKind.wrap_i64]; omega
  clear hd hok hps h97 HO hc hfb
  generalize tuW ss ps = WB at *
  generalize oneB (c + 1) = tb at *
  generalize hW0 : ((w.alloc (.cells #[.slice a1 ss.length c1, .slice a2 ps.length c2] 27)).alloc (.cells #[.slice none 0 0, .slice none 0 0] 27)) = W0 at *
  have g0 := X0.out.c0
  have g1 := X0.out.c1
  go_enter Try.func26, Try.ntmps26
  go_wp2
  clear hW0
  go_region_held3 (fun w' => w'.cell? ⟨w.heap.size, 0, none⟩ = some (.slice a1 ss.length c1) ∧ w'.cell? ⟨w.heap.size, 1, none⟩ = some (.slice a2 ps.length c2))
    (first | exact ⟨g0, g1⟩ | exact t5.out | exact t6.out | exact t8.out | exact ⟨((Y08.out.setO hne _).setO hne _).c0, ((Y08.out.setO hne _).setO hne _).c1⟩)
    ((first
      | (go_at_call 49
         refine (HBY.out _ HD0.out.drew).mono ?_
         rintro e w5 ⟨rfl, hb5⟩
         have Y05 : Hid (Bx w5 w.heap.size (.slice a1 ss.length c1) (.slice a2 ps.length c2)) := X0.out.keep (undrew hb5) X0.out.lt
         have Y15 : Hid (Bx w5 (w.heap.size + 1) (.slice none 0 0) (.slice none 0 0)) := X1.out.keep (undrew hb5) X1.out.lt
         have t5 : Hid (w5.cell? ⟨w.heap.size, 0, none⟩ = some (.slice a1 ss.length c1) ∧ w5.cell? ⟨w.heap.size, 1, none⟩ = some (.slice a2 ps.length c2)) := ⟨Y05.out.c0, Y05.out.c1⟩
         have HB5 : Hid (Below w.heap.size w w5) := b0.out.trans ((undrew hb5).mono b0.out.size)
         have HD5 : Hid (DOwn w5 B0 a1 c1 a2 c2 ss ps) := HD0.out.below (undrew hb5))
      | (go_at_call 52
         refine (HON.out _).mono ?_
         rintro e w6 ⟨rfl, hb6⟩
         have Y06 : Hid (Bx w6 w.heap.size (.slice a1 ss.length c1) (.slice a2 ps.length c2)) := Y05.out.keep hb6 Y05.out.lt
         have Y16 : Hid (Bx w6 (w.heap.size + 1) (.slice none 0 0) (.slice none 0 0)) := Y15.out.keep hb6 Y15.out.lt
         have t6 : Hid (w6.cell? ⟨w.heap.size, 0, none⟩ = some (.slice a1 ss.length c1) ∧ w6.cell? ⟨w.heap.size, 1, none⟩ = some (.slice a2 ps.length c2)) := ⟨Y06.out.c0, Y06.out.c1⟩
         have HB6 : Hid (Below w.heap.size w w6) := HB5.out.trans (hb6.mono HB5.out.size)
         have HD6 : Hid (DOwn w6 B0 a1 c1 a2 c2 ss ps) := HD5.out.below hb6)
      | (go_at_call 51
         refine (HWB.out _ HD6.out).mono ?_
         rintro e w8 ⟨y1, y2, y3, y4, rfl, hd8, hk8, hb8⟩
         have Y08 : Hid (Bx w8 w.heap.size (.slice a1 ss.length c1) (.slice a2 ps.length c2)) := Y06.out.keep hb8 Y06.out.lt
         have Y18 : Hid (Bx w8 (w.heap.size + 1) (.slice none 0 0) (.slice none 0 0)) := Y16.out.keep hb8 Y16.out.lt
         have t8 : Hid (w8.cell? ⟨w.heap.size, 0, none⟩ = some (.slice a1 ss.length c1) ∧ w8.cell? ⟨w.heap.size, 1, none⟩ = some (.slice a2 ps.length c2)) := ⟨Y08.out.c0, Y08.out.c1⟩
         have HB8 : Hid (Below w.heap.size w w8) := HB6.out.trans (hb8.mono HB6.out.size)
         have HD8 : Hid (DOwn w8 (w.heap.size + 1 + 1) y1 y2 y3 y4 ss WB) := hd8.mono Y16.out.lt
         have r0 := Y18.out.c0
         have r1 := Y18.out.c1
         have rf := Y18.out.fz)))
  all_goals
    have V9 : Hid (Bx ((w8.setCell ⟨w.heap.size + 1, 0, none⟩ (.slice y1 ss.length y2)).setCell ⟨w.heap.size + 1, 1, none⟩ (.slice y3 WB.length y4)) (w.heap.size + 1) (.slice y1 ss.length y2) (.slice y3 WB.length y4)) := (Y18.out.set0 _).set1 _
    have q0 := V9.out.c0
    have q1 := V9.out.c1
    go_wp2
    refine bodyPost_ret (v := .tuple #[.agg #[.slice y1 ss.length y2, .slice y3 WB.length y4], .bool true]) (by simp [results, Try.results26, go_sem, q0, q1]) rfl ⟨y1, y2, y3, y4, rfl, ⟨?_, ?_⟩, hk8, ?_⟩
    · exact ((HD8.out.s.set (by show w.heap.size + 1 < _; omega) _).set (by show w.heap.size + 1 < _; omega) _).mono (by omega)
    · exact ((HD8.out.p.set (by show w.heap.size + 1 < _; omega) _).set (by show w.heap.size + 1 < _; omega) _).mono (by omega)
    · exact (HB8.out.setCell (by show _ ≤ w.heap.size + 1; omega) _).setCell (by show _ ≤ w.heap.size + 1; omega) _

set_option maxRecDepth 100000 in
set_option maxHeartbeats 8000000 in
theorem iturn78 (ss : List ByteArray) (ps : List Wr) (a1 a2 : Option Addr) (c1 c2 : Nat) (hok : okB ss ps = true) (hps : ps = []) (h97 : ss.length = 97) (w : World) (hsr : SRow w a1 ss) (hpr : PRow w a2 ps) :
    Calls Try.prog 37 #[.agg #[.slice a1 ss.length c1, .slice a2 ps.length c2]] w fun e w' => ∃ b1 d1 b2 d2, e = .returned (.agg #[.slice b1 ss.length d1, .slice b2 (tuW ss ps).length d2]) ∧ DOwn w' w.heap.size b1 d1 b2 d2 ss (tuW ss ps) ∧ okB ss (tuW ss ps) = true ∧ Below w.heap.size w w' := by
  have HO : Hid (OkD ss ps) := okB_iff.1 hok
  have hs100 : ss.length ≤ 100 := HO.out.2.1
  have hpl : ps.length ≤ 60 := HO.out.2.2.1
  have hfb := fb_le (rdR ss ps 0)
  obtain ⟨c, hc⟩ := Int.eq_ofNat_of_zero_le hfb.1
  have hc255 : c ≤ 255 := by omega
  have HBY : Hid (∀ W : World, Below w.heap.size w W → Calls Try.prog 54 #[.agg #[.slice a1 ss.length c1, .slice a2 ps.length c2], .int .i64 0] W fun e w' => e = .returned (.int .i64 (c : Int)) ∧ Below W.heap.size W w') := fun W h => by
    have h2 := iby62 ss ps 0 a1 a2 c1 c2 (by omega) (by omega) (fun s h => by have := HO.out.2.2.2.1 s h; omega) (fun p h => by have := (HO.out.2.2.2.2 p h).2.2; omega) W (hsr.below h) (hpr.below h)
    rw [hc] at h2
    exact h2
  have HWB : Hid (∀ W : World, Below w.heap.size w W → Calls Try.prog 59 #[.agg #[.slice a1 ss.length c1, .slice a2 ps.length c2], .int .i64 0, .int .i64 ((c : Int) + 1)] W fun e w' => ∃ f1 f2 f3 f4, e = .returned (.agg #[.slice f1 ss.length f2, .slice f3 (tuW ss ps).length f4]) ∧ DOwn w' W.heap.size f1 f2 f3 f4 ss (tuW ss ps) ∧ okB ss (tuW ss ps) = true ∧ Below W.heap.size W w') := fun W h => by
    have h2 := ifb_any ss ps 0 (c + 1) a1 a2 c1 c2 hok hps (by omega) (by omega) W (hsr.below h) (hpr.below h)
    have e : tuW ss ps = wb ss 0 0 [UInt8.ofNat (c + 1)] := by unfold tuW; rw [hc]; rfl
    rw [e]
    exact h2
  have b0 : Hid (Below w.heap.size w ((w.alloc (.cells #[.slice a1 ss.length c1, .slice a2 ps.length c2] 27)).alloc (.cells #[.slice none 0 0, .slice none 0 0] 27))) := ((belowRefl w).alloc (Nat.le_refl _) _).alloc (by simp) _
  have X0 : Hid (Bx ((w.alloc (.cells #[.slice a1 ss.length c1, .slice a2 ps.length c2] 27)).alloc (.cells #[.slice none 0 0, .slice none 0 0] 27)) w.heap.size (.slice a1 ss.length c1) (.slice a2 ps.length c2)) := (Bx.new w _ _ _).alloc _
  have X1 : Hid (Bx ((w.alloc (.cells #[.slice a1 ss.length c1, .slice a2 ps.length c2] 27)).alloc (.cells #[.slice none 0 0, .slice none 0 0] 27)) (w.heap.size + 1) (.slice none 0 0) (.slice none 0 0)) := by
    have h := Bx.new (w.alloc (.cells #[.slice a1 ss.length c1, .slice a2 ps.length c2] 27)) (.slice none 0 0) (.slice none 0 0) 27
    rw [World.size_alloc] at h
    exact h
  have hne : w.heap.size + 1 ≠ w.heap.size := by omega
  have hcw : IntKind.i64.wrap ((c : Int) + 1) = (c : Int) + 1 := by rw [IntKind.wrap_i64]; omega
  clear hsr hpr hok hps h97 HO hc hfb
  generalize tuW ss ps = WB at *
  generalize hW0 : ((w.alloc (.cells #[.slice a1 ss.length c1, .slice a2 ps.length c2] 27)).alloc (.cells #[.slice none 0 0, .slice none 0 0] 27)) = W0 at *
  have g0 := X0.out.c0
  have g1 := X0.out.c1
  go_enter Try.func37, Try.ntmps37
  go_wp2
  clear hW0
  go_region_held3 (fun w' => w'.cell? ⟨w.heap.size, 0, none⟩ = some (.slice a1 ss.length c1) ∧ w'.cell? ⟨w.heap.size, 1, none⟩ = some (.slice a2 ps.length c2))
    (first | exact ⟨g0, g1⟩ | exact t5.out | exact t8.out | exact ⟨((Y08.out.setO hne _).setO hne _).c0, ((Y08.out.setO hne _).setO hne _).c1⟩)
    ((first
      | (go_at_call 54
         refine (HBY.out _ b0.out.drew).mono ?_
         rintro e w5 ⟨rfl, hb5⟩
         have Y05 : Hid (Bx w5 w.heap.size (.slice a1 ss.length c1) (.slice a2 ps.length c2)) := X0.out.keep (undrew hb5) X0.out.lt
         have Y15 : Hid (Bx w5 (w.heap.size + 1) (.slice none 0 0) (.slice none 0 0)) := X1.out.keep (undrew hb5) X1.out.lt
         have t5 : Hid (w5.cell? ⟨w.heap.size, 0, none⟩ = some (.slice a1 ss.length c1) ∧ w5.cell? ⟨w.heap.size, 1, none⟩ = some (.slice a2 ps.length c2)) := ⟨Y05.out.c0, Y05.out.c1⟩
         have HB5 : Hid (Below w.heap.size w w5) := b0.out.trans ((undrew hb5).mono b0.out.size))
      | (go_at_call 59
         refine (HWB.out _ HB5.out).mono ?_
         rintro e w8 ⟨y1, y2, y3, y4, rfl, hd8, hk8, hb8⟩
         have Y08 : Hid (Bx w8 w.heap.size (.slice a1 ss.length c1) (.slice a2 ps.length c2)) := Y05.out.keep hb8 Y05.out.lt
         have Y18 : Hid (Bx w8 (w.heap.size + 1) (.slice none 0 0) (.slice none 0 0)) := Y15.out.keep hb8 Y15.out.lt
         have t8 : Hid (w8.cell? ⟨w.heap.size, 0, none⟩ = some (.slice a1 ss.length c1) ∧ w8.cell? ⟨w.heap.size, 1, none⟩ = some (.slice a2 ps.length c2)) := ⟨Y08.out.c0, Y08.out.c1⟩
         have HB8 : Hid (Below w.heap.size w w8) := HB5.out.trans (hb8.mono HB5.out.size)
         have HD8 : Hid (DOwn w8 (w.heap.size + 1 + 1) y1 y2 y3 y4 ss WB) := hd8.mono Y15.out.lt
         have r0 := Y18.out.c0
         have r1 := Y18.out.c1
         have rf := Y18.out.fz)))
  all_goals
    have V9 : Hid (Bx ((w8.setCell ⟨w.heap.size + 1, 0, none⟩ (.slice y1 ss.length y2)).setCell ⟨w.heap.size + 1, 1, none⟩ (.slice y3 WB.length y4)) (w.heap.size + 1) (.slice y1 ss.length y2) (.slice y3 WB.length y4)) := (Y18.out.set0 _).set1 _
    have q0 := V9.out.c0
    have q1 := V9.out.c1
    go_wp2
    refine bodyPost_ret (v := .agg #[.slice y1 ss.length y2, .slice y3 WB.length y4]) (by simp [results, Try.results37, go_sem, q0, q1]) rfl ⟨y1, y2, y3, y4, rfl, ⟨?_, ?_⟩, hk8, ?_⟩
    · exact ((HD8.out.s.set (by show w.heap.size + 1 < _; omega) _).set (by show w.heap.size + 1 < _; omega) _).mono (by omega)
    · exact ((HD8.out.p.set (by show w.heap.size + 1 < _; omega) _).set (by show w.heap.size + 1 < _; omega) _).mono (by omega)
    · exact (HB8.out.setCell (by show _ ≤ w.heap.size + 1; omega) _).setCell (by show _ ≤ w.heap.size + 1; omega) _

end Go.Proofs.Ytekjpoenbcnhdaa

namespace Go.Proofs.Ytekjpoenbcnhdaa
open Go.RowKit
open DM
attribute [local go_sem ↓] Go.wp_at_zero Go.wp_at_succ

theorem zero108 : Try.zeroCells84 = (bv (List.replicate 3008 0)).toArray := by kernel_rfl

theorem run_copy_at (W : World) (g T ty o dLen dCap n : Nat) (s : ByteArray) (l : List UInt8) (hg : W.heap[g]? = some (.cells (bv l).toArray T (0, 0))) (hn : n = min s.size dLen) (hfit : o + n ≤ l.length) :
    (Builtin.copy_ #[22, 9] ty #[.slice (some ⟨g, o, none⟩) dLen dCap, .string s]).run Try.prog W = .ok (goInt n) (W.setRow g (bv (l.take o ++ s.data.toList.take n ++ l.drop (o + n))).toArray) := by
  have es : s.data.toList.length = s.size := by simp
  have hlen : (bv (s.data.toList.take n)).length = n := by rw [bv_len, List.length_take]; omega
  have hst := run_storeCells_at Try.prog g o T (bv (s.data.toList.take n)) 0 (bv l).toArray W hg (by rw [hlen, List.size_toArray, bv_len]; omega) (bv_one _)
  have hmin : Nat.min s.size dLen = n := hn.symm
  have htk : List.take n (List.map (fun b : UInt8 => Value.int IntKind.u8 (b.toNat : Int)) s.data.toList) = bv (s.data.toList.take n) := by
    unfold bv
    rw [List.map_take]
  rw [hlen] at hst
  simp only [Nat.add_zero] at hst
  have e1 : List.take o (bv l).toArray.toList ++ bv (s.data.toList.take n) ++ List.drop (o + n) (bv l).toArray.toList = bv (l.take o ++ s.data.toList.take n ++ l.drop (o + n)) := by
    simp [bv]
  rw [e1] at hst
  cases hq : Try.prog.info? 5 with
  | none => have hs := info5s; rw [hq] at hs; cases hs
  | some i =>
    simp [Builtin.copy_, run_underlying Try.underlying22, Builtin.lenOf, Builtin.firstCells, sizeOf, typeInfo, hq, hmin]
    rw [htk, hst]
    simp only [Result.andThen, List.append_assoc]

theorem setRow_get (W : World) (g : Nat) (cs cur : Array Value) (T : TypeId) (m : Nat × Nat) (hg : W.heap[g]? = some (.cells cur T m)) : (W.setRow g cs).heap[g]? = some (.cells cs T m) := by
  unfold World.setRow
  simp [Array.getElem?_modify, hg]
theorem setRow_below {w W : World} {B g : Nat} (h : Below B w W) (hB : B ≤ g) (cs : Array Value) : Below B w (W.setRow g cs) := by
  refine ⟨h.os, h.tape, h.output, ?_, fun k hk => ?_⟩
  · unfold World.setRow; simpa using h.size
  · rw [← h.block k hk]
    unfold World.setRow
    simp only [Array.getElem?_modify]
    rw [if_neg (by omega)]
end Go.Proofs.Ytekjpoenbcnhdaa
