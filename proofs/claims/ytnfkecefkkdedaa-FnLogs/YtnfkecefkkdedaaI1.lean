/- What impl.firstByteWritten and impl.countWritten return, of a right disk with nothing waiting. -/
import Derived.Test.YtnfkecefkkdedaaW3
import Derived.Test.YtnfkecefkkdedaaL1
namespace Go.Proofs.Ytnfkecefkkdedaa
open Go.RowKit
open DM
attribute [local go_sem ↓] Go.wp_at_zero Go.wp_at_succ

set_option maxRecDepth 100000 in
set_option maxHeartbeats 4000000 in
theorem ifb99 (ss : List ByteArray) (ps : List Wr) (k0 c : Nat) (a1 a2 : Option Addr) (c1 c2 : Nat) (hok : okB ss ps = true) (hps : ps = []) (hk0 : k0 + 47 ≤ ss.length) (hc : c ≤ 255) (w : World) (hs : SRow w a1 ss) (hp : PRow w a2 ps) :
    Calls Try.prog 104 #[.agg #[.slice a1 ss.length c1, .slice a2 ps.length c2], .int .i64 (k0 : Int), .int .i64 (c : Int)] w fun e w' => ∃ b1 d1 b2 d2, e = .returned (.agg #[.slice b1 ss.length d1, .slice b2 (wb ss k0 0 [UInt8.ofNat c]).length d2]) ∧ DOwn w' w.heap.size b1 d1 b2 d2 ss (wb ss k0 0 [UInt8.ofNat c]) ∧ okB ss (wb ss k0 0 [UInt8.ofNat c]) = true ∧ Below w.heap.size w w' := by
  have HWB : Hid (∀ W : World, SRow W a1 ss → PRow W a2 ps → Calls Try.prog 109 #[.agg #[.slice a1 ss.length c1, .slice a2 ps.length c2], .int .i64 (k0 : Int), .int .i64 0, .string ⟨#[UInt8.ofNat c]⟩] W fun e w' => ∃ b1 d1 b2 d2, e = .returned (.tuple #[.agg #[.slice b1 ss.length d1, .slice b2 (wb ss k0 0 [UInt8.ofNat c]).length d2], .bool true]) ∧ DOwn w' W.heap.size b1 d1 b2 d2 ss (wb ss k0 0 [UInt8.ofNat c]) ∧ okB ss (wb ss k0 0 [UInt8.ofNat c]) = true ∧ Below W.heap.size W w') := fun W h1 h2 => iwb98 ss ps k0 0 (oneB c) a1 a2 c1 c2 hok hps hk0 (by show 0 + 1 ≤ 3008; omega) W h1 h2
  have b0 : Hid (Below w.heap.size w ((w.alloc (.cells #[.slice a1 ss.length c1, .slice a2 ps.length c2] 27)).alloc (.cells #[.slice none 0 0, .slice none 0 0] 27))) := ((belowRefl w).alloc (Nat.le_refl _) _).alloc (by simp) _
  have X0 : Hid (Bx ((w.alloc (.cells #[.slice a1 ss.length c1, .slice a2 ps.length c2] 27)).alloc (.cells #[.slice none 0 0, .slice none 0 0] 27)) w.heap.size (.slice a1 ss.length c1) (.slice a2 ps.length c2)) := (Bx.new w _ _ _).alloc _
  have X1 : Hid (Bx ((w.alloc (.cells #[.slice a1 ss.length c1, .slice a2 ps.length c2] 27)).alloc (.cells #[.slice none 0 0, .slice none 0 0] 27)) (w.heap.size + 1) (.slice none 0 0) (.slice none 0 0)) := by
    have h := Bx.new (w.alloc (.cells #[.slice a1 ss.length c1, .slice a2 ps.length c2] 27)) (.slice none 0 0) (.slice none 0 0) 27
    rw [World.size_alloc] at h
    exact h
  have hx : (c : Int) = ((UInt8.ofNat c).toNat : Int) := (toNat_ofNat c (by omega)).symm
  have hcv := conv1 ((w.alloc (.cells #[.slice a1 ss.length c1, .slice a2 ps.length c2] 27)).alloc (.cells #[.slice none 0 0, .slice none 0 0] 27)) (UInt8.ofNat c) (c : Int) hx
  simp only [World.size_alloc] at hcv
  have HS0 : Hid (SRow (((w.alloc (.cells #[.slice a1 ss.length c1, .slice a2 ps.length c2] 27)).alloc (.cells #[.slice none 0 0, .slice none 0 0] 27)).alloc (.cells #[.int .u8 (c : Int)] 5)) a1 ss) := (hs.below b0.out).below ((belowRefl _).alloc (Nat.le_refl _) _)
  have HP0 : Hid (PRow (((w.alloc (.cells #[.slice a1 ss.length c1, .slice a2 ps.length c2] 27)).alloc (.cells #[.slice none 0 0, .slice none 0 0] 27)).alloc (.cells #[.int .u8 (c : Int)] 5)) a2 ps) := (hp.below b0.out).below ((belowRefl _).alloc (Nat.le_refl _) _)
  have Z0 : Hid (Bx (((w.alloc (.cells #[.slice a1 ss.length c1, .slice a2 ps.length c2] 27)).alloc (.cells #[.slice none 0 0, .slice none 0 0] 27)).alloc (.cells #[.int .u8 (c : Int)] 5)) (w.heap.size + 1) (.slice none 0 0) (.slice none 0 0)) := X1.out.alloc _
  have HB0 : Hid (Below w.heap.size w (((w.alloc (.cells #[.slice a1 ss.length c1, .slice a2 ps.length c2] 27)).alloc (.cells #[.slice none 0 0, .slice none 0 0] 27)).alloc (.cells #[.int .u8 (c : Int)] 5))) := b0.out.alloc b0.out.size _
  have hz : w.heap.size + 1 + 1 ≤ (((w.alloc (.cells #[.slice a1 ss.length c1, .slice a2 ps.length c2] 27)).alloc (.cells #[.slice none 0 0, .slice none 0 0] 27)).alloc (.cells #[.int .u8 (c : Int)] 5)).heap.size := by simp
  clear hs hp hok hps hx
  generalize wb ss k0 0 [UInt8.ofNat c] = WB at *
  go_enter Try.func104, Try.ntmps104
  go_wp2_with fail
  refine (HWB.out _ HS0.out HP0.out).mono ?_
  rintro e w8 ⟨y1, y2, y3, y4, rfl, hd8, hk8, hb8⟩
  have Y18 : Hid (Bx w8 (w.heap.size + 1) (.slice none 0 0) (.slice none 0 0)) := Z0.out.keep hb8 Z0.out.lt
  have r0 := Y18.out.c0
  have r1 := Y18.out.c1
  have rf := Y18.out.fz
  have rl := Y18.out.lt
  have V : Hid (Bx (((w8.setCell ⟨w.heap.size + 1, 0, none⟩ (.slice y1 ss.length y2)).setCell ⟨w.heap.size + 1, 1, none⟩ (.slice y3 WB.length y4)).alloc (.cells #[.slice y1 ss.length y2, .slice y3 WB.length y4] 27)) (w.heap.size + 1) (.slice y1 ss.length y2) (.slice y3 WB.length y4)) := ((Y18.out.set0 _).set1 _).alloc _
  have v0 := V.out.c0
  have v1 := V.out.c1
  have HB8 : Hid (Below w.heap.size w w8) := HB0.out.trans (hb8.mono HB0.out.size)
  have hz8 := hb8.size
  have HD8 : Hid (DOwn w8 (w.heap.size + 1 + 1) y1 y2 y3 y4 ss WB) := hd8.mono hz
  clear hd8 hb8
  go_wp2
  refine bodyPost_ret (v := .agg #[.slice y1 ss.length y2, .slice y3 WB.length y4]) (by simp [results, Try.results104, go_sem, v0, v1]) rfl ⟨y1, y2, y3, y4, rfl, ⟨?_, ?_⟩, hk8, ?_⟩
  · exact (((HD8.out.s.set (by show w.heap.size + 1 < _; omega) _).set (by show w.heap.size + 1 < _; omega) _).alloc _).mono (by omega)
  · exact (((HD8.out.p.set (by show w.heap.size + 1 < _; omega) _).set (by show w.heap.size + 1 < _; omega) _).alloc _).mono (by omega)
  · exact ((HB8.out.setCell (by show _ ≤ w.heap.size + 1; omega) _).setCell (by show _ ≤ w.heap.size + 1; omega) _).alloc (by simp [World.setCell]; omega) _
end Go.Proofs.Ytnfkecefkkdedaa
