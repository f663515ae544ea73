/- What impl.countWritten returns. -/
import Derived.Test.YtnfkfhpmhhmbaaaPa28
namespace Go.Proofs.Ytnfkfhpmhhmbaaa
open Go.RowKit
open DM
attribute [local go_sem ↓] Go.wp_at_zero Go.wp_at_succ

set_option maxRecDepth 100000 in
set_option maxHeartbeats 4000000 in
theorem icw73 (ss : List ByteArray) (ps : List Wr) (a : Int) (c : Nat) (a1 a2 : Option Addr) (c1 c2 : Nat) (hA : isA a = true) (hok : okB ss ps = true) (hps : ps = []) (h97 : ss.length = 97) (hc : c ≤ 255) (w : World) (hs : SRow w a1 ss) (hp : PRow w a2 ps) :
    Calls Try.prog 34 #[.agg #[.slice a1 ss.length c1, .slice a2 ps.length c2], .int .i64 a, .int .i64 (c : Int)] w fun e w' => ∃ b1 d1 b2 d2, e = .returned (.agg #[.slice b1 ss.length d1, .slice b2 (wb ss (af a).toNat 0 [UInt8.ofNat c]).length d2]) ∧ DOwn w' w.heap.size b1 d1 b2 d2 ss (wb ss (af a).toNat 0 [UInt8.ofNat c]) ∧ okB ss (wb ss (af a).toNat 0 [UInt8.ofNat c]) = true ∧ Below w.heap.size w w' := by
  have hin := af_in hA
  obtain ⟨q, hq⟩ : ∃ q, q = (af a).toNat := ⟨_, rfl⟩
  have HAF : Hid (∀ w : World, Calls Try.prog 66 #[.int .i64 a] w fun e w' => e = .returned (.int .i64 (q : Int)) ∧ w' = w) := fun w => by
    have h := iaf15 a w
    rw [hq, hin.1]
    exact h
  have HWB : Hid (∀ W : World, Below w.heap.size w W → Calls Try.prog 67 #[.agg #[.slice a1 ss.length c1, .slice a2 ps.length c2], .int .i64 (q : Int), .int .i64 (c : Int)] W fun e w' => ∃ b1 d1 b2 d2, e = .returned (.agg #[.slice b1 ss.length d1, .slice b2 (wb ss q 0 [UInt8.ofNat c]).length d2]) ∧ DOwn w' W.heap.size b1 d1 b2 d2 ss (wb ss q 0 [UInt8.ofNat c]) ∧ okB ss (wb ss q 0 [UInt8.ofNat c]) = true ∧ Below W.heap.size W w') := fun W hW => ifb99 ss ps q c a1 a2 c1 c2 hok hps (by omega) hc W (hs.below hW) (hp.below hW)
  rw [← hq]
  generalize wb ss q 0 [UInt8.ofNat c] = WB at *
  have b0 : Hid (Below w.heap.size w ((w.alloc (.cells #[.slice a1 ss.length c1, .slice a2 ps.length c2] 30)).alloc (.cells #[.slice none 0 0, .slice none 0 0] 30))) := ((belowRefl w).alloc (Nat.le_refl _) _).alloc (by simp) _
  have X0 : Hid (Bx ((w.alloc (.cells #[.slice a1 ss.length c1, .slice a2 ps.length c2] 30)).alloc (.cells #[.slice none 0 0, .slice none 0 0] 30)) w.heap.size (.slice a1 ss.length c1) (.slice a2 ps.length c2)) := (Bx.new w _ _ _).alloc _
  have X1 : Hid (Bx ((w.alloc (.cells #[.slice a1 ss.length c1, .slice a2 ps.length c2] 30)).alloc (.cells #[.slice none 0 0, .slice none 0 0] 30)) (w.heap.size + 1) (.slice none 0 0) (.slice none 0 0)) := by
    have h := Bx.new (w.alloc (.cells #[.slice a1 ss.length c1, .slice a2 ps.length c2] 30)) (.slice none 0 0) (.slice none 0 0) 30
    rw [World.size_alloc] at h
    exact h
  clear hs hp hq hin hok hps h97 hA
  generalize hW0 : ((w.alloc (.cells #[.slice a1 ss.length c1, .slice a2 ps.length c2] 30)).alloc (.cells #[.slice none 0 0, .slice none 0 0] 30)) = W0 at *
  have g0 := X0.out.c0
  have g1 := X0.out.c1
  have hz : W0.heap.size = w.heap.size + 1 + 1 := by rw [← hW0]; simp
  have hne : w.heap.size + 1 ≠ w.heap.size := by omega
  go_enter Try.func34, Try.ntmps34
  go_wp2
  go_region_held3 (fun w' => w'.cell? ⟨w.heap.size, 0, none⟩ = some (.slice a1 ss.length c1) ∧ w'.cell? ⟨w.heap.size, 1, none⟩ = some (.slice a2 ps.length c2)) (first | go_keep | exact t8.out | exact ⟨((Y08.out.setO hne _).setO hne _).c0, ((Y08.out.setO hne _).setO hne _).c1⟩) ((first | (go_at_call 66; refine (HAF.out _).mono ?_; rintro e w5 ⟨rfl, rfl⟩) | (go_at_call 67; refine (HWB.out _ b0.out.drew).mono ?_; rintro e w8 ⟨y1, y2, y3, y4, rfl, hd8, hk8, hb8⟩; have Y08 : Hid (Bx w8 w.heap.size (.slice a1 ss.length c1) (.slice a2 ps.length c2)) := X0.out.keep (undrew hb8) X0.out.lt; have t8 : Hid (w8.cell? ⟨w.heap.size, 0, none⟩ = some (.slice a1 ss.length c1) ∧ w8.cell? ⟨w.heap.size, 1, none⟩ = some (.slice a2 ps.length c2)) := ⟨Y08.out.c0, Y08.out.c1⟩; have Y18 : Hid (Bx w8 (w.heap.size + 1) (.slice none 0 0) (.slice none 0 0)) := X1.out.keep (undrew hb8) X1.out.lt; have r0 := Y18.out.c0; have r1 := Y18.out.c1; have rf := Y18.out.fz)))
  all_goals
    have V : Hid (Bx ((w8.setCell ⟨w.heap.size + 1, 0, none⟩ (.slice y1 ss.length y2)).setCell ⟨w.heap.size + 1, 1, none⟩ (.slice y3 WB.length y4)) (w.heap.size + 1) (.slice y1 ss.length y2) (.slice y3 WB.length y4)) := (Y18.out.set0 _).set1 _
    have v0 := V.out.c0
    have v1 := V.out.c1
    have HB8 : Hid (Below w.heap.size w w8) := b0.out.trans ((undrew hb8).mono b0.out.size)
    have hd8' : DOwn w8 W0.heap.size y1 y2 y3 y4 ss WB := hd8
    go_wp2
    refine bodyPost_ret (v := .agg #[.slice y1 ss.length y2, .slice y3 WB.length y4]) (by simp [results, Try.results34, go_sem, v0, v1]) rfl ⟨y1, y2, y3, y4, rfl, ⟨?_, ?_⟩, hk8, ?_⟩
    · exact ((hd8'.s.set (by show w.heap.size + 1 < _; omega) _).set (by show w.heap.size + 1 < _; omega) _).mono (by omega)
    · exact ((hd8'.p.set (by show w.heap.size + 1 < _; omega) _).set (by show w.heap.size + 1 < _; omega) _).mono (by omega)
    · exact (HB8.out.setCell (by show _ ≤ w.heap.size + 1; omega) _).setCell (by show _ ≤ w.heap.size + 1; omega) _
end Go.Proofs.Ytnfkfhpmhhmbaaa
