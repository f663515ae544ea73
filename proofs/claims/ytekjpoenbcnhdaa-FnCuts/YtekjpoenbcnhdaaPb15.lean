/- Counts: what is written of one. -/
import Derived.Test.YtekjpoenbcnhdaaPb14
namespace Go.Proofs.Ytekjpoenbcnhdaa
open Go.RowKit
open DM
attribute [local go_sem ↓] Go.wp_at_zero Go.wp_at_succ

def oneB (c : Nat) : ByteArray := ⟨#[UInt8.ofNat c]⟩

set_option maxHeartbeats 400000 in
theorem sone101 (c : Nat) (hc : c ≤ 255) (w : World) :
    Calls Try.prog 52 #[.int .i64 (c : Int)] w fun e w' => e = .returned (.string (oneB c)) ∧ Below w.heap.size w w' := by
  have hx : (c : Int) = ((UInt8.ofNat c).toNat : Int) := (toNat_ofNat c (by omega)).symm
  have hcv := conv1 w (UInt8.ofNat c) (c : Int) hx
  clear hx
  go_enter Try.func52, Try.ntmps52
  go_wp2
  go_ret
  exact ⟨rfl, (belowRefl w).alloc (Nat.le_refl _) _⟩

theorem DOwn.drew {w : World} {b : Nat} {a1 a2 : Option Addr} {c1 c2 : Nat} {ss : List ByteArray} {ps : List Wr} (h : DOwn w b a1 c1 a2 c2 ss ps) : DOwn w.drew b a1 c1 a2 c2 ss ps := h.below (belowRefl w).drew
theorem af_in {a : Int} (h : isA a = true) : ((af a).toNat : Int) = af a ∧ (af a).toNat + 48 ≤ 97 := by
  rcases isA_iff.1 h with rfl | rfl <;> decide

set_option maxRecDepth 100000 in
set_option maxHeartbeats 4000000 in
theorem scount96 (ss : List ByteArray) (ps : List Wr) (a : Int) (c : Nat) (a1 a2 : Option Addr) (c1 c2 B0 : Nat) (hA : isA a = true) (hok : okB ss ps = true) (hps : ps = []) (h97 : ss.length = 97) (hc : c ≤ 255) (w : World) (hd : DOwn w B0 a1 c1 a2 c2 ss ps) :
    Calls Try.prog 50 #[.agg #[.slice a1 ss.length c1, .slice a2 ps.length c2], .int .i64 a, .int .i64 (c : Int)] w fun e w' => ∃ b1 d1 b2 d2, e = .returned (.tuple #[.agg #[.slice b1 ss.length d1, .slice b2 (wb ss (af a).toNat 0 [UInt8.ofNat c]).length d2], .bool true]) ∧ DOwn w' w.heap.size b1 d1 b2 d2 ss (wb ss (af a).toNat 0 [UInt8.ofNat c]) ∧ okB ss (wb ss (af a).toNat 0 [UInt8.ofNat c]) = true ∧ Below w.heap.size w w' := by
  have HD : Hid (DOwn w B0 a1 c1 a2 c2 ss ps) := hd
  have hin := af_in hA
  obtain ⟨q, hq⟩ : ∃ q, q = (af a).toNat := ⟨_, rfl⟩
  have HAF : Hid (∀ w : World, Calls Try.prog 68 #[.int .i64 a] w fun e w' => e = .returned (.int .i64 (q : Int)) ∧ w' = w) := fun w => by
    have h := saf14 a w
    rw [hq, hin.1]
    exact h
  have HWB : Hid (∀ W : World, DOwn W B0 a1 c1 a2 c2 ss ps → Calls Try.prog 51 #[.agg #[.slice a1 ss.length c1, .slice a2 ps.length c2], .int .i64 (q : Int), .int .i64 0, .string (oneB c)] W fun e w' => ∃ b1 d1 b2 d2, e = .returned (.tuple #[.agg #[.slice b1 ss.length d1, .slice b2 (wb ss q 0 [UInt8.ofNat c]).length d2], .bool true]) ∧ DOwn w' W.heap.size b1 d1 b2 d2 ss (wb ss q 0 [UInt8.ofNat c]) ∧ okB ss (wb ss q 0 [UInt8.ofNat c]) = true ∧ Below W.heap.size W w') := fun W hW => swb100 ss ps q 0 (oneB c) a1 a2 c1 c2 B0 hok hps (by omega) (by show 0 + 1 ≤ 3008; omega) W hW
  have HON : Hid (∀ W : World, Calls Try.prog 52 #[.int .i64 (c : Int)] W fun e w' => e = .returned (.string (oneB c)) ∧ Below W.heap.size W w') := fun W => sone101 c hc W
  rw [← hq]
  generalize wb ss q 0 [UInt8.ofNat c] = WB at *
  generalize oneB c = tb at *
  have b0 : Hid (Below w.heap.size w ((w.alloc (.cells #[.slice a1 ss.length c1, .slice a2 ps.length c2] 27)).alloc (.cells #[.slice none 0 0, .slice none 0 0] 27))) := ((belowRefl w).alloc (Nat.le_refl _) _).alloc (by simp) _
  have X0 : Hid (Bx ((w.alloc (.cells #[.slice a1 ss.length c1, .slice a2 ps.length c2] 27)).alloc (.cells #[.slice none 0 0, .slice none 0 0] 27)) w.heap.size (.slice a1 ss.length c1) (.slice a2 ps.length c2)) := (Bx.new w _ _ _).alloc _
  have X1 : Hid (Bx ((w.alloc (.cells #[.slice a1 ss.length c1, .slice a2 ps.length c2] 27)).alloc (.cells #[.slice none 0 0, .slice none 0 0] 27)) (w.heap.size + 1) (.slice none 0 0) (.slice none 0 0)) := by
    have h := Bx.new (w.alloc (.cells #[.slice a1 ss.length c1, .slice a2 ps.length c2] 27)) (.slice none 0 0) (.slice none 0 0) 27
    rw [World.size_alloc] at h
    exact h
  have HD0 : Hid (DOwn ((w.alloc (.cells #[.slice a1 ss.length c1, .slice a2 ps.length c2] 27)).alloc (.cells #[.slice none 0 0, .slice none 0 0] 27)).drew B0 a1 c1 a2 c2 ss ps) := (HD.out.below b0.out).drew
  clear hd hq hin hok hps h97 HD hA
  generalize hW0 : ((w.alloc (.cells #[.slice a1 ss.length c1, .slice a2 ps.length c2] 27)).alloc (.cells #[.slice none 0 0, .slice none 0 0] 27)) = W0 at *
  have g0 := X0.out.c0
  have g1 := X0.out.c1
  have hz : W0.heap.size = w.heap.size + 1 + 1 := by rw [← hW0]; simp
  have hne : w.heap.size + 1 ≠ w.heap.size := by omega
  go_enter Try.func50, Try.ntmps50
  go_wp2
  go_region_held3 (fun w' => w'.cell? ⟨w.heap.size, 0, none⟩ = some (.slice a1 ss.length c1) ∧ w'.cell? ⟨w.heap.size, 1, none⟩ = some (.slice a2 ps.length c2)) (first | go_keep | exact t5.out | exact t8.out | exact ⟨((Y08.out.setO hne _).setO hne _).c0, ((Y08.out.setO hne _).setO hne _).c1⟩) ((first | (go_at_call 68; refine (HAF.out _).mono ?_; rintro e w5 ⟨rfl, rfl⟩) | (go_at_call 52; refine (HON.out _).mono ?_; rintro e w5 ⟨rfl, hb5⟩; have Y05 : Hid (Bx w5 w.heap.size (.slice a1 ss.length c1) (.slice a2 ps.length c2)) := X0.out.keep (undrew hb5) X0.out.lt; have t5 : Hid (w5.cell? ⟨w.heap.size, 0, none⟩ = some (.slice a1 ss.length c1) ∧ w5.cell? ⟨w.heap.size, 1, none⟩ = some (.slice a2 ps.length c2)) := ⟨Y05.out.c0, Y05.out.c1⟩) | (go_at_call 51; refine (HWB.out _ (HD0.out.below hb5)).mono ?_; rintro e w8 ⟨y1, y2, y3, y4, rfl, hd8, hk8, hb8⟩; have Y08 : Hid (Bx w8 w.heap.size (.slice a1 ss.length c1) (.slice a2 ps.length c2)) := Y05.out.keep hb8 Y05.out.lt; have t8 : Hid (w8.cell? ⟨w.heap.size, 0, none⟩ = some (.slice a1 ss.length c1) ∧ w8.cell? ⟨w.heap.size, 1, none⟩ = some (.slice a2 ps.length c2)) := ⟨Y08.out.c0, Y08.out.c1⟩; have Y18 : Hid (Bx w8 (w.heap.size + 1) (.slice none 0 0) (.slice none 0 0)) := (X1.out.keep (undrew hb5) X1.out.lt).keep hb8 (X1.out.keep (undrew hb5) X1.out.lt).lt; have r0 := Y18.out.c0; have r1 := Y18.out.c1; have rf := Y18.out.fz)))
  all_goals
    have hz5 : w.heap.size + 1 + 1 ≤ w5.heap.size := by have := (undrew hb5).size; omega
    have V : Hid (Bx ((w8.setCell ⟨w.heap.size + 1, 0, none⟩ (.slice y1 ss.length y2)).setCell ⟨w.heap.size + 1, 1, none⟩ (.slice y3 WB.length y4)) (w.heap.size + 1) (.slice y1 ss.length y2) (.slice y3 WB.length y4)) := (Y18.out.set0 _).set1 _
    have v0 := V.out.c0
    have v1 := V.out.c1
    have HB8 : Hid (Below w.heap.size w w8) := (b0.out.trans ((undrew hb5).mono b0.out.size)).trans (hb8.mono (by omega))
    go_wp2
    refine bodyPost_ret (v := .tuple #[.agg #[.slice y1 ss.length y2, .slice y3 WB.length y4], .bool true]) (by simp [results, Try.results50, go_sem, v0, v1]) rfl ⟨y1, y2, y3, y4, rfl, ⟨?_, ?_⟩, hk8, ?_⟩
    · exact ((hd8.s.set (by show w.heap.size + 1 < _; omega) _).set (by show w.heap.size + 1 < _; omega) _).mono (by omega)
    · exact ((hd8.p.set (by show w.heap.size + 1 < _; omega) _).set (by show w.heap.size + 1 < _; omega) _).mono (by omega)
    · exact (HB8.out.setCell (by show _ ≤ w.heap.size + 1; omega) _).setCell (by show _ ≤ w.heap.size + 1; omega) _
end Go.Proofs.Ytekjpoenbcnhdaa
