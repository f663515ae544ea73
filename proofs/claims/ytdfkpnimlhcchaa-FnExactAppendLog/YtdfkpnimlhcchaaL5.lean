/- What spec.AppendLog and impl.AppendLog return. -/
import Derived.Test.YtdfkpnimlhcchaaI6
namespace Go.Proofs.Ytdfkpnimlhcchaa
open Go.RowKit
open DM
attribute [local go_sem ↓] Go.wp_at_zero Go.wp_at_succ

set_option maxRecDepth 100000 in
set_option maxHeartbeats 8000000 in
theorem sapp38 (ss : List ByteArray) (ps : List Wr) (t : ByteArray) (a1 a2 : Option Addr) (c1 c2 B0 : Nat) (hn : ss.length ≤ 1048576) (hm : ps.length ≤ 1048576) (hs : ∀ s ∈ ss, s.size ≤ 1048576) (hp : ∀ p ∈ ps, p.2.size ≤ 1048576) (htz : t.size ≤ 1048576) (w : World) (hd : DOwn w B0 a1 c1 a2 c2 ss ps) :
    Calls Try.prog 38 #[.agg #[.slice a1 ss.length c1, .slice a2 ps.length c2], .string t] w fun e w' => ∃ b1 d1 b2 d2, e = .returned (.tuple #[.agg #[.slice b1 (prS ss ps (act ss ps) t).length d1, .slice b2 ps.length d2], .bool (prB ss ps (act ss ps) t)]) ∧ DOwn w' w.heap.size b1 d1 b2 d2 (prS ss ps (act ss ps) t) ps ∧ Below w.heap.size w w' := by
  have HAC : Hid (∀ W : World, Below w.heap.size w W → Calls Try.prog 25 #[.agg #[.slice a1 ss.length c1, .slice a2 ps.length c2]] W fun e w' => e = .returned (.int .i64 (act ss ps)) ∧ Below W.heap.size W w') := fun W h => sac25 ss ps a1 a2 c1 c2 (by omega) (by omega) W (hd.s.srow.below h) (hd.p.prow.below h)
  have HPR : Hid (∀ W : World, Below w.heap.size w W → Calls Try.prog 36 #[.agg #[.slice a1 ss.length c1, .slice a2 ps.length c2], .int .i64 (act ss ps), .string t] W fun e w' => ∃ b1 d1 b2 d2, e = .returned (.tuple #[.agg #[.slice b1 (prS ss ps (act ss ps) t).length d1, .slice b2 ps.length d2], .bool (prB ss ps (act ss ps) t)]) ∧ DOwn w' W.heap.size b1 d1 b2 d2 (prS ss ps (act ss ps) t) ps ∧ Below W.heap.size W w') := fun W h => spr36 ss ps (act ss ps) t a1 a2 c1 c2 B0 hn hm hs hp htz W (hd.below h)
  have b0 : Hid (Below w.heap.size w ((w.alloc (.cells #[.slice a1 ss.length c1, .slice a2 ps.length c2] 27)).alloc (.cells #[.slice none 0 0, .slice none 0 0] 27))) := ((belowRefl w).alloc (Nat.le_refl _) _).alloc (by simp) _
  have X0 : Hid (Bx ((w.alloc (.cells #[.slice a1 ss.length c1, .slice a2 ps.length c2] 27)).alloc (.cells #[.slice none 0 0, .slice none 0 0] 27)) w.heap.size (.slice a1 ss.length c1) (.slice a2 ps.length c2)) := (Bx.new w _ _ _).alloc _
  have X1 : Hid (Bx ((w.alloc (.cells #[.slice a1 ss.length c1, .slice a2 ps.length c2] 27)).alloc (.cells #[.slice none 0 0, .slice none 0 0] 27)) (w.heap.size + 1) (.slice none 0 0) (.slice none 0 0)) := by
    have h := Bx.new (w.alloc (.cells #[.slice a1 ss.length c1, .slice a2 ps.length c2] 27)) (.slice none 0 0) (.slice none 0 0) 27
    rw [World.size_alloc] at h
    exact h
  have hne : w.heap.size + 1 ≠ w.heap.size := by omega
  clear hs hp hd
  generalize prS ss ps (act ss ps) t = RS at *
  generalize prB ss ps (act ss ps) t = RB at *
  generalize act ss ps = ac at *
  generalize hW0 : ((w.alloc (.cells #[.slice a1 ss.length c1, .slice a2 ps.length c2] 27)).alloc (.cells #[.slice none 0 0, .slice none 0 0] 27)) = W0 at *
  have hz0 : w.heap.size + 1 + 1 ≤ W0.heap.size := by rw [← hW0]; simp
  have g0 := X0.out.c0
  have g1 := X0.out.c1
  go_enter Try.func38, Try.ntmps38
  go_wp2

  clear hW0
  go_region_held3 (fun w' => w'.cell? ⟨w.heap.size, 0, none⟩ = some (.slice a1 ss.length c1) ∧ w'.cell? ⟨w.heap.size, 1, none⟩ = some (.slice a2 ps.length c2))
    (first | exact ⟨g0, g1⟩ | exact t5.out | exact t8.out | exact ⟨((Y08.out.setO hne _).setO hne _).c0, ((Y08.out.setO hne _).setO hne _).c1⟩)
    ((first
      | (go_at_call 25
         refine (HAC.out _ b0.out.drew).mono ?_
         rintro e w5 ⟨rfl, hb5⟩
         have Y05 : Hid (Bx w5 w.heap.size (.slice a1 ss.length c1) (.slice a2 ps.length c2)) := X0.out.keep (undrew hb5) X0.out.lt
         have Y15 : Hid (Bx w5 (w.heap.size + 1) (.slice none 0 0) (.slice none 0 0)) := X1.out.keep (undrew hb5) X1.out.lt
         have t5 : Hid (w5.cell? ⟨w.heap.size, 0, none⟩ = some (.slice a1 ss.length c1) ∧ w5.cell? ⟨w.heap.size, 1, none⟩ = some (.slice a2 ps.length c2)) := ⟨Y05.out.c0, Y05.out.c1⟩
         have HB5 : Hid (Below w.heap.size w w5) := b0.out.trans ((undrew hb5).mono b0.out.size))
      | (go_at_call 36
         refine (HPR.out _ HB5.out).mono ?_
         rintro e w8 ⟨y1, y2, y3, y4, rfl, hd8, hb8⟩
         have Y08 : Hid (Bx w8 w.heap.size (.slice a1 ss.length c1) (.slice a2 ps.length c2)) := Y05.out.keep hb8 Y05.out.lt
         have Y18 : Hid (Bx w8 (w.heap.size + 1) (.slice none 0 0) (.slice none 0 0)) := Y15.out.keep hb8 Y15.out.lt
         have t8 : Hid (w8.cell? ⟨w.heap.size, 0, none⟩ = some (.slice a1 ss.length c1) ∧ w8.cell? ⟨w.heap.size, 1, none⟩ = some (.slice a2 ps.length c2)) := ⟨Y08.out.c0, Y08.out.c1⟩
         have HB8 : Hid (Below w.heap.size w w8) := HB5.out.trans (hb8.mono HB5.out.size)
         have HD8 : Hid (DOwn w8 (w.heap.size + 1 + 1) y1 y2 y3 y4 RS ps) := hd8.mono Y15.out.lt
         have r0 := Y18.out.c0
         have r1 := Y18.out.c1
         have rf := Y18.out.fz)))
  all_goals
    have V9 : Hid (Bx ((w8.setCell ⟨w.heap.size + 1, 0, none⟩ (.slice y1 RS.length y2)).setCell ⟨w.heap.size + 1, 1, none⟩ (.slice y3 ps.length y4)) (w.heap.size + 1) (.slice y1 RS.length y2) (.slice y3 ps.length y4)) := (Y18.out.set0 _).set1 _
    have q0 := V9.out.c0
    have q1 := V9.out.c1
    go_wp2
    refine bodyPost_ret (v := .tuple #[.agg #[.slice y1 RS.length y2, .slice y3 ps.length y4], .bool RB]) (by simp [results, Try.results38, go_sem, q0, q1]) rfl ⟨y1, y2, y3, y4, rfl, ⟨?_, ?_⟩, ?_⟩
    · exact ((HD8.out.s.set (by show w.heap.size + 1 < _; omega) _).set (by show w.heap.size + 1 < _; omega) _).mono (by omega)
    · exact ((HD8.out.p.set (by show w.heap.size + 1 < _; omega) _).set (by show w.heap.size + 1 < _; omega) _).mono (by omega)
    · exact (HB8.out.setCell (by show _ ≤ w.heap.size + 1; omega) _).setCell (by show _ ≤ w.heap.size + 1; omega) _

set_option maxRecDepth 100000 in
set_option maxHeartbeats 8000000 in
theorem iapp39 (ss : List ByteArray) (ps : List Wr) (t : ByteArray) (a1 a2 : Option Addr) (c1 c2 : Nat) (hn : ss.length ≤ 1048576) (hm : ps.length ≤ 1048576) (hs : ∀ s ∈ ss, s.size ≤ 1048576) (hp : ∀ p ∈ ps, p.2.size ≤ 1048576) (htz : t.size ≤ 1048576) (w : World) (hsr : SRow w a1 ss) (hpr : PRow w a2 ps) :
    Calls Try.prog 39 #[.agg #[.slice a1 ss.length c1, .slice a2 ps.length c2], .string t] w fun e w' => ∃ b1 d1 b2 d2, e = .returned (.tuple #[.agg #[.slice b1 (prS ss ps (act ss ps) t).length d1, .slice b2 ps.length d2], .bool (prB ss ps (act ss ps) t)]) ∧ DOwn w' w.heap.size b1 d1 b2 d2 (prS ss ps (act ss ps) t) ps ∧ Below w.heap.size w w' := by
  have HAC : Hid (∀ W : World, Below w.heap.size w W → Calls Try.prog 26 #[.agg #[.slice a1 ss.length c1, .slice a2 ps.length c2]] W fun e w' => e = .returned (.int .i64 (act ss ps)) ∧ Below W.heap.size W w') := fun W h => iac26 ss ps a1 a2 c1 c2 (by omega) (by omega) (fun s h => Nat.le_trans (hs s h) (by omega)) (fun p h => Nat.le_trans (hp p h) (by omega)) W (hsr.below h) (hpr.below h)
  have HPR : Hid (∀ W : World, Below w.heap.size w W → Calls Try.prog 37 #[.agg #[.slice a1 ss.length c1, .slice a2 ps.length c2], .int .i64 (act ss ps), .string t] W fun e w' => ∃ b1 d1 b2 d2, e = .returned (.tuple #[.agg #[.slice b1 (prS ss ps (act ss ps) t).length d1, .slice b2 ps.length d2], .bool (prB ss ps (act ss ps) t)]) ∧ DOwn w' W.heap.size b1 d1 b2 d2 (prS ss ps (act ss ps) t) ps ∧ Below W.heap.size W w') := fun W h => ipr37 ss ps (act ss ps) t a1 a2 c1 c2 hn hm hs hp htz W (hsr.below h) (hpr.below h)
  have b0 : Hid (Below w.heap.size w ((w.alloc (.cells #[.slice a1 ss.length c1, .slice a2 ps.length c2] 27)).alloc (.cells #[.slice none 0 0, .slice none 0 0] 27))) := ((belowRefl w).alloc (Nat.le_refl _) _).alloc (by simp) _
  have X0 : Hid (Bx ((w.alloc (.cells #[.slice a1 ss.length c1, .slice a2 ps.length c2] 27)).alloc (.cells #[.slice none 0 0, .slice none 0 0] 27)) w.heap.size (.slice a1 ss.length c1) (.slice a2 ps.length c2)) := (Bx.new w _ _ _).alloc _
  have X1 : Hid (Bx ((w.alloc (.cells #[.slice a1 ss.length c1, .slice a2 ps.length c2] 27)).alloc (.cells #[.slice none 0 0, .slice none 0 0] 27)) (w.heap.size + 1) (.slice none 0 0) (.slice none 0 0)) := by
    have h := Bx.new (w.alloc (.cells #[.slice a1 ss.length c1, .slice a2 ps.length c2] 27)) (.slice none 0 0) (.slice none 0 0) 27
    rw [World.size_alloc] at h
    exact h
  have hne : w.heap.size + 1 ≠ w.heap.size := by omega
  clear hs hp hsr hpr
  generalize prS ss ps (act ss ps) t = RS at *
  generalize prB ss ps (act ss ps) t = RB at *
  generalize act ss ps = ac at *
  generalize hW0 : ((w.alloc (.cells #[.slice a1 ss.length c1, .slice a2 ps.length c2] 27)).alloc (.cells #[.slice none 0 0, .slice none 0 0] 27)) = W0 at *
  have hz0 : w.heap.size + 1 + 1 ≤ W0.heap.size := by rw [← hW0]; simp
  have g0 := X0.out.c0
  have g1 := X0.out.c1
  go_enter Try.func39, Try.ntmps39
  go_wp2

  clear hW0
  go_region_held3 (fun w' => w'.cell? ⟨w.heap.size, 0, none⟩ = some (.slice a1 ss.length c1) ∧ w'.cell? ⟨w.heap.size, 1, none⟩ = some (.slice a2 ps.length c2))
    (first | exact ⟨g0, g1⟩ | exact t5.out | exact t8.out | exact ⟨((Y08.out.setO hne _).setO hne _).c0, ((Y08.out.setO hne _).setO hne _).c1⟩)
    ((first
      | (go_at_call 26
         refine (HAC.out _ b0.out.drew).mono ?_
         rintro e w5 ⟨rfl, hb5⟩
         have Y05 : Hid (Bx w5 w.heap.size (.slice a1 ss.length c1) (.slice a2 ps.length c2)) := X0.out.keep (undrew hb5) X0.out.lt
         have Y15 : Hid (Bx w5 (w.heap.size + 1) (.slice none 0 0) (.slice none 0 0)) := X1.out.keep (undrew hb5) X1.out.lt
         have t5 : Hid (w5.cell? ⟨w.heap.size, 0, none⟩ = some (.slice a1 ss.length c1) ∧ w5.cell? ⟨w.heap.size, 1, none⟩ = some (.slice a2 ps.length c2)) := ⟨Y05.out.c0, Y05.out.c1⟩
         have HB5 : Hid (Below w.heap.size w w5) := b0.out.trans ((undrew hb5).mono b0.out.size))
      | (go_at_call 37
         refine (HPR.out _ HB5.out).mono ?_
         rintro e w8 ⟨y1, y2, y3, y4, rfl, hd8, hb8⟩
         have Y08 : Hid (Bx w8 w.heap.size (.slice a1 ss.length c1) (.slice a2 ps.length c2)) := Y05.out.keep hb8 Y05.out.lt
         have Y18 : Hid (Bx w8 (w.heap.size + 1) (.slice none 0 0) (.slice none 0 0)) := Y15.out.keep hb8 Y15.out.lt
         have t8 : Hid (w8.cell? ⟨w.heap.size, 0, none⟩ = some (.slice a1 ss.length c1) ∧ w8.cell? ⟨w.heap.size, 1, none⟩ = some (.slice a2 ps.length c2)) := ⟨Y08.out.c0, Y08.out.c1⟩
         have HB8 : Hid (Below w.heap.size w w8) := HB5.out.trans (hb8.mono HB5.out.size)
         have HD8 : Hid (DOwn w8 (w.heap.size + 1 + 1) y1 y2 y3 y4 RS ps) := hd8.mono Y15.out.lt
         have r0 := Y18.out.c0
         have r1 := Y18.out.c1
         have rf := Y18.out.fz)))
  all_goals
    have V9 : Hid (Bx ((w8.setCell ⟨w.heap.size + 1, 0, none⟩ (.slice y1 RS.length y2)).setCell ⟨w.heap.size + 1, 1, none⟩ (.slice y3 ps.length y4)) (w.heap.size + 1) (.slice y1 RS.length y2) (.slice y3 ps.length y4)) := (Y18.out.set0 _).set1 _
    have q0 := V9.out.c0
    have q1 := V9.out.c1
    go_wp2
    refine bodyPost_ret (v := .tuple #[.agg #[.slice y1 RS.length y2, .slice y3 ps.length y4], .bool RB]) (by simp [results, Try.results39, go_sem, q0, q1]) rfl ⟨y1, y2, y3, y4, rfl, ⟨?_, ?_⟩, ?_⟩
    · exact ((HD8.out.s.set (by show w.heap.size + 1 < _; omega) _).set (by show w.heap.size + 1 < _; omega) _).mono (by omega)
    · exact ((HD8.out.p.set (by show w.heap.size + 1 < _; omega) _).set (by show w.heap.size + 1 < _; omega) _).mono (by omega)
    · exact (HB8.out.setCell (by show _ ≤ w.heap.size + 1; omega) _).setCell (by show _ ≤ w.heap.size + 1; omega) _

end Go.Proofs.Ytdfkpnimlhcchaa
