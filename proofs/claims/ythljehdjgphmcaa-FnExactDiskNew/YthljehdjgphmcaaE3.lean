/- The law FnExactDiskNew, walked. -/
import Derived.Test.YthljehdjgphmcaaD0
import Derived.Test.YthljehdjgphmcaaG1
namespace Go.Proofs.Ythljehdjgphmcaa
open Go.RowKit
open DM
attribute [local go_sem ↓] Go.wp_at_zero Go.wp_at_succ

/-- no writes -/
def noW (_ : Int) : List Wr := []
theorem snewP (n : Int) (w : World) :
    Calls Try.prog 39 #[.int .i64 n] w fun e w' => ∃ b1 d1 b2 d2, e = .returned (.tuple #[.agg #[.slice b1 (nwS n).length d1, .slice b2 (noW n).length d2], .bool (nwB n)]) ∧ DOwn w' w.heap.size b1 d1 b2 d2 (nwS n) (noW n) ∧ Below w.heap.size w w' := snew39 n w
theorem inewP (n : Int) (w : World) :
    Calls Try.prog 36 #[.int .i64 n] w fun e w' => ∃ b1 d1 b2 d2, e = .returned (.tuple #[.agg #[.slice b1 (nwS n).length d1, .slice b2 (noW n).length d2], .bool (nwB n)]) ∧ DOwn w' w.heap.size b1 d1 b2 d2 (nwS n) (noW n) ∧ Below w.heap.size w w' := inew36 n w

theorem nwS_len (n : Int) : (nwS n).length ≤ 100 := by
  unfold nwS
  split
  · rename_i h
    simp [nwB] at h
    simp [zerosS]
    omega
  · simp

set_option maxRecDepth 100000 in
set_option maxHeartbeats 8000000 in
theorem law8 (n : Int) (w : World) :
    Calls Try.prog 8 #[.int .i64 n] w fun e w' => e = .returned (.bool true) ∧ Below w.heap.size w w' := by
  have hrs0 := nwS_len n
  have hrs : (nwS n).length ≤ 100000000 := by omega
  have hrp : (noW n).length ≤ 100000000 := Nat.zero_le _
  have hbn := bne_self (nwB n)
  clear hrs0
  go_enter Try.func8, Try.ntmps8
  go_wp2_with fail
  refine (snewP n _).mono ?_
  rintro e w3 ⟨r1, r2, r3, r4, rfl, hd3, hb3⟩
  have R3 : Hid (DR (w3.alloc (.cells #[.slice r1 (nwS n).length r2, .slice r3 (noW n).length r4] 27)) w.heap.size w3.heap.size r1 r2 r3 r4 (nwS n) (noW n)) := hd3.dr.alloc _
  have B3 : Hid (Bxs (w3.alloc (.cells #[.slice r1 (nwS n).length r2, .slice r3 (noW n).length r4] 27)) [(w3.heap.size, .slice r1 (nwS n).length r2, .slice r3 (noW n).length r4)]) := (Bxs.nil w3).new _ _ 27
  have s3 : w.heap.size ≤ w3.heap.size := hb3.size
  have HB3 : Hid (Below w.heap.size w (w3.alloc (.cells #[.slice r1 (nwS n).length r2, .slice r3 (noW n).length r4] 27))) := hb3.alloc s3 _
  clear hd3 hb3
  go_wp2_with fail
  refine (inewP n _).mono ?_
  rintro e w5 ⟨y1, y2, y3, y4, rfl, hd5, hb5⟩
  have Y5 : Hid (DR (w5.alloc (.cells #[.slice y1 (nwS n).length y2, .slice y3 (noW n).length y4] 27)) (w3.heap.size + 1) w5.heap.size y1 y2 y3 y4 (nwS n) (noW n)) := by
    have h := hd5.dr.alloc (.cells #[.slice y1 (nwS n).length y2, .slice y3 (noW n).length y4] 27)
    rw [World.size_alloc] at h
    exact h
  have R5 : Hid (DR (w5.alloc (.cells #[.slice y1 (nwS n).length y2, .slice y3 (noW n).length y4] 27)) w.heap.size w3.heap.size r1 r2 r3 r4 (nwS n) (noW n)) := (R3.out.keep hb5).alloc _
  have B5 : Hid (Bxs (w5.alloc (.cells #[.slice y1 (nwS n).length y2, .slice y3 (noW n).length y4] 27)) [(w5.heap.size, .slice y1 (nwS n).length y2, .slice y3 (noW n).length y4), (w3.heap.size, .slice r1 (nwS n).length r2, .slice r3 (noW n).length r4)]) := (B3.out.keep hb5).new _ _ 27
  have s5 : w3.heap.size < w5.heap.size := (B3.out.keep hb5).hd.lt
  have HB5 : Hid (Below w.heap.size w (w5.alloc (.cells #[.slice y1 (nwS n).length y2, .slice y3 (noW n).length y4] 27))) := (HB3.out.trans (hb5.mono HB3.out.size)).alloc (by omega) _
  clear hd5 hb5 R3 B3
  have k0 := B5.out.hd.c0
  have k1 := B5.out.hd.c1
  have k2 := B5.out.tl.hd.c0
  have k3 := B5.out.tl.hd.c1
  go_wp2_with fail
  refine (eq40 y1 y3 r1 r3 y2 y4 r2 r4 (nwS n) (noW n) hrs hrp _ Y5.out.d.s.srow Y5.out.d.p.prow R5.out.d.s.srow R5.out.d.p.prow).mono ?_
  rintro e w10 ⟨rfl, hb10⟩
  have Y10 : Hid (DR w10 (w3.heap.size + 1) w5.heap.size y1 y2 y3 y4 (nwS n) (noW n)) := Y5.out.keep hb10
  have R10 : Hid (DR w10 w.heap.size w3.heap.size r1 r2 r3 r4 (nwS n) (noW n)) := R5.out.keep hb10
  have B10 : Hid (Bxs w10 [(w5.heap.size, .slice y1 (nwS n).length y2, .slice y3 (noW n).length y4), (w3.heap.size, .slice r1 (nwS n).length r2, .slice r3 (noW n).length r4)]) := B5.out.keep hb10
  have HB10 : Hid (Below w.heap.size w w10) := HB5.out.trans (hb10.mono HB5.out.size)
  clear hb10 Y5 R5 B5 k0 k1 k2 k3
  have k0 := B10.out.hd.c0
  have k1 := B10.out.hd.c1
  go_wp2_with fail
  refine (mark41 (nwS n).length (noW n).length 1 y1 y3 y2 y4 (w3.heap.size + 1) _ _ hrs hrp (by omega) (by omega) _ Y10.out.d.s Y10.out.d.p).mono ?_
  rintro e w11 ⟨rfl, hs11, hp11, hk11⟩
  have HS11 : Hid (SRow w11 y1 (marks 1 (nwS n).length)) := by
    have h := hs11
    rw [show Value.slice y1 (nwS n).length y2 = .slice y1 (marks 1 (nwS n).length).length y2 by rw [marks_len]] at h
    exact h.srow
  have HP11 : Hid (PRow w11 y3 (pmarks (1 + (nwS n).length) (noW n).length)) := by
    have h := hp11
    rw [show Value.slice y3 (noW n).length y4 = .slice y3 (pmarks (1 + (nwS n).length) (noW n).length).length y4 by rw [pmarks_len]] at h
    exact h.prow
  have R11 : Hid (DR w11 w.heap.size w3.heap.size r1 r2 r3 r4 (nwS n) (noW n)) := R10.out.kept2 hk11 Y10.out.u1 Y10.out.u2 (Or.inl (by omega))
  have B11 : Hid (Bxs w11 [(w5.heap.size, .slice y1 (nwS n).length y2, .slice y3 (noW n).length y4), (w3.heap.size, .slice r1 (nwS n).length r2, .slice r3 (noW n).length r4)]) := B10.out.kept2 hk11 (w3.heap.size + 1) w5.heap.size Y10.out.u1 Y10.out.u2 (fun q hq => by
    simp only [List.mem_cons, List.not_mem_nil, or_false] at hq
    rcases hq with rfl | rfl <;> simp)
  have HB11 : Hid (Below w.heap.size w w11) := HB10.out.trans (hk11.below _ HB10.out.size (fun k hk => by have := Y10.out.u1 k hk; omega) (fun k hk => by have := Y10.out.u2 k hk; omega))
  clear hk11 hs11 hp11 Y10 R10 B10 k0 k1
  have k0 := B11.out.hd.c0
  have k1 := B11.out.hd.c1
  go_wp2_with fail
  refine (held42 (nwS n).length (noW n).length 1 y1 y3 y2 y4 hrs hrp (by omega) (by omega) _ HS11.out HP11.out).mono ?_
  rintro e w12 ⟨rfl, hb12⟩
  have HS12 : Hid (SRow w12 y1 (marks 1 (nwS n).length)) := HS11.out.below hb12
  have HP12 : Hid (PRow w12 y3 (pmarks (1 + (nwS n).length) (noW n).length)) := HP11.out.below hb12
  have R12 : Hid (DR w12 w.heap.size w3.heap.size r1 r2 r3 r4 (nwS n) (noW n)) := R11.out.keep hb12
  have B12 : Hid (Bxs w12 [(w5.heap.size, .slice y1 (nwS n).length y2, .slice y3 (noW n).length y4), (w3.heap.size, .slice r1 (nwS n).length r2, .slice r3 (noW n).length r4)]) := B11.out.keep hb12
  have HB12 : Hid (Below w.heap.size w w12) := HB11.out.trans (hb12.mono HB11.out.size)
  clear hb12 HS11 HP11 R11 B11 k0 k1
  have hnn : ¬ ((1 + (nwS n).length + 2 * (noW n).length : Nat) : Int) < 0 := by omega
  go_wp2_with fail
  refine (inewP n _).mono ?_
  rintro e w14 ⟨n1, n2, n3, n4, rfl, hd14, hb14⟩
  have N14 : Hid (DOwn (w14.alloc (.cells #[.slice n1 (nwS n).length n2, .slice n3 (noW n).length n4] 27)) w12.heap.size n1 n2 n3 n4 (nwS n) (noW n)) := hd14.below ((belowRefl w14).alloc (Nat.le_refl _) _)
  have b14 : Below w12.heap.size w12 (w14.alloc (.cells #[.slice n1 (nwS n).length n2, .slice n3 (noW n).length n4] 27)) := hb14.alloc hb14.size _
  have HS14 : Hid (SRow (w14.alloc (.cells #[.slice n1 (nwS n).length n2, .slice n3 (noW n).length n4] 27)) y1 (marks 1 (nwS n).length)) := HS12.out.below b14
  have HP14 : Hid (PRow (w14.alloc (.cells #[.slice n1 (nwS n).length n2, .slice n3 (noW n).length n4] 27)) y3 (pmarks (1 + (nwS n).length) (noW n).length)) := HP12.out.below b14
  have R14 : Hid (DR (w14.alloc (.cells #[.slice n1 (nwS n).length n2, .slice n3 (noW n).length n4] 27)) w.heap.size w3.heap.size r1 r2 r3 r4 (nwS n) (noW n)) := R12.out.keep b14
  have B14 : Hid (Bxs (w14.alloc (.cells #[.slice n1 (nwS n).length n2, .slice n3 (noW n).length n4] 27)) [(w14.heap.size, .slice n1 (nwS n).length n2, .slice n3 (noW n).length n4), (w5.heap.size, .slice y1 (nwS n).length y2, .slice y3 (noW n).length y4), (w3.heap.size, .slice r1 (nwS n).length r2, .slice r3 (noW n).length r4)]) := (B12.out.keep hb14).new _ _ 27
  have HB14 : Hid (Below w.heap.size w (w14.alloc (.cells #[.slice n1 (nwS n).length n2, .slice n3 (noW n).length n4] 27))) := HB12.out.trans (b14.mono HB12.out.size)
  clear hd14 hb14 b14 HS12 HP12 R12 B12
  have k0 := B14.out.hd.c0
  have k1 := B14.out.hd.c1
  have k2 := B14.out.tl.tl.hd.c0
  have k3 := B14.out.tl.tl.hd.c1
  go_wp2_with fail
  refine (eq40 n1 n3 r1 r3 n2 n4 r2 r4 (nwS n) (noW n) hrs hrp _ N14.out.s.srow N14.out.p.prow R14.out.d.s.srow R14.out.d.p.prow).mono ?_
  rintro e w15 ⟨rfl, hb15⟩
  have HS15 : Hid (SRow w15 y1 (marks 1 (nwS n).length)) := HS14.out.below hb15
  have HP15 : Hid (PRow w15 y3 (pmarks (1 + (nwS n).length) (noW n).length)) := HP14.out.below hb15
  have B15 : Hid (Bxs w15 [(w14.heap.size, .slice n1 (nwS n).length n2, .slice n3 (noW n).length n4), (w5.heap.size, .slice y1 (nwS n).length y2, .slice y3 (noW n).length y4), (w3.heap.size, .slice r1 (nwS n).length r2, .slice r3 (noW n).length r4)]) := B14.out.keep hb15
  have HB15 : Hid (Below w.heap.size w w15) := HB14.out.trans (hb15.mono HB14.out.size)
  clear hb15 HS14 HP14 R14 B14 N14 k0 k1 k2 k3
  have k0 := B15.out.tl.hd.c0
  have k1 := B15.out.tl.hd.c1
  go_wp2_with fail
  refine (held42 (nwS n).length (noW n).length 1 y1 y3 y2 y4 hrs hrp (by omega) (by omega) _ HS15.out HP15.out).mono ?_
  rintro e w16 ⟨rfl, hb16⟩
  have HB16 : Hid (Below w.heap.size w w16) := HB15.out.trans (hb16.mono HB15.out.size)
  clear hb16
  go_wp2
  go_ret
  exact ⟨rfl, HB16.out⟩
end Go.Proofs.Ythljehdjgphmcaa
