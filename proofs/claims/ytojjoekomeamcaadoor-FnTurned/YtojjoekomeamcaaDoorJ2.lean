/- The law FnTurned, walked to its end. -/
import Derived.Test.YtojjoekomeamcaaDoorJ1
namespace Go.Proofs.YtojjoekomeamcaaDoor
open Go.RowKit
attribute [local go_sem ↓] Go.wp_at_zero Go.wp_at_succ

/-- '[]byte(t)' -/
theorem bytesNew (w : World) (t : ByteArray) : ∃ C W, (convert 9 22 (.string t)).run Tryd.prog w = .ok (.slice (some ⟨w.heap.size, 0, none⟩) t.size C) W
    ∧ (∀ j (hj : j < t.size), W.cell? ⟨w.heap.size, j, none⟩ = some (.int .u8 (t[j].toNat : Int))) ∧ (∀ j, j < t.size → W.frozen? ⟨w.heap.size, j, none⟩ = false) ∧ Below w.heap.size w W ∧ w.heap.size < W.heap.size := by
  refine ⟨_, _, run_bytes_of_string (P := Tryd.prog) w 9 22 5 t Tryd.underlying9 Tryd.underlying22 Tryd.underlying5, fun j hj => ?_, fun j hj => ?_, ?_, ?_⟩
  · exact (World.cell?_alloc_mark w.drew _ 5 _ j).trans (bytesRow_at t _ j hj)
  · refine (World.frozen?_alloc_mark w.drew _ 5 _ _ j).trans ?_
    have : ¬ (bytesRow t (grownCap w t.size 0 5)).size ≤ j := by
      unfold bytesRow
      rw [Array.size_append, Array.size_map]
      have : t.data.size = t.size := rfl
      omega
    simp [this]
  · exact ((Below.refl _ w).drew).alloc (Nat.le_refl _) _
  · exact Nat.lt_of_lt_of_eq (Nat.lt_succ_self _) (Array.size_push _).symm

theorem xor_ne (x d : Nat) (h : 0 < d) : x ^^^ d ≠ x := fun e => by
  have : d = 0 := SM.xor_left (a := x) (by rw [e, Nat.xor_zero])
  omega

/-- the turned text, read back -/
theorem backStr {w : World} {g C : Nat} (t : ByteArray) (i : Nat) (hi : i < t.size) (c : UInt8)
    (hc : ∀ j (hj : j < t.size), w.cell? ⟨g, j, none⟩ = some (.int .u8 (t[j].toNat : Int))) :
    (convert 22 9 (.slice (some ⟨g, 0, none⟩) t.size C)).run Tryd.prog (w.setCell ⟨g, i, none⟩ (.int .u8 (c.toNat : Int))).drew
      = .ok (.string ⟨(t.data.toList.set i c).toArray⟩) (w.setCell ⟨g, i, none⟩ (.int .u8 (c.toNat : Int))).drew := by
  have hl : (t.data.toList.set i c).length = t.size := by rw [List.length_set, len_data]
  have h := run_convert_bytes_back (P := Tryd.prog) (w.setCell ⟨g, i, none⟩ (.int .u8 (c.toNat : Int))).drew 22 9 5 ⟨g, 0, none⟩ C (t.data.toList.set i c) Tryd.underlying22 Tryd.underlying5 Tryd.underlying9 ?_
  · rw [hl] at h; exact h
  intro j hj
  rw [hl] at hj
  rw [Addr.add_lit, Nat.zero_add]
  show (w.setCell ⟨g, i, none⟩ (.int .u8 (c.toNat : Int))).cell? ⟨g, j, none⟩ = _
  by_cases h : i = j
  · subst h
    rw [World.cell?_setCell_same _ _ _ (hc i hi)]
    simp
  · rw [World.cell?_setCell_other _ _ _ _ (addr_ne g h), hc j hj]
    simp [List.getElem_set_ne h]
    rfl

set_option maxRecDepth 100000 in
set_option maxHeartbeats 4000000 in
theorem law3 (len cap : Nat) (a : Option Addr) (w : World) (hl : len ≤ 9223372036854775807) (hr : CodeRow w a len) (ht : Tab w) : Calls Tryd.prog 3 #[.slice a len cap] w fun e w' => e = .returned (.bool true) ∧ Below w.heap.size w w' := by
  have T : Hid (Tab w) := ht
  have R : Hid (CodeRow w a len) := hr
  clear ht hr
  by_cases hbig : 1048576 < len
  · go_enter Tryd.func3, Tryd.ntmps3
    go_wp2_with (go_at_call 8; go_in)
    go_ret
    exact ⟨rfl, Below.refl _ _⟩
  have hm : len ≤ 1048576 := by omega
  go_enter Tryd.func3, Tryd.ntmps3
  go_wp2_with (go_at_call 8; go_in)
  refine (drawSum9 len cap a hm _ R.out).mono ?_
  rintro e w1 ⟨s, hs, rfl, hb1⟩
  have B1 : Hid (Below w.heap.size w w1) := hb1
  have T1 : Hid (Tab w1) := T.out.below hb1
  have R1 : Hid (CodeRow w1 a len) := R.out.below hb1
  have hs1 := hb1.size
  clear hb1
  go_wp2_with fail
  refine (drawPlaces10 len cap a hm _ R1.out).mono ?_
  rintro e w2 ⟨v, l, hlen, hall, rfl, hown, hb2⟩
  obtain ⟨g, pc, rfl, hg1, hg2, hcell⟩ := hown.shape (by omega)
  obtain ⟨p0, hp0⟩ : ∃ p0 : Nat, l[0]'(by omega) = p0 := ⟨_, rfl⟩
  obtain ⟨p1, hp1⟩ : ∃ p1 : Nat, l[1]'(by omega) = p1 := ⟨_, rfl⟩
  have P0 : Hid (w2.cell? ⟨g, 0, none⟩ = some (.int .i64 (p0 : Int))) := by have := hcell 0 (by omega); rw [hp0] at this; exact this
  have P1 : Hid (w2.cell? ⟨g, 1, none⟩ = some (.int .i64 (p1 : Int))) := by have := hcell 1 (by omega); rw [hp1] at this; exact this
  have hq0 : p0 < 10000 := by rw [← hp0]; exact hall _ (List.getElem_mem _)
  have hq1 : p1 < 10000 := by rw [← hp1]; exact hall _ (List.getElem_mem _)
  have B2 : Hid (Below w.heap.size w w2) := B1.out.trans (hb2.mono hs1)
  have T2 : Hid (Tab w2) := T1.out.below hb2
  have hs2 : w.heap.size ≤ w2.heap.size := B2.out.size
  rw [hlen]
  clear hp0 hp1 hcell hown hall hb2 hlen
  go_wp2_with fail
  refine (iseal_yes s (by omega) _ T2.out).mono ?_
  rintro e w3 ⟨rfl, hb3⟩
  have B3 : Hid (Below w.heap.size w w3) := B2.out.trans (hb3.mono hs2)
  have T3 : Hid (Tab w3) := T2.out.below hb3
  have hs3 : w.heap.size ≤ w3.heap.size := B3.out.size
  have P03 : Hid (w3.cell? ⟨g, 0, none⟩ = some (.int .i64 (p0 : Int))) := (hb3.cell (p := ⟨g, 0, none⟩) hg2).trans P0.out
  have P13 : Hid (w3.cell? ⟨g, 1, none⟩ = some (.int .i64 (p1 : Int))) := (hb3.cell (p := ⟨g, 1, none⟩) hg2).trans P1.out
  have hg3 : g < w3.heap.size := Nat.lt_of_lt_of_le hg2 hb3.size
  clear hb3
  obtain ⟨t, hte⟩ : ∃ t, sealB s = t := ⟨_, rfl⟩
  have HT : Hid (sealB s = t) := hte
  have hts : t.size = s.size + 4 := by rw [← hte]; exact seal_size s
  have c4 := iuns_seal s (by omega)
  rw [hte] at c4 ⊢
  clear hte
  go_wp2_with fail
  refine (c4 _ T3.out).mono ?_
  clear c4
  rintro e w4 ⟨rfl, hb4⟩
  have B4 : Hid (Below w.heap.size w w4) := B3.out.trans (hb4.mono hs3)
  have T4 : Hid (Tab w4) := T3.out.below hb4
  have hs4 : w.heap.size ≤ w4.heap.size := B4.out.size
  have P04 : Hid (w4.cell? ⟨g, 0, none⟩ = some (.int .i64 (p0 : Int))) := (hb4.cell (p := ⟨g, 0, none⟩) hg3).trans P03.out
  have P14 : Hid (w4.cell? ⟨g, 1, none⟩ = some (.int .i64 (p1 : Int))) := (hb4.cell (p := ⟨g, 1, none⟩) hg3).trans P13.out
  have hg4 : g < w4.heap.size := Nat.lt_of_lt_of_le hg3 hb4.size
  clear hb4
  obtain ⟨C, W, hconv, hcs, hfz, hb5, hs5⟩ := bytesNew w4 t
  have B5 : Hid (Below w.heap.size w W) := B4.out.trans (hb5.mono hs4)
  have T5 : Hid (Tab W) := T4.out.below hb5
  have p0c : W.cell? ⟨g, 0, none⟩ = some (.int .i64 (p0 : Int)) := (hb5.cell (p := ⟨g, 0, none⟩) hg4).trans P04.out
  have p1c : W.cell? ⟨g, 1, none⟩ = some (.int .i64 (p1 : Int)) := (hb5.cell (p := ⟨g, 1, none⟩) hg4).trans P14.out
  have HCS : Hid (∀ j (hj : j < t.size), W.cell? ⟨w4.heap.size, j, none⟩ = some (.int .u8 (t[j].toNat : Int))) := hcs
  have HFZ : Hid (∀ j, j < t.size → W.frozen? ⟨w4.heap.size, j, none⟩ = false) := hfz
  clear hcs hfz hb5
  have hts' : (t.size : Int) = (s.size : Int) + 4 := by omega
  go_wp2_with fail
  obtain ⟨i, hi, hie⟩ : ∃ i : Nat, i < s.size + 4 ∧ ((p0 : Int) % ((s.size : Int) + 4)) = (i : Int) := ⟨p0 % (s.size + 4), Nat.mod_lt _ (by omega), by rw [Int.natCast_emod]; rfl⟩
  rw [hie]
  have hit : i < t.size := by omega
  obtain ⟨x, hx⟩ : ∃ x : Nat, t[i].toNat = x := ⟨_, rfl⟩
  have hxl : x < 256 := by rw [← hx]; exact t[i].toNat_lt
  have hbi : W.cell? ⟨w4.heap.size, i, none⟩ = some (.int .u8 (x : Int)) := by rw [← hx]; exact HCS.out i hit
  have hfi : W.frozen? ⟨w4.heap.size, i, none⟩ = false := HFZ.out i hit
  have hxr := u8_xor_nat x (1 + p1 % 255) hxl (by omega)
  have hcl : x ^^^ (1 + p1 % 255) < 256 := Nat.xor_lt_two_pow (n := 8) hxl (by omega)
  have hne := xor_ne x (1 + p1 % 255) (by omega)
  rw [show ((1 + p1 % 255 : Nat) : Int) = 1 + (p1 : Int) % 255 by omega] at hxr
  generalize x ^^^ (1 + p1 % 255) = y at hxr hcl hne
  have hcu := toNat_ofNat y hcl
  have hback := backStr (C := C) t i hit (UInt8.ofNat y) HCS.out
  rw [hcu] at hback
  have HB : Hid (((convert 22 9 (.slice (some ⟨w4.heap.size, 0, none⟩) t.size C)).run Tryd.prog (W.setCell ⟨w4.heap.size, i, none⟩ (.int .u8 (y : Int))).drew = .ok (.string ⟨(t.data.toList.set i (UInt8.ofNat y)).toArray⟩) (W.setCell ⟨w4.heap.size, i, none⟩ (.int .u8 (y : Int))).drew) ∧ Below w.heap.size w (W.setCell ⟨w4.heap.size, i, none⟩ (.int .u8 (y : Int))).drew) :=
    ⟨hback, (B5.out.setCell (p := ⟨w4.heap.size, i, none⟩) hs4 _).drew⟩
  clear hback
  have HNE : Hid (some (UInt8.ofNat y) ≠ t.data.toList[i]?) := by
    intro e
    rw [at_byte t i hit] at e
    have := congrArg UInt8.toNat (Option.some.inj e)
    rw [hx] at this
    rw [this] at hcu
    exact hne (by omega)
  have hi0 : (0 : Int) ≤ (i : Int) := by omega
  have hi1 : (i : Int) < (s.size : Int) + 4 := by omega
  clear hie hx hcu hne hconv p0c
  generalize w4.heap.size = G at *
  rw [hts] at HB
  go_region
  obtain ⟨hrun, hb6⟩ := HB.out
  clear HB hbi hfi p1c
  generalize (W.setCell ⟨G, i, none⟩ (.int .u8 (y : Int))).drew = W6 at *
  have B6 : Hid (Below w.heap.size w W6) := hb6
  have T6 : Hid (Tab W6) := T.out.below hb6
  have hs6 := hb6.size
  clear hb6
  have c12 := iuns_turned s (by omega) i hi (UInt8.ofNat y) (by rw [HT.out]; exact HNE.out) W6 T6.out
  rw [HT.out] at c12
  go_wp2_with fail
  refine c12.mono ?_
  clear c12 hrun
  rintro e w7 ⟨rfl, hb7⟩
  have B7 : Hid (Below w.heap.size w w7) := B6.out.trans (hb7.mono hs6)
  have T7 : Hid (Tab w7) := T6.out.below hb7
  clear hb7
  have hz := SM.sum_lt 4294967295 s.data.toList (by omega)
  have hsz : (s ++ ⟨#[120]⟩ : ByteArray).size ≤ 1048576 := by
    rw [ByteArray.size_append]; have : (⟨#[120]⟩ : ByteArray).size = 1 := rfl; omega
  have ca := isum14 s (by omega) w7 T7.out
  have cb := isum13 (SM.sum 4294967295 s.data.toList) ⟨#[120]⟩ hz (by decide) w7 T7.out
  have cc := isum14 (s ++ ⟨#[120]⟩) hsz w7 T7.out
  have he : SM.sum 4294967295 (s ++ ⟨#[120]⟩ : ByteArray).data.toList = SM.sum (SM.sum 4294967295 s.data.toList) (⟨#[120]⟩ : ByteArray).data.toList := by
    rw [← SM.sum_append]; congr 1
  rw [he] at cc
  clear he hsz
  generalize SM.sum (SM.sum 4294967295 s.data.toList) (⟨#[120]⟩ : ByteArray).data.toList = zz at *
  generalize SM.sum 4294967295 s.data.toList = z at *
  go_wp2_with fail
  refine ca.mono ?_
  clear ca
  rintro e w' ⟨rfl, rfl⟩
  go_wp2_with fail
  refine cb.mono ?_
  clear cb
  rintro e w' ⟨rfl, rfl⟩
  go_wp2_with fail
  refine cc.mono ?_
  clear cc
  rintro e w' ⟨rfl, rfl⟩
  go_wp2
  go_ret
  exact ⟨rfl, B7.out⟩
end Go.Proofs.YtojjoekomeamcaaDoor
