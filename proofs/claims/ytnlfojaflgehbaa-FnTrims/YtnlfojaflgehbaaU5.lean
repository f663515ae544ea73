/- Versions that are drawn, right or not. -/
import Derived.Test.YtnlfojaflgehbaaU4
namespace Go.Proofs.Ytnlfojaflgehbaa
open Go.RowKit
open KM
open VM
attribute [local go_sem ↓] Go.wp_at_zero Go.wp_at_succ

theorem Try.info5 : (Try.prog.info? 5).map (fun i => (i.zero, i.size, i.bytes)) = some (some (.int .u8 0), 1, 1) := by kernel_rfl
/-- the bytes l as cells -/
def bv (l : List UInt8) : List Value := l.map fun b => Value.int .u8 (b.toNat : Int)
theorem bv_len (l : List UInt8) : (bv l).length = l.length := by simp [bv]
/-- the slice v owns the bytes l -/
def Own (w : World) (base : Nat) (v : Value) (l : List UInt8) : Prop := w.ownsRow base 5 1 v l.length (bv l)
/-- 'string(v)' of owned bytes -/
theorem Own.str {w : World} {base : Nat} {v : Value} {l : List UInt8} (h : Own w base v l) :
    (convert 22 9 v).run Try.prog w = .ok (.string ⟨l.toArray⟩) w := by
  have h0 := h
  rcases h.2 with ⟨rfl, h1⟩ | ⟨g, cap, cur, rfl, hg, hh, hnc, hcp, hcs, htake⟩
  · obtain rfl : l = [] := List.length_eq_zero_iff.1 h1
    rw [run_convert_bytes_string w 22 9 5 none 0 0 Try.underlying22 Try.underlying5 Try.underlying9]
    rfl
  · refine run_convert_bytes_back (P := Try.prog) w 22 9 5 ⟨g, 0, none⟩ cap l Try.underlying22 Try.underlying5 Try.underlying9 ?_
    intro j hj
    rw [Addr.add_lit, Nat.zero_add, World.ownsRow.cellAt h0 j (by omega)]
    simp [bv, hj]
/-- n bytes x -/
def longB (n : Nat) (x : UInt8) : ByteArray := ⟨(List.replicate n x).toArray⟩

set_option maxRecDepth 100000 in
set_option maxHeartbeats 1000000 in
theorem long71 (n : Nat) (x : UInt8) (hn : n ≤ 30000) (w : World) :
    Calls Try.prog 82 #[.int .i64 (n : Int), .int .u8 (x.toNat : Int)] w fun e w' => e = .returned (.string (longB n x)) ∧ Below w.heap.size w w' := by
  have hmk := mkRow 22 5 1 1 _ Try.underlying22 Try.info5 n (by omega) (by omega)
  go_enter Try.func82, Try.ntmps82
  go_wp2
  clear hmk
  have HO : Hid ((w.alloc (.cells (madeCells #[Value.int .u8 0] n) 5)).ownsRow w.heap.size 5 1 (.slice (some ⟨w.heap.size, 0, none⟩) n n) n (madeCells #[Value.int .u8 0] n).toList) :=
    World.ownsRow_lit w _ _ (Nat.le_refl _) (by unfold maxLen; omega) (by rw [size_madeCells, Nat.mul_one])
  go_loopw [6] (fun t wr => ∃ (k : Nat) (xs : List Value), k ≤ n ∧ t = .int .i64 k ∧ Hid (wr.ownsRow w.heap.size 5 1 (.slice (some ⟨w.heap.size, 0, none⟩) n n) n xs) ∧ Hid (∀ j, j < k → xs[j]? = some (.int .u8 (x.toNat : Int))) ∧ Hid (Below w.heap.size w wr)) (fun t _ => n - (intOf t).toNat)
  case atStart => exact ⟨0, _, Nat.zero_le _, rfl, HO, fun j hj => by omega, (belowRefl w).alloc (Nat.le_refl _) _⟩
  case round =>
    obtain ⟨k, xs, hk, rfl, HX, HA, HB⟩ := hrel
    by_cases hlt : k < n
    · have hlt' : (k : Int) < (n : Int) := by omega
      have h0 : (0 : Int) ≤ (k : Int) := by omega
      have hlen := HX.out.1
      have hq : wr.cell? ⟨w.heap.size, k, none⟩ = some (xs[k]'(by omega)) := by rw [World.ownsRow.cellAt HX.out k (by omega)]; simp
      have hfz := World.ownsRow.frozenAt HX.out k
      have st := World.ownsRow.stored HX.out k (.int .u8 (x.toNat : Int))
      have HX3 : Hid _ := st.1
      have HA2 : Hid (∀ j, j < k + 1 → (xs.set k (.int .u8 (x.toNat : Int)))[j]? = some (.int .u8 (x.toNat : Int))) := fun j hj => by
        by_cases e : j = k
        · subst e; rw [List.getElem?_set_self (by omega)]
        · rw [List.getElem?_set_ne (by omega)]; exact HA.out j (by omega)
      clear st
      go_wp2
      go_roundw
      case rel => exact ⟨k + 1, _, by omega, by go_num, HX3, HA2, HB.out.setCell (Nat.le_refl _) _⟩
      case measure => simp [intOf]; omega
    · have hlt' : ¬ (k : Int) < (n : Int) := by omega
      have HOw : Own wr w.heap.size (.slice (some ⟨w.heap.size, 0, none⟩) n n) (List.replicate n x) := by
        have e : xs = bv (List.replicate n x) := by
          apply List.ext_getElem?
          intro j
          have hlen := HX.out.1
          by_cases hj : j < n
          · rw [HA.out j (by omega)]; simp [bv, hj]
          · rw [List.getElem?_eq_none (by omega), List.getElem?_eq_none (by rw [bv_len]; simp; omega)]
        unfold Own
        rw [← e, List.length_replicate]
        exact HX.out
      have hst := HOw.str
      clear HOw
      go_wp2
      go_ret
      exact ⟨rfl, HB.out⟩

theorem long_size (n : Nat) (x : UInt8) : (longB n x).size = n := by simp [longB, ByteArray.size]
theorem cells_set {x x' : Vr} {j : Nat} {u : Value} (hj : j < 4) (he : encV.enc x' = (encV.enc x).set j u) : ∀ (l : List Vr) (i : Nat) (hi : i < l.length), l[i] = x → encV.cells (l.set i x') = (encV.cells l).set (i * 4 + j) u
  | y :: l, 0, _, e => by
    have e' : y = x := e
    subst e'
    have c1 : encV.cells (y :: l) = encV.enc y ++ encV.cells l := rfl
    have c2 : encV.cells ((y :: l).set 0 x') = encV.enc x' ++ encV.cells l := rfl
    rw [c1, c2, he, Nat.zero_mul, Nat.zero_add, List.set_append_left _ _ (by rw [encV.len]; exact hj)]
  | y :: l, i + 1, hi, e => by
    have ih := cells_set hj he l i (by simpa using hi) (by simpa using e)
    have c1 : encV.cells (y :: l) = encV.enc y ++ encV.cells l := rfl
    have c2 : encV.cells ((y :: l).set (i + 1) x') = encV.enc y ++ encV.cells (l.set i x') := rfl
    have hl : (encV.enc y).length = 4 := encV.len y
    rw [c1, c2, ih, List.set_append_right _ _ (by omega), hl, show (i + 1) * 4 + j - 4 = i * 4 + j by omega]
theorem own_cell {W : World} {base g cap : Nat} {l : List Vr} (h : GOwn encV 74 W base (.slice (some ⟨g, 0, none⟩) l.length cap) l) {i : Nat} (hi : i < l.length) {j : Nat} {u : Value} {x' : Vr} (hj : j < 4) (he : encV.enc x' = (encV.enc l[i]).set j u) :
    GOwn encV 74 (W.setCell ⟨g, i * 4 + j, none⟩ u) base (.slice (some ⟨g, 0, none⟩) (l.set i x').length cap) (l.set i x') := by
  unfold GOwn
  rw [cells_set hj he l i hi rfl, List.length_set]
  exact (World.ownsRow.stored h (i * 4 + j) u).1
theorem vfit_set {l : List Vr} {i : Nat} {x : Vr} (h : VFit l) (hx : x.1.size ≤ 1048576 ∧ x.2.1.size ≤ 1048576) : VFit (l.set i x) := fun y hy => by
  rcases List.mem_or_eq_of_mem_set hy with h1 | rfl
  · exact h y h1
  · exact hx

set_option maxRecDepth 100000 in
set_option maxHeartbeats 2000000 in
theorem drAnyV (g len cap : Nat) (a : Option Addr) (w : World) (hc : CurI w g a len cap) :
    Calls Try.prog 52 #[.pointer (some ⟨g, 0, none⟩)] w fun e w' => ∃ (xs : List Vr) (a1 : Option Addr) (c1 : Nat), VFit xs ∧ xs.length ≤ 24 ∧ e = .returned (.slice a1 xs.length c1) ∧ GOwn encV 74 w' w.heap.size (.slice a1 xs.length c1) xs ∧ Dn w w' g a len cap := by
  have HC : Hid (CurI w g a len cap) := hc
  have hgl : g < w.heap.size := hc.lt
  clear hc
  go_enter Try.func52, Try.ntmps52
  go_wp2_with fail
  refine (drBelow g len cap a 10 (by omega) (by omega) _ HC.out).mono ?_
  rintro e w1 ⟨k, hk, rfl, d1⟩
  have D1 : Hid (Dn w w1 g a len cap) := d1
  clear d1
  go_wp2_with fail
  refine (drBelow g len cap a 60 (by omega) (by omega) _ D1.out.c).mono ?_
  rintro e w2 ⟨x, hx, rfl, d2⟩
  have D2 : Hid (Dn w w2 g a len cap) := D1.out.step d2
  clear d2
  have E2 : Hid (GOwn encV 74 (w2.alloc (.cells #[] 74)) w.heap.size (.slice (some ⟨w2.heap.size, 0, none⟩) 0 0) []) := GOwn.empty w2 _ D2.out.size
  go_wp2_with fail
  refine (drVersions g len cap a _ (D2.out.c.alloc _)).mono ?_
  rintro e w3 ⟨xs, a1, c1, hv, hxl, rfl, ho, d3⟩
  have D3 : Hid (Dn w w3 g a len cap) := (D2.out.alloc _).step d3
  have E3 : Hid (GOwn encV 74 w3 w.heap.size (.slice (some ⟨w2.heap.size, 0, none⟩) 0 0) []) := E2.out.keptD d3 hgl
  have HF : Hid (VFit xs) := hv.fit
  have HSrc : Hid ((a1 = none ∧ xs.length = 0 ∧ c1 = 0) ∨ ∃ ad, a1 = some ad ∧ ∀ j u, (encV.cells xs)[j]? = some u → w3.cell? (ad.add j) = some u) := by
    rcases gown_shape ho with ⟨e1, rfl⟩ | ⟨g1, cap1, e1, hcap⟩
    · cases e1; exact Or.inl ⟨rfl, rfl, rfl⟩
    · cases e1
      refine Or.inr ⟨_, rfl, ?_⟩
      have h2 := drop_cells ho 0 (Nat.zero_le _)
      simpa using h2
  clear hv ho d3 E2
  go_wp2_with (at_builtin; refine wpAppRowV (v := .slice (some ⟨w2.heap.size, 0, none⟩) 0 0) rfl _ _ rfl rfl E3.out rfl HSrc.out rfl (by simp; omega) D3.out.size (fun h => by cases h) ?_)
  intro g1 cap1 L1 w4 hL1 ho4 hb4
  obtain rfl : L1 = xs.length := by simpa using hL1
  have HO : Hid (GOwn encV 74 w4 w.heap.size (.slice (some ⟨g1, 0, none⟩) xs.length cap1) xs) := ho4
  have D4 : Hid (Dn w w4 g a len cap) := D3.out.belowB hb4
  clear hL1 ho4 hb4 HSrc E3
  by_cases h0 : 0 < xs.length
  · have h0' : (0 : Int) < (xs.length : Int) := by omega
    have h0n : ¬ ((xs.length : Int) = 0) := by omega
    obtain ⟨i, hi⟩ : ∃ i, i = x % xs.length := ⟨_, rfl⟩
    have hil : i < xs.length := by rw [hi]; exact Nat.mod_lt _ h0
    have hit : Int.tmod (x : Int) (xs.length : Int) = (i : Int) := by rw [hi]; rfl
    clear hi
    have hil' : (i : Int) < (xs.length : Int) := by omega
    have hi0 : (0 : Int) ≤ (i : Int) := by omega
    have hgb : w.heap.size ≤ g1 := by
      have := (World.ownsRow.lt HO.out g1 rfl).1
      exact this
    have hgt : g1 < w4.heap.size := (World.ownsRow.lt HO.out g1 rfl).2
    have fz := fun j => World.ownsRow.frozenAt HO.out j
    obtain ⟨b5, o5, hbo, _, hc5⟩ := HO.out.grow (by omega)
    cases hbo
    have r0 := (vat hc5 i hil).1
    have r1 := (vat hc5 i hil).2.1
    have r2 := (vat hc5 i hil).2.2.1
    have r3 := (vat hc5 i hil).2.2.2
    simp only [Nat.zero_add] at r0 r1 r2 r3
    clear hc5
    have f0 := fz (i * 4)
    have f1 := fz (i * 4 + 1)
    have f2 := fz (i * 4 + 2)
    have f3 := fz (i * 4 + 3)
    clear fz
    have hvi := HF.out xs[i] (List.getElem_mem hil)
    by_cases k0 : k = 0
    · have k0' : ((k : Int) == 0) = true := by simp; omega
      obtain ⟨z, hz⟩ : ∃ z : Int, [Value.int .i64 0, Value.int .i64 9999, Value.int .i64 10000, Value.int .i64 3][x % 4]? = some (.int .i64 z) := by
        have h4 : x % 4 = 0 ∨ x % 4 = 1 ∨ x % 4 = 2 ∨ x % 4 = 3 := by omega
        rcases h4 with h | h | h | h <;> rw [h] <;> exact ⟨_, rfl⟩
      have HR := hide (own_cell HO.out hil (j := 3) (u := .int .i64 z) (x' := (xs[i].1, xs[i].2.1, xs[i].2.2.1, z)) (by omega) rfl)
      have HV : Hid (VFit (xs.set i (xs[i].1, xs[i].2.1, xs[i].2.2.1, z))) := vfit_set HF.out hvi
      clear k0
      go_wp2
      go_ret
      exact ⟨_, _, _, HV.out, by rw [List.length_set]; exact hxl, by rw [List.length_set]; rfl, HR.out.alloc _, (D4.out.set hgb _).alloc _⟩
    have k0' : ((k : Int) == 0) = false := by simp; omega
    by_cases k1 : k = 1
    · have k1' : ((k : Int) == 1) = true := by simp; omega
      obtain ⟨z, hzs, hz⟩ : ∃ z : ByteArray, z.size ≤ 1 ∧ [Value.string ⟨#[]⟩, Value.string ⟨#[65]⟩, Value.string ⟨#[122]⟩][x % 3]? = some (.string z) := by
        have h4 : x % 3 = 0 ∨ x % 3 = 1 ∨ x % 3 = 2 := by omega
        rcases h4 with h | h | h <;> rw [h] <;> exact ⟨_, by decide, rfl⟩
      have HR := hide (own_cell HO.out hil (j := 0) (u := .string z) (x' := (z, xs[i].2.1, xs[i].2.2.1, xs[i].2.2.2)) (by omega) rfl)
      have HV : Hid (VFit (xs.set i (z, xs[i].2.1, xs[i].2.2.1, xs[i].2.2.2))) := vfit_set HF.out ⟨by show z.size ≤ _; omega, hvi.2⟩
      clear k0 k1
      go_wp2
      go_ret
      exact ⟨_, _, _, HV.out, by rw [List.length_set]; exact hxl, by rw [List.length_set]; rfl, HR.out.alloc _, (D4.out.set hgb _).alloc _⟩
    have k1' : ((k : Int) == 1) = false := by simp; omega
    by_cases k2 : k = 2
    · have k2' : ((k : Int) == 2) = true := by simp; omega
      have HR := hide (own_cell HO.out hil (j := 2) (u := .bool true) (x' := (xs[i].1, xs[i].2.1, true, xs[i].2.2.2)) (by omega) rfl)
      have HV : Hid (VFit (xs.set i (xs[i].1, xs[i].2.1, true, xs[i].2.2.2))) := vfit_set HF.out hvi
      clear k0 k1 k2
      go_wp2
      go_ret
      exact ⟨_, _, _, HV.out, by rw [List.length_set]; exact hxl, by rw [List.length_set]; rfl, HR.out, D4.out.set hgb _⟩
    have k2' : ((k : Int) == 2) = false := by simp; omega
    by_cases k3 : k = 3
    · have k3' : ((k : Int) == 3) = true := by simp; omega
      have C4 : Hid (∀ w, Calls Try.prog 82 #[.int .i64 13, .int .u8 97] w fun e w' => e = .returned (.string (longB 13 97)) ∧ Below w.heap.size w w') := fun w => long71 13 97 (by omega) w
      have HS : Hid ((longB 13 97).size ≤ 13) := by show _ ≤ _; rw [long_size]; omega
      generalize longB 13 97 = z at C4 HS
      clear k0 k1 k2 k3 r0 r1 r2 r3 f0 f1 f2 f3
      go_wp2_with fail
      refine (C4.out _).mono ?_
      rintro e w5 ⟨rfl, hb5⟩
      have D5 : Hid (Dn w w5 g a len cap) := D4.out.below hb5
      have HO5 : Hid (GOwn encV 74 w5 w.heap.size (.slice (some ⟨g1, 0, none⟩) xs.length cap1) xs) := HO.out.below hb5
      clear hb5
      have fz := fun j => World.ownsRow.frozenAt HO5.out j
      obtain ⟨b6, o6, hbo, _, hc6⟩ := HO5.out.grow (by omega)
      cases hbo
      have r1 := (vat hc6 i hil).2.1
      simp only [Nat.zero_add] at r1
      clear hc6
      have f1 := fz (i * 4 + 1)
      clear fz
      have HR := hide (own_cell HO5.out hil (j := 1) (u := .string z) (x' := (xs[i].1, z, xs[i].2.2.1, xs[i].2.2.2)) (by omega) rfl)
      have HV : Hid (VFit (xs.set i (xs[i].1, z, xs[i].2.2.1, xs[i].2.2.2))) := vfit_set HF.out ⟨hvi.1, by have := HS.out; show z.size ≤ _; omega⟩
      go_wp2
      go_ret
      exact ⟨_, _, _, HV.out, by rw [List.length_set]; exact hxl, by rw [List.length_set]; rfl, HR.out, D5.out.set hgb _⟩
    · have k3' : ((k : Int) == 3) = false := by simp; omega
      clear k0 k1 k2 k3
      go_wp2
      go_ret
      exact ⟨xs, _, _, HF.out, hxl, rfl, HO.out, D4.out⟩
  · obtain rfl : xs = [] := List.length_eq_zero_iff.1 (by omega)
    go_wp2
    go_ret
    exact ⟨[], some ⟨g1, 0, none⟩, cap1, HF.out, hxl, rfl, HO.out, D4.out⟩

set_option maxRecDepth 100000 in
set_option maxHeartbeats 1000000 in
theorem dSeenAt (len cap : Nat) (a : Option Addr) (hl : len ≤ 1048576) (w : World) (hr : CodeRow w a len) :
    Calls Try.prog 15 #[.slice a len cap] w fun e w' => ∃ (xs : List Vr) (a1 : Option Addr) (c1 : Nat) (k : ByteArray) (s : Nat), VFit xs ∧ xs.length ≤ 24 ∧ k.size ≤ 3 ∧ s < 10 ∧ e = .returned (.tuple #[.slice a1 xs.length c1, .string k, .int .i64 (s : Int)]) ∧ GOwn encV 74 w' w.heap.size (.slice a1 xs.length c1) xs ∧ Below w.heap.size w w' := by
  have HR : Hid (CodeRow w a len) := hr
  clear hr
  go_enter Try.func15, Try.ntmps15
  go_wp2_with fail
  refine (drNew len cap a hl _ HR.out).mono ?_
  rintro e w1 ⟨rfl, hc, hb⟩
  have HC : Hid (CurI w1 w.heap.size a len cap) := hc
  have HB : Hid (Below w.heap.size w w1) := hb
  clear hc hb
  go_wp2_with fail
  refine (drKey w.heap.size len cap a _ HC.out).mono ?_
  rintro e w2 ⟨k, hk, rfl, d2⟩
  have D2 : Hid (Dn w1 w2 w.heap.size a len cap) := d2
  have HK : Hid (k.size ≤ 3) := hk.2
  clear d2 hk
  go_wp2_with fail
  refine (drBelow w.heap.size len cap a 10 (by omega) (by omega) _ D2.out.c).mono ?_
  rintro e w3 ⟨s, hs, rfl, d3⟩
  have D3 : Hid (Dn w1 w3 w.heap.size a len cap) := D2.out.step d3
  clear d3
  go_wp2_with fail
  refine (drAnyV w.heap.size len cap a _ D3.out.c).mono ?_
  rintro e w4 ⟨xs, a1, c1, hv, hx, rfl, ho, d4⟩
  have HV : Hid (VFit xs) := hv
  have HO : Hid (GOwn encV 74 w4 w.heap.size (.slice a1 xs.length c1) xs) := ho.mono (Nat.le_trans HB.out.size D3.out.size)
  have HB2 : Hid (Below w.heap.size w w4) := (D3.out.step d4).out HB.out (Nat.le_refl _) HB.out.size
  clear hv ho d4
  go_wp2
  go_ret3
  exact ⟨xs, a1, c1, k, s, HV.out, hx, HK.out, hs, rfl, HO.out, HB2.out⟩
end Go.Proofs.Ytnlfojaflgehbaa
