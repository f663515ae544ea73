/- What l01Text, l01Long and DrawHex do. -/
import Derived.Test.YtbncdnfjminpiaaDoorDr3
namespace Go.Proofs.YtbncdnfjminpiaaDoor
open Go.RowKit

theorem grown_below {w w2 w3 : World} {g B : Nat} (h : w.grownBy w2 (some g)) (hb : Below B w2 w3) (hB : w.heap.size ≤ B) : w.grownBy w3 (some g) :=
  ⟨hb.os.trans h.os, hb.tape.trans h.tape, hb.output.trans h.output, Nat.le_trans h.size hb.size, fun j hj hne => (hb.block j (by omega)).trans (h.block j hj hne)⟩

theorem CurOk.belowB {w w' : World} {g len cap B : Nat} {a : Option Addr} (h : CurOk w g a len cap) (hb : Below B w w') (hg : g < B) (hcode : ∀ b off, a = some ⟨b, off, none⟩ → 0 < len → b < B) : CurOk w' g a len cap := by
  obtain ⟨i, x, c, k⟩ := h
  refine ⟨i, x, ⟨(hb.cell (p := ⟨g, 0, none⟩) hg).trans c.c0, (hb.cell (p := ⟨g, 1, none⟩) hg).trans c.c1, (hb.cell (p := ⟨g, 2, none⟩) hg).trans c.c2, fun j => (hb.frozen (p := ⟨g, j, none⟩) hg).trans (c.free j), c.i0, c.i1⟩, fun hl => ?_⟩
  obtain ⟨b, off, ha, hb1, hne, hz⟩ := k hl
  refine ⟨b, off, ha, Nat.lt_of_lt_of_le hb1 hb.size, hne, fun j hj => ?_⟩
  obtain ⟨z, h0, h1, hc⟩ := hz j hj
  exact ⟨z, h0, h1, (hb.cell (p := ⟨b, off + j, none⟩) (hcode b off ha hl)).trans hc⟩

theorem Own.kept {w w' : World} {base g : Nat} {v : Value} {l : List UInt8} (h : Own w base v l) (hg : w.grownBy w' (some g)) (hlt : g < base) : Own w' base v l :=
  World.ownsRow.kept h hg (by
    cases e : v.ownBlock with
    | none => exact Or.inl rfl
    | some k => right; intro e2; have := (World.ownsRow.lt h k e).1; have := Option.some.inj e2; omega)

set_option maxRecDepth 100000 in
set_option maxHeartbeats 1000000 in
theorem text22 (g len cap : Nat) (a : Option Addr) (n : Nat) (hn : n ≤ 5000) (hl : len ≤ 1048576) (w : World) (hc : CurOk w g a len cap) (hg : g < w.heap.size) (hcode : ∀ b off, a = some ⟨b, off, none⟩ → 0 < len → b < w.heap.size) :
    Calls Tryd.prog 22 #[.pointer (some ⟨g, 0, none⟩), .int .i64 (n : Int)] w fun e w' => ∃ s : ByteArray, s.size = n ∧ e = .returned (.string s) ∧ CurOk w' g a len cap ∧ w.grownBy w' (some g) := by
  have HC : Hid (CurOk w g a len cap) := hc
  have HK : Hid (∀ b off, a = some ⟨b, off, none⟩ → 0 < len → b < w.heap.size) := hcode
  clear hc hcode
  have hd : decide ((5000 : Int) < (n : Int)) = false := by simp; omega
  go_enter Tryd.func22, Tryd.ntmps22
  go_wp2
  go_loopw [5, 6] (fun v t wr => ∃ (k : Nat) (pre : List UInt8), k ≤ n ∧ t = .int .i64 (k : Int) ∧ Hid (pre.length = k) ∧ Hid (Own wr w.heap.size v pre) ∧ Hid (CurOk wr g a len cap) ∧ Hid (w.grownBy wr (some g))) (fun _ t _ => n - (intOf t).toNat)
  case atStart => exact ⟨0, [], Nat.zero_le _, rfl, rfl, Own.empty _ _ (Nat.le_refl _), HC.out.alloc hg _, grown_alloc w g _⟩
  case round =>
    obtain ⟨k, pre, hk, rfl, HL, HO, HC1, HG1⟩ := hrel
    by_cases hlt : k < n
    · have hlt' : (k : Int) < (n : Int) := by omega
      go_wp2_with fail
      refine (byteOk g len cap a hl _ HC1.out).mono ?_
      rintro e w2 ⟨x, hx, rfl, hc2, hg2⟩
      have HC2 : Hid (CurOk w2 g a len cap) := hc2
      have HG2 : Hid (w.grownBy w2 (some g)) := grown_trans HG1.out hg2
      have hown2 := HO.out.kept hg2 hg
      have hsz2 : w.heap.size ≤ w2.heap.size := HG2.out.size
      have hlen : pre.length ≤ 5000 := by rw [HL.out]; omega
      clear hc2 hg2
      go_wp2_with (at_builtin; refine wpApp rfl _ _ rfl w2 [UInt8.ofNat x] rfl hown2 rfl (ofNatCell _ _ (by omega) (by omega)) (by simp; omega) (Below.refl _ _) hsz2 ?_)
      intro v' w3 hown3 hb3 _
      have HO3 : Hid (Own w3 w.heap.size v' (pre ++ [UInt8.ofNat x])) := hown3
      have HC3 : Hid (CurOk w3 g a len cap) := HC2.out.belowB hb3 hg HK.out
      have HG3 : Hid (w.grownBy w3 (some g)) := grown_below HG2.out hb3 (Nat.le_refl _)
      have HL3 : Hid ((pre ++ [UInt8.ofNat x]).length = k + 1) := by show _ = _; rw [List.length_append, HL.out]; rfl
      clear hown2 hown3 hb3
      go_wp2
      go_roundw
      case rel => exact ⟨k + 1, _, by omega, by go_num, HL3, HO3, HC3, HG3⟩
      case measure => simp [intOf]; omega
    · have hlt' : ¬ (k : Int) < (n : Int) := by omega
      have hst := HO.out.str
      go_wp2
      go_ret
      refine ⟨_, ?_, rfl, HC1.out, HG1.out⟩
      have : (⟨pre.toArray⟩ : ByteArray).size = pre.length := by simp [ByteArray.size]
      rw [this, HL.out]; omega

theorem bv_set (l : List UInt8) (j : Nat) (b : UInt8) : (bv l).set j (.int .u8 (b.toNat : Int)) = bv (l.set j b) := by
  simp [bv, List.map_set]

set_option maxRecDepth 100000 in
set_option maxHeartbeats 1000000 in
theorem long20 (n : Nat) (x : UInt8) (hn : n ≤ 30000) (w : World) :
    Calls Tryd.prog 20 #[.int .i64 (n : Int), .int .u8 (x.toNat : Int)] w fun e w' => ∃ s : ByteArray, s.size = n ∧ e = .returned (.string s) ∧ Below w.heap.size w w' := by
  obtain ⟨i0, hi, hz0, hz1, hz2⟩ := info_parts Tryd.info5
  go_enter Tryd.func20, Tryd.ntmps20
  go_wp2_with (at_make; refine wpList_make_full _ rfl _ _ 22 rfl w.heap.size 5 i0 (.int .u8 0) 1 Tryd.underlying22 hi hz0 hz1 .i64 .i64 _ _ n rfl rfl rfl rfl (by rw [hz2]; omega) (by unfold maxLen; omega) (Nat.le_refl _) ?_)
  intro w1 hown0 hgrow0
  have hown1 : Own w1 w.heap.size (.slice (some ⟨w.heap.size, 0, none⟩) n n) (List.replicate n 0) := by
    have e : (madeCells #[Value.int IntKind.u8 0] n).toList = bv (List.replicate n 0) := by
      rw [toList_madeCells_one]
      simp [bv]
    unfold Own
    rw [← e, List.length_replicate]
    exact hown0
  have hb1 : Below w.heap.size w w1 := (Below.refl _ w).grown hgrow0 (Nat.le_refl _) (fun j hj => by cases hj)
  have HO1 : Hid (Own w1 w.heap.size (.slice (some ⟨w.heap.size, 0, none⟩) n n) (List.replicate n 0)) := hown1
  have HB1 : Hid (Below w.heap.size w w1) := hb1
  clear hown0 hgrow0 hi hz0 hz1 hz2 hown1 hb1
  go_wp2
  go_loopw [6] (fun t wr => ∃ (k : Nat) (l : List UInt8), k ≤ n ∧ t = .int .i64 (k : Int) ∧ Hid (l.length = n) ∧ Hid (Own wr w.heap.size (.slice (some ⟨w.heap.size, 0, none⟩) n n) l) ∧ Hid (Below w.heap.size w wr)) (fun t _ => n - (intOf t).toNat)
  case atStart => exact ⟨0, _, Nat.zero_le _, rfl, List.length_replicate, HO1, HB1⟩
  case round =>
    obtain ⟨k, l, hk, rfl, HL, HO, HB⟩ := hrel
    by_cases hlt : k < n
    · have hlt' : (k : Int) < (n : Int) := by omega
      have h0 : (0 : Int) ≤ (k : Int) := by omega
      have ho : wr.ownsRow w.heap.size 5 1 (.slice (some ⟨w.heap.size, 0, none⟩) n n) n (bv l) := by have := HO.out; unfold Own at this; rw [HL.out] at this; exact this
      have hcell : ∃ u, wr.cell? ⟨w.heap.size, k, none⟩ = some u := by
        rw [World.ownsRow.cellAt ho k (by omega)]
        have : k < (bv l).length := by rw [bv_len, HL.out]; exact hlt
        exact ⟨_, List.getElem?_eq_getElem this⟩
      obtain ⟨u, hu⟩ := hcell
      have hf := World.ownsRow.frozenAt ho k
      have hst := World.ownsRow.stored ho k (.int .u8 (x.toNat : Int))
      rw [bv_set] at hst
      have HO2 : Hid (Own (wr.setCell ⟨w.heap.size, k, none⟩ (.int .u8 (x.toNat : Int))) w.heap.size (.slice (some ⟨w.heap.size, 0, none⟩) n n) (l.set k x)) := by
        have h1 := hst.1
        show Own _ _ _ _
        unfold Own
        rw [List.length_set, HL.out]
        exact h1
      have HL2 : Hid ((l.set k x).length = n) := by show _ = _; rw [List.length_set, HL.out]
      have HB2 : Hid (Below w.heap.size w (wr.setCell ⟨w.heap.size, k, none⟩ (.int .u8 (x.toNat : Int)))) := HB.out.setCell (Nat.le_refl _) _
      clear ho hst
      go_wp2
      go_roundw
      case rel => exact ⟨k + 1, _, by omega, by go_num, HL2, HO2, HB2⟩
      case measure => simp [intOf]; omega
    · have hlt' : ¬ (k : Int) < (n : Int) := by omega
      have hst := HO.out.str
      go_wp2
      go_ret
      refine ⟨_, ?_, rfl, HB.out⟩
      have : (⟨l.toArray⟩ : ByteArray).size = l.length := by simp [ByteArray.size]
      rw [this, HL.out]

set_option maxRecDepth 100000 in
set_option maxHeartbeats 1000000 in
theorem drawHex10 (len cap : Nat) (a : Option Addr) (hl : len ≤ 1048576) (w : World) (hr : CodeRow w a len) :
    Calls Tryd.prog 10 #[.slice a len cap] w fun e w' => ∃ s : ByteArray, s.size ≤ 30000 ∧ e = .returned (.string s) ∧ Below w.heap.size w w' := by
  have HR : Hid (CodeRow w a len) := hr
  clear hr
  go_enter Tryd.func10, Tryd.ntmps10
  go_wp2_with fail
  refine (new16 len cap a hl _ HR.out).mono ?_
  rintro e w1 ⟨rfl, hc1, hb1, hs1⟩
  have HC1 : Hid (CurOk w1 w.heap.size a len cap) := hc1
  have HB1 : Hid (Below w.heap.size w w1) := hb1
  clear hc1 hb1
  go_wp2_with fail
  refine (once19 w.heap.size len cap a 60 (by omega) (by omega) hl _ HC1.out).mono ?_
  rintro e w2 ⟨b, rfl, hc2, hg2⟩
  have HC2 : Hid (CurOk w2 w.heap.size a len cap) := hc2
  have HB2 : Hid (Below w.heap.size w w2) := HB1.out.grown hg2 (by omega) (fun j hj => by cases hj; exact Nat.le_refl _)
  have hs2 : w.heap.size < w2.heap.size := Nat.lt_of_lt_of_le hs1 hg2.size
  clear hc2 hg2
  cases b with
  | true =>
    go_wp2_with fail
    refine (below21 w.heap.size len cap a 2 (by omega) (by omega) hl _ HC2.out).mono ?_
    rintro e w3 ⟨x, hx, rfl, hc3, hg3⟩
    have HB3 : Hid (Below w.heap.size w w3) := HB2.out.grown hg3 (by omega) (fun j hj => by cases hj; exact Nat.le_refl _)
    have hs3 : w.heap.size ≤ w3.heap.size := HB3.out.size
    clear hc3 hg3
    go_wp2_with fail
    have c20 := long20 (20000 + x) 200 (by omega) w3
    have e1 : ((20000 + x : Nat) : Int) = 20000 + (x : Int) := by omega
    have e2 : (((200 : UInt8).toNat : Nat) : Int) = 200 := rfl
    rw [e1, e2] at c20
    refine c20.mono ?_
    clear c20 e1 e2
    rintro e w4 ⟨s, hsz, rfl, hb4⟩
    have HS : Hid (s.size = 20000 + x) := hsz
    have HB4 : Hid (Below w.heap.size w w4) := HB3.out.trans (hb4.mono hs3)
    clear hsz hb4
    go_wp2
    go_ret
    exact ⟨s, by rw [HS.out]; omega, rfl, HB4.out⟩
  | false =>
    go_wp2_with fail
    refine (below21 w.heap.size len cap a 30 (by omega) (by omega) hl _ HC2.out).mono ?_
    rintro e w3 ⟨x, hx, rfl, hc3, hg3⟩
    have HB3 : Hid (Below w.heap.size w w3) := HB2.out.grown hg3 (by omega) (fun j hj => by cases hj; exact Nat.le_refl _)
    have HC3 : Hid (CurOk w3 w.heap.size a len cap) := hc3
    have hs3 : w.heap.size < w3.heap.size := Nat.lt_of_lt_of_le hs2 hg3.size
    clear hc3 hg3
    go_wp2_with fail
    refine (text22 w.heap.size len cap a x (by omega) hl _ HC3.out hs3 ?_).mono ?_
    · intro b off hab hlen
      obtain ⟨b', off', ha', hb', _⟩ := HR.out hlen
      rw [hab] at ha'
      cases ha'
      omega
    · rintro e w4 ⟨s, hsz, rfl, hc4, hg4⟩
      have HS : Hid (s.size = x) := hsz
      have HB4 : Hid (Below w.heap.size w w4) := HB3.out.grown hg4 (by omega) (fun j hj => by cases hj; exact Nat.le_refl _)
      clear hsz hc4 hg4
      go_wp2
      go_ret
      exact ⟨s, by rw [HS.out]; omega, rfl, HB4.out⟩
end Go.Proofs.YtbncdnfjminpiaaDoor
