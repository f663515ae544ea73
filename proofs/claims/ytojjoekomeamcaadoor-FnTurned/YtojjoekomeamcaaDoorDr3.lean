/- What l01Text does. -/
import Derived.Test.YtojjoekomeamcaaDoorDr2
namespace Go.Proofs.YtojjoekomeamcaaDoor
open Go.RowKit

theorem grown_below {w w2 w3 : World} {g B : Nat} (h : w.grownBy w2 (some g)) (hb : Below B w2 w3) (hB : w.heap.size ≤ B) : w.grownBy w3 (some g) :=
  ⟨hb.os.trans h.os, hb.tape.trans h.tape, hb.output.trans h.output, Nat.le_trans h.size hb.size, fun j hj hne => (hb.block j (by omega)).trans (h.block j hj hne)⟩

theorem CurOk.belowB {w w' : World} {g len cap B : Nat} {a : Option Addr} (h : CurOk w g a len cap) (hb : Below B w w') (hg : g < B) (hcode : ∀ b off, a = some ⟨b, off, none⟩ → 0 < len → b < B) : CurOk w' g a len cap := by
  obtain ⟨i, x, c, k⟩ := h
  refine ⟨i, x, ⟨(hb.cell (p := ⟨g, 0, none⟩) hg).trans c.c0, (hb.cell (p := ⟨g, 1, none⟩) hg).trans c.c1, (hb.cell (p := ⟨g, 2, none⟩) hg).trans c.c2, fun j => (hb.frozen (p := ⟨g, j, none⟩) hg).trans (c.free j), c.i0, c.i1⟩, fun hl => ?_⟩
  obtain ⟨b, off, ha, hb1, hne, hz⟩ := k hl
  refine ⟨b, off, ha, Nat.lt_of_lt_of_le hb1 hb.size, hne, fun j hj => ?_⟩
  obtain ⟨z, h0, h1, hc⟩ := hz j hj
  exact ⟨z, h0, h1, (hb.cell (p := ⟨b, off + j, none⟩) (hcode b off ha hl)).trans hc⟩

theorem Own.kept {w w' : World} {base g : Nat} {v : Value} {l : List UInt8} (h : Own w base v l) (hg : w.grownBy w' (some g)) (hlt : g < base) : Own w' base v l :=
  World.ownsRow.kept h hg (by
    cases e : v.ownBlock with
    | none => exact Or.inl rfl
    | some k => right; intro e2; have := (World.ownsRow.lt h k e).1; have := Option.some.inj e2; omega)

set_option maxRecDepth 100000 in
set_option maxHeartbeats 1000000 in
theorem text22 (g len cap : Nat) (a : Option Addr) (n : Nat) (hn : n ≤ 5000) (hl : len ≤ 1048576) (w : World) (hc : CurOk w g a len cap) (hg : g < w.heap.size) (hcode : ∀ b off, a = some ⟨b, off, none⟩ → 0 < len → b < w.heap.size) :
    Calls Tryd.prog 20 #[.pointer (some ⟨g, 0, none⟩), .int .i64 (n : Int)] w fun e w' => ∃ s : ByteArray, s.size = n ∧ e = .returned (.string s) ∧ CurOk w' g a len cap ∧ w.grownBy w' (some g) := by
  have HC : Hid (CurOk w g a len cap) := hc
  have HK : Hid (∀ b off, a = some ⟨b, off, none⟩ → 0 < len → b < w.heap.size) := hcode
  clear hc hcode
  have hd : decide ((5000 : Int) < (n : Int)) = false := by simp; omega
  go_enter Tryd.func20, Tryd.ntmps20
  go_wp2
  go_loopw [5, 6] (fun v t wr => ∃ (k : Nat) (pre : List UInt8), k ≤ n ∧ t = .int .i64 (k : Int) ∧ Hid (pre.length = k) ∧ Hid (Own wr w.heap.size v pre) ∧ Hid (CurOk wr g a len cap) ∧ Hid (w.grownBy wr (some g))) (fun _ t _ => n - (intOf t).toNat)
  case atStart => exact ⟨0, [], Nat.zero_le _, rfl, rfl, Own.empty _ _ (Nat.le_refl _), HC.out.alloc hg _, grown_alloc w g _⟩
  case round =>
    obtain ⟨k, pre, hk, rfl, HL, HO, HC1, HG1⟩ := hrel
    by_cases hlt : k < n
    · have hlt' : (k : Int) < (n : Int) := by omega
      go_wp2_with fail
      refine (byteOk g len cap a hl _ HC1.out).mono ?_
      rintro e w2 ⟨x, hx, rfl, hc2, hg2⟩
      have HC2 : Hid (CurOk w2 g a len cap) := hc2
      have HG2 : Hid (w.grownBy w2 (some g)) := grown_trans HG1.out hg2
      have hown2 := HO.out.kept hg2 hg
      have hsz2 : w.heap.size ≤ w2.heap.size := HG2.out.size
      have hlen : pre.length ≤ 5000 := by rw [HL.out]; omega
      clear hc2 hg2
      go_wp2_with (at_builtin; refine wpApp rfl _ _ rfl w2 [UInt8.ofNat x] rfl hown2 rfl (ofNatCell _ _ (by omega) (by omega)) (by simp; omega) (Below.refl _ _) hsz2 ?_)
      intro v' w3 hown3 hb3 _
      have HO3 : Hid (Own w3 w.heap.size v' (pre ++ [UInt8.ofNat x])) := hown3
      have HC3 : Hid (CurOk w3 g a len cap) := HC2.out.belowB hb3 hg HK.out
      have HG3 : Hid (w.grownBy w3 (some g)) := grown_below HG2.out hb3 (Nat.le_refl _)
      have HL3 : Hid ((pre ++ [UInt8.ofNat x]).length = k + 1) := by show _ = _; rw [List.length_append, HL.out]; rfl
      clear hown2 hown3 hb3
      go_wp2
      go_roundw
      case rel => exact ⟨k + 1, _, by omega, by go_num, HL3, HO3, HC3, HG3⟩
      case measure => simp [intOf]; omega
    · have hlt' : ¬ (k : Int) < (n : Int) := by omega
      have hst := HO.out.str
      go_wp2
      go_ret
      refine ⟨_, ?_, rfl, HC1.out, HG1.out⟩
      have : (⟨pre.toArray⟩ : ByteArray).size = pre.length := by simp [ByteArray.size]
      rw [this, HL.out]; omega

theorem bv_set (l : List UInt8) (j : Nat) (b : UInt8) : (bv l).set j (.int .u8 (b.toNat : Int)) = bv (l.set j b) := by
  simp [bv, List.map_set]

end Go.Proofs.YtojjoekomeamcaaDoor
