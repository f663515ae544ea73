/- What VersionsOk returns, on both sides. -/
import Derived.Test.YtpnnncfbodfnhaaGreatDoorPr01
import Derived.Test.YtpnnncfbodfnhaaGreatDoorPr02
namespace Go.Proofs.YtpnnncfbodfnhaaGreatDoor
open Go.RowKit
open KM
attribute [local go_sem ↓] Go.wp_at_zero Go.wp_at_succ

theorem toList_data (s : ByteArray) : s.toList = s.data.toList := by
 obtain ⟨⟨l⟩⟩ := s
 exact ByteArray.toList_mk l
theorem toList_inj {a b : ByteArray} (h : a.toList = b.toList) : a = b := by
 rw [toList_data, toList_data] at h
 obtain ⟨⟨a⟩⟩ := a
 obtain ⟨⟨b⟩⟩ := b
 have h' : a = b := h
 rw [h']
theorem beq_text (a b : ByteArray) : (a.toList == b.toList) = decide (a = b) := by
 by_cases h : a = b
 ·subst h; simp
 ·rw [decide_eq_false h, beq_eq_false_iff_ne]
  exact fun e => h (toList_inj e)
theorem cb_lt : ∀ a b : List UInt8, (Lib.compareBytes a b < 0) ↔ Op.bytesLess a b = true
 | [], [] => by simp [Lib.compareBytes, Op.bytesLess]
 | [], _ :: _ => by simp [Lib.compareBytes, Op.bytesLess]
 | _ :: _, [] => by simp [Lib.compareBytes, Op.bytesLess]
 | x :: a, y :: b => by
  have ih := cb_lt a b
  simp only [Lib.compareBytes, Op.bytesLess, Bool.or_eq_true, decide_eq_true_eq, Bool.and_eq_true, beq_iff_eq]
  by_cases h1 : x < y
  ·simp [h1]
  ·by_cases h2 : y < x
   ·have h3 : x ≠ y := fun e => by subst e; exact h1 h2
    simp [h1, h2, h3]
   ·have h3 : x = y := by
     have a1 : ¬ x.toNat < y.toNat := fun h => h1 (UInt8.lt_iff_toNat_lt.2 h)
     have a2 : ¬ y.toNat < x.toNat := fun h => h2 (UInt8.lt_iff_toNat_lt.2 h)
     exact UInt8.toNat_inj.1 (by omega)
    rw [if_neg h1, if_neg h2]
    constructor
    ·exact fun h => Or.inr ⟨h3, ih.1 h⟩
    ·rintro (h | ⟨_, h⟩)
     ·exact absurd h h1
     ·exact ih.2 h
theorem cb_eq : ∀ a b : List UInt8, Lib.compareBytes a b = 0 ↔ a = b
 | [], [] => by simp [Lib.compareBytes]
 | [], _ :: _ => by simp [Lib.compareBytes]
 | _ :: _, [] => by simp [Lib.compareBytes]
 | x :: a, y :: b => by
  have ih := cb_eq a b
  simp only [Lib.compareBytes, List.cons.injEq]
  by_cases h1 : x < y
  ·have h3 : x ≠ y := fun e => by subst e; exact absurd (UInt8.lt_iff_toNat_lt.1 h1) (by omega)
   simp [h1, h3]
  ·by_cases h2 : y < x
   ·have h3 : x ≠ y := fun e => by subst e; exact h1 h2
    simp [h1, h2, h3]
   ·have h3 : x = y := by
     have a1 : ¬ x.toNat < y.toNat := fun h => h1 (UInt8.lt_iff_toNat_lt.2 h)
     have a2 : ¬ y.toNat < x.toNat := fun h => h2 (UInt8.lt_iff_toNat_lt.2 h)
     exact UInt8.toNat_inj.1 (by omega)
    rw [if_neg h1, if_neg h2]
    simp [h3, ih]

def asc (a b : Vr) : Bool := lt a.1 b.1 || (decide (a.1 = b.1) && decide (a.2.2.2 < b.2.2.2))
theorem ci_lt (x y : Int) : Lib.compareInt x y < 0 ↔ x < y := by
 unfold Lib.compareInt
 split
 ·simp_all
 ·split <;> simp_all
theorem cmpV_neg (a b : Vr) : cmpV a b < 0 ↔ asc a b = true := by
 unfold cmpV orI asc lt
 simp only [Bool.or_eq_true, Bool.and_eq_true, decide_eq_true_eq]
 split
 ·rename_i h
  have h' := (cb_eq _ _).1 h
  have e : a.1 = b.1 := toList_inj (by rw [toList_data, toList_data]; exact h')
  rw [ci_lt, e, less_irrefl]
  simp
 ·rename_i h
  have h' : ¬ a.1 = b.1 := fun e => h ((cb_eq _ _).2 (by rw [e]))
  rw [cb_lt, toList_data, toList_data]
  simp [h']
def verB (v : Vr) : Bool := writeB (v.1, v.2.1, v.2.2.1) && decide (1 ≤ v.2.2.2) && decide (v.2.2.2 ≤ 9999)
def versB (xs : List Vr) : Bool := decide (xs.length ≤ 120) && decide (∀ j (h : j < xs.length), verB xs[j] = true ∧ ∀ (_ : 0 < j), asc (xs[j - 1]'(by omega)) xs[j] = true)
def GoodV (xs : List Vr) (k : Nat) : Prop := ∀ j (h : j < xs.length), j < k → verB xs[j] = true ∧ ∀ (_ : 0 < j), asc (xs[j - 1]'(by omega)) xs[j] = true
theorem goodv_all {xs : List Vr} {k : Nat} (h : GoodV xs k) (hk : xs.length ≤ k) (h8 : xs.length ≤ 120) : versB xs = true := by
 unfold versB
 simp only [Bool.and_eq_true, decide_eq_true_eq]
 exact ⟨h8, fun j hj => h j hj (by omega)⟩
theorem goodv_len {xs : List Vr} (h8 : ¬ xs.length ≤ 120) : versB xs = false := by
 unfold versB
 rw [decide_eq_false h8]; rfl
theorem goodv_whole {xs : List Vr} {k : Nat} (h : GoodV xs k) (hk : xs.length ≤ k) : decide (xs.length ≤ 120) = versB xs := by
 by_cases h8 : xs.length ≤ 120
 ·rw [goodv_all h hk h8, decide_eq_true h8]
 ·rw [goodv_len h8, decide_eq_false h8]
theorem goodv_no {xs : List Vr} (k : Nat) (hk : k < xs.length) (h : ¬ (verB xs[k] = true ∧ ∀ (_ : 0 < k), asc (xs[k - 1]'(by omega)) xs[k] = true)) : versB xs = false := by
 cases hw : versB xs
 ·rfl
 ·unfold versB at hw
  simp only [Bool.and_eq_true, decide_eq_true_eq] at hw
  exact absurd (hw.2 k hk) h
theorem goodv_more {xs : List Vr} {k : Nat} (h : GoodV xs k) (hk : k < xs.length) (h2 : verB xs[k] = true ∧ ∀ (_ : 0 < k), asc (xs[k - 1]'(by omega)) xs[k] = true) : GoodV xs (k + 1) := fun j hj hlt => by
 by_cases e : j = k
 ·subst e; exact h2
 ·exact h j hj (by omega)

set_option maxRecDepth 100000 in
set_option maxHeartbeats 1000000 in
theorem iver54 (v : Vr) (w : World) : Calls Tryz.prog 132 #[.agg #[.string v.1, .string v.2.1, .bool v.2.2.1, .int .i64 v.2.2.2]] w fun e w' => e = .returned (.bool (verB v)) ∧ Below w.heap.size w w' := by
 have A0 : Hid (Below w.heap.size w (w.alloc (.cells #[.string v.1, .string v.2.1, .bool v.2.2.1, .int .i64 v.2.2.2] 106))) := (belowRefl w).alloc (Nat.le_refl _) _
 have X0 : Hid (Box (w.alloc (.cells #[.string v.1, .string v.2.1, .bool v.2.2.1, .int .i64 v.2.2.2] 106)) w.heap.size [.string v.1, .string v.2.1, .bool v.2.2.1, .int .i64 v.2.2.2]) := Box.new w [.string v.1, .string v.2.1, .bool v.2.2.1, .int .i64 v.2.2.2] 106
 cases hw : writeB (v.1, v.2.1, v.2.2.1)
 ·have C1 : Hid (∀ w, Calls Tryz.prog 131 #[.agg #[.string v.1, .string v.2.1, .bool v.2.2.1]] w fun e w' => e = .returned (.bool false) ∧ Below w.heap.size w w') := fun w => hw ▸ iwrite v.1 v.2.1 v.2.2.1 w
  have HN : Hid (verB v = false) := by show _ = _; unfold verB; rw [hw]; rfl
  clear hw
  go_enter Tryz.func132, Tryz.ntmps132
  go_wp2_with fail
  refine (C1.out _).mono ?_
  rintro e w2 ⟨rfl, hb2⟩
  have X2 := X0.out.below hb2
  have q3 := X2.c3
  clear X2
  go_wp2
  go_ret
  exact ⟨ret_bool HN.out.symm, A0.out.trans (hb2.mono A0.out.size)⟩
 ·by_cases h1 : 1 ≤ v.2.2.2
  ·by_cases h2 : v.2.2.2 ≤ 9999
   ·have C1 : Hid (∀ w, Calls Tryz.prog 131 #[.agg #[.string v.1, .string v.2.1, .bool v.2.2.1]] w fun e w' => e = .returned (.bool true) ∧ Below w.heap.size w w') := fun w => hw ▸ iwrite v.1 v.2.1 v.2.2.1 w
    have HN : Hid (verB v = true) := by show _ = _; unfold verB; rw [hw]; simp; omega
    have h1' : decide ((1 : Int) ≤ v.2.2.2) = true := by simpa using h1
    have h2' : decide (v.2.2.2 ≤ (9999 : Int)) = true := by simpa using h2
    clear hw h1 h2
    go_enter Tryz.func132, Tryz.ntmps132
    go_wp2_with fail
    refine (C1.out _).mono ?_
    rintro e w2 ⟨rfl, hb2⟩
    have X2 := X0.out.below hb2
    have q3 := X2.c3
    clear X2
    go_wp2
    go_ret
    exact ⟨ret_bool HN.out.symm, A0.out.trans (hb2.mono A0.out.size)⟩
   ·have C1 : Hid (∀ w, Calls Tryz.prog 131 #[.agg #[.string v.1, .string v.2.1, .bool v.2.2.1]] w fun e w' => e = .returned (.bool true) ∧ Below w.heap.size w w') := fun w => hw ▸ iwrite v.1 v.2.1 v.2.2.1 w
    have HN : Hid (verB v = false) := by show _ = _; unfold verB; rw [hw]; simp; omega
    have h1' : decide ((1 : Int) ≤ v.2.2.2) = true := by simpa using h1
    have h2' : decide (v.2.2.2 ≤ (9999 : Int)) = false := by simpa using h2
    clear hw h1 h2
    go_enter Tryz.func132, Tryz.ntmps132
    go_wp2_with fail
    refine (C1.out _).mono ?_
    rintro e w2 ⟨rfl, hb2⟩
    have X2 := X0.out.below hb2
    have q3 := X2.c3
    clear X2
    go_wp2
    go_ret
    exact ⟨ret_bool HN.out.symm, A0.out.trans (hb2.mono A0.out.size)⟩
  ·have C1 : Hid (∀ w, Calls Tryz.prog 131 #[.agg #[.string v.1, .string v.2.1, .bool v.2.2.1]] w fun e w' => e = .returned (.bool true) ∧ Below w.heap.size w w') := fun w => hw ▸ iwrite v.1 v.2.1 v.2.2.1 w
   have HN : Hid (verB v = false) := by show _ = _; unfold verB; rw [hw]; simp; omega
   have h1' : decide ((1 : Int) ≤ v.2.2.2) = false := by simpa using h1
   clear hw h1
   go_enter Tryz.func132, Tryz.ntmps132
   go_wp2_with fail
   refine (C1.out _).mono ?_
   rintro e w2 ⟨rfl, hb2⟩
   have X2 := X0.out.below hb2
   have q3 := X2.c3
   clear X2
   go_wp2
   go_ret
   exact ⟨ret_bool HN.out.symm, A0.out.trans (hb2.mono A0.out.size)⟩

def pcells (w : World) (b o : Nat) (v : Vr) : Prop := w.cell? ⟨b, o, none⟩ = some (.string v.1) ∧ w.cell? ⟨b, o + 1, none⟩ = some (.string v.2.1) ∧ w.cell? ⟨b, o + 2, none⟩ = some (.bool v.2.2.1) ∧ w.cell? ⟨b, o + 3, none⟩ = some (.int .i64 v.2.2.2)
theorem pcells.below' {w w' : World} {b o : Nat} {v : Vr} (h : pcells w b o v) (hb : b < w.heap.size) (hw : Below w.heap.size w w') : pcells w' b o v :=
 ⟨(hw.cell (p := ⟨b, o, none⟩) hb).trans h.1, (hw.cell (p := ⟨b, o + 1, none⟩) hb).trans h.2.1, (hw.cell (p := ⟨b, o + 2, none⟩) hb).trans h.2.2.1, (hw.cell (p := ⟨b, o + 3, none⟩) hb).trans h.2.2.2⟩

set_option maxRecDepth 100000 in
set_option maxHeartbeats 4000000 in
theorem ivers (xs : List Vr) (a : Option Addr) (c : Nat) (hn : xs.length ≤ 100000000) (w : World) (hp : GRow encV w a xs) :
  Calls Tryz.prog 122 #[.slice a xs.length c] w fun e w' => e = .returned (.bool (versB xs)) ∧ Below w.heap.size w w' := by
 have HP : Hid (GRow encV w a xs) := hp
 clear hp
 by_cases h8 : xs.length ≤ 120
 ·have h8' : ¬ (120 : Int) < (xs.length : Int) := by omega
  go_enter Tryz.func122, Tryz.ntmps122
  go_wp2
  go_loopw [10] (fun t wr => ∃ k : Nat, k ≤ xs.length ∧ t = .int .i64 k ∧ Hid (GoodV xs k) ∧ Hid (Below w.heap.size w wr)) (fun t _ => xs.length - (intOf t).toNat)
  case atStart => exact ⟨0, Nat.zero_le _, rfl, fun j hj h => by omega, belowRefl w⟩
  case round =>
   obtain ⟨k, hk, rfl, HG, HB⟩ := hrel
   by_cases hlt : k < xs.length
   ·have hlt' : (k : Int) < (xs.length : Int) := by omega
    have hk0 : (0 : Int) ≤ (k : Int) := by omega
    have HR : Hid (GRow encV wr a xs) := HP.out.below HB.out
    obtain ⟨b, off, rfl, hbl, hc⟩ := HR.out (by omega)
    have c0 := (vat hc k hlt).1
    have c1 := (vat hc k hlt).2.1
    have c2 := (vat hc k hlt).2.2.1
    have c3 := (vat hc k hlt).2.2.2
    have HC : Hid (∀ j (hj : j < xs.length), pcells wr b (off + j * 4) xs[j]) := fun j hj => vat hc j hj
    clear hc
    have HB1 : Hid (Below w.heap.size w (wr.alloc (.cells #[.string xs[k].1, .string xs[k].2.1, .bool xs[k].2.2.1, .int .i64 xs[k].2.2.2] 106))) := HB.out.alloc HB.out.size _
    have HX : Hid (Box (wr.alloc (.cells #[.string xs[k].1, .string xs[k].2.1, .bool xs[k].2.2.1, .int .i64 xs[k].2.2.2] 106)) wr.heap.size [.string xs[k].1, .string xs[k].2.1, .bool xs[k].2.2.1, .int .i64 xs[k].2.2.2]) := Box.new wr [.string xs[k].1, .string xs[k].2.1, .bool xs[k].2.2.1, .int .i64 xs[k].2.2.2] 106
    have hbl' : b < (wr.alloc (.cells #[.string xs[k].1, .string xs[k].2.1, .bool xs[k].2.2.1, .int .i64 xs[k].2.2.2] 106)).heap.size := by simp; omega
    obtain ⟨m, HM, hml⟩ : ∃ m, Hid (m = k - 1) ∧ m < xs.length := ⟨k - 1, rfl, by omega⟩
    have EM : Hid (xs[m] = xs[k - 1]'(by omega)) := by show _ = _; simp only [HM.out]
    have HPM : Hid (pcells (wr.alloc (.cells #[.string xs[k].1, .string xs[k].2.1, .bool xs[k].2.2.1, .int .i64 xs[k].2.2.2] 106)) b (off + m * 4) xs[m]) := (HC.out m hml).below' hbl ((belowRefl wr).alloc (Nat.le_refl _) _)
    cases hw : verB xs[k]
    ·have C1 : Hid (∀ w, Calls Tryz.prog 132 #[.agg #[.string xs[k].1, .string xs[k].2.1, .bool xs[k].2.2.1, .int .i64 xs[k].2.2.2]] w fun e w' => e = .returned (.bool false) ∧ Below w.heap.size w w') := fun w => hw ▸ iver54 xs[k] w
     have HN : Hid (versB xs = false) := goodv_no k hlt (fun h => by rw [hw] at h; cases h.1)
     clear hw
     go_wp2
     generalize (wr.alloc (.cells #[.string xs[k].1, .string xs[k].2.1, .bool xs[k].2.2.1, .int .i64 xs[k].2.2.2] 106)) = W1 at *
     refine wp_region_held_drew (S := fun w' => w'.cell? ⟨wr.heap.size, 0, none⟩ = some (.string xs[k].1) ∧ w'.cell? ⟨wr.heap.size, 1, none⟩ = some (.string xs[k].2.1) ∧ w'.cell? ⟨wr.heap.size, 2, none⟩ = some (.bool xs[k].2.2.1) ∧ w'.cell? ⟨wr.heap.size, 3, none⟩ = some (.int .i64 xs[k].2.2.2)) (by kernel_rfl) ⟨HX.out.c0, HX.out.c1, HX.out.c2, HX.out.c3⟩ (fun hHeld => ?_)
     (refine ti 0 ?_; simp only [Act.put, tA, tB, tD, tE, tF])
     refine wpAnyH_ready (rs := [1]) (by kernel_rfl) (by simp) ?_
     refine AllReadyH.cons rfl (fun K hK => ?_) AllReadyH.nil
     go_simp
     go_wp2_with fail
     refine (C1.out _).mono ?_
     rintro e w2 ⟨rfl, hb2⟩
     have Q := HX.out.below (undrew hb2)
     go_wp2_with fail
     refine hK.out _ _ ⟨Q.c0, Q.c1, Q.c2, Q.c3⟩ (fun hHeld2 => ?_)
     clear hK K
     (refine ti 2 ?_; simp only [Act.put, tA, tB, tC, tD, tE, tF])
     (refine ti 3 ?_; simp only [Act.put, tA, tB, tC, tD, tE, tF])
     (refine tu 4 ?_; simp only [Act.put, tA, tB, tC, tD, tE, tF])
     (refine tu 5 ?_; simp only [Act.put, tA, tB, tC, tD, tE, tF])
     (refine tu 6 ?_; simp only [Act.put, tA, tB, tC, tD, tE, tF])
     (refine tu 7 ?_; simp only [Act.put, tA, tB, tC, tD, tE, tF])
     (refine tu 8 ?_; simp only [Act.put, tA, tB, tC, tD, tE, tF])
     (refine tu 9 ?_; simp only [Act.put, tA, tB, tC, tD, tE, tF])
     (refine tu 10 ?_; simp only [Act.put, tA, tB, tC, tD, tE, tF])
     (refine tu 11 ?_; simp only [Act.put, tA, tB, tC, tD, tE, tF])
     (refine tu 12 ?_; simp only [Act.put, tA, tB, tC, tD, tE, tF])
     (refine tu 13 ?_; simp only [Act.put, tA, tB, tC, tD, tE, tF])
     (refine tu 14 ?_; simp only [Act.put, tA, tB, tC, tD, tE, tF])
     (refine tu 15 ?_; simp only [Act.put, tA, tB, tC, tD, tE, tF])
     (refine ti 16 ?_; simp only [Act.put, tA, tB, tC, tD, tE, tF])
     refine wpAnyH_done (by kernel_rfl) ?_ _
     go_wp2
     go_ret
     exact ⟨ret_bool HN.out.symm, HB1.out.trans ((undrew hb2).mono HB1.out.size)⟩
    ·by_cases hz : k = 0
     ·have C1 : Hid (∀ w, Calls Tryz.prog 132 #[.agg #[.string xs[k].1, .string xs[k].2.1, .bool xs[k].2.2.1, .int .i64 xs[k].2.2.2]] w fun e w' => e = .returned (.bool true) ∧ Below w.heap.size w w') := fun w => hw ▸ iver54 xs[k] w
      have hz' : ¬ (0 : Int) < (k : Int) := by omega
      have HG2 : Hid (GoodV xs (k + 1)) := goodv_more HG.out hlt ⟨hw, fun h => by omega⟩
      clear hw hz
      go_wp2
      generalize (wr.alloc (.cells #[.string xs[k].1, .string xs[k].2.1, .bool xs[k].2.2.1, .int .i64 xs[k].2.2.2] 106)) = W1 at *
      have hzd : decide (0 < k) = false := by simp; omega
      refine wp_region_held_drew (S := fun w' => w'.cell? ⟨wr.heap.size, 0, none⟩ = some (.string xs[k].1) ∧ w'.cell? ⟨wr.heap.size, 1, none⟩ = some (.string xs[k].2.1) ∧ w'.cell? ⟨wr.heap.size, 2, none⟩ = some (.bool xs[k].2.2.1) ∧ w'.cell? ⟨wr.heap.size, 3, none⟩ = some (.int .i64 xs[k].2.2.2)) (by kernel_rfl) ⟨HX.out.c0, HX.out.c1, HX.out.c2, HX.out.c3⟩ (fun hHeld => ?_)
      (refine ti 0 ?_; simp only [Act.put, tA, tB, tD, tE, tF])
      refine wpAnyH_ready (rs := [1]) (by kernel_rfl) (by simp) ?_
      refine AllReadyH.cons rfl (fun K hK => ?_) AllReadyH.nil
      go_simp
      go_wp2_with fail
      refine (C1.out _).mono ?_
      rintro e w2 ⟨rfl, hb2⟩
      have Q := HX.out.below (undrew hb2)
      go_wp2_with fail
      refine hK.out _ _ ⟨Q.c0, Q.c1, Q.c2, Q.c3⟩ (fun hHeld2 => ?_)
      clear hK K
      (refine ti 2 ?_; simp only [Act.put, tA, tB, tC, tD, tE, tF])
      (refine ti 3 ?_; simp only [Act.put, tA, tB, tC, tD, tE, tF])
      (refine ti 4 ?_; simp only [Act.put, tA, tB, tC, tD, tE, tF])
      (refine ti 5 ?_; simp only [Act.put, tA, tB, tC, tD, tE, tF])
      (refine ti 6 ?_; simp only [Act.put, tA, tB, tC, tD, tE, tF])
      (refine tu 7 ?_; simp only [Act.put, tA, tB, tC, tD, tE, tF])
      (refine tu 8 ?_; simp only [Act.put, tA, tB, tC, tD, tE, tF])
      (refine tu 9 ?_; simp only [Act.put, tA, tB, tC, tD, tE, tF])
      (refine tu 10 ?_; simp only [Act.put, tA, tB, tC, tD, tE, tF])
      (refine tu 11 ?_; simp only [Act.put, tA, tB, tC, tD, tE, tF])
      (refine tu 12 ?_; simp only [Act.put, tA, tB, tC, tD, tE, tF])
      (refine tu 13 ?_; simp only [Act.put, tA, tB, tC, tD, tE, tF])
      (refine tu 14 ?_; simp only [Act.put, tA, tB, tC, tD, tE, tF])
      (refine ti 15 ?_; simp only [Act.put, tA, tB, tC, tD, tE, tF])
      (refine ti 16 ?_; simp only [Act.put, tA, tB, tC, tD, tE, tF])
      refine wpAnyH_done (by kernel_rfl) ?_ _
      go_wp2
      go_roundw
      case rel => exact ⟨k + 1, by omega, by go_num, HG2, HB1.out.trans ((undrew hb2).mono HB1.out.size)⟩
      case measure => simp [intOf]; omega
     ·cases hl : asc xs[m] xs[k]
      ·have C1 : Hid (∀ w, Calls Tryz.prog 132 #[.agg #[.string xs[k].1, .string xs[k].2.1, .bool xs[k].2.2.1, .int .i64 xs[k].2.2.2]] w fun e w' => e = .returned (.bool true) ∧ Below w.heap.size w w') := fun w => hw ▸ iver54 xs[k] w
       have HX3 : Hid (0 < k ∧ m = k - 1) := ⟨by omega, HM.out⟩
       have HN : Hid (versB xs = false) := goodv_no k hlt (fun h => by have h2 := h.2 (by omega); simp only [← EM.out] at h2; rw [hl] at h2; cases h2)
       have hc0 : decide ((0 : Int) ≤ cmpV xs[m] xs[k]) = true := by have := mt (cmpV_neg xs[m] xs[k]).1 (by rw [hl]; simp); simp; omega
       have C2 : Hid (∀ w, Calls Tryz.prog 133 #[.agg #[.string xs[m].1, .string xs[m].2.1, .bool xs[m].2.2.1, .int .i64 xs[m].2.2.2], .agg #[.string xs[k].1, .string xs[k].2.1, .bool xs[k].2.2.1, .int .i64 xs[k].2.2.2]] w fun e w' => e = .returned (.int .i64 (cmpV xs[m] xs[k])) ∧ Below w.heap.size w w') := fun w => cmp55 xs[m] xs[k] w
       generalize cmpV xs[m] xs[k] = cv at *
       clear hw hl
       go_wp2
       generalize (wr.alloc (.cells #[.string xs[k].1, .string xs[k].2.1, .bool xs[k].2.2.1, .int .i64 xs[k].2.2.2] 106)) = W1 at *
       have hzd : decide (0 < k) = true := by have := HX3.out; simp; omega
       have e9 : IntKind.i64.wrap ((k : Int) - 1) = (m : Int) := by have := HX3.out; rw [IntKind.wrap_i64]; omega
       have e10 : (k : Int) - 1 = (m : Int) := by have := HX3.out; omega
       have e11 : IntKind.i64.wrap (m : Int) = (m : Int) := by rw [IntKind.wrap_i64]; omega
       refine wp_region_held_drew (S := fun w' => w'.cell? ⟨wr.heap.size, 0, none⟩ = some (.string xs[k].1) ∧ w'.cell? ⟨wr.heap.size, 1, none⟩ = some (.string xs[k].2.1) ∧ w'.cell? ⟨wr.heap.size, 2, none⟩ = some (.bool xs[k].2.2.1) ∧ w'.cell? ⟨wr.heap.size, 3, none⟩ = some (.int .i64 xs[k].2.2.2) ∧ w'.cell? ⟨b, off + m * 4, none⟩ = some (.string xs[m].1) ∧ w'.cell? ⟨b, off + m * 4 + 1, none⟩ = some (.string xs[m].2.1) ∧ w'.cell? ⟨b, off + m * 4 + 2, none⟩ = some (.bool xs[m].2.2.1) ∧ w'.cell? ⟨b, off + m * 4 + 3, none⟩ = some (.int .i64 xs[m].2.2.2)) (by kernel_rfl) ⟨HX.out.c0, HX.out.c1, HX.out.c2, HX.out.c3, HPM.out⟩ (fun hHeld => ?_)
       (refine ti 0 ?_; simp only [Act.put, tA, tB, tD, tE, tF])
       refine wpAnyH_ready (rs := [1]) (by kernel_rfl) (by simp) ?_
       refine AllReadyH.cons rfl (fun K hK => ?_) AllReadyH.nil
       go_simp
       go_wp2_with fail
       refine (C1.out _).mono ?_
       rintro e w2 ⟨rfl, hb2⟩
       have Q := HX.out.below (undrew hb2)
       have P2 := pcells.below' HPM.out hbl' (undrew hb2)
       go_wp2_with fail
       refine hK.out _ _ ⟨Q.c0, Q.c1, Q.c2, Q.c3, P2⟩ (fun hHeld2 => ?_)
       clear hK K
       (refine ti 2 ?_; simp only [Act.put, tA, tB, tC, tD, tE, tF])
       (refine ti 3 ?_; simp only [Act.put, tA, tB, tC, tD, tE, tF])
       (refine ti 4 ?_; simp only [Act.put, tA, tB, tC, tD, tE, tF])
       (refine ti 5 ?_; simp only [Act.put, tA, tB, tC, tD, tE, tF])
       (refine ti 6 ?_; simp only [Act.put, tA, tB, tC, tD, tE, tF])
       (refine ti 7 ?_; simp only [Act.put, tA, tB, tC, tD, tE, tF])
       (refine ti 8 ?_; simp only [Act.put, tA, tB, tC, tD, tE, tF])
       (refine ti 9 ?_; simp only [Act.put, tA, tB, tC, tD, tE, tF])
       (refine ti 10 ?_; simp only [Act.put, tA, tB, tC, tD, tE, tF])
       (refine ti 11 ?_; simp only [Act.put, tA, tB, tC, tD, tE, tF])
       (refine ti 12 ?_; simp only [Act.put, tA, tB, tC, tD, tE, tF])
       refine wpAnyH_ready (rs := [13]) (by kernel_rfl) (by simp) ?_
       refine AllReadyH.cons rfl (fun K hK => ?_) AllReadyH.nil
       go_simp
       go_wp2_with fail
       refine (C2.out _).mono ?_
       rintro e w3 ⟨rfl, hb3⟩
       have Q3 := Q.below hb3
       have P3 := pcells.below' P2 (Nat.lt_of_lt_of_le hbl' hb2.size) hb3
       go_wp2_with fail
       refine hK.out _ _ ⟨Q3.c0, Q3.c1, Q3.c2, Q3.c3, P3⟩ (fun hHeld3 => ?_)
       clear hK K
       (refine ti 14 ?_; simp only [Act.put, tA, tB, tC, tD, tE, tF])
       (refine ti 15 ?_; simp only [Act.put, tA, tB, tC, tD, tE, tF])
       (refine ti 16 ?_; simp only [Act.put, tA, tB, tC, tD, tE, tF])
       refine wpAnyH_done (by kernel_rfl) ?_ _
       go_wp2
       go_ret
       exact ⟨ret_bool HN.out.symm, (HB1.out.trans ((undrew hb2).mono HB1.out.size)).trans (hb3.mono (Nat.le_trans HB1.out.size hb2.size))⟩
      ·have C1 : Hid (∀ w, Calls Tryz.prog 132 #[.agg #[.string xs[k].1, .string xs[k].2.1, .bool xs[k].2.2.1, .int .i64 xs[k].2.2.2]] w fun e w' => e = .returned (.bool true) ∧ Below w.heap.size w w') := fun w => hw ▸ iver54 xs[k] w
       have HX3 : Hid (0 < k ∧ m = k - 1) := ⟨by omega, HM.out⟩
       have HG2 : Hid (GoodV xs (k + 1)) := goodv_more HG.out hlt ⟨hw, fun h => by simp only [← EM.out]; exact hl⟩
       have hc0 : decide ((0 : Int) ≤ cmpV xs[m] xs[k]) = false := by have := (cmpV_neg xs[m] xs[k]).2 hl; simp; omega
       have C2 : Hid (∀ w, Calls Tryz.prog 133 #[.agg #[.string xs[m].1, .string xs[m].2.1, .bool xs[m].2.2.1, .int .i64 xs[m].2.2.2], .agg #[.string xs[k].1, .string xs[k].2.1, .bool xs[k].2.2.1, .int .i64 xs[k].2.2.2]] w fun e w' => e = .returned (.int .i64 (cmpV xs[m] xs[k])) ∧ Below w.heap.size w w') := fun w => cmp55 xs[m] xs[k] w
       generalize cmpV xs[m] xs[k] = cv at *
       clear hw hl
       go_wp2
       generalize (wr.alloc (.cells #[.string xs[k].1, .string xs[k].2.1, .bool xs[k].2.2.1, .int .i64 xs[k].2.2.2] 106)) = W1 at *
       have hzd : decide (0 < k) = true := by have := HX3.out; simp; omega
       have e9 : IntKind.i64.wrap ((k : Int) - 1) = (m : Int) := by have := HX3.out; rw [IntKind.wrap_i64]; omega
       have e10 : (k : Int) - 1 = (m : Int) := by have := HX3.out; omega
       have e11 : IntKind.i64.wrap (m : Int) = (m : Int) := by rw [IntKind.wrap_i64]; omega
       refine wp_region_held_drew (S := fun w' => w'.cell? ⟨wr.heap.size, 0, none⟩ = some (.string xs[k].1) ∧ w'.cell? ⟨wr.heap.size, 1, none⟩ = some (.string xs[k].2.1) ∧ w'.cell? ⟨wr.heap.size, 2, none⟩ = some (.bool xs[k].2.2.1) ∧ w'.cell? ⟨wr.heap.size, 3, none⟩ = some (.int .i64 xs[k].2.2.2) ∧ w'.cell? ⟨b, off + m * 4, none⟩ = some (.string xs[m].1) ∧ w'.cell? ⟨b, off + m * 4 + 1, none⟩ = some (.string xs[m].2.1) ∧ w'.cell? ⟨b, off + m * 4 + 2, none⟩ = some (.bool xs[m].2.2.1) ∧ w'.cell? ⟨b, off + m * 4 + 3, none⟩ = some (.int .i64 xs[m].2.2.2)) (by kernel_rfl) ⟨HX.out.c0, HX.out.c1, HX.out.c2, HX.out.c3, HPM.out⟩ (fun hHeld => ?_)
       (refine ti 0 ?_; simp only [Act.put, tA, tB, tD, tE, tF])
       refine wpAnyH_ready (rs := [1]) (by kernel_rfl) (by simp) ?_
       refine AllReadyH.cons rfl (fun K hK => ?_) AllReadyH.nil
       go_simp
       go_wp2_with fail
       refine (C1.out _).mono ?_
       rintro e w2 ⟨rfl, hb2⟩
       have Q := HX.out.below (undrew hb2)
       have P2 := pcells.below' HPM.out hbl' (undrew hb2)
       go_wp2_with fail
       refine hK.out _ _ ⟨Q.c0, Q.c1, Q.c2, Q.c3, P2⟩ (fun hHeld2 => ?_)
       clear hK K
       (refine ti 2 ?_; simp only [Act.put, tA, tB, tC, tD, tE, tF])
       (refine ti 3 ?_; simp only [Act.put, tA, tB, tC, tD, tE, tF])
       (refine ti 4 ?_; simp only [Act.put, tA, tB, tC, tD, tE, tF])
       (refine ti 5 ?_; simp only [Act.put, tA, tB, tC, tD, tE, tF])
       (refine ti 6 ?_; simp only [Act.put, tA, tB, tC, tD, tE, tF])
       (refine ti 7 ?_; simp only [Act.put, tA, tB, tC, tD, tE, tF])
       (refine ti 8 ?_; simp only [Act.put, tA, tB, tC, tD, tE, tF])
       (refine ti 9 ?_; simp only [Act.put, tA, tB, tC, tD, tE, tF])
       (refine ti 10 ?_; simp only [Act.put, tA, tB, tC, tD, tE, tF])
       (refine ti 11 ?_; simp only [Act.put, tA, tB, tC, tD, tE, tF])
       (refine ti 12 ?_; simp only [Act.put, tA, tB, tC, tD, tE, tF])
       refine wpAnyH_ready (rs := [13]) (by kernel_rfl) (by simp) ?_
       refine AllReadyH.cons rfl (fun K hK => ?_) AllReadyH.nil
       go_simp
       go_wp2_with fail
       refine (C2.out _).mono ?_
       rintro e w3 ⟨rfl, hb3⟩
       have Q3 := Q.below hb3
       have P3 := pcells.below' P2 (Nat.lt_of_lt_of_le hbl' hb2.size) hb3
       go_wp2_with fail
       refine hK.out _ _ ⟨Q3.c0, Q3.c1, Q3.c2, Q3.c3, P3⟩ (fun hHeld3 => ?_)
       clear hK K
       (refine ti 14 ?_; simp only [Act.put, tA, tB, tC, tD, tE, tF])
       (refine ti 15 ?_; simp only [Act.put, tA, tB, tC, tD, tE, tF])
       (refine ti 16 ?_; simp only [Act.put, tA, tB, tC, tD, tE, tF])
       refine wpAnyH_done (by kernel_rfl) ?_ _
       go_wp2
       go_roundw
       case rel => exact ⟨k + 1, by omega, by go_num, HG2, (HB1.out.trans ((undrew hb2).mono HB1.out.size)).trans (hb3.mono (Nat.le_trans HB1.out.size hb2.size))⟩
       case measure => simp [intOf]; omega
   ·have hlt' : ¬ (k : Int) < (xs.length : Int) := by omega
    have HT : Hid (versB xs = true) := goodv_all HG.out (by omega) h8
    go_wp2
    go_ret
    exact ⟨ret_bool HT.out.symm, HB.out⟩
 ·have h8' : (120 : Int) < (xs.length : Int) := by omega
  have HN : Hid (versB xs = false) := goodv_len h8
  clear h8
  go_enter Tryz.func122, Tryz.ntmps122
  go_wp2
  go_ret
  exact ⟨ret_bool HN.out.symm, belowRefl w⟩
end Go.Proofs.YtpnnncfbodfnhaaGreatDoor

namespace Go.Proofs.YtpnnncfbodfnhaaGreatDoor
open Go.RowKit
open KM
theorem grown_trans {a b c : World} {row : Option Nat} (h : a.grownBy b row) (k : b.grownBy c row) : a.grownBy c row :=
 ⟨k.os.trans h.os, k.tape.trans h.tape, k.output.trans h.output, Nat.le_trans h.size k.size, fun j hj hne => (k.block j (Nat.lt_of_lt_of_le hj h.size) hne).trans (h.block j hj hne)⟩
theorem grown_refl (w : World) (row : Option Nat) : w.grownBy w row := ⟨rfl, rfl, rfl, Nat.le_refl _, fun _ _ _ => rfl⟩
theorem grown_set (w : World) (g k : Nat) (v : Value) : w.grownBy (w.setCell ⟨g, k, none⟩ v) (some g) :=
 ⟨rfl, rfl, rfl, by simp [World.setCell], fun j _ hne => Below.heap_setCell _ _ _ _ (fun e => hne (by rw [e]))⟩
theorem grown_below {w w' : World} (row : Option Nat) (hb : Below w.heap.size w w') : w.grownBy w' row := ⟨hb.os, hb.tape, hb.output, hb.size, fun j hj _ => hb.block j hj⟩
theorem addr_ne (g : Nat) {i k : Nat} (h : i ≠ k) : (⟨g, i, none⟩ : Addr) ≠ ⟨g, k, none⟩ := fun e => h (by cases e; rfl)
structure Bx (w : World) (b : Nat) (cs : List Value) : Prop where
 lt : b < w.heap.size
 at' : ∀ j, j < cs.length → w.cell? ⟨b, j, none⟩ = cs[j]?
 fz : ∀ j, w.frozen? ⟨b, j, none⟩ = false
section
variable {w w' : World} {b : Nat} {cs : List Value}
theorem Bx.below (h : Bx w b cs) (hb : Below w.heap.size w w') : Bx w' b cs :=
 ⟨Nat.lt_of_lt_of_le h.lt hb.size, fun j hj => (hb.cell (p := ⟨b, j, none⟩) h.lt).trans (h.at' j hj), fun j => (hb.frozen (p := ⟨b, j, none⟩) h.lt).trans (h.fz j)⟩
theorem Bx.new (w : World) (cs : List Value) (T : Nat) : Bx (w.alloc (.cells cs.toArray T)) w.heap.size cs :=
 ⟨by simp, fun j hj => (World.cell?_alloc_mark w _ T (0, 0) j).trans (by simp), fun j => by
  rw [show (w.alloc (.cells cs.toArray T)).frozen? ⟨w.heap.size, j, none⟩ = _ from World.frozen?_alloc_mark w _ T 0 0 j]
  simp⟩
theorem Bx.alloc (h : Bx w b cs) (o : Obj) : Bx (w.alloc o) b cs := h.below ((belowRefl w).alloc (Nat.le_refl _) o)
theorem Bx.drew (h : Bx w b cs) : Bx w.drew b cs := h.below ((belowRefl w).drew)
theorem Bx.grown {g : Nat} (h : Bx w b cs) (hg : w.grownBy w' (some g)) (hne : b ≠ g) : Bx w' b cs := by
 have hb := hg.block b h.lt (fun e => hne (Option.some.inj e))
 refine ⟨Nat.lt_of_lt_of_le h.lt hg.size, fun j hj => (World.cell?_of_block (w := w) (a := ⟨b, j, none⟩) hb).trans (h.at' j hj), fun j => ?_⟩
 have := h.fz j
 unfold World.frozen? at this ⊢
 simp only at this ⊢
 rw [hb]; exact this
theorem Bx.set (h : Bx w b cs) (j : Nat) (u : Value) : Bx (w.setCell ⟨b, j, none⟩ u) b (cs.set j u) := by
 refine ⟨by simpa [World.setCell] using h.lt, fun i hi => ?_, fun i => by rw [World.frozen?_setCell]; exact h.fz i⟩
 have hi' : i < cs.length := by simpa using hi
 have hci := h.at' i hi'
 rw [List.getElem?_eq_getElem hi'] at hci
 by_cases e : i = j
 ·subst e
  rw [World.cell?_setCell_same _ _ _ hci, List.getElem?_set_self hi']
 ·rw [World.cell?_setCell_other _ _ _ _ (addr_ne b (fun e' => e e'.symm)), List.getElem?_set_ne (fun e' => e e'.symm)]
  exact h.at' i hi'
theorem Bx.setO (h : Bx w b cs) {p : Addr} (hne : p.block ≠ b) (u : Value) : Bx (w.setCell p u) b cs :=
 h.grown (g := p.block) ⟨rfl, rfl, rfl, by simp [World.setCell], fun j _ hne => Below.heap_setCell _ _ _ _ (fun e => hne (by rw [e]))⟩ (fun e => hne e.symm)
theorem Bx.c0 {x : Value} {r : List Value} (h : Bx w b (x :: r)) : w.cell? ⟨b, 0, none⟩ = some x := h.at' 0 (by simp)
theorem Bx.c1 {x y : Value} {r : List Value} (h : Bx w b (x :: y :: r)) : w.cell? ⟨b, 1, none⟩ = some y := h.at' 1 (by simp)
theorem Bx.c2 {x y z : Value} {r : List Value} (h : Bx w b (x :: y :: z :: r)) : w.cell? ⟨b, 2, none⟩ = some z := h.at' 2 (by simp)
theorem Bx.c3 {x y z u : Value} {r : List Value} (h : Bx w b (x :: y :: z :: u :: r)) : w.cell? ⟨b, 3, none⟩ = some u := h.at' 3 (by simp)
theorem Bx.c4 {x y z u v : Value} {r : List Value} (h : Bx w b (x :: y :: z :: u :: v :: r)) : w.cell? ⟨b, 4, none⟩ = some v := h.at' 4 (by simp)
end

structure Kn (bs : List Nat) (w w' : World) : Prop where
 os : w'.os = w.os
 tape : w'.tape = w.tape
 output : w'.output = w.output
 size : w.heap.size ≤ w'.heap.size
 block : ∀ j, j < w.heap.size → j ∉ bs → w'.heap[j]? = w.heap[j]?
theorem Kn.refl (bs : List Nat) (w : World) : Kn bs w w := ⟨rfl, rfl, rfl, Nat.le_refl _, fun _ _ _ => rfl⟩
theorem Kn.trans {bs : List Nat} {a b c : World} (h : Kn bs a b) (k : Kn bs b c) : Kn bs a c :=
 ⟨k.os.trans h.os, k.tape.trans h.tape, k.output.trans h.output, Nat.le_trans h.size k.size, fun j hj hn => (k.block j (Nat.lt_of_lt_of_le hj h.size) hn).trans (h.block j hj hn)⟩
theorem Kn.mono {bs cs : List Nat} {a b : World} (h : Kn bs a b) (hs : ∀ x ∈ bs, x ∈ cs) : Kn cs a b := ⟨h.os, h.tape, h.output, h.size, fun j hj hn => h.block j hj (fun m => hn (hs j m))⟩
theorem Kn.ofBelow {bs : List Nat} {w w' : World} (h : Below w.heap.size w w') : Kn bs w w' := ⟨h.os, h.tape, h.output, h.size, fun j hj _ => h.block j hj⟩
theorem Kn.below {bs : List Nat} {base : Nat} {w w' : World} (h : Kn bs w w') (hb : base ≤ w.heap.size) (hs : ∀ x ∈ bs, base ≤ x) : Below base w w' :=
 ⟨h.os, h.tape, h.output, h.size, fun j hj => h.block j (by omega) (fun m => by have := hs j m; omega)⟩
theorem Kn.set (w : World) (g k : Nat) (v : Value) : Kn [g] w (w.setCell ⟨g, k, none⟩ v) :=
 ⟨rfl, rfl, rfl, by simp [World.setCell], fun j _ hne => Below.heap_setCell _ _ _ _ (fun e => hne (by simp [e]))⟩
theorem Bx.kn {bs : List Nat} {w w' : World} {b : Nat} {cs : List Value} (h : Bx w b cs) (hg : Kn bs w w') (hne : b ∉ bs) : Bx w' b cs := by
 have hb := hg.block b h.lt hne
 refine ⟨Nat.lt_of_lt_of_le h.lt hg.size, fun j hj => (World.cell?_of_block (w := w) (a := ⟨b, j, none⟩) hb).trans (h.at' j hj), fun j => ?_⟩
 have := h.fz j
 unfold World.frozen? at this ⊢
 simp only at this ⊢
 rw [hb]; exact this

abbrev Nd := Nat × Vr
def ptq (ns : List Nd) (q : Option Addr) : Option Addr := match ns with
 | [] => q
 | n :: _ => some ⟨n.1, 0, none⟩
def ndc (v : Vr) (q : Option Addr) : List Value := [.string v.1, .string v.2.1, .bool v.2.2.1, .int .i64 v.2.2.2, .pointer q]
def Seg (w : World) : List Nd → Option Addr → Prop
 | [], _ => True
 | n :: ns, q => Bx w n.1 (ndc n.2 (ptq ns q)) ∧ Seg w ns q
theorem seg_app {w : World} : ∀ (A B : List Nd) (q : Option Addr), Seg w (A ++ B) q ↔ Seg w A (ptq B q) ∧ Seg w B q
 | [], B, q => by simp [Seg]
 | n :: A, B, q => by
  have ih := seg_app (w := w) A B q
  have e : ptq (A ++ B) q = ptq A (ptq B q) := by cases A <;> rfl
  simp only [List.cons_append, Seg, e, ih, and_assoc]
theorem seg_below {w w' : World} (hb : Below w.heap.size w w') : ∀ (A : List Nd) (q : Option Addr), Seg w A q → Seg w' A q
 | [], _, _ => trivial
 | _ :: A, q, h => ⟨h.1.below hb, seg_below hb A q h.2⟩
theorem seg_kn {bs : List Nat} {w w' : World} (hk : Kn bs w w') : ∀ (A : List Nd) (q : Option Addr), (∀ n ∈ A, n.1 ∉ bs) → Seg w A q → Seg w' A q
 | [], _, _, _ => trivial
 | n :: A, q, hn, h => ⟨h.1.kn hk (hn n (by simp)), seg_kn hk A q (fun m hm => hn m (by simp [hm])) h.2⟩
theorem seg_lt {w : World} : ∀ (A : List Nd) (q : Option Addr), Seg w A q → ∀ n ∈ A, n.1 < w.heap.size
 | n :: A, q, h, m, hm => by
  rcases List.mem_cons.1 hm with rfl | hm
  ·exact h.1.lt
  ·exact seg_lt A q h.2 m hm
structure Chn (w : World) (base c : Nat) (all : List Nd) : Prop where
 bx : Bx w c [.pointer (ptq all none)]
 seg : Seg w all none
 nd : (c :: all.map (·.1)).Nodup
 lo : ∀ b ∈ c :: all.map (·.1), base ≤ b
theorem Chn.below {w w' : World} {base c : Nat} {all : List Nd} (h : Chn w base c all) (hb : Below w.heap.size w w') : Chn w' base c all := ⟨h.bx.below hb, seg_below hb _ _ h.seg, h.nd, h.lo⟩
theorem Chn.kn {bs : List Nat} {w w' : World} {base c : Nat} {all : List Nd} (h : Chn w base c all) (hk : Kn bs w w') (hn : ∀ b ∈ c :: all.map (·.1), b ∉ bs) : Chn w' base c all :=
 ⟨h.bx.kn hk (hn c (by simp)), seg_kn hk _ _ (fun n hm => hn n.1 (List.mem_cons_of_mem _ (List.mem_map.2 ⟨n, hm, rfl⟩))) h.seg, h.nd, h.lo⟩
theorem Chn.lt {w : World} {base c : Nat} {all : List Nd} (h : Chn w base c all) : ∀ b ∈ c :: all.map (·.1), b < w.heap.size := fun b hb => by
 rcases List.mem_cons.1 hb with rfl | hb
 ·exact h.bx.lt
 ·obtain ⟨n, hn, rfl⟩ := List.mem_map.1 hb
  exact seg_lt _ _ h.seg n hn

theorem Chn.at' {w : World} {base c : Nat} {A B : List Nd} {m : Nd} (h : Chn w base c (A ++ m :: B)) : Bx w m.1 (ndc m.2 (ptq B none)) := ((seg_app A (m :: B) none).1 h.seg).2.1
theorem Chn.mem {w : World} {base c : Nat} {all : List Nd} {m : Nd} (h : Chn w base c all) (hm : m ∈ all) : ∃ q, Bx w m.1 (ndc m.2 q) := by
 obtain ⟨A, B, rfl⟩ := List.append_of_mem hm
 exact ⟨_, h.at'⟩

end Go.Proofs.YtpnnncfbodfnhaaGreatDoor
