/- What VersionsOk returns, on both sides. -/
import Derived.Test.YtjeicgibddfifaaGreatPa04
namespace Go.Proofs.YtjeicgibddfifaaGreat
open Go.RowKit
open KM
attribute [local go_sem ↓] Go.wp_at_zero Go.wp_at_succ

theorem toList_data (s : ByteArray) : s.toList = s.data.toList := by
 obtain ⟨⟨l⟩⟩ := s
 exact ByteArray.toList_mk l
theorem toList_inj {a b : ByteArray} (h : a.toList = b.toList) : a = b := by
 rw [toList_data, toList_data] at h
 obtain ⟨⟨a⟩⟩ := a
 obtain ⟨⟨b⟩⟩ := b
 have h' : a = b := h
 rw [h']
theorem beq_text (a b : ByteArray) : (a.toList == b.toList) = decide (a = b) := by
 by_cases h : a = b
 ·subst h; simp
 ·rw [decide_eq_false h, beq_eq_false_iff_ne]
  exact fun e => h (toList_inj e)
theorem cb_lt : ∀ a b : List UInt8, (Lib.compareBytes a b < 0) ↔ Op.bytesLess a b = true
 | [], [] => by simp [Lib.compareBytes, Op.bytesLess]
 | [], _ :: _ => by simp [Lib.compareBytes, Op.bytesLess]
 | _ :: _, [] => by simp [Lib.compareBytes, Op.bytesLess]
 | x :: a, y :: b => by
  have ih := cb_lt a b
  simp only [Lib.compareBytes, Op.bytesLess, Bool.or_eq_true, decide_eq_true_eq, Bool.and_eq_true, beq_iff_eq]
  by_cases h1 : x < y
  ·simp [h1]
  ·by_cases h2 : y < x
   ·have h3 : x ≠ y := fun e => by subst e; exact h1 h2
    simp [h1, h2, h3]
   ·have h3 : x = y := by
     have a1 : ¬ x.toNat < y.toNat := fun h => h1 (UInt8.lt_iff_toNat_lt.2 h)
     have a2 : ¬ y.toNat < x.toNat := fun h => h2 (UInt8.lt_iff_toNat_lt.2 h)
     exact UInt8.toNat_inj.1 (by omega)
    rw [if_neg h1, if_neg h2]
    constructor
    ·exact fun h => Or.inr ⟨h3, ih.1 h⟩
    ·rintro (h | ⟨_, h⟩)
     ·exact absurd h h1
     ·exact ih.2 h
theorem cb_eq : ∀ a b : List UInt8, Lib.compareBytes a b = 0 ↔ a = b
 | [], [] => by simp [Lib.compareBytes]
 | [], _ :: _ => by simp [Lib.compareBytes]
 | _ :: _, [] => by simp [Lib.compareBytes]
 | x :: a, y :: b => by
  have ih := cb_eq a b
  simp only [Lib.compareBytes, List.cons.injEq]
  by_cases h1 : x < y
  ·have h3 : x ≠ y := fun e => by subst e; exact absurd (UInt8.lt_iff_toNat_lt.1 h1) (by omega)
   simp [h1, h3]
  ·by_cases h2 : y < x
   ·have h3 : x ≠ y := fun e => by subst e; exact h1 h2
    simp [h1, h2, h3]
   ·have h3 : x = y := by
     have a1 : ¬ x.toNat < y.toNat := fun h => h1 (UInt8.lt_iff_toNat_lt.2 h)
     have a2 : ¬ y.toNat < x.toNat := fun h => h2 (UInt8.lt_iff_toNat_lt.2 h)
     exact UInt8.toNat_inj.1 (by omega)
    rw [if_neg h1, if_neg h2]
    simp [h3, ih]

def asc (a b : Vr) : Bool := lt a.1 b.1 || (decide (a.1 = b.1) && decide (a.2.2.2 < b.2.2.2))
theorem ci_lt (x y : Int) : Lib.compareInt x y < 0 ↔ x < y := by
 unfold Lib.compareInt
 split
 ·simp_all
 ·split <;> simp_all
theorem cmpV_neg (a b : Vr) : cmpV a b < 0 ↔ asc a b = true := by
 unfold cmpV orI asc lt
 simp only [Bool.or_eq_true, Bool.and_eq_true, decide_eq_true_eq]
 split
 ·rename_i h
  have h' := (cb_eq _ _).1 h
  have e : a.1 = b.1 := toList_inj (by rw [toList_data, toList_data]; exact h')
  rw [ci_lt, e, less_irrefl]
  simp
 ·rename_i h
  have h' : ¬ a.1 = b.1 := fun e => h ((cb_eq _ _).2 (by rw [e]))
  rw [cb_lt, toList_data, toList_data]
  simp [h']
def verB (v : Vr) : Bool := writeB (v.1, v.2.1, v.2.2.1) && decide (1 ≤ v.2.2.2) && decide (v.2.2.2 ≤ 9999)
def versB (xs : List Vr) : Bool := decide (xs.length ≤ 120) && decide (∀ j (h : j < xs.length), verB xs[j] = true ∧ ∀ (_ : 0 < j), asc (xs[j - 1]'(by omega)) xs[j] = true)
def GoodV (xs : List Vr) (k : Nat) : Prop := ∀ j (h : j < xs.length), j < k → verB xs[j] = true ∧ ∀ (_ : 0 < j), asc (xs[j - 1]'(by omega)) xs[j] = true
theorem goodv_all {xs : List Vr} {k : Nat} (h : GoodV xs k) (hk : xs.length ≤ k) (h8 : xs.length ≤ 120) : versB xs = true := by
 unfold versB
 simp only [Bool.and_eq_true, decide_eq_true_eq]
 exact ⟨h8, fun j hj => h j hj (by omega)⟩
theorem goodv_len {xs : List Vr} (h8 : ¬ xs.length ≤ 120) : versB xs = false := by
 unfold versB
 rw [decide_eq_false h8]; rfl
theorem goodv_whole {xs : List Vr} {k : Nat} (h : GoodV xs k) (hk : xs.length ≤ k) : decide (xs.length ≤ 120) = versB xs := by
 by_cases h8 : xs.length ≤ 120
 ·rw [goodv_all h hk h8, decide_eq_true h8]
 ·rw [goodv_len h8, decide_eq_false h8]
theorem goodv_no {xs : List Vr} (k : Nat) (hk : k < xs.length) (h : ¬ (verB xs[k] = true ∧ ∀ (_ : 0 < k), asc (xs[k - 1]'(by omega)) xs[k] = true)) : versB xs = false := by
 cases hw : versB xs
 ·rfl
 ·unfold versB at hw
  simp only [Bool.and_eq_true, decide_eq_true_eq] at hw
  exact absurd (hw.2 k hk) h
theorem goodv_more {xs : List Vr} {k : Nat} (h : GoodV xs k) (hk : k < xs.length) (h2 : verB xs[k] = true ∧ ∀ (_ : 0 < k), asc (xs[k - 1]'(by omega)) xs[k] = true) : GoodV xs (k + 1) := fun j hj hlt => by
 by_cases e : j = k
 ·subst e; exact h2
 ·exact h j hj (by omega)

set_option maxRecDepth 100000 in
set_option maxHeartbeats 1000000 in
theorem iver54 (v : Vr) (w : World) : Calls Tryz.prog 96 #[.agg #[.string v.1, .string v.2.1, .bool v.2.2.1, .int .i64 v.2.2.2]] w fun e w' => e = .returned (.bool (verB v)) ∧ Below w.heap.size w w' := by
 have A0 : Hid (Below w.heap.size w (w.alloc (.cells #[.string v.1, .string v.2.1, .bool v.2.2.1, .int .i64 v.2.2.2] 85))) := (belowRefl w).alloc (Nat.le_refl _) _
 have X0 : Hid (Box (w.alloc (.cells #[.string v.1, .string v.2.1, .bool v.2.2.1, .int .i64 v.2.2.2] 85)) w.heap.size [.string v.1, .string v.2.1, .bool v.2.2.1, .int .i64 v.2.2.2]) := Box.new w [.string v.1, .string v.2.1, .bool v.2.2.1, .int .i64 v.2.2.2] 85
 cases hw : writeB (v.1, v.2.1, v.2.2.1)
 ·have C1 : Hid (∀ w, Calls Tryz.prog 42 #[.agg #[.string v.1, .string v.2.1, .bool v.2.2.1]] w fun e w' => e = .returned (.bool false) ∧ Below w.heap.size w w') := fun w => hw ▸ iwrite v.1 v.2.1 v.2.2.1 w
  have HN : Hid (verB v = false) := by show _ = _; unfold verB; rw [hw]; rfl
  clear hw
  go_enter Tryz.func96, Tryz.ntmps96
  go_wp2_with fail
  refine (C1.out _).mono ?_
  rintro e w2 ⟨rfl, hb2⟩
  have X2 := X0.out.below hb2
  have q3 := X2.c3
  clear X2
  go_wp2
  go_ret
  exact ⟨ret_bool HN.out.symm, A0.out.trans (hb2.mono A0.out.size)⟩
 ·by_cases h1 : 1 ≤ v.2.2.2
  ·by_cases h2 : v.2.2.2 ≤ 9999
   ·have C1 : Hid (∀ w, Calls Tryz.prog 42 #[.agg #[.string v.1, .string v.2.1, .bool v.2.2.1]] w fun e w' => e = .returned (.bool true) ∧ Below w.heap.size w w') := fun w => hw ▸ iwrite v.1 v.2.1 v.2.2.1 w
    have HN : Hid (verB v = true) := by show _ = _; unfold verB; rw [hw]; simp; omega
    have h1' : decide ((1 : Int) ≤ v.2.2.2) = true := by simpa using h1
    have h2' : decide (v.2.2.2 ≤ (9999 : Int)) = true := by simpa using h2
    clear hw h1 h2
    go_enter Tryz.func96, Tryz.ntmps96
    go_wp2_with fail
    refine (C1.out _).mono ?_
    rintro e w2 ⟨rfl, hb2⟩
    have X2 := X0.out.below hb2
    have q3 := X2.c3
    clear X2
    go_wp2
    go_ret
    exact ⟨ret_bool HN.out.symm, A0.out.trans (hb2.mono A0.out.size)⟩
   ·have C1 : Hid (∀ w, Calls Tryz.prog 42 #[.agg #[.string v.1, .string v.2.1, .bool v.2.2.1]] w fun e w' => e = .returned (.bool true) ∧ Below w.heap.size w w') := fun w => hw ▸ iwrite v.1 v.2.1 v.2.2.1 w
    have HN : Hid (verB v = false) := by show _ = _; unfold verB; rw [hw]; simp; omega
    have h1' : decide ((1 : Int) ≤ v.2.2.2) = true := by simpa using h1
    have h2' : decide (v.2.2.2 ≤ (9999 : Int)) = false := by simpa using h2
    clear hw h1 h2
    go_enter Tryz.func96, Tryz.ntmps96
    go_wp2_with fail
    refine (C1.out _).mono ?_
    rintro e w2 ⟨rfl, hb2⟩
    have X2 := X0.out.below hb2
    have q3 := X2.c3
    clear X2
    go_wp2
    go_ret
    exact ⟨ret_bool HN.out.symm, A0.out.trans (hb2.mono A0.out.size)⟩
  ·have C1 : Hid (∀ w, Calls Tryz.prog 42 #[.agg #[.string v.1, .string v.2.1, .bool v.2.2.1]] w fun e w' => e = .returned (.bool true) ∧ Below w.heap.size w w') := fun w => hw ▸ iwrite v.1 v.2.1 v.2.2.1 w
   have HN : Hid (verB v = false) := by show _ = _; unfold verB; rw [hw]; simp; omega
   have h1' : decide ((1 : Int) ≤ v.2.2.2) = false := by simpa using h1
   clear hw h1
   go_enter Tryz.func96, Tryz.ntmps96
   go_wp2_with fail
   refine (C1.out _).mono ?_
   rintro e w2 ⟨rfl, hb2⟩
   have X2 := X0.out.below hb2
   have q3 := X2.c3
   clear X2
   go_wp2
   go_ret
   exact ⟨ret_bool HN.out.symm, A0.out.trans (hb2.mono A0.out.size)⟩

def pcells (w : World) (b o : Nat) (v : Vr) : Prop := w.cell? ⟨b, o, none⟩ = some (.string v.1) ∧ w.cell? ⟨b, o + 1, none⟩ = some (.string v.2.1) ∧ w.cell? ⟨b, o + 2, none⟩ = some (.bool v.2.2.1) ∧ w.cell? ⟨b, o + 3, none⟩ = some (.int .i64 v.2.2.2)
theorem pcells.below' {w w' : World} {b o : Nat} {v : Vr} (h : pcells w b o v) (hb : b < w.heap.size) (hw : Below w.heap.size w w') : pcells w' b o v :=
 ⟨(hw.cell (p := ⟨b, o, none⟩) hb).trans h.1, (hw.cell (p := ⟨b, o + 1, none⟩) hb).trans h.2.1, (hw.cell (p := ⟨b, o + 2, none⟩) hb).trans h.2.2.1, (hw.cell (p := ⟨b, o + 3, none⟩) hb).trans h.2.2.2⟩

set_option maxRecDepth 100000 in
set_option maxHeartbeats 4000000 in
theorem ivers (xs : List Vr) (a : Option Addr) (c : Nat) (hn : xs.length ≤ 100000000) (w : World) (hp : GRow encV w a xs) :
  Calls Tryz.prog 53 #[.slice a xs.length c] w fun e w' => e = .returned (.bool (versB xs)) ∧ Below w.heap.size w w' := by
 have HP : Hid (GRow encV w a xs) := hp
 clear hp
 by_cases h8 : xs.length ≤ 120
 ·have h8' : ¬ (120 : Int) < (xs.length : Int) := by omega
  go_enter Tryz.func53, Tryz.ntmps53
  go_wp2
  go_loopw [10] (fun t wr => ∃ k : Nat, k ≤ xs.length ∧ t = .int .i64 k ∧ Hid (GoodV xs k) ∧ Hid (Below w.heap.size w wr)) (fun t _ => xs.length - (intOf t).toNat)
  case atStart => exact ⟨0, Nat.zero_le _, rfl, fun j hj h => by omega, belowRefl w⟩
  case round =>
   obtain ⟨k, hk, rfl, HG, HB⟩ := hrel
   by_cases hlt : k < xs.length
   ·have hlt' : (k : Int) < (xs.length : Int) := by omega
    have hk0 : (0 : Int) ≤ (k : Int) := by omega
    have HR : Hid (GRow encV wr a xs) := HP.out.below HB.out
    obtain ⟨b, off, rfl, hbl, hc⟩ := HR.out (by omega)
    have c0 := (vat hc k hlt).1
    have c1 := (vat hc k hlt).2.1
    have c2 := (vat hc k hlt).2.2.1
    have c3 := (vat hc k hlt).2.2.2
    have HC : Hid (∀ j (hj : j < xs.length), pcells wr b (off + j * 4) xs[j]) := fun j hj => vat hc j hj
    clear hc
    have HB1 : Hid (Below w.heap.size w (wr.alloc (.cells #[.string xs[k].1, .string xs[k].2.1, .bool xs[k].2.2.1, .int .i64 xs[k].2.2.2] 85))) := HB.out.alloc HB.out.size _
    have HX : Hid (Box (wr.alloc (.cells #[.string xs[k].1, .string xs[k].2.1, .bool xs[k].2.2.1, .int .i64 xs[k].2.2.2] 85)) wr.heap.size [.string xs[k].1, .string xs[k].2.1, .bool xs[k].2.2.1, .int .i64 xs[k].2.2.2]) := Box.new wr [.string xs[k].1, .string xs[k].2.1, .bool xs[k].2.2.1, .int .i64 xs[k].2.2.2] 85
    have hbl' : b < (wr.alloc (.cells #[.string xs[k].1, .string xs[k].2.1, .bool xs[k].2.2.1, .int .i64 xs[k].2.2.2] 85)).heap.size := by simp; omega
    obtain ⟨m, HM, hml⟩ : ∃ m, Hid (m = k - 1) ∧ m < xs.length := ⟨k - 1, rfl, by omega⟩
    have EM : Hid (xs[m] = xs[k - 1]'(by omega)) := by show _ = _; simp only [HM.out]
    have HPM : Hid (pcells (wr.alloc (.cells #[.string xs[k].1, .string xs[k].2.1, .bool xs[k].2.2.1, .int .i64 xs[k].2.2.2] 85)) b (off + m * 4) xs[m]) := (HC.out m hml).below' hbl ((belowRefl wr).alloc (Nat.le_refl _) _)
    cases hw : verB xs[k]
    ·have C1 : Hid (∀ w, Calls Tryz.prog 96 #[.agg #[.string xs[k].1, .string xs[k].2.1, .bool xs[k].2.2.1, .int .i64 xs[k].2.2.2]] w fun e w' => e = .returned (.bool false) ∧ Below w.heap.size w w') := fun w => hw ▸ iver54 xs[k] w
     have HN : Hid (versB xs = false) := goodv_no k hlt (fun h => by rw [hw] at h; cases h.1)
     clear hw
     go_wp2
     generalize (wr.alloc (.cells #[.string xs[k].1, .string xs[k].2.1, .bool xs[k].2.2.1, .int .i64 xs[k].2.2.2] 85)) = W1 at *
     refine wp_region_held_drew (S := fun w' => w'.cell? ⟨wr.heap.size, 0, none⟩ = some (.string xs[k].1) ∧ w'.cell? ⟨wr.heap.size, 1, none⟩ = some (.string xs[k].2.1) ∧ w'.cell? ⟨wr.heap.size, 2, none⟩ = some (.bool xs[k].2.2.1) ∧ w'.cell? ⟨wr.heap.size, 3, none⟩ = some (.int .i64 xs[k].2.2.2)) (by kernel_rfl) ⟨HX.out.c0, HX.out.c1, HX.out.c2, HX.out.c3⟩ (fun hHeld => ?_)
     (refine wpAnyH_take (i := 0) (v := ?_) rfl (by kernel_rfl) (by kernel_rfl) (by kernel_rfl) (fun _ _ _ h => h) (Or.inl ⟨by rfl, ?_⟩) (by assumption) ?_; rotate_left; (focus (intro w hSw; (try dsimp only at hSw); go_simp; (try with_reducible rfl); done)); simp only [Act.put, List.getElem_toArray, List.getElem_cons_zero, List.setIfInBounds_toArray, List.set_cons_zero, List.set_cons_succ])
     refine wpAnyH_ready (rs := [1]) (by kernel_rfl) (by simp) ?_
     refine AllReadyH.cons rfl (fun K hK => ?_) AllReadyH.nil
     go_simp
     go_wp2_with fail
     refine (C1.out _).mono ?_
     rintro e w2 ⟨rfl, hb2⟩
     have Q := HX.out.below (undrew hb2)
     go_wp2_with fail
     refine hK.out _ _ ⟨Q.c0, Q.c1, Q.c2, Q.c3⟩ (fun hHeld2 => ?_)
     clear hK K
     (refine wpAnyH_take (i := 2) (v := ?_) rfl (by kernel_rfl) (by kernel_rfl) (by kernel_rfl) (fun _ _ _ h => h) (Or.inl ⟨by rfl, ?_⟩) (by assumption) ?_; rotate_left; (focus (intro w hSw; (try dsimp only at hSw); go_simp; (try with_reducible rfl); done)); simp only [Act.put, List.getElem_toArray, List.getElem_cons_zero, List.getElem_cons_succ, List.setIfInBounds_toArray, List.set_cons_zero, List.set_cons_succ])
     (refine wpAnyH_take (i := 3) (v := ?_) rfl (by kernel_rfl) (by kernel_rfl) (by kernel_rfl) (fun _ _ _ h => h) (Or.inl ⟨by rfl, ?_⟩) (by assumption) ?_; rotate_left; (focus (intro w hSw; (try dsimp only at hSw); go_simp; (try with_reducible rfl); done)); simp only [Act.put, List.getElem_toArray, List.getElem_cons_zero, List.getElem_cons_succ, List.setIfInBounds_toArray, List.set_cons_zero, List.set_cons_succ])
     (refine wpAnyH_take (i := 4) (v := undef) rfl (by kernel_rfl) (by kernel_rfl) (by kernel_rfl) (fun _ _ _ h => h) (Or.inr ⟨by rfl, rfl⟩) (by assumption) ?_; simp only [Act.put, List.getElem_toArray, List.getElem_cons_zero, List.getElem_cons_succ, List.setIfInBounds_toArray, List.set_cons_zero, List.set_cons_succ])
     (refine wpAnyH_take (i := 5) (v := undef) rfl (by kernel_rfl) (by kernel_rfl) (by kernel_rfl) (fun _ _ _ h => h) (Or.inr ⟨by rfl, rfl⟩) (by assumption) ?_; simp only [Act.put, List.getElem_toArray, List.getElem_cons_zero, List.getElem_cons_succ, List.setIfInBounds_toArray, List.set_cons_zero, List.set_cons_succ])
     (refine wpAnyH_take (i := 6) (v := undef) rfl (by kernel_rfl) (by kernel_rfl) (by kernel_rfl) (fun _ _ _ h => h) (Or.inr ⟨by rfl, rfl⟩) (by assumption) ?_; simp only [Act.put, List.getElem_toArray, List.getElem_cons_zero, List.getElem_cons_succ, List.setIfInBounds_toArray, List.set_cons_zero, List.set_cons_succ])
     (refine wpAnyH_take (i := 7) (v := undef) rfl (by kernel_rfl) (by kernel_rfl) (by kernel_rfl) (fun _ _ _ h => h) (Or.inr ⟨by rfl, rfl⟩) (by assumption) ?_; simp only [Act.put, List.getElem_toArray, List.getElem_cons_zero, List.getElem_cons_succ, List.setIfInBounds_toArray, List.set_cons_zero, List.set_cons_succ])
     (refine wpAnyH_take (i := 8) (v := undef) rfl (by kernel_rfl) (by kernel_rfl) (by kernel_rfl) (fun _ _ _ h => h) (Or.inr ⟨by rfl, rfl⟩) (by assumption) ?_; simp only [Act.put, List.getElem_toArray, List.getElem_cons_zero, List.getElem_cons_succ, List.setIfInBounds_toArray, List.set_cons_zero, List.set_cons_succ])
     (refine wpAnyH_take (i := 9) (v := undef) rfl (by kernel_rfl) (by kernel_rfl) (by kernel_rfl) (fun _ _ _ h => h) (Or.inr ⟨by rfl, rfl⟩) (by assumption) ?_; simp only [Act.put, List.getElem_toArray, List.getElem_cons_zero, List.getElem_cons_succ, List.setIfInBounds_toArray, List.set_cons_zero, List.set_cons_succ])
     (refine wpAnyH_take (i := 10) (v := undef) rfl (by kernel_rfl) (by kernel_rfl) (by kernel_rfl) (fun _ _ _ h => h) (Or.inr ⟨by rfl, rfl⟩) (by assumption) ?_; simp only [Act.put, List.getElem_toArray, List.getElem_cons_zero, List.getElem_cons_succ, List.setIfInBounds_toArray, List.set_cons_zero, List.set_cons_succ])
     (refine wpAnyH_take (i := 11) (v := undef) rfl (by kernel_rfl) (by kernel_rfl) (by kernel_rfl) (fun _ _ _ h => h) (Or.inr ⟨by rfl, rfl⟩) (by assumption) ?_; simp only [Act.put, List.getElem_toArray, List.getElem_cons_zero, List.getElem_cons_succ, List.setIfInBounds_toArray, List.set_cons_zero, List.set_cons_succ])
     (refine wpAnyH_take (i := 12) (v := undef) rfl (by kernel_rfl) (by kernel_rfl) (by kernel_rfl) (fun _ _ _ h => h) (Or.inr ⟨by rfl, rfl⟩) (by assumption) ?_; simp only [Act.put, List.getElem_toArray, List.getElem_cons_zero, List.getElem_cons_succ, List.setIfInBounds_toArray, List.set_cons_zero, List.set_cons_succ])
     (refine wpAnyH_take (i := 13) (v := undef) rfl (by kernel_rfl) (by kernel_rfl) (by kernel_rfl) (fun _ _ _ h => h) (Or.inr ⟨by rfl, rfl⟩) (by assumption) ?_; simp only [Act.put, List.getElem_toArray, List.getElem_cons_zero, List.getElem_cons_succ, List.setIfInBounds_toArray, List.set_cons_zero, List.set_cons_succ])
     (refine wpAnyH_take (i := 14) (v := undef) rfl (by kernel_rfl) (by kernel_rfl) (by kernel_rfl) (fun _ _ _ h => h) (Or.inr ⟨by rfl, rfl⟩) (by assumption) ?_; simp only [Act.put, List.getElem_toArray, List.getElem_cons_zero, List.getElem_cons_succ, List.setIfInBounds_toArray, List.set_cons_zero, List.set_cons_succ])
     (refine wpAnyH_take (i := 15) (v := undef) rfl (by kernel_rfl) (by kernel_rfl) (by kernel_rfl) (fun _ _ _ h => h) (Or.inr ⟨by rfl, rfl⟩) (by assumption) ?_; simp only [Act.put, List.getElem_toArray, List.getElem_cons_zero, List.getElem_cons_succ, List.setIfInBounds_toArray, List.set_cons_zero, List.set_cons_succ])
     (refine wpAnyH_take (i := 16) (v := ?_) rfl (by kernel_rfl) (by kernel_rfl) (by kernel_rfl) (fun _ _ _ h => h) (Or.inl ⟨by rfl, ?_⟩) (by assumption) ?_; rotate_left; (focus (intro w hSw; (try dsimp only at hSw); go_simp; (try with_reducible rfl); done)); simp only [Act.put, List.getElem_toArray, List.getElem_cons_zero, List.getElem_cons_succ, List.setIfInBounds_toArray, List.set_cons_zero, List.set_cons_succ])
     refine wpAnyH_done (by kernel_rfl) ?_ _
     go_wp2
     go_ret
     exact ⟨ret_bool HN.out.symm, HB1.out.trans ((undrew hb2).mono HB1.out.size)⟩
    ·by_cases hz : k = 0
     ·have C1 : Hid (∀ w, Calls Tryz.prog 96 #[.agg #[.string xs[k].1, .string xs[k].2.1, .bool xs[k].2.2.1, .int .i64 xs[k].2.2.2]] w fun e w' => e = .returned (.bool true) ∧ Below w.heap.size w w') := fun w => hw ▸ iver54 xs[k] w
      have hz' : ¬ (0 : Int) < (k : Int) := by omega
      have HG2 : Hid (GoodV xs (k + 1)) := goodv_more HG.out hlt ⟨hw, fun h => by omega⟩
      clear hw hz
      go_wp2
      generalize (wr.alloc (.cells #[.string xs[k].1, .string xs[k].2.1, .bool xs[k].2.2.1, .int .i64 xs[k].2.2.2] 85)) = W1 at *
      have hzd : decide (0 < k) = false := by simp; omega
      refine wp_region_held_drew (S := fun w' => w'.cell? ⟨wr.heap.size, 0, none⟩ = some (.string xs[k].1) ∧ w'.cell? ⟨wr.heap.size, 1, none⟩ = some (.string xs[k].2.1) ∧ w'.cell? ⟨wr.heap.size, 2, none⟩ = some (.bool xs[k].2.2.1) ∧ w'.cell? ⟨wr.heap.size, 3, none⟩ = some (.int .i64 xs[k].2.2.2)) (by kernel_rfl) ⟨HX.out.c0, HX.out.c1, HX.out.c2, HX.out.c3⟩ (fun hHeld => ?_)
      (refine wpAnyH_take (i := 0) (v := ?_) rfl (by kernel_rfl) (by kernel_rfl) (by kernel_rfl) (fun _ _ _ h => h) (Or.inl ⟨by rfl, ?_⟩) (by assumption) ?_; rotate_left; (focus (intro w hSw; (try dsimp only at hSw); go_simp; (try with_reducible rfl); done)); simp only [Act.put, List.getElem_toArray, List.getElem_cons_zero, List.setIfInBounds_toArray, List.set_cons_zero, List.set_cons_succ])
      refine wpAnyH_ready (rs := [1]) (by kernel_rfl) (by simp) ?_
      refine AllReadyH.cons rfl (fun K hK => ?_) AllReadyH.nil
      go_simp
      go_wp2_with fail
      refine (C1.out _).mono ?_
      rintro e w2 ⟨rfl, hb2⟩
      have Q := HX.out.below (undrew hb2)
      go_wp2_with fail
      refine hK.out _ _ ⟨Q.c0, Q.c1, Q.c2, Q.c3⟩ (fun hHeld2 => ?_)
      clear hK K
      (refine wpAnyH_take (i := 2) (v := ?_) rfl (by kernel_rfl) (by kernel_rfl) (by kernel_rfl) (fun _ _ _ h => h) (Or.inl ⟨by rfl, ?_⟩) (by assumption) ?_; rotate_left; (focus (intro w hSw; (try dsimp only at hSw); go_simp; (try with_reducible rfl); done)); simp only [Act.put, List.getElem_toArray, List.getElem_cons_zero, List.getElem_cons_succ, List.setIfInBounds_toArray, List.set_cons_zero, List.set_cons_succ])
      (refine wpAnyH_take (i := 3) (v := ?_) rfl (by kernel_rfl) (by kernel_rfl) (by kernel_rfl) (fun _ _ _ h => h) (Or.inl ⟨by rfl, ?_⟩) (by assumption) ?_; rotate_left; (focus (intro w hSw; (try dsimp only at hSw); go_simp; (try with_reducible rfl); done)); simp only [Act.put, List.getElem_toArray, List.getElem_cons_zero, List.getElem_cons_succ, List.setIfInBounds_toArray, List.set_cons_zero, List.set_cons_succ])
      (refine wpAnyH_take (i := 4) (v := ?_) rfl (by kernel_rfl) (by kernel_rfl) (by kernel_rfl) (fun _ _ _ h => h) (Or.inl ⟨by rfl, ?_⟩) (by assumption) ?_; rotate_left; (focus (intro w hSw; (try dsimp only at hSw); go_simp; (try with_reducible rfl); done)); simp only [Act.put, List.getElem_toArray, List.getElem_cons_zero, List.getElem_cons_succ, List.setIfInBounds_toArray, List.set_cons_zero, List.set_cons_succ])
      (refine wpAnyH_take (i := 5) (v := ?_) rfl (by kernel_rfl) (by kernel_rfl) (by kernel_rfl) (fun _ _ _ h => h) (Or.inl ⟨by rfl, ?_⟩) (by assumption) ?_; rotate_left; (focus (intro w hSw; (try dsimp only at hSw); go_simp; (try with_reducible rfl); done)); simp only [Act.put, List.getElem_toArray, List.getElem_cons_zero, List.getElem_cons_succ, List.setIfInBounds_toArray, List.set_cons_zero, List.set_cons_succ])
      (refine wpAnyH_take (i := 6) (v := ?_) rfl (by kernel_rfl) (by kernel_rfl) (by kernel_rfl) (fun _ _ _ h => h) (Or.inl ⟨by rfl, ?_⟩) (by assumption) ?_; rotate_left; (focus (intro w hSw; (try dsimp only at hSw); go_simp; (try with_reducible rfl); done)); simp only [Act.put, List.getElem_toArray, List.getElem_cons_zero, List.getElem_cons_succ, List.setIfInBounds_toArray, List.set_cons_zero, List.set_cons_succ])
      (refine wpAnyH_take (i := 7) (v := undef) rfl (by kernel_rfl) (by kernel_rfl) (by kernel_rfl) (fun _ _ _ h => h) (Or.inr ⟨by rfl, rfl⟩) (by assumption) ?_; simp only [Act.put, List.getElem_toArray, List.getElem_cons_zero, List.getElem_cons_succ, List.setIfInBounds_toArray, List.set_cons_zero, List.set_cons_succ])
      (refine wpAnyH_take (i := 8) (v := undef) rfl (by kernel_rfl) (by kernel_rfl) (by kernel_rfl) (fun _ _ _ h => h) (Or.inr ⟨by rfl, rfl⟩) (by assumption) ?_; simp only [Act.put, List.getElem_toArray, List.getElem_cons_zero, List.getElem_cons_succ, List.setIfInBounds_toArray, List.set_cons_zero, List.set_cons_succ])
      (refine wpAnyH_take (i := 9) (v := undef) rfl (by kernel_rfl) (by kernel_rfl) (by kernel_rfl) (fun _ _ _ h => h) (Or.inr ⟨by rfl, rfl⟩) (by assumption) ?_; simp only [Act.put, List.getElem_toArray, List.getElem_cons_zero, List.getElem_cons_succ, List.setIfInBounds_toArray, List.set_cons_zero, List.set_cons_succ])
      (refine wpAnyH_take (i := 10) (v := undef) rfl (by kernel_rfl) (by kernel_rfl) (by kernel_rfl) (fun _ _ _ h => h) (Or.inr ⟨by rfl, rfl⟩) (by assumption) ?_; simp only [Act.put, List.getElem_toArray, List.getElem_cons_zero, List.getElem_cons_succ, List.setIfInBounds_toArray, List.set_cons_zero, List.set_cons_succ])
      (refine wpAnyH_take (i := 11) (v := undef) rfl (by kernel_rfl) (by kernel_rfl) (by kernel_rfl) (fun _ _ _ h => h) (Or.inr ⟨by rfl, rfl⟩) (by assumption) ?_; simp only [Act.put, List.getElem_toArray, List.getElem_cons_zero, List.getElem_cons_succ, List.setIfInBounds_toArray, List.set_cons_zero, List.set_cons_succ])
      (refine wpAnyH_take (i := 12) (v := undef) rfl (by kernel_rfl) (by kernel_rfl) (by kernel_rfl) (fun _ _ _ h => h) (Or.inr ⟨by rfl, rfl⟩) (by assumption) ?_; simp only [Act.put, List.getElem_toArray, List.getElem_cons_zero, List.getElem_cons_succ, List.setIfInBounds_toArray, List.set_cons_zero, List.set_cons_succ])
      (refine wpAnyH_take (i := 13) (v := undef) rfl (by kernel_rfl) (by kernel_rfl) (by kernel_rfl) (fun _ _ _ h => h) (Or.inr ⟨by rfl, rfl⟩) (by assumption) ?_; simp only [Act.put, List.getElem_toArray, List.getElem_cons_zero, List.getElem_cons_succ, List.setIfInBounds_toArray, List.set_cons_zero, List.set_cons_succ])
      (refine wpAnyH_take (i := 14) (v := undef) rfl (by kernel_rfl) (by kernel_rfl) (by kernel_rfl) (fun _ _ _ h => h) (Or.inr ⟨by rfl, rfl⟩) (by assumption) ?_; simp only [Act.put, List.getElem_toArray, List.getElem_cons_zero, List.getElem_cons_succ, List.setIfInBounds_toArray, List.set_cons_zero, List.set_cons_succ])
      (refine wpAnyH_take (i := 15) (v := ?_) rfl (by kernel_rfl) (by kernel_rfl) (by kernel_rfl) (fun _ _ _ h => h) (Or.inl ⟨by rfl, ?_⟩) (by assumption) ?_; rotate_left; (focus (intro w hSw; (try dsimp only at hSw); go_simp; (try with_reducible rfl); done)); simp only [Act.put, List.getElem_toArray, List.getElem_cons_zero, List.getElem_cons_succ, List.setIfInBounds_toArray, List.set_cons_zero, List.set_cons_succ])
      (refine wpAnyH_take (i := 16) (v := ?_) rfl (by kernel_rfl) (by kernel_rfl) (by kernel_rfl) (fun _ _ _ h => h) (Or.inl ⟨by rfl, ?_⟩) (by assumption) ?_; rotate_left; (focus (intro w hSw; (try dsimp only at hSw); go_simp; (try with_reducible rfl); done)); simp only [Act.put, List.getElem_toArray, List.getElem_cons_zero, List.getElem_cons_succ, List.setIfInBounds_toArray, List.set_cons_zero, List.set_cons_succ])
      refine wpAnyH_done (by kernel_rfl) ?_ _
      go_wp2
      go_roundw
      case rel => exact ⟨k + 1, by omega, by go_num, HG2, HB1.out.trans ((undrew hb2).mono HB1.out.size)⟩
      case measure => simp [intOf]; omega
     ·cases hl : asc xs[m] xs[k]
      ·have C1 : Hid (∀ w, Calls Tryz.prog 96 #[.agg #[.string xs[k].1, .string xs[k].2.1, .bool xs[k].2.2.1, .int .i64 xs[k].2.2.2]] w fun e w' => e = .returned (.bool true) ∧ Below w.heap.size w w') := fun w => hw ▸ iver54 xs[k] w
       have HX3 : Hid (0 < k ∧ m = k - 1) := ⟨by omega, HM.out⟩
       have HN : Hid (versB xs = false) := goodv_no k hlt (fun h => by have h2 := h.2 (by omega); simp only [← EM.out] at h2; rw [hl] at h2; cases h2)
       have hc0 : decide ((0 : Int) ≤ cmpV xs[m] xs[k]) = true := by have := mt (cmpV_neg xs[m] xs[k]).1 (by rw [hl]; simp); simp; omega
       have C2 : Hid (∀ w, Calls Tryz.prog 97 #[.agg #[.string xs[m].1, .string xs[m].2.1, .bool xs[m].2.2.1, .int .i64 xs[m].2.2.2], .agg #[.string xs[k].1, .string xs[k].2.1, .bool xs[k].2.2.1, .int .i64 xs[k].2.2.2]] w fun e w' => e = .returned (.int .i64 (cmpV xs[m] xs[k])) ∧ Below w.heap.size w w') := fun w => cmp55 xs[m] xs[k] w
       generalize cmpV xs[m] xs[k] = cv at *
       clear hw hl
       go_wp2
       generalize (wr.alloc (.cells #[.string xs[k].1, .string xs[k].2.1, .bool xs[k].2.2.1, .int .i64 xs[k].2.2.2] 85)) = W1 at *
       have hzd : decide (0 < k) = true := by have := HX3.out; simp; omega
       have e9 : IntKind.i64.wrap ((k : Int) - 1) = (m : Int) := by have := HX3.out; rw [IntKind.wrap_i64]; omega
       have e10 : (k : Int) - 1 = (m : Int) := by have := HX3.out; omega
       have e11 : IntKind.i64.wrap (m : Int) = (m : Int) := by rw [IntKind.wrap_i64]; omega
       refine wp_region_held_drew (S := fun w' => w'.cell? ⟨wr.heap.size, 0, none⟩ = some (.string xs[k].1) ∧ w'.cell? ⟨wr.heap.size, 1, none⟩ = some (.string xs[k].2.1) ∧ w'.cell? ⟨wr.heap.size, 2, none⟩ = some (.bool xs[k].2.2.1) ∧ w'.cell? ⟨wr.heap.size, 3, none⟩ = some (.int .i64 xs[k].2.2.2) ∧ w'.cell? ⟨b, off + m * 4, none⟩ = some (.string xs[m].1) ∧ w'.cell? ⟨b, off + m * 4 + 1, none⟩ = some (.string xs[m].2.1) ∧ w'.cell? ⟨b, off + m * 4 + 2, none⟩ = some (.bool xs[m].2.2.1) ∧ w'.cell? ⟨b, off + m * 4 + 3, none⟩ = some (.int .i64 xs[m].2.2.2)) (by kernel_rfl) ⟨HX.out.c0, HX.out.c1, HX.out.c2, HX.out.c3, HPM.out⟩ (fun hHeld => ?_)
       (refine wpAnyH_take (i := 0) (v := ?_) rfl (by kernel_rfl) (by kernel_rfl) (by kernel_rfl) (fun _ _ _ h => h) (Or.inl ⟨by rfl, ?_⟩) (by assumption) ?_; rotate_left; (focus (intro w hSw; (try dsimp only at hSw); go_simp; (try with_reducible rfl); done)); simp only [Act.put, List.getElem_toArray, List.getElem_cons_zero, List.setIfInBounds_toArray, List.set_cons_zero, List.set_cons_succ])
       refine wpAnyH_ready (rs := [1]) (by kernel_rfl) (by simp) ?_
       refine AllReadyH.cons rfl (fun K hK => ?_) AllReadyH.nil
       go_simp
       go_wp2_with fail
       refine (C1.out _).mono ?_
       rintro e w2 ⟨rfl, hb2⟩
       have Q := HX.out.below (undrew hb2)
       have P2 := pcells.below' HPM.out hbl' (undrew hb2)
       go_wp2_with fail
       refine hK.out _ _ ⟨Q.c0, Q.c1, Q.c2, Q.c3, P2⟩ (fun hHeld2 => ?_)
       clear hK K
       (refine wpAnyH_take (i := 2) (v := ?_) rfl (by kernel_rfl) (by kernel_rfl) (by kernel_rfl) (fun _ _ _ h => h) (Or.inl ⟨by rfl, ?_⟩) (by assumption) ?_; rotate_left; (focus (intro w hSw; (try dsimp only at hSw); go_simp; (try with_reducible rfl); done)); simp only [Act.put, List.getElem_toArray, List.getElem_cons_zero, List.getElem_cons_succ, List.setIfInBounds_toArray, List.set_cons_zero, List.set_cons_succ])
       (refine wpAnyH_take (i := 3) (v := ?_) rfl (by kernel_rfl) (by kernel_rfl) (by kernel_rfl) (fun _ _ _ h => h) (Or.inl ⟨by rfl, ?_⟩) (by assumption) ?_; rotate_left; (focus (intro w hSw; (try dsimp only at hSw); go_simp; (try with_reducible rfl); done)); simp only [Act.put, List.getElem_toArray, List.getElem_cons_zero, List.getElem_cons_succ, List.setIfInBounds_toArray, List.set_cons_zero, List.set_cons_succ])
       (refine wpAnyH_take (i := 4) (v := ?_) rfl (by kernel_rfl) (by kernel_rfl) (by kernel_rfl) (fun _ _ _ h => h) (Or.inl ⟨by rfl, ?_⟩) (by assumption) ?_; rotate_left; (focus (intro w hSw; (try dsimp only at hSw); go_simp; (try with_reducible rfl); done)); simp only [Act.put, List.getElem_toArray, List.getElem_cons_zero, List.getElem_cons_succ, List.setIfInBounds_toArray, List.set_cons_zero, List.set_cons_succ])
       (refine wpAnyH_take (i := 5) (v := ?_) rfl (by kernel_rfl) (by kernel_rfl) (by kernel_rfl) (fun _ _ _ h => h) (Or.inl ⟨by rfl, ?_⟩) (by assumption) ?_; rotate_left; (focus (intro w hSw; (try dsimp only at hSw); go_simp; (try with_reducible rfl); done)); simp only [Act.put, List.getElem_toArray, List.getElem_cons_zero, List.getElem_cons_succ, List.setIfInBounds_toArray, List.set_cons_zero, List.set_cons_succ])
       (refine wpAnyH_take (i := 6) (v := ?_) rfl (by kernel_rfl) (by kernel_rfl) (by kernel_rfl) (fun _ _ _ h => h) (Or.inl ⟨by rfl, ?_⟩) (by assumption) ?_; rotate_left; (focus (intro w hSw; (try dsimp only at hSw); go_simp; (try with_reducible rfl); done)); simp only [Act.put, List.getElem_toArray, List.getElem_cons_zero, List.getElem_cons_succ, List.setIfInBounds_toArray, List.set_cons_zero, List.set_cons_succ])
       (refine wpAnyH_take (i := 7) (v := ?_) rfl (by kernel_rfl) (by kernel_rfl) (by kernel_rfl) (fun _ _ _ h => h) (Or.inl ⟨by rfl, ?_⟩) (by assumption) ?_; rotate_left; (focus (intro w hSw; (try dsimp only at hSw); go_simp; (try with_reducible rfl); done)); simp only [Act.put, List.getElem_toArray, List.getElem_cons_zero, List.getElem_cons_succ, List.setIfInBounds_toArray, List.set_cons_zero, List.set_cons_succ])
       (refine wpAnyH_take (i := 8) (v := ?_) rfl (by kernel_rfl) (by kernel_rfl) (by kernel_rfl) (fun _ _ _ h => h) (Or.inl ⟨by rfl, ?_⟩) (by assumption) ?_; rotate_left; (focus (intro w hSw; (try dsimp only at hSw); go_simp; (try with_reducible rfl); done)); simp only [Act.put, List.getElem_toArray, List.getElem_cons_zero, List.getElem_cons_succ, List.setIfInBounds_toArray, List.set_cons_zero, List.set_cons_succ])
       (refine wpAnyH_take (i := 9) (v := ?_) rfl (by kernel_rfl) (by kernel_rfl) (by kernel_rfl) (fun _ _ _ h => h) (Or.inl ⟨by rfl, ?_⟩) (by assumption) ?_; rotate_left; (focus (intro w hSw; (try dsimp only at hSw); go_simp; (try with_reducible rfl); done)); simp only [Act.put, List.getElem_toArray, List.getElem_cons_zero, List.getElem_cons_succ, List.setIfInBounds_toArray, List.set_cons_zero, List.set_cons_succ])
       (refine wpAnyH_take (i := 10) (v := ?_) rfl (by kernel_rfl) (by kernel_rfl) (by kernel_rfl) (fun _ _ _ h => h) (Or.inl ⟨by rfl, ?_⟩) (by assumption) ?_; rotate_left; (focus (intro w hSw; (try dsimp only at hSw); go_simp; (try with_reducible rfl); done)); simp only [Act.put, List.getElem_toArray, List.getElem_cons_zero, List.getElem_cons_succ, List.setIfInBounds_toArray, List.set_cons_zero, List.set_cons_succ])
       (refine wpAnyH_take (i := 11) (v := ?_) rfl (by kernel_rfl) (by kernel_rfl) (by kernel_rfl) (fun _ _ _ h => h) (Or.inl ⟨by rfl, ?_⟩) (by assumption) ?_; rotate_left; (focus (intro w hSw; (try dsimp only at hSw); go_simp; (try with_reducible rfl); done)); simp only [Act.put, List.getElem_toArray, List.getElem_cons_zero, List.getElem_cons_succ, List.setIfInBounds_toArray, List.set_cons_zero, List.set_cons_succ])
       (refine wpAnyH_take (i := 12) (v := ?_) rfl (by kernel_rfl) (by kernel_rfl) (by kernel_rfl) (fun _ _ _ h => h) (Or.inl ⟨by rfl, ?_⟩) (by assumption) ?_; rotate_left; (focus (intro w hSw; (try dsimp only at hSw); go_simp; (try with_reducible rfl); done)); simp only [Act.put, List.getElem_toArray, List.getElem_cons_zero, List.getElem_cons_succ, List.setIfInBounds_toArray, List.set_cons_zero, List.set_cons_succ])
       refine wpAnyH_ready (rs := [13]) (by kernel_rfl) (by simp) ?_
       refine AllReadyH.cons rfl (fun K hK => ?_) AllReadyH.nil
       go_simp
       go_wp2_with fail
       refine (C2.out _).mono ?_
       rintro e w3 ⟨rfl, hb3⟩
       have Q3 := Q.below hb3
       have P3 := pcells.below' P2 (Nat.lt_of_lt_of_le hbl' hb2.size) hb3
       go_wp2_with fail
       refine hK.out _ _ ⟨Q3.c0, Q3.c1, Q3.c2, Q3.c3, P3⟩ (fun hHeld3 => ?_)
       clear hK K
       (refine wpAnyH_take (i := 14) (v := ?_) rfl (by kernel_rfl) (by kernel_rfl) (by kernel_rfl) (fun _ _ _ h => h) (Or.inl ⟨by rfl, ?_⟩) (by assumption) ?_; rotate_left; (focus (intro w hSw; (try dsimp only at hSw); go_simp; (try with_reducible rfl); done)); simp only [Act.put, List.getElem_toArray, List.getElem_cons_zero, List.getElem_cons_succ, List.setIfInBounds_toArray, List.set_cons_zero, List.set_cons_succ])
       (refine wpAnyH_take (i := 15) (v := ?_) rfl (by kernel_rfl) (by kernel_rfl) (by kernel_rfl) (fun _ _ _ h => h) (Or.inl ⟨by rfl, ?_⟩) (by assumption) ?_; rotate_left; (focus (intro w hSw; (try dsimp only at hSw); go_simp; (try with_reducible rfl); done)); simp only [Act.put, List.getElem_toArray, List.getElem_cons_zero, List.getElem_cons_succ, List.setIfInBounds_toArray, List.set_cons_zero, List.set_cons_succ])
       (refine wpAnyH_take (i := 16) (v := ?_) rfl (by kernel_rfl) (by kernel_rfl) (by kernel_rfl) (fun _ _ _ h => h) (Or.inl ⟨by rfl, ?_⟩) (by assumption) ?_; rotate_left; (focus (intro w hSw; (try dsimp only at hSw); go_simp; (try with_reducible rfl); done)); simp only [Act.put, List.getElem_toArray, List.getElem_cons_zero, List.getElem_cons_succ, List.setIfInBounds_toArray, List.set_cons_zero, List.set_cons_succ])
       refine wpAnyH_done (by kernel_rfl) ?_ _
       go_wp2
       go_ret
       exact ⟨ret_bool HN.out.symm, (HB1.out.trans ((undrew hb2).mono HB1.out.size)).trans (hb3.mono (Nat.le_trans HB1.out.size hb2.size))⟩
      ·have C1 : Hid (∀ w, Calls Tryz.prog 96 #[.agg #[.string xs[k].1, .string xs[k].2.1, .bool xs[k].2.2.1, .int .i64 xs[k].2.2.2]] w fun e w' => e = .returned (.bool true) ∧ Below w.heap.size w w') := fun w => hw ▸ iver54 xs[k] w
       have HX3 : Hid (0 < k ∧ m = k - 1) := ⟨by omega, HM.out⟩
       have HG2 : Hid (GoodV xs (k + 1)) := goodv_more HG.out hlt ⟨hw, fun h => by simp only [← EM.out]; exact hl⟩
       have hc0 : decide ((0 : Int) ≤ cmpV xs[m] xs[k]) = false := by have := (cmpV_neg xs[m] xs[k]).2 hl; simp; omega
       have C2 : Hid (∀ w, Calls Tryz.prog 97 #[.agg #[.string xs[m].1, .string xs[m].2.1, .bool xs[m].2.2.1, .int .i64 xs[m].2.2.2], .agg #[.string xs[k].1, .string xs[k].2.1, .bool xs[k].2.2.1, .int .i64 xs[k].2.2.2]] w fun e w' => e = .returned (.int .i64 (cmpV xs[m] xs[k])) ∧ Below w.heap.size w w') := fun w => cmp55 xs[m] xs[k] w
       generalize cmpV xs[m] xs[k] = cv at *
       clear hw hl
       go_wp2
       generalize (wr.alloc (.cells #[.string xs[k].1, .string xs[k].2.1, .bool xs[k].2.2.1, .int .i64 xs[k].2.2.2] 85)) = W1 at *
       have hzd : decide (0 < k) = true := by have := HX3.out; simp; omega
       have e9 : IntKind.i64.wrap ((k : Int) - 1) = (m : Int) := by have := HX3.out; rw [IntKind.wrap_i64]; omega
       have e10 : (k : Int) - 1 = (m : Int) := by have := HX3.out; omega
       have e11 : IntKind.i64.wrap (m : Int) = (m : Int) := by rw [IntKind.wrap_i64]; omega
       refine wp_region_held_drew (S := fun w' => w'.cell? ⟨wr.heap.size, 0, none⟩ = some (.string xs[k].1) ∧ w'.cell? ⟨wr.heap.size, 1, none⟩ = some (.string xs[k].2.1) ∧ w'.cell? ⟨wr.heap.size, 2, none⟩ = some (.bool xs[k].2.2.1) ∧ w'.cell? ⟨wr.heap.size, 3, none⟩ = some (.int .i64 xs[k].2.2.2) ∧ w'.cell? ⟨b, off + m * 4, none⟩ = some (.string xs[m].1) ∧ w'.cell? ⟨b, off + m * 4 + 1, none⟩ = some (.string xs[m].2.1) ∧ w'.cell? ⟨b, off + m * 4 + 2, none⟩ = some (.bool xs[m].2.2.1) ∧ w'.cell? ⟨b, off + m * 4 + 3, none⟩ = some (.int .i64 xs[m].2.2.2)) (by kernel_rfl) ⟨HX.out.c0, HX.out.c1, HX.out.c2, HX.out.c3, HPM.out⟩ (fun hHeld => ?_)
       (refine wpAnyH_take (i := 0) (v := ?_) rfl (by kernel_rfl) (by kernel_rfl) (by kernel_rfl) (fun _ _ _ h => h) (Or.inl ⟨by rfl, ?_⟩) (by assumption) ?_; rotate_left; (focus (intro w hSw; (try dsimp only at hSw); go_simp; (try with_reducible rfl); done)); simp only [Act.put, List.getElem_toArray, List.getElem_cons_zero, List.setIfInBounds_toArray, List.set_cons_zero, List.set_cons_succ])
       refine wpAnyH_ready (rs := [1]) (by kernel_rfl) (by simp) ?_
       refine AllReadyH.cons rfl (fun K hK => ?_) AllReadyH.nil
       go_simp
       go_wp2_with fail
       refine (C1.out _).mono ?_
       rintro e w2 ⟨rfl, hb2⟩
       have Q := HX.out.below (undrew hb2)
       have P2 := pcells.below' HPM.out hbl' (undrew hb2)
       go_wp2_with fail
       refine hK.out _ _ ⟨Q.c0, Q.c1, Q.c2, Q.c3, P2⟩ (fun hHeld2 => ?_)
       clear hK K
       (refine wpAnyH_take (i := 2) (v := ?_) rfl (by kernel_rfl) (by kernel_rfl) (by kernel_rfl) (fun _ _ _ h => h) (Or.inl ⟨by rfl, ?_⟩) (by assumption) ?_; rotate_left; (focus (intro w hSw; (try dsimp only at hSw); go_simp; (try with_reducible rfl); done)); simp only [Act.put, List.getElem_toArray, List.getElem_cons_zero, List.getElem_cons_succ, List.setIfInBounds_toArray, List.set_cons_zero, List.set_cons_succ])
       (refine wpAnyH_take (i := 3) (v := ?_) rfl (by kernel_rfl) (by kernel_rfl) (by kernel_rfl) (fun _ _ _ h => h) (Or.inl ⟨by rfl, ?_⟩) (by assumption) ?_; rotate_left; (focus (intro w hSw; (try dsimp only at hSw); go_simp; (try with_reducible rfl); done)); simp only [Act.put, List.getElem_toArray, List.getElem_cons_zero, List.getElem_cons_succ, List.setIfInBounds_toArray, List.set_cons_zero, List.set_cons_succ])
       (refine wpAnyH_take (i := 4) (v := ?_) rfl (by kernel_rfl) (by kernel_rfl) (by kernel_rfl) (fun _ _ _ h => h) (Or.inl ⟨by rfl, ?_⟩) (by assumption) ?_; rotate_left; (focus (intro w hSw; (try dsimp only at hSw); go_simp; (try with_reducible rfl); done)); simp only [Act.put, List.getElem_toArray, List.getElem_cons_zero, List.getElem_cons_succ, List.setIfInBounds_toArray, List.set_cons_zero, List.set_cons_succ])
       (refine wpAnyH_take (i := 5) (v := ?_) rfl (by kernel_rfl) (by kernel_rfl) (by kernel_rfl) (fun _ _ _ h => h) (Or.inl ⟨by rfl, ?_⟩) (by assumption) ?_; rotate_left; (focus (intro w hSw; (try dsimp only at hSw); go_simp; (try with_reducible rfl); done)); simp only [Act.put, List.getElem_toArray, List.getElem_cons_zero, List.getElem_cons_succ, List.setIfInBounds_toArray, List.set_cons_zero, List.set_cons_succ])
       (refine wpAnyH_take (i := 6) (v := ?_) rfl (by kernel_rfl) (by kernel_rfl) (by kernel_rfl) (fun _ _ _ h => h) (Or.inl ⟨by rfl, ?_⟩) (by assumption) ?_; rotate_left; (focus (intro w hSw; (try dsimp only at hSw); go_simp; (try with_reducible rfl); done)); simp only [Act.put, List.getElem_toArray, List.getElem_cons_zero, List.getElem_cons_succ, List.setIfInBounds_toArray, List.set_cons_zero, List.set_cons_succ])
       (refine wpAnyH_take (i := 7) (v := ?_) rfl (by kernel_rfl) (by kernel_rfl) (by kernel_rfl) (fun _ _ _ h => h) (Or.inl ⟨by rfl, ?_⟩) (by assumption) ?_; rotate_left; (focus (intro w hSw; (try dsimp only at hSw); go_simp; (try with_reducible rfl); done)); simp only [Act.put, List.getElem_toArray, List.getElem_cons_zero, List.getElem_cons_succ, List.setIfInBounds_toArray, List.set_cons_zero, List.set_cons_succ])
       (refine wpAnyH_take (i := 8) (v := ?_) rfl (by kernel_rfl) (by kernel_rfl) (by kernel_rfl) (fun _ _ _ h => h) (Or.inl ⟨by rfl, ?_⟩) (by assumption) ?_; rotate_left; (focus (intro w hSw; (try dsimp only at hSw); go_simp; (try with_reducible rfl); done)); simp only [Act.put, List.getElem_toArray, List.getElem_cons_zero, List.getElem_cons_succ, List.setIfInBounds_toArray, List.set_cons_zero, List.set_cons_succ])
       (refine wpAnyH_take (i := 9) (v := ?_) rfl (by kernel_rfl) (by kernel_rfl) (by kernel_rfl) (fun _ _ _ h => h) (Or.inl ⟨by rfl, ?_⟩) (by assumption) ?_; rotate_left; (focus (intro w hSw; (try dsimp only at hSw); go_simp; (try with_reducible rfl); done)); simp only [Act.put, List.getElem_toArray, List.getElem_cons_zero, List.getElem_cons_succ, List.setIfInBounds_toArray, List.set_cons_zero, List.set_cons_succ])
       (refine wpAnyH_take (i := 10) (v := ?_) rfl (by kernel_rfl) (by kernel_rfl) (by kernel_rfl) (fun _ _ _ h => h) (Or.inl ⟨by rfl, ?_⟩) (by assumption) ?_; rotate_left; (focus (intro w hSw; (try dsimp only at hSw); go_simp; (try with_reducible rfl); done)); simp only [Act.put, List.getElem_toArray, List.getElem_cons_zero, List.getElem_cons_succ, List.setIfInBounds_toArray, List.set_cons_zero, List.set_cons_succ])
       (refine wpAnyH_take (i := 11) (v := ?_) rfl (by kernel_rfl) (by kernel_rfl) (by kernel_rfl) (fun _ _ _ h => h) (Or.inl ⟨by rfl, ?_⟩) (by assumption) ?_; rotate_left; (focus (intro w hSw; (try dsimp only at hSw); go_simp; (try with_reducible rfl); done)); simp only [Act.put, List.getElem_toArray, List.getElem_cons_zero, List.getElem_cons_succ, List.setIfInBounds_toArray, List.set_cons_zero, List.set_cons_succ])
       (refine wpAnyH_take (i := 12) (v := ?_) rfl (by kernel_rfl) (by kernel_rfl) (by kernel_rfl) (fun _ _ _ h => h) (Or.inl ⟨by rfl, ?_⟩) (by assumption) ?_; rotate_left; (focus (intro w hSw; (try dsimp only at hSw); go_simp; (try with_reducible rfl); done)); simp only [Act.put, List.getElem_toArray, List.getElem_cons_zero, List.getElem_cons_succ, List.setIfInBounds_toArray, List.set_cons_zero, List.set_cons_succ])
       refine wpAnyH_ready (rs := [13]) (by kernel_rfl) (by simp) ?_
       refine AllReadyH.cons rfl (fun K hK => ?_) AllReadyH.nil
       go_simp
       go_wp2_with fail
       refine (C2.out _).mono ?_
       rintro e w3 ⟨rfl, hb3⟩
       have Q3 := Q.below hb3
       have P3 := pcells.below' P2 (Nat.lt_of_lt_of_le hbl' hb2.size) hb3
       go_wp2_with fail
       refine hK.out _ _ ⟨Q3.c0, Q3.c1, Q3.c2, Q3.c3, P3⟩ (fun hHeld3 => ?_)
       clear hK K
       (refine wpAnyH_take (i := 14) (v := ?_) rfl (by kernel_rfl) (by kernel_rfl) (by kernel_rfl) (fun _ _ _ h => h) (Or.inl ⟨by rfl, ?_⟩) (by assumption) ?_; rotate_left; (focus (intro w hSw; (try dsimp only at hSw); go_simp; (try with_reducible rfl); done)); simp only [Act.put, List.getElem_toArray, List.getElem_cons_zero, List.getElem_cons_succ, List.setIfInBounds_toArray, List.set_cons_zero, List.set_cons_succ])
       (refine wpAnyH_take (i := 15) (v := ?_) rfl (by kernel_rfl) (by kernel_rfl) (by kernel_rfl) (fun _ _ _ h => h) (Or.inl ⟨by rfl, ?_⟩) (by assumption) ?_; rotate_left; (focus (intro w hSw; (try dsimp only at hSw); go_simp; (try with_reducible rfl); done)); simp only [Act.put, List.getElem_toArray, List.getElem_cons_zero, List.getElem_cons_succ, List.setIfInBounds_toArray, List.set_cons_zero, List.set_cons_succ])
       (refine wpAnyH_take (i := 16) (v := ?_) rfl (by kernel_rfl) (by kernel_rfl) (by kernel_rfl) (fun _ _ _ h => h) (Or.inl ⟨by rfl, ?_⟩) (by assumption) ?_; rotate_left; (focus (intro w hSw; (try dsimp only at hSw); go_simp; (try with_reducible rfl); done)); simp only [Act.put, List.getElem_toArray, List.getElem_cons_zero, List.getElem_cons_succ, List.setIfInBounds_toArray, List.set_cons_zero, List.set_cons_succ])
       refine wpAnyH_done (by kernel_rfl) ?_ _
       go_wp2
       go_roundw
       case rel => exact ⟨k + 1, by omega, by go_num, HG2, (HB1.out.trans ((undrew hb2).mono HB1.out.size)).trans (hb3.mono (Nat.le_trans HB1.out.size hb2.size))⟩
       case measure => simp [intOf]; omega
   ·have hlt' : ¬ (k : Int) < (xs.length : Int) := by omega
    have HT : Hid (versB xs = true) := goodv_all HG.out (by omega) h8
    go_wp2
    go_ret
    exact ⟨ret_bool HT.out.symm, HB.out⟩
 ·have h8' : (120 : Int) < (xs.length : Int) := by omega
  have HN : Hid (versB xs = false) := goodv_len h8
  clear h8
  go_enter Tryz.func53, Tryz.ntmps53
  go_wp2
  go_ret
  exact ⟨ret_bool HN.out.symm, belowRefl w⟩
end Go.Proofs.YtjeicgibddfifaaGreat
