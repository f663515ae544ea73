/- Drawn bytes that are an argument: what they are. -/
import Derived.Test.YtbajpnbodhhmjaaPq11
import Derived.Test.YtbajpnbodhhmjaaPq10
import Derived.Deep.RegionHeld3
import Derived.Test.YtbajpnbodhhmjaaPq04
import Derived.Test.YtbajpnbodhhmjaaPq01
import Derived.Test.YtbajpnbodhhmjaaPq05
import Derived.Deep.RegionHeld
import Derived.Test.YtbajpnbodhhmjaaPq03
import Derived.Test.YtbajpnbodhhmjaaPq02
namespace Go.Proofs.Ytbajpnbodhhmjaa
open Go.ChangeShapes Go.WideShapes Go.ChangeAt Go.RowKit Go.Deep

section
variable {H : Type} {enc : TypeId × Value → H} {W : World} {base : Nat}

set_option maxRecDepth 100000 in
theorem open_code {v : Value} {d : DataW H} {p : List MemPlace} (hv : Value.okWide Try.prog W .any base 22 v) (h : DataW.Trod enc Try.prog W 0 (fun _ => true) true 22 v d p) :
    ∃ (len : Nat) (a : Option Addr) (cap : Nat), v = .slice a len cap ∧ len ≤ 9223372036854775807 ∧ CodeRow W a len := by
  obtain ⟨a0, len0, cap0, rfl⟩ := okWide_slice Try.underlying22 hv
  refine ⟨len0, a0, cap0, rfl, ?_⟩
  obtain ⟨fuel, hf⟩ := h
  rcases open_ints Try.underlying22 Try.underlying5 (by kernel_rfl) hf with ⟨hcs, _⟩ | ⟨x, l, c, zs, hcs, _, hl, hm, hz, _, hcell, hwz⟩
  · simp [Value.cells] at hcs
    obtain ⟨rfl, rfl, rfl⟩ := hcs
    exact ⟨by omega, fun h => by omega⟩
  · simp [Value.cells] at hcs
    obtain ⟨rfl, rfl, rfl⟩ := hcs
    have hz' : zs.length = cap0 := by simpa using hz
    unfold maxLen at hm
    refine ⟨by omega, fun h => ?_⟩
    obtain ⟨b, off, spot⟩ := x
    have hc0 := hcell 0 (by omega)
    have hspot : spot = none := by simpa [Addr.add] using World.cell?_spot hc0
    subst hspot
    have hb : b < W.heap.size := by simpa [Addr.add] using World.block_lt_of_cell? W _ hc0
    refine ⟨b, off, rfl, hb, fun i hi => ?_⟩
    have hci := hcell i (by omega)
    have hwi := hwz (zs.getD i 0) (by rw [List.getD_eq_getElem?_getD, List.getElem?_eq_getElem (by omega)]; simp)
    have hbd := bounds_u8 hwi
    exact ⟨zs.getD i 0, hbd.1, hbd.2, by rw [Addr.add_lit] at hci; exact hci⟩
end
end Go.Proofs.Ytbajpnbodhhmjaa

namespace Go.Proofs.Ytbajpnbodhhmjaa
open Go.RowKit
open KM
attribute [local go_sem ↓] Go.wp_at_zero Go.wp_at_succ

theorem serB_one (ts : List Tx) (h : ts.length ≤ 1) : (serB ts).isSome = true := by
  unfold serB
  rcases Nat.lt_or_ge ts.length 1 with h0 | h0
  · rw [show ts.length = 0 by omega]; rfl
  · have e : ts.length = 1 := by omega
    have hn : nxt ts [] = some 0 := by
      refine nxt_first (by omega) ?_ (fun j hj => absurd hj (Nat.not_lt_zero _))
      rw [free_iff]
      refine ⟨by simp, fun k hk _ => ?_⟩
      rw [show k = 0 by omega]
      exact bef_self ts 0
    rw [e]
    show (match nxt ts [] with | none => none | some i => serF ts 0 ([] ++ [i])).isSome = true
    rw [hn]
    rfl
def Pw (ts : List Tx) (o : List Nat) : Prop := o.Pairwise fun a b => bef ts b a = false
theorem serF_pw (ts : List Tx) : ∀ (f : Nat) (o p : List Nat), Ordd ts o → Pw ts o → serF ts f o = some p → Ordd ts p ∧ Pw ts p ∧ p.length = o.length + f
  | 0, o, p, h1, h2, h => by cases h; exact ⟨h1, h2, rfl⟩
  | f + 1, o, p, h1, h2, h => by
    unfold serF at h
    cases hn : nxt ts o with
    | none => rw [hn] at h; cases h
    | some i =>
      rw [hn] at h
      obtain ⟨hi, hf⟩ := nxt_some hn
      have h3 := h1.snoc hi hf
      have h4 : Pw ts (o ++ [i]) := by
        unfold Pw
        rw [List.pairwise_append]
        refine ⟨h2, List.pairwise_singleton _ _, fun a ha b hb => ?_⟩
        rw [List.mem_singleton.1 hb]
        exact h1.no a ha i hi ((free_iff ts o i).1 hf).1
      obtain ⟨q1, q2, q3⟩ := serF_pw ts f (o ++ [i]) p h3 h4 h
      refine ⟨q1, q2, ?_⟩
      rw [q3, List.length_append]
      simp
      omega
theorem serB_pw {ts : List Tx} {p : List Nat} (h : serB ts = some p) : Ordd ts p ∧ Pw ts p ∧ p.length = ts.length := by
  have := serF_pw ts ts.length [] p (Ordd.nil ts) List.Pairwise.nil h
  simpa using this

end Go.Proofs.Ytbajpnbodhhmjaa

namespace Go.Proofs.Ytbajpnbodhhmjaa
open Go.RowKit
open KM
attribute [local go_sem ↓] Go.wp_at_zero Go.wp_at_succ

def orI (x y : Int) : Int := if x = 0 then y else x

set_option maxRecDepth 100000 in
set_option maxHeartbeats 1000000 in
theorem or84 (x y : Int) (g : Nat) (w : World) (h0 : w.cell? ⟨g, 0, none⟩ = some (.int .i64 x)) (h1 : w.cell? ⟨g, 1, none⟩ = some (.int .i64 y)) :
    Calls Try.prog 67 #[.slice (some ⟨g, 0, none⟩) 2 2] w fun e w' => e = .returned (.int .i64 (orI x y)) ∧ w' = w := by
  by_cases hx : x = 0
  · subst hx
    have HE : Hid (orI 0 y = y) := by show _ = _; unfold orI; rw [if_pos rfl]
    go_enter Try.func67, Try.ntmps67
    go_wp2
    go_loop [8] (fun t => ∃ k : Nat, k ≤ 2 ∧ t = .int .i64 k ∧ Hid (k = 2 → y = 0)) (fun t => 2 - (intOf t).toNat)
    case atStart => exact ⟨0, by omega, rfl, fun h => by omega⟩
    case round =>
      obtain ⟨k, hk, rfl, HY⟩ := hrel
      by_cases hk0 : k = 0
      · subst hk0
        go_wp2
        go_round
        case rel => exact ⟨1, by omega, by go_num, fun h => by omega⟩
        case measure => simp [intOf]
      by_cases hk1 : k = 1
      · subst hk1
        by_cases hy : y = 0
        · subst hy
          go_wp2
          go_round
          case rel => exact ⟨2, by omega, by go_num, fun h => trivial⟩
          case measure => simp [intOf]
        · have hy' : (y != 0) = true := by simpa using hy
          clear hy
          go_wp2
          go_ret
          exact ⟨ret_int HE.out.symm, rfl⟩
      · have hk2 : k = 2 := by omega
        have HF : Hid (0 = orI 0 y) := by show _ = _; rw [HE.out, HY.out hk2]
        subst hk2
        clear hk0 hk1
        go_wp2
        go_ret
        exact ⟨ret_int HF.out, rfl⟩
  · have HE : Hid (orI x y = x) := by show _ = _; unfold orI; rw [if_neg hx]
    have hx' : (x != 0) = true := by simpa using hx
    clear hx
    go_enter Try.func67, Try.ntmps67
    go_wp2
    go_loop [8] (fun t => t = .int .i64 0) (fun t => 2 - (intOf t).toNat)
    case atStart => rfl
    case round =>
      subst hrel
      go_wp2
      go_ret
      exact ⟨ret_int HE.out.symm, rfl⟩

def cmpV (a b : Vr) : Int := orI (Lib.compareBytes a.1.data.toList b.1.data.toList) (Lib.compareInt a.2.2.2 b.2.2.2)

set_option maxRecDepth 100000 in
set_option maxHeartbeats 1000000 in
theorem cmp55 (a b : Vr) (w : World) :
    Calls Try.prog 60 #[.agg #[.string a.1, .string a.2.1, .bool a.2.2.1, .int .i64 a.2.2.2], .agg #[.string b.1, .string b.2.1, .bool b.2.2.1, .int .i64 b.2.2.2]] w fun e w' => e = .returned (.int .i64 (cmpV a b)) ∧ Below w.heap.size w w' := by
  have A0 : Hid (Box ((w.alloc (.cells #[.string a.1, .string a.2.1, .bool a.2.2.1, .int .i64 a.2.2.2] 86)).alloc (.cells #[.string b.1, .string b.2.1, .bool b.2.2.1, .int .i64 b.2.2.2] 86)) w.heap.size [.string a.1, .string a.2.1, .bool a.2.2.1, .int .i64 a.2.2.2]) := (Box.new w _ 86).below ((belowRefl _).alloc (Nat.le_refl _) _)
  have B0 : Hid (Box ((w.alloc (.cells #[.string a.1, .string a.2.1, .bool a.2.2.1, .int .i64 a.2.2.2] 86)).alloc (.cells #[.string b.1, .string b.2.1, .bool b.2.2.1, .int .i64 b.2.2.2] 86)) (w.heap.size + 1) [.string b.1, .string b.2.1, .bool b.2.2.1, .int .i64 b.2.2.2]) := by
    have h := Box.new (w.alloc (.cells #[.string a.1, .string a.2.1, .bool a.2.2.1, .int .i64 a.2.2.2] 86)) [.string b.1, .string b.2.1, .bool b.2.2.1, .int .i64 b.2.2.2] 86
    rw [World.size_alloc] at h
    exact h
  have HB0 : Hid (Below w.heap.size w ((w.alloc (.cells #[.string a.1, .string a.2.1, .bool a.2.2.1, .int .i64 a.2.2.2] 86)).alloc (.cells #[.string b.1, .string b.2.1, .bool b.2.2.1, .int .i64 b.2.2.2] 86))) := ((belowRefl w).alloc (Nat.le_refl _) _).alloc (by simp) _
  have HC : Hid (cmpV a b = orI (Lib.compareBytes a.1.data.toList b.1.data.toList) (Lib.compareInt a.2.2.2 b.2.2.2)) := rfl
  have C1 : Hid (∀ w, Calls Try.prog 68 #[.string a.1, .string b.1] w fun e w' => e = .returned (.int .i64 (Lib.compareBytes a.1.data.toList b.1.data.toList)) ∧ w' = w) := fun w => Try.strings_Compare a.1 b.1 w
  have C2 : Hid (∀ w, Calls Try.prog 69 #[.int .i64 a.2.2.2, .int .i64 b.2.2.2] w fun e w' => e = .returned (.int .i64 (Lib.compareInt a.2.2.2 b.2.2.2)) ∧ w' = w) := fun w => Try.cmp_Compare_int a.2.2.2 b.2.2.2 w
  generalize Lib.compareBytes a.1.data.toList b.1.data.toList = x at *
  generalize Lib.compareInt a.2.2.2 b.2.2.2 = y at *
  go_enter Try.func60, Try.ntmps60
  go_wp2
  generalize ((w.alloc (.cells #[.string a.1, .string a.2.1, .bool a.2.2.1, .int .i64 a.2.2.2] 86)).alloc (.cells #[.string b.1, .string b.2.1, .bool b.2.2.1, .int .i64 b.2.2.2] 86)) = W at *
  refine wp_region_held_drew (S := fun w' => w'.cell? ⟨w.heap.size, 0, none⟩ = some (.string a.1) ∧ w'.cell? ⟨w.heap.size, 3, none⟩ = some (.int .i64 a.2.2.2) ∧ w'.cell? ⟨w.heap.size + 1, 0, none⟩ = some (.string b.1) ∧ w'.cell? ⟨w.heap.size + 1, 3, none⟩ = some (.int .i64 b.2.2.2)) (by kernel_rfl) ⟨A0.out.c0, A0.out.c3, B0.out.c0, B0.out.c3⟩ (fun hHeld => ?_)
  (refine wpAnyH_take (i := 0) (v := ?_) rfl (by kernel_rfl) (by kernel_rfl) (by kernel_rfl) (fun _ _ _ h => h) (Or.inl ⟨by rfl, ?_⟩) (by assumption) ?_; rotate_left; (focus (intro w hSw; (try dsimp only at hSw); go_simp; (try with_reducible rfl); done)); simp only [Act.put, List.getElem_toArray, List.getElem_cons_zero, List.setIfInBounds_toArray, List.set_cons_zero, List.set_cons_succ])
  (refine wpAnyH_take (i := 1) (v := ?_) rfl (by kernel_rfl) (by kernel_rfl) (by kernel_rfl) (fun _ _ _ h => h) (Or.inl ⟨by rfl, ?_⟩) (by assumption) ?_; rotate_left; (focus (intro w hSw; (try dsimp only at hSw); go_simp; (try with_reducible rfl); done)); simp only [Act.put, List.getElem_toArray, List.getElem_cons_zero, List.getElem_cons_succ, List.setIfInBounds_toArray, List.set_cons_zero, List.set_cons_succ])
  (refine wpAnyH_take (i := 2) (v := ?_) rfl (by kernel_rfl) (by kernel_rfl) (by kernel_rfl) (fun _ _ _ h => h) (Or.inl ⟨by rfl, ?_⟩) (by assumption) ?_; rotate_left; (focus (intro w hSw; (try dsimp only at hSw); go_simp; (try with_reducible rfl); done)); simp only [Act.put, List.getElem_toArray, List.getElem_cons_zero, List.getElem_cons_succ, List.setIfInBounds_toArray, List.set_cons_zero, List.set_cons_succ])
  (refine wpAnyH_take (i := 3) (v := ?_) rfl (by kernel_rfl) (by kernel_rfl) (by kernel_rfl) (fun _ _ _ h => h) (Or.inl ⟨by rfl, ?_⟩) (by assumption) ?_; rotate_left; (focus (intro w hSw; (try dsimp only at hSw); go_simp; (try with_reducible rfl); done)); simp only [Act.put, List.getElem_toArray, List.getElem_cons_zero, List.getElem_cons_succ, List.setIfInBounds_toArray, List.set_cons_zero, List.set_cons_succ])
  (refine wpAnyH_take (i := 5) (v := ?_) rfl (by kernel_rfl) (by kernel_rfl) (by kernel_rfl) (fun _ _ _ h => h) (Or.inl ⟨by rfl, ?_⟩) (by assumption) ?_; rotate_left; (focus (intro w hSw; (try dsimp only at hSw); go_simp; (try with_reducible rfl); done)); simp only [Act.put, List.getElem_toArray, List.getElem_cons_zero, List.getElem_cons_succ, List.setIfInBounds_toArray, List.set_cons_zero, List.set_cons_succ])
  (refine wpAnyH_take (i := 6) (v := ?_) rfl (by kernel_rfl) (by kernel_rfl) (by kernel_rfl) (fun _ _ _ h => h) (Or.inl ⟨by rfl, ?_⟩) (by assumption) ?_; rotate_left; (focus (intro w hSw; (try dsimp only at hSw); go_simp; (try with_reducible rfl); done)); simp only [Act.put, List.getElem_toArray, List.getElem_cons_zero, List.getElem_cons_succ, List.setIfInBounds_toArray, List.set_cons_zero, List.set_cons_succ])
  (refine wpAnyH_take (i := 7) (v := ?_) rfl (by kernel_rfl) (by kernel_rfl) (by kernel_rfl) (fun _ _ _ h => h) (Or.inl ⟨by rfl, ?_⟩) (by assumption) ?_; rotate_left; (focus (intro w hSw; (try dsimp only at hSw); go_simp; (try with_reducible rfl); done)); simp only [Act.put, List.getElem_toArray, List.getElem_cons_zero, List.getElem_cons_succ, List.setIfInBounds_toArray, List.set_cons_zero, List.set_cons_succ])
  (refine wpAnyH_take (i := 8) (v := ?_) rfl (by kernel_rfl) (by kernel_rfl) (by kernel_rfl) (fun _ _ _ h => h) (Or.inl ⟨by rfl, ?_⟩) (by assumption) ?_; rotate_left; (focus (intro w hSw; (try dsimp only at hSw); go_simp; (try with_reducible rfl); done)); simp only [Act.put, List.getElem_toArray, List.getElem_cons_zero, List.getElem_cons_succ, List.setIfInBounds_toArray, List.set_cons_zero, List.set_cons_succ])
  refine wpAnyH_ready (rs := [4]) (by kernel_rfl) (by simp) ?_
  refine AllReadyH.cons rfl (fun K hK => ?_) AllReadyH.nil
  go_simp
  go_wp2_with (go_at_call 68; refine (C1.out _).mono ?_; rintro e w2 ⟨rfl, rfl⟩)
  refine hK.out _ _ ⟨A0.out.c0, A0.out.c3, B0.out.c0, B0.out.c3⟩ (fun hHeld2 => ?_)
  clear hK K
  refine wpAnyH_ready (rs := [9]) (by kernel_rfl) (by simp) ?_
  refine AllReadyH.cons rfl (fun K hK => ?_) AllReadyH.nil
  go_simp
  go_wp2_with (go_at_call 69; refine (C2.out _).mono ?_; rintro e w2 ⟨rfl, rfl⟩)
  refine hK.out _ _ ⟨A0.out.c0, A0.out.c3, B0.out.c0, B0.out.c3⟩ (fun hHeld3 => ?_)
  clear hK K
  refine wpAnyH_ready (rs := [10]) (by kernel_rfl) (by simp) ?_
  refine AllReadyH.cons rfl (fun K hK => ?_) AllReadyH.nil
  go_simp
  have A1 : Hid (Box (W.drew.alloc (.cells #[.int .i64 x, .int .i64 y] 3)) w.heap.size [.string a.1, .string a.2.1, .bool a.2.2.1, .int .i64 a.2.2.2]) := A0.out.below (((belowRefl W).drew).alloc (Nat.le_refl _) _)
  have B1 : Hid (Box (W.drew.alloc (.cells #[.int .i64 x, .int .i64 y] 3)) (w.heap.size + 1) [.string b.1, .string b.2.1, .bool b.2.2.1, .int .i64 b.2.2.2]) := B0.out.below (((belowRefl W).drew).alloc (Nat.le_refl _) _)
  have G1 : Hid (Box (W.drew.alloc (.cells #[.int .i64 x, .int .i64 y] 3)) W.heap.size [.int .i64 x, .int .i64 y]) := Box.new W.drew _ 3
  have HB1 : Hid (Below w.heap.size w (W.drew.alloc (.cells #[.int .i64 x, .int .i64 y] 3))) := HB0.out.drew.alloc HB0.out.size _
  go_wp2_with fail
  refine hK.out _ _ ⟨A1.out.c0, A1.out.c3, B1.out.c0, B1.out.c3⟩ (fun hHeld4 => ?_)
  clear hK K
  refine wpAnyH_ready (rs := [11]) (by kernel_rfl) (by simp) ?_
  refine AllReadyH.cons rfl (fun K hK => ?_) AllReadyH.nil
  go_simp
  go_wp2_with (go_at_call 67; refine (or84 x y _ _ G1.out.c0 G1.out.c1).mono ?_; rintro e w2 ⟨rfl, rfl⟩)
  refine hK.out _ _ ⟨A1.out.c0, A1.out.c3, B1.out.c0, B1.out.c3⟩ (fun hHeld5 => ?_)
  clear hK K
  (refine wpAnyH_take (i := 12) (v := ?_) rfl (by kernel_rfl) (by kernel_rfl) (by kernel_rfl) (fun _ _ _ h => h) (Or.inl ⟨by rfl, ?_⟩) (by assumption) ?_; rotate_left; (focus (intro w hSw; (try dsimp only at hSw); go_simp; (try with_reducible rfl); done)); simp only [Act.put, List.getElem_toArray, List.getElem_cons_zero, List.getElem_cons_succ, List.setIfInBounds_toArray, List.set_cons_zero, List.set_cons_succ])
  refine wpAnyH_done (by kernel_rfl) ?_ _
  go_wp2
  go_ret
  exact ⟨ret_int HC.out.symm, HB1.out⟩
end Go.Proofs.Ytbajpnbodhhmjaa

namespace Go.Proofs.Ytbajpnbodhhmjaa
open Go.RowKit
open KM
attribute [local go_sem ↓] Go.wp_at_zero Go.wp_at_succ

theorem toList_data (s : ByteArray) : s.toList = s.data.toList := by
  obtain ⟨⟨l⟩⟩ := s
  exact ByteArray.toList_mk l
theorem beq_text (a b : ByteArray) : (a.toList == b.toList) = decide (a = b) := by
  by_cases h : a = b
  · subst h; simp
  · rw [decide_eq_false h, beq_eq_false_iff_ne]
    exact fun e => h (toList_inj e)
theorem cb_lt : ∀ a b : List UInt8, (Lib.compareBytes a b < 0) ↔ Op.bytesLess a b = true
  | [], [] => by simp [Lib.compareBytes, Op.bytesLess]
  | [], _ :: _ => by simp [Lib.compareBytes, Op.bytesLess]
  | _ :: _, [] => by simp [Lib.compareBytes, Op.bytesLess]
  | x :: a, y :: b => by
    have ih := cb_lt a b
    simp only [Lib.compareBytes, Op.bytesLess, Bool.or_eq_true, decide_eq_true_eq, Bool.and_eq_true, beq_iff_eq]
    by_cases h1 : x < y
    · simp [h1]
    · by_cases h2 : y < x
      · have h3 : x ≠ y := fun e => by subst e; exact h1 h2
        simp [h1, h2, h3]
      · have h3 : x = y := by
          have a1 : ¬ x.toNat < y.toNat := fun h => h1 (UInt8.lt_iff_toNat_lt.2 h)
          have a2 : ¬ y.toNat < x.toNat := fun h => h2 (UInt8.lt_iff_toNat_lt.2 h)
          exact UInt8.toNat_inj.1 (by omega)
        rw [if_neg h1, if_neg h2]
        constructor
        · exact fun h => Or.inr ⟨h3, ih.1 h⟩
        · rintro (h | ⟨_, h⟩)
          · exact absurd h h1
          · exact ih.2 h
theorem cb_eq : ∀ a b : List UInt8, Lib.compareBytes a b = 0 ↔ a = b
  | [], [] => by simp [Lib.compareBytes]
  | [], _ :: _ => by simp [Lib.compareBytes]
  | _ :: _, [] => by simp [Lib.compareBytes]
  | x :: a, y :: b => by
    have ih := cb_eq a b
    simp only [Lib.compareBytes, List.cons.injEq]
    by_cases h1 : x < y
    · have h3 : x ≠ y := fun e => by subst e; exact absurd (UInt8.lt_iff_toNat_lt.1 h1) (by omega)
      simp [h1, h3]
    · by_cases h2 : y < x
      · have h3 : x ≠ y := fun e => by subst e; exact h1 h2
        simp [h1, h2, h3]
      · have h3 : x = y := by
          have a1 : ¬ x.toNat < y.toNat := fun h => h1 (UInt8.lt_iff_toNat_lt.2 h)
          have a2 : ¬ y.toNat < x.toNat := fun h => h2 (UInt8.lt_iff_toNat_lt.2 h)
          exact UInt8.toNat_inj.1 (by omega)
        rw [if_neg h1, if_neg h2]
        simp [h3, ih]

def asc (a b : Vr) : Bool := lt a.1 b.1 || (decide (a.1 = b.1) && decide (a.2.2.2 < b.2.2.2))
theorem ci_lt (x y : Int) : Lib.compareInt x y < 0 ↔ x < y := by
  unfold Lib.compareInt
  split
  · simp_all
  · split <;> simp_all
theorem ci_eq (x y : Int) : Lib.compareInt x y = 0 ↔ x = y := by
  unfold Lib.compareInt
  split
  · simp; omega
  · split
    · simp; omega
    · simp; omega
theorem cmpV_neg (a b : Vr) : cmpV a b < 0 ↔ asc a b = true := by
  unfold cmpV orI asc lt
  simp only [Bool.or_eq_true, Bool.and_eq_true, decide_eq_true_eq]
  split
  · rename_i h
    have h' := (cb_eq _ _).1 h
    have e : a.1 = b.1 := toList_inj (by rw [toList_data, toList_data]; exact h')
    rw [ci_lt, e, less_irrefl]
    simp
  · rename_i h
    have h' : ¬ a.1 = b.1 := fun e => h ((cb_eq _ _).2 (by rw [e]))
    rw [cb_lt, toList_data, toList_data]
    simp [h']
theorem cmpV_eq (a b : Vr) : cmpV a b = 0 ↔ a.1 = b.1 ∧ a.2.2.2 = b.2.2.2 := by
  unfold cmpV orI
  split
  · rename_i h
    have h' := (cb_eq _ _).1 h
    have e : a.1 = b.1 := toList_inj (by rw [toList_data, toList_data]; exact h')
    rw [ci_eq]
    simp [e]
  · rename_i h
    have h' : ¬ a.1 = b.1 := fun e => h ((cb_eq _ _).2 (by rw [e]))
    simp [h, h']

def verB (v : Vr) : Bool := writeB (v.1, v.2.1, v.2.2.1) && decide (1 ≤ v.2.2.2) && decide (v.2.2.2 ≤ 9999)
end Go.Proofs.Ytbajpnbodhhmjaa

namespace Go.Proofs.Ytbajpnbodhhmjaa
namespace VM
open KM
def isOf (k : ByteArray) (s : Int) (v : Vr) : Bool := decide (v.1 = k) && decide (v.2.2.2 ≤ s)
def more (a : Option Nd) (n : Nd) : Bool := match a with
  | none => true
  | some m => decide (m.2.2.2.2 < n.2.2.2.2)
def stp (k : ByteArray) (s : Int) (a : Option Nd) (n : Nd) : Option Nd := if (isOf k s n.2 && more a n) = true then some n else a
def lst (k : ByteArray) (s : Int) (ns : List Nd) : Option Nd := ns.foldl (stp k s) none
theorem lst_snoc (k : ByteArray) (s : Int) (A : List Nd) (n : Nd) : lst k s (A ++ [n]) = stp k s (lst k s A) n := by simp [lst, List.foldl_append]
def GoodL (k : ByteArray) (s : Int) (A : List Nd) (n : Nd) (B : List Nd) : Prop :=
  isOf k s n.2 = true ∧ (∀ m ∈ A, isOf k s m.2 = true → m.2.2.2.2 < n.2.2.2.2) ∧ (∀ m ∈ B, isOf k s m.2 = true → m.2.2.2.2 ≤ n.2.2.2.2)
def Told (k : ByteArray) (s : Int) (P : List Nd) (a : Option Nd) : Prop := match a with
  | none => ∀ m ∈ P, isOf k s m.2 = false
  | some x => ∃ A B, P = A ++ x :: B ∧ GoodL k s A x B
theorem told_snoc {k : ByteArray} {s : Int} {P : List Nd} {a : Option Nd} (n : Nd) (h : Told k s P a) : Told k s (P ++ [n]) (stp k s a n) := by
  unfold stp
  cases hi : isOf k s n.2
  · simp only [Bool.false_and, Bool.false_eq_true, if_false]
    cases a with
    | none =>
      intro m hm
      rcases List.mem_append.1 hm with hm | hm
      · exact h m hm
      · rw [List.mem_singleton.1 hm]; exact hi
    | some x =>
      obtain ⟨A, B, rfl, g1, g2, g3⟩ := h
      refine ⟨A, B ++ [n], by simp, g1, g2, fun m hm ho => ?_⟩
      rcases List.mem_append.1 hm with hm | hm
      · exact g3 m hm ho
      · rw [List.mem_singleton.1 hm, hi] at ho; cases ho
  · simp only [Bool.true_and]
    cases a with
    | none =>
      simp only [more, if_true]
      refine ⟨P, [], by simp, hi, fun m hm ho => ?_, fun m hm => by simp at hm⟩
      have := h m hm
      rw [this] at ho; cases ho
    | some x =>
      obtain ⟨A, B, rfl, g1, g2, g3⟩ := h
      simp only [more, decide_eq_true_eq]
      split
      · rename_i hlt
        refine ⟨A ++ x :: B, [], by simp, hi, fun m hm ho => ?_, fun m hm => by simp at hm⟩
        rcases List.mem_append.1 hm with hm | hm
        · have := g2 m hm ho; omega
        · rcases List.mem_cons.1 hm with rfl | hm
          · exact hlt
          · have := g3 m hm ho; omega
      · rename_i hlt
        refine ⟨A, B ++ [n], by simp, g1, g2, fun m hm ho => ?_⟩
        rcases List.mem_append.1 hm with hm | hm
        · exact g3 m hm ho
        · rw [List.mem_singleton.1 hm]; omega
theorem told_more {k : ByteArray} {s : Int} : ∀ (l P : List Nd) (a : Option Nd), Told k s P a → Told k s (P ++ l) (l.foldl (stp k s) a)
  | [], P, a, h => by simpa using h
  | n :: l, P, a, h => by
    have := told_more l (P ++ [n]) _ (told_snoc n h)
    simpa using this
theorem told (k : ByteArray) (s : Int) (P : List Nd) : Told k s P (lst k s P) := by
  have := told_more (k := k) (s := s) P [] none (fun m hm => by simp at hm)
  simpa [lst] using this
theorem lst_mem {k : ByteArray} {s : Int} {P : List Nd} {x : Nd} (h : lst k s P = some x) : x ∈ P ∧ isOf k s x.2 = true := by
  have := told k s P
  rw [h] at this
  obtain ⟨A, B, rfl, g⟩ := this
  exact ⟨by simp, g.1⟩
theorem stay {k : ByteArray} {s : Int} {n : Nd} : ∀ B : List Nd, (∀ m ∈ B, isOf k s m.2 = true → m.2.2.2.2 ≤ n.2.2.2.2) → B.foldl (stp k s) (some n) = some n
  | [], _ => rfl
  | m :: B, h => by
    have e : stp k s (some n) m = some n := by
      unfold stp
      rw [if_neg]
      simp only [more, Bool.and_eq_true, decide_eq_true_eq, not_and]
      intro ho
      have := h m (by simp) ho
      omega
    rw [List.foldl_cons, e]
    exact stay B (fun m' hm => h m' (by simp [hm]))
theorem lst_of {k : ByteArray} {s : Int} {A B : List Nd} {n : Nd} (h : GoodL k s A n B) : lst k s (A ++ n :: B) = some n := by
  have e : stp k s (lst k s A) n = some n := by
    unfold stp
    rw [if_pos]
    rw [h.1, Bool.true_and]
    cases hl : lst k s A with
    | none => rfl
    | some x => obtain ⟨hm, ho⟩ := lst_mem hl; simpa [more] using h.2.1 x hm ho
  unfold lst at e ⊢
  rw [List.foldl_append, List.foldl_cons, e]
  exact stay B h.2.2
theorem fold_snd (k : ByteArray) (s : Int) : ∀ (P Q : List Nd) (a b : Option Nd), P.map (·.2) = Q.map (·.2) → a.map (·.2) = b.map (·.2) → (P.foldl (stp k s) a).map (·.2) = (Q.foldl (stp k s) b).map (·.2)
  | [], [], _, _, _, h => h
  | [], _ :: _, _, _, h, _ => by simp at h
  | _ :: _, [], _, _, h, _ => by simp at h
  | n :: P, m :: Q, a, b, h, hab => by
    simp only [List.map_cons, List.cons.injEq] at h
    refine fold_snd k s P Q _ _ h.2 ?_
    have e : more a n = more b m := by
      cases a <;> cases b <;> simp_all [more]
    unfold stp
    rw [h.1, e]
    split
    · simp [h.1]
    · exact hab
theorem lst_snd {k : ByteArray} {s : Int} {P Q : List Nd} (h : P.map (·.2) = Q.map (·.2)) : (lst k s P).map (·.2) = (lst k s Q).map (·.2) := fold_snd k s P Q none none h rfl

def seenV (vs : List Vr) (k : ByteArray) (s : Int) : Option Vr := (lst k s (vs.map fun v => (0, v))).map (·.2)
theorem seenV_of {k : ByteArray} {s : Int} {ns : List Nd} {vs : List Vr} (h : ns.map (·.2) = vs) : (lst k s ns).map (·.2) = seenV vs k s := lst_snd (by rw [h]; simp [Function.comp_def])
def seenB (vs : List Vr) (k : ByteArray) (s : Int) : Option ByteArray := match seenV vs k s with
  | none => none
  | some v => if v.2.2.1 = true then none else some v.2.1
end VM
end Go.Proofs.Ytbajpnbodhhmjaa
