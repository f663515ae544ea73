/- What Trimmed's two questions and drop do. -/
import Derived.Test.YtmijppfppigjcaaGreatPd01
import Derived.Test.YtmijppfppigjcaaGreatPd11
import Derived.LaidEqlPtr
import Derived.Sort.Row
import Derived.Test.YtmijppfppigjcaaGreatPd09
namespace Go.Proofs.YtmijppfppigjcaaGreat
open Go.RowKit
open KM
open VM
attribute [local go_sem ↓] Go.wp_at_zero Go.wp_at_succ

theorem Tryz.info178 : (Tryz.prog.info? 178).map (fun i => (i.zero, i.size, i.bytes)) = some (some (.agg #[.string ByteArray.empty, .string ByteArray.empty, .bool false, .int .i64 0, .pointer none]), 5, 56) := by kernel_rfl
theorem neq_of (p q : Option Addr) (b : Bool) (w : World) (h : (Op.equal 176 (.pointer p) (.pointer q)).run Tryz.prog w = .ok b w) : (binOp .neq 176 (.pointer p) (.pointer q)).run Tryz.prog w = .ok (.bool (!b)) w := by
 simp only [binOp]
 simp [h]
theorem neq_none (a : Addr) (w : World) : (binOp .neq 176 (.pointer none) (.pointer (some a))).run Tryz.prog w = .ok (.bool true) w := by
 refine neq_of none (some a) false w ?_
 have h : ∀ d : Nat, (Op.equalIn (d + 1) 176 (.pointer none) (.pointer (some a))).run Tryz.prog w = .ok false w := fun d => by
  simp [Op.equalIn, run_underlying Tryz.underlying176]
 simp [Op.equal, Op.maxDepth, h 9999]
theorem neq_same (a : Addr) (w : World) : (binOp .neq 176 (.pointer (some a)) (.pointer (some a))).run Tryz.prog w = .ok (.bool false) w := by
 refine neq_of (some a) (some a) true w ?_
 obtain ⟨i0, hi, _, hz1, _⟩ := info_parts Tryz.info178
 have h : ∀ d : Nat, (Op.equalIn (d + 1) 176 (.pointer (some a)) (.pointer (some a))).run Tryz.prog w = .ok true w := fun d => by
  simp [Op.equalIn, run_underlying Tryz.underlying176, sizeOf, typeInfo, hi, run_sameAddr_same]
 simp [Op.equal, Op.maxDepth, h 9999]
theorem sameAddr_bx {P : Program} {w : World} {a b : Nat} {x y : Value} {r1 r2 : List Value} (hx : Bx w a (x :: r1)) (hy : Bx w b (y :: r2)) (hne : a ≠ b) : (sameAddr ⟨a, 0, none⟩ ⟨b, 0, none⟩).run P w = .ok false w := by
 obtain ⟨c1, e1, ⟨l1, h1⟩, ha, _⟩ := Go.Sort.cells_of_cell? hx.c0
 obtain ⟨c2, e2, ⟨l2, h2⟩, hb, _⟩ := Go.Sort.cells_of_cell? hy.c0
 simp [sameAddr, hne, hx.fz, hy.fz, ha, hb, noView, viewAt, World.shape?, mayBeOne, stringish]
theorem neq_other {w : World} {a b : Nat} {x y : Value} {r1 r2 : List Value} (hx : Bx w a (x :: r1)) (hy : Bx w b (y :: r2)) (hne : a ≠ b) : (binOp .neq 176 (.pointer (some ⟨a, 0, none⟩)) (.pointer (some ⟨b, 0, none⟩))).run Tryz.prog w = .ok (.bool true) w := by
 refine neq_of _ _ false w ?_
 obtain ⟨i0, hi, _, hz1, _⟩ := info_parts Tryz.info178
 have hsz : i0.size ≠ 0 := by omega
 have h : ∀ d : Nat, (Op.equalIn (d + 1) 176 (.pointer (some ⟨a, 0, none⟩)) (.pointer (some ⟨b, 0, none⟩))).run Tryz.prog w = .ok false w := fun d => by
  simp [Op.equalIn, run_underlying Tryz.underlying176, sizeOf, typeInfo, hi, hsz, sameAddr_bx hx hy hne]
 simp [Op.equal, Op.maxDepth, h 9999]

set_option maxRecDepth 100000 in
set_option maxHeartbeats 2000000 in
theorem ask59 (base c bs bl : Nat) (s : Int) (r n : Nd) (A B : List Nd) (_hn : (A ++ n :: B).length ≤ 100000000) (w : World) (hc : Chn w base c (r :: (A ++ n :: B))) (hs : Bx w bs [.int .i64 s]) (hl : Bx w bl [.pointer (some ⟨c, 0, none⟩)]) :
  Calls Tryz.prog 108 #[.pointer (some ⟨n.1, 0, none⟩), .pointer (some ⟨bs, 0, none⟩), .pointer (some ⟨bl, 0, none⟩)] w fun e w' => e = .returned (.bool (goes1 s A n B)) ∧ Below w.heap.size w w' := by
 have HC : Hid (Chn w base c (r :: (A ++ n :: B))) := hc
 have X : Hid (Bx w n.1 (ndc n.2 (ptq B none))) := seg_at hc rfl
 have XS : Hid (Bx w bs [.int .i64 s]) := hs
 have XL : Hid (Bx w bl [.pointer (some ⟨c, 0, none⟩)]) := hl
 have n0 := X.out.c0
 have n2 := X.out.c2
 have n3 := X.out.c3
 have s0 := hs.c0
 have l0 := hl.c0
 clear hc hs hl
 by_cases hc : n.2.2.2.2 ≤ s
 ·have hc' : decide (n.2.2.2.2 ≤ s) = true := by simpa using hc
  have HL : Hid (∀ w', Below w.heap.size w w' → Calls Tryz.prog 109 #[.pointer (some ⟨c, 0, none⟩), .string n.2.1, .int .i64 s] w' fun e w2 => e = .returned (.pointer (ptO (lst n.2.1 s (A ++ n :: B)))) ∧ Below w'.heap.size w' w2) := fun w' hb => last48 n.2.1 s base c r _ w' (HC.out.below hb)
  cases ho : lst n.2.1 s (A ++ n :: B) with
  | none =>
   rw [ho, ptO_none] at HL
   have HR : Hid (goes1 s A n B = true) := by show _ = _; unfold goes1; rw [ho]; simp [hc]
   clear ho hc
   go_enter Tryz.func108, Tryz.ntmps108
   go_wp2
   refine wp_region_held_drew (S := fun w' => w'.cell? ⟨n.1, 0, none⟩ = some (.string n.2.1) ∧ w'.cell? ⟨n.1, 2, none⟩ = some (.bool n.2.2.2.1) ∧ w'.cell? ⟨n.1, 3, none⟩ = some (.int .i64 n.2.2.2.2) ∧ w'.cell? ⟨bs, 0, none⟩ = some (.int .i64 s) ∧ w'.cell? ⟨bl, 0, none⟩ = some (.pointer (some ⟨c, 0, none⟩)) ∧ (binOp .neq 176 (.pointer none) (.pointer (some ⟨n.1, 0, none⟩))).run Tryz.prog w' = .ok (.bool true) w') (by kernel_rfl) ⟨n0, n2, n3, s0, l0, neq_none _ _⟩ (fun hHeld => ?_)
   (refine ti 0 ?_; simp only [Act.put, tA, tB, tD, tE, tF])
   (refine ti 1 ?_; simp only [Act.put, tA, tB, tC, tD, tE, tF])
   (refine ti 2 ?_; simp only [Act.put, tA, tB, tC, tD, tE, tF])
   (refine ti 3 ?_; simp only [Act.put, tA, tB, tC, tD, tE, tF])
   (refine ti 4 ?_; simp only [Act.put, tA, tB, tC, tD, tE, tF])
   (refine ti 5 ?_; simp only [Act.put, tA, tB, tC, tD, tE, tF])
   (refine ti 6 ?_; simp only [Act.put, tA, tB, tC, tD, tE, tF])
   (refine ti 7 ?_; simp only [Act.put, tA, tB, tC, tD, tE, tF])
   (refine ti 8 ?_; simp only [Act.put, tA, tB, tC, tD, tE, tF])
   (refine ti 9 ?_; simp only [Act.put, tA, tB, tC, tD, tE, tF])
   (refine ti 10 ?_; simp only [Act.put, tA, tB, tC, tD, tE, tF])
   (refine ti 11 ?_; simp only [Act.put, tA, tB, tC, tD, tE, tF])
   (refine ti 12 ?_; simp only [Act.put, tA, tB, tC, tD, tE, tF])
   (refine ti 13 ?_; simp only [Act.put, tA, tB, tC, tD, tE, tF])
   (refine ti 14 ?_; simp only [Act.put, tA, tB, tC, tD, tE, tF])
   (refine ti 16 ?_; simp only [Act.put, tA, tB, tC, tD, tE, tF])
   refine wpAnyH_ready (rs := [15]) (by kernel_rfl) (by simp) ?_
   refine AllReadyH.cons rfl (fun K hK => ?_) AllReadyH.nil
   go_simp
   go_wp2_with fail
   refine (HL.out _ (belowRefl w).drew).mono ?_
   rintro e w2 ⟨rfl, hb2⟩
   have X2 := X.out.below (undrew hb2)
   have S2 := XS.out.below (undrew hb2)
   have L2 := XL.out.below (undrew hb2)
   go_wp2_with fail
   refine hK.out _ _ ⟨X2.c0, X2.c2, X2.c3, S2.c0, L2.c0, neq_none _ _⟩ (fun hHeld2 => ?_)
   clear hK K
   (refine ti 17 ?_; simp only [Act.put, tA, tB, tC, tD, tE, tF])
   (refine ti 18 ?_; simp only [Act.put, tA, tB, tC, tD, tE, tF])
   (refine ti 19 ?_; simp only [Act.put, tA, tB, tC, tD, tE, tF])
   refine wpAnyH_done (by kernel_rfl) ?_ _
   go_wp2
   go_ret
   exact ⟨ret_bool HR.out.symm, undrew hb2⟩
  | some m =>
   rw [ho, ptO_some] at HL
   by_cases he : m.1 = n.1
   ·have HR : Hid (goes1 s A n B = false) := by show _ = _; unfold goes1; rw [ho]; simp [he]
    rw [he] at HL
    clear ho hc he
    go_enter Tryz.func108, Tryz.ntmps108
    go_wp2
    refine wp_region_held_drew (S := fun w' => w'.cell? ⟨n.1, 0, none⟩ = some (.string n.2.1) ∧ w'.cell? ⟨n.1, 2, none⟩ = some (.bool n.2.2.2.1) ∧ w'.cell? ⟨n.1, 3, none⟩ = some (.int .i64 n.2.2.2.2) ∧ w'.cell? ⟨bs, 0, none⟩ = some (.int .i64 s) ∧ w'.cell? ⟨bl, 0, none⟩ = some (.pointer (some ⟨c, 0, none⟩)) ∧ (binOp .neq 176 (.pointer (some ⟨n.1, 0, none⟩)) (.pointer (some ⟨n.1, 0, none⟩))).run Tryz.prog w' = .ok (.bool false) w') (by kernel_rfl) ⟨n0, n2, n3, s0, l0, neq_same _ _⟩ (fun hHeld => ?_)
    (refine ti 0 ?_; simp only [Act.put, tA, tB, tD, tE, tF])
    (refine ti 1 ?_; simp only [Act.put, tA, tB, tC, tD, tE, tF])
    (refine ti 2 ?_; simp only [Act.put, tA, tB, tC, tD, tE, tF])
    (refine ti 3 ?_; simp only [Act.put, tA, tB, tC, tD, tE, tF])
    (refine ti 4 ?_; simp only [Act.put, tA, tB, tC, tD, tE, tF])
    (refine ti 5 ?_; simp only [Act.put, tA, tB, tC, tD, tE, tF])
    (refine ti 6 ?_; simp only [Act.put, tA, tB, tC, tD, tE, tF])
    (refine ti 7 ?_; simp only [Act.put, tA, tB, tC, tD, tE, tF])
    (refine ti 8 ?_; simp only [Act.put, tA, tB, tC, tD, tE, tF])
    (refine ti 9 ?_; simp only [Act.put, tA, tB, tC, tD, tE, tF])
    (refine ti 10 ?_; simp only [Act.put, tA, tB, tC, tD, tE, tF])
    (refine ti 11 ?_; simp only [Act.put, tA, tB, tC, tD, tE, tF])
    (refine ti 12 ?_; simp only [Act.put, tA, tB, tC, tD, tE, tF])
    (refine ti 13 ?_; simp only [Act.put, tA, tB, tC, tD, tE, tF])
    (refine ti 14 ?_; simp only [Act.put, tA, tB, tC, tD, tE, tF])
    (refine ti 16 ?_; simp only [Act.put, tA, tB, tC, tD, tE, tF])
    refine wpAnyH_ready (rs := [15]) (by kernel_rfl) (by simp) ?_
    refine AllReadyH.cons rfl (fun K hK => ?_) AllReadyH.nil
    go_simp
    go_wp2_with fail
    refine (HL.out _ (belowRefl w).drew).mono ?_
    rintro e w2 ⟨rfl, hb2⟩
    have X2 := X.out.below (undrew hb2)
    have S2 := XS.out.below (undrew hb2)
    have L2 := XL.out.below (undrew hb2)
    go_wp2_with fail
    refine hK.out _ _ ⟨X2.c0, X2.c2, X2.c3, S2.c0, L2.c0, neq_same _ _⟩ (fun hHeld2 => ?_)
    clear hK K
    (refine ti 17 ?_; simp only [Act.put, tA, tB, tC, tD, tE, tF])
    (refine ti 18 ?_; simp only [Act.put, tA, tB, tC, tD, tE, tF])
    (refine ti 19 ?_; simp only [Act.put, tA, tB, tC, tD, tE, tF])
    refine wpAnyH_done (by kernel_rfl) ?_ _
    go_wp2
    go_ret
    exact ⟨ret_bool HR.out.symm, undrew hb2⟩
   ·have HR : Hid (goes1 s A n B = true) := by show _ = _; unfold goes1; rw [ho]; simp [hc, he]
    obtain ⟨qm, hxm⟩ := HC.out.mem (List.mem_cons_of_mem r (lst_mem ho).1)
    have XM : Hid (Bx w m.1 (ndc m.2 qm)) := hxm
    clear ho hc hxm
    go_enter Tryz.func108, Tryz.ntmps108
    go_wp2
    refine wp_region_held_drew (S := fun w' => w'.cell? ⟨n.1, 0, none⟩ = some (.string n.2.1) ∧ w'.cell? ⟨n.1, 2, none⟩ = some (.bool n.2.2.2.1) ∧ w'.cell? ⟨n.1, 3, none⟩ = some (.int .i64 n.2.2.2.2) ∧ w'.cell? ⟨bs, 0, none⟩ = some (.int .i64 s) ∧ w'.cell? ⟨bl, 0, none⟩ = some (.pointer (some ⟨c, 0, none⟩)) ∧ (binOp .neq 176 (.pointer (some ⟨m.1, 0, none⟩)) (.pointer (some ⟨n.1, 0, none⟩))).run Tryz.prog w' = .ok (.bool true) w') (by kernel_rfl) ⟨n0, n2, n3, s0, l0, neq_other XM.out.drew X.out.drew he⟩ (fun hHeld => ?_)
    (refine ti 0 ?_; simp only [Act.put, tA, tB, tD, tE, tF])
    (refine ti 1 ?_; simp only [Act.put, tA, tB, tC, tD, tE, tF])
    (refine ti 2 ?_; simp only [Act.put, tA, tB, tC, tD, tE, tF])
    (refine ti 3 ?_; simp only [Act.put, tA, tB, tC, tD, tE, tF])
    (refine ti 4 ?_; simp only [Act.put, tA, tB, tC, tD, tE, tF])
    (refine ti 5 ?_; simp only [Act.put, tA, tB, tC, tD, tE, tF])
    (refine ti 6 ?_; simp only [Act.put, tA, tB, tC, tD, tE, tF])
    (refine ti 7 ?_; simp only [Act.put, tA, tB, tC, tD, tE, tF])
    (refine ti 8 ?_; simp only [Act.put, tA, tB, tC, tD, tE, tF])
    (refine ti 9 ?_; simp only [Act.put, tA, tB, tC, tD, tE, tF])
    (refine ti 10 ?_; simp only [Act.put, tA, tB, tC, tD, tE, tF])
    (refine ti 11 ?_; simp only [Act.put, tA, tB, tC, tD, tE, tF])
    (refine ti 12 ?_; simp only [Act.put, tA, tB, tC, tD, tE, tF])
    (refine ti 13 ?_; simp only [Act.put, tA, tB, tC, tD, tE, tF])
    (refine ti 14 ?_; simp only [Act.put, tA, tB, tC, tD, tE, tF])
    (refine ti 16 ?_; simp only [Act.put, tA, tB, tC, tD, tE, tF])
    refine wpAnyH_ready (rs := [15]) (by kernel_rfl) (by simp) ?_
    refine AllReadyH.cons rfl (fun K hK => ?_) AllReadyH.nil
    go_simp
    go_wp2_with fail
    refine (HL.out _ (belowRefl w).drew).mono ?_
    rintro e w2 ⟨rfl, hb2⟩
    have M2 := XM.out.below (undrew hb2)
    have X2 := X.out.below (undrew hb2)
    have S2 := XS.out.below (undrew hb2)
    have L2 := XL.out.below (undrew hb2)
    go_wp2_with fail
    refine hK.out _ _ ⟨X2.c0, X2.c2, X2.c3, S2.c0, L2.c0, neq_other M2 X2 he⟩ (fun hHeld2 => ?_)
    clear hK K
    (refine ti 17 ?_; simp only [Act.put, tA, tB, tC, tD, tE, tF])
    (refine ti 18 ?_; simp only [Act.put, tA, tB, tC, tD, tE, tF])
    (refine ti 19 ?_; simp only [Act.put, tA, tB, tC, tD, tE, tF])
    refine wpAnyH_done (by kernel_rfl) ?_ _
    go_wp2
    go_ret
    exact ⟨ret_bool HR.out.symm, undrew hb2⟩
 ·have hc' : decide (n.2.2.2.2 ≤ s) = false := by simpa using hc
  have HR : Hid (goes1 s A n B = false) := by show _ = _; unfold goes1; rw [hc']; rfl
  clear hc
  go_enter Tryz.func108, Tryz.ntmps108
  go_wp2
  refine wp_region_held_drew (S := fun w' => w'.cell? ⟨n.1, 0, none⟩ = some (.string n.2.1) ∧ w'.cell? ⟨n.1, 2, none⟩ = some (.bool n.2.2.2.1) ∧ w'.cell? ⟨n.1, 3, none⟩ = some (.int .i64 n.2.2.2.2) ∧ w'.cell? ⟨bs, 0, none⟩ = some (.int .i64 s) ∧ w'.cell? ⟨bl, 0, none⟩ = some (.pointer (some ⟨c, 0, none⟩))) (by kernel_rfl) ⟨n0, n2, n3, s0, l0⟩ (fun hHeld => ?_)
  (refine ti 0 ?_; simp only [Act.put, tA, tB, tD, tE, tF])
  (refine ti 1 ?_; simp only [Act.put, tA, tB, tC, tD, tE, tF])
  (refine ti 2 ?_; simp only [Act.put, tA, tB, tC, tD, tE, tF])
  (refine ti 3 ?_; simp only [Act.put, tA, tB, tC, tD, tE, tF])
  (refine ti 4 ?_; simp only [Act.put, tA, tB, tC, tD, tE, tF])
  (refine ti 5 ?_; simp only [Act.put, tA, tB, tC, tD, tE, tF])
  (refine ti 6 ?_; simp only [Act.put, tA, tB, tC, tD, tE, tF])
  (refine ti 7 ?_; simp only [Act.put, tA, tB, tC, tD, tE, tF])
  (refine tu 8 ?_; simp only [Act.put, tA, tB, tC, tD, tE, tF])
  (refine tu 9 ?_; simp only [Act.put, tA, tB, tC, tD, tE, tF])
  (refine tu 10 ?_; simp only [Act.put, tA, tB, tC, tD, tE, tF])
  (refine tu 11 ?_; simp only [Act.put, tA, tB, tC, tD, tE, tF])
  (refine tu 12 ?_; simp only [Act.put, tA, tB, tC, tD, tE, tF])
  (refine tu 13 ?_; simp only [Act.put, tA, tB, tC, tD, tE, tF])
  (refine tu 14 ?_; simp only [Act.put, tA, tB, tC, tD, tE, tF])
  (refine tu 15 ?_; simp only [Act.put, tA, tB, tC, tD, tE, tF])
  (refine tu 16 ?_; simp only [Act.put, tA, tB, tC, tD, tE, tF])
  (refine tu 17 ?_; simp only [Act.put, tA, tB, tC, tD, tE, tF])
  (refine ti 18 ?_; simp only [Act.put, tA, tB, tC, tD, tE, tF])
  (refine ti 19 ?_; simp only [Act.put, tA, tB, tC, tD, tE, tF])
  refine wpAnyH_done (by kernel_rfl) ?_ _
  go_wp2
  go_ret
  exact ⟨ret_bool HR.out.symm, (belowRefl w).drew⟩

set_option maxRecDepth 100000 in
set_option maxHeartbeats 2000000 in
theorem ask60 (base c bs bl : Nat) (s : Int) (r n : Nd) (A B : List Nd) (hn : (A ++ n :: B).length ≤ 100000000) (w : World) (hc : Chn w base c (r :: (A ++ n :: B))) (hs : Bx w bs [.int .i64 s]) (hl : Bx w bl [.pointer (some ⟨c, 0, none⟩)]) :
  Calls Tryz.prog 110 #[.pointer (some ⟨n.1, 0, none⟩), .pointer (some ⟨bs, 0, none⟩), .pointer (some ⟨bl, 0, none⟩)] w fun e w' => e = .returned (.bool (goes2 s A n B)) ∧ Below w.heap.size w w' := by
 have HC : Hid (Chn w base c (r :: (A ++ n :: B))) := hc
 have X : Hid (Bx w n.1 (ndc n.2 (ptq B none))) := seg_at hc rfl
 have XS : Hid (Bx w bs [.int .i64 s]) := hs
 have XL : Hid (Bx w bl [.pointer (some ⟨c, 0, none⟩)]) := hl
 have n0 := X.out.c0
 have n2 := X.out.c2
 have n3 := X.out.c3
 have s0 := hs.c0
 have l0 := hl.c0
 clear hc hs hl
 by_cases hc : n.2.2.2.2 ≤ s
 ·have hc' : decide (n.2.2.2.2 ≤ s) = true := by simpa using hc
  obtain ⟨g, hg⟩ : ∃ g, n.2.2.2.1 = g := ⟨_, rfl⟩
  have HX : Hid (goes2 s A n B = (g && (cntN n.2.1 (A ++ n :: B) == 1))) := by show _ = _; unfold goes2; rw [hc', hg]; rfl
  rw [hg] at n2
  cases g
  ·have HR : Hid (goes2 s A n B = false) := by show _ = _; rw [HX.out]; rfl
   have hgf : n.2.2.2.1 = false := hg
   clear hg hc HX
   go_enter Tryz.func110, Tryz.ntmps110
   go_wp2
   refine wp_region_held_drew (S := fun w' => w'.cell? ⟨n.1, 0, none⟩ = some (.string n.2.1) ∧ w'.cell? ⟨n.1, 2, none⟩ = some (.bool false) ∧ w'.cell? ⟨n.1, 3, none⟩ = some (.int .i64 n.2.2.2.2) ∧ w'.cell? ⟨bs, 0, none⟩ = some (.int .i64 s) ∧ w'.cell? ⟨bl, 0, none⟩ = some (.pointer (some ⟨c, 0, none⟩))) (by kernel_rfl) ⟨n0, n2, n3, s0, l0⟩ (fun hHeld => ?_)
   (refine ti 0 ?_; simp only [Act.put, tA, tB, tD, tE, tF])
   (refine ti 1 ?_; simp only [Act.put, tA, tB, tC, tD, tE, tF])
   (refine ti 2 ?_; simp only [Act.put, tA, tB, tC, tD, tE, tF])
   (refine ti 3 ?_; simp only [Act.put, tA, tB, tC, tD, tE, tF])
   (refine ti 4 ?_; simp only [Act.put, tA, tB, tC, tD, tE, tF])
   (refine ti 5 ?_; simp only [Act.put, tA, tB, tC, tD, tE, tF])
   (refine ti 6 ?_; simp only [Act.put, tA, tB, tC, tD, tE, tF])
   (refine ti 7 ?_; simp only [Act.put, tA, tB, tC, tD, tE, tF])
   (refine ti 8 ?_; simp only [Act.put, tA, tB, tC, tD, tE, tF])
   (refine ti 9 ?_; simp only [Act.put, tA, tB, tC, tD, tE, tF])
   (refine ti 10 ?_; simp only [Act.put, tA, tB, tC, tD, tE, tF])
   (refine ti 11 ?_; simp only [Act.put, tA, tB, tC, tD, tE, tF])
   (refine ti 12 ?_; simp only [Act.put, tA, tB, tC, tD, tE, tF])
   (refine ti 13 ?_; simp only [Act.put, tA, tB, tC, tD, tE, tF])
   (refine ti 14 ?_; simp only [Act.put, tA, tB, tC, tD, tE, tF])
   (refine tu 15 ?_; simp only [Act.put, tA, tB, tC, tD, tE, tF])
   (refine tu 16 ?_; simp only [Act.put, tA, tB, tC, tD, tE, tF])
   (refine tu 17 ?_; simp only [Act.put, tA, tB, tC, tD, tE, tF])
   (refine tu 18 ?_; simp only [Act.put, tA, tB, tC, tD, tE, tF])
   (refine tu 19 ?_; simp only [Act.put, tA, tB, tC, tD, tE, tF])
   (refine tu 20 ?_; simp only [Act.put, tA, tB, tC, tD, tE, tF])
   (refine tu 21 ?_; simp only [Act.put, tA, tB, tC, tD, tE, tF])
   (refine tu 22 ?_; simp only [Act.put, tA, tB, tC, tD, tE, tF])
   (refine ti 23 ?_; simp only [Act.put, tA, tB, tC, tD, tE, tF])
   (refine ti 24 ?_; simp only [Act.put, tA, tB, tC, tD, tE, tF])
   refine wpAnyH_done (by kernel_rfl) ?_ _
   go_wp2
   go_ret
   exact ⟨ret_bool HR.out.symm, (belowRefl w).drew⟩
  ·have HL : Hid (∀ w', Below w.heap.size w w' → Calls Tryz.prog 111 #[.pointer (some ⟨c, 0, none⟩), .string n.2.1] w' fun e w2 => e = .returned (.int .i64 ((cntN n.2.1 (A ++ n :: B) : Nat) : Int)) ∧ Below w'.heap.size w' w2) := fun w' hb => count61 n.2.1 base c r _ hn w' (HC.out.below hb)
   have hgt : n.2.2.2.1 = true := hg
   have HR : Hid (((((cntN n.2.1 (A ++ n :: B) : Nat) : Int)) == 1) = goes2 s A n B) := by
    show _ = _
    rw [HX.out, Bool.true_and]
    by_cases h1 : cntN n.2.1 (A ++ n :: B) = 1
    ·rw [h1]; rfl
    ·have h2 : ((cntN n.2.1 (A ++ n :: B) : Nat) : Int) ≠ 1 := by omega
     rw [beq_eq_false_iff_ne.2 h1, beq_eq_false_iff_ne.2 h2]
   generalize ((cntN n.2.1 (A ++ n :: B) : Nat) : Int) = q at HL HR
   clear hg hc HX
   go_enter Tryz.func110, Tryz.ntmps110
   go_wp2
   refine wp_region_held_drew (S := fun w' => w'.cell? ⟨n.1, 0, none⟩ = some (.string n.2.1) ∧ w'.cell? ⟨n.1, 2, none⟩ = some (.bool true) ∧ w'.cell? ⟨n.1, 3, none⟩ = some (.int .i64 n.2.2.2.2) ∧ w'.cell? ⟨bs, 0, none⟩ = some (.int .i64 s) ∧ w'.cell? ⟨bl, 0, none⟩ = some (.pointer (some ⟨c, 0, none⟩))) (by kernel_rfl) ⟨n0, n2, n3, s0, l0⟩ (fun hHeld => ?_)
   (refine ti 0 ?_; simp only [Act.put, tA, tB, tD, tE, tF])
   (refine ti 1 ?_; simp only [Act.put, tA, tB, tC, tD, tE, tF])
   (refine ti 2 ?_; simp only [Act.put, tA, tB, tC, tD, tE, tF])
   (refine ti 3 ?_; simp only [Act.put, tA, tB, tC, tD, tE, tF])
   (refine ti 4 ?_; simp only [Act.put, tA, tB, tC, tD, tE, tF])
   (refine ti 5 ?_; simp only [Act.put, tA, tB, tC, tD, tE, tF])
   (refine ti 6 ?_; simp only [Act.put, tA, tB, tC, tD, tE, tF])
   (refine ti 7 ?_; simp only [Act.put, tA, tB, tC, tD, tE, tF])
   (refine ti 8 ?_; simp only [Act.put, tA, tB, tC, tD, tE, tF])
   (refine ti 9 ?_; simp only [Act.put, tA, tB, tC, tD, tE, tF])
   (refine ti 10 ?_; simp only [Act.put, tA, tB, tC, tD, tE, tF])
   (refine ti 11 ?_; simp only [Act.put, tA, tB, tC, tD, tE, tF])
   (refine ti 12 ?_; simp only [Act.put, tA, tB, tC, tD, tE, tF])
   (refine ti 13 ?_; simp only [Act.put, tA, tB, tC, tD, tE, tF])
   (refine ti 14 ?_; simp only [Act.put, tA, tB, tC, tD, tE, tF])
   (refine ti 15 ?_; simp only [Act.put, tA, tB, tC, tD, tE, tF])
   (refine ti 16 ?_; simp only [Act.put, tA, tB, tC, tD, tE, tF])
   (refine ti 17 ?_; simp only [Act.put, tA, tB, tC, tD, tE, tF])
   (refine ti 18 ?_; simp only [Act.put, tA, tB, tC, tD, tE, tF])
   (refine ti 19 ?_; simp only [Act.put, tA, tB, tC, tD, tE, tF])
   (refine ti 20 ?_; simp only [Act.put, tA, tB, tC, tD, tE, tF])
   refine wpAnyH_ready (rs := [21]) (by kernel_rfl) (by simp) ?_
   refine AllReadyH.cons rfl (fun K hK => ?_) AllReadyH.nil
   go_simp
   go_wp2_with fail
   refine (HL.out _ (belowRefl w).drew).mono ?_
   rintro e w2 ⟨rfl, hb2⟩
   have X2 := X.out.below (undrew hb2)
   have S2 := XS.out.below (undrew hb2)
   have L2 := XL.out.below (undrew hb2)
   go_wp2_with fail
   refine hK.out _ _ ⟨X2.c0, (X2.c2.trans (by rw [hgt])), X2.c3, S2.c0, L2.c0⟩ (fun hHeld2 => ?_)
   clear hK K
   (refine ti 22 ?_; simp only [Act.put, tA, tB, tC, tD, tE, tF])
   (refine ti 23 ?_; simp only [Act.put, tA, tB, tC, tD, tE, tF])
   (refine ti 24 ?_; simp only [Act.put, tA, tB, tC, tD, tE, tF])
   refine wpAnyH_done (by kernel_rfl) ?_ _
   go_wp2
   go_ret
   exact ⟨ret_bool HR.out, undrew hb2⟩
 ·have hc' : decide (n.2.2.2.2 ≤ s) = false := by simpa using hc
  have HR : Hid (goes2 s A n B = false) := by show _ = _; unfold goes2; rw [hc']; rfl
  clear hc
  go_enter Tryz.func110, Tryz.ntmps110
  go_wp2
  refine wp_region_held_drew (S := fun w' => w'.cell? ⟨n.1, 0, none⟩ = some (.string n.2.1) ∧ w'.cell? ⟨n.1, 2, none⟩ = some (.bool n.2.2.2.1) ∧ w'.cell? ⟨n.1, 3, none⟩ = some (.int .i64 n.2.2.2.2) ∧ w'.cell? ⟨bs, 0, none⟩ = some (.int .i64 s) ∧ w'.cell? ⟨bl, 0, none⟩ = some (.pointer (some ⟨c, 0, none⟩))) (by kernel_rfl) ⟨n0, n2, n3, s0, l0⟩ (fun hHeld => ?_)
  (refine ti 0 ?_; simp only [Act.put, tA, tB, tD, tE, tF])
  (refine ti 1 ?_; simp only [Act.put, tA, tB, tC, tD, tE, tF])
  (refine ti 2 ?_; simp only [Act.put, tA, tB, tC, tD, tE, tF])
  (refine ti 3 ?_; simp only [Act.put, tA, tB, tC, tD, tE, tF])
  (refine ti 4 ?_; simp only [Act.put, tA, tB, tC, tD, tE, tF])
  (refine ti 5 ?_; simp only [Act.put, tA, tB, tC, tD, tE, tF])
  (refine ti 6 ?_; simp only [Act.put, tA, tB, tC, tD, tE, tF])
  (refine ti 7 ?_; simp only [Act.put, tA, tB, tC, tD, tE, tF])
  (refine tu 8 ?_; simp only [Act.put, tA, tB, tC, tD, tE, tF])
  (refine tu 9 ?_; simp only [Act.put, tA, tB, tC, tD, tE, tF])
  (refine tu 10 ?_; simp only [Act.put, tA, tB, tC, tD, tE, tF])
  (refine tu 11 ?_; simp only [Act.put, tA, tB, tC, tD, tE, tF])
  (refine tu 12 ?_; simp only [Act.put, tA, tB, tC, tD, tE, tF])
  (refine ti 13 ?_; simp only [Act.put, tA, tB, tC, tD, tE, tF])
  (refine ti 14 ?_; simp only [Act.put, tA, tB, tC, tD, tE, tF])
  (refine tu 15 ?_; simp only [Act.put, tA, tB, tC, tD, tE, tF])
  (refine tu 16 ?_; simp only [Act.put, tA, tB, tC, tD, tE, tF])
  (refine tu 17 ?_; simp only [Act.put, tA, tB, tC, tD, tE, tF])
  (refine tu 18 ?_; simp only [Act.put, tA, tB, tC, tD, tE, tF])
  (refine tu 19 ?_; simp only [Act.put, tA, tB, tC, tD, tE, tF])
  (refine tu 20 ?_; simp only [Act.put, tA, tB, tC, tD, tE, tF])
  (refine tu 21 ?_; simp only [Act.put, tA, tB, tC, tD, tE, tF])
  (refine tu 22 ?_; simp only [Act.put, tA, tB, tC, tD, tE, tF])
  (refine ti 23 ?_; simp only [Act.put, tA, tB, tC, tD, tE, tF])
  (refine ti 24 ?_; simp only [Act.put, tA, tB, tC, tD, tE, tF])
  refine wpAnyH_done (by kernel_rfl) ?_ _
  go_wp2
  go_ret
  exact ⟨ret_bool HR.out.symm, (belowRefl w).drew⟩
end Go.Proofs.YtmijppfppigjcaaGreat

namespace Go.Proofs.YtmijppfppigjcaaGreat
open Go.RowKit
open KM
open VM
attribute [local go_sem ↓] Go.wp_at_zero Go.wp_at_succ

theorem dropN_cons (p : List Nd → Nd → List Nd → Bool) (A : List Nd) (n : Nd) (B : List Nd) : dropN p A (n :: B) = if p A n B = true then dropN p A B else dropN p (A ++ [n]) B := rfl
theorem dropN_nil (p : List Nd → Nd → List Nd → Bool) (A : List Nd) : dropN p A [] = A := rfl
theorem chn_cut {w : World} {base c : Nat} {A0 B : List Nd} {m n : Nd} (h : Chn w base c (A0 ++ m :: n :: B)) : Chn (w.setCell ⟨m.1, 4, none⟩ (.pointer (ptq B none))) base c (A0 ++ m :: B) := by
 have hseg := ((seg_app A0 (m :: n :: B) none).1 h.seg).2.2.2
 refine h.next hseg ?_ (fun x hx => h.lo x.1 (List.mem_cons_of_mem _ (List.mem_map.2 ⟨x, by simp [hx], rfl⟩)))
 have hs : List.Sublist (c :: (A0 ++ m :: B).map (·.1)) (c :: (A0 ++ m :: n :: B).map (·.1)) := by
  refine List.Sublist.cons_cons _ (List.Sublist.map _ (List.Sublist.append (List.Sublist.refl _) (List.Sublist.cons_cons _ (List.sublist_cons_self _ _))))
 exact List.Pairwise.sublist hs h.nd
theorem split_eq {r m n : Nd} {A A0 B : List Nd} (h : r :: A = A0 ++ [m]) : A0 ++ m :: n :: B = r :: (A ++ n :: B) := by
 have : A0 ++ m :: n :: B = (A0 ++ [m]) ++ n :: B := by simp
 rw [this, ← h]; rfl

set_option maxRecDepth 100000 in
set_option maxHeartbeats 2000000 in
theorem drop59 (base c bs bl : Nat) (s : Int) (r : Nd) (ns : List Nd) (hn : ns.length ≤ 10000000) (w : World) (hc : Chn w base c (r :: ns)) (hs : Bx w bs [.int .i64 s]) (hl : Bx w bl [.pointer (some ⟨c, 0, none⟩)]) (hbs : bs ∉ (r :: ns).map (·.1)) (hbl : bl ∉ (r :: ns).map (·.1)) :
  Calls Tryz.prog 107 #[.pointer (some ⟨c, 0, none⟩), (.func (.func 108) #[] #[.pointer (some ⟨bs, 0, none⟩), .pointer (some ⟨bl, 0, none⟩)])] w fun e w' => e = .returned (.tuple #[]) ∧ Chn w' base c (r :: dropN (goes1 s) [] ns) ∧ Kn ((r :: ns).map (·.1)) w w' := by
 have HC : Hid (Chn w base c (r :: ns)) := hc
 have XS : Hid (Bx w bs [.int .i64 s]) := hs
 have XL : Hid (Bx w bl [.pointer (some ⟨c, 0, none⟩)]) := hl
 have NS : Hid (bs ∉ (r :: ns).map (·.1)) := hbs
 have NL : Hid (bl ∉ (r :: ns).map (·.1)) := hbl
 have b0 := hc.bx.c0
 simp only [ptq_cons] at b0
 clear hc hs hl hbs hbl
 go_enter Tryz.func107, Tryz.ntmps107
 go_wp2
 clear b0
 go_loopg [4] ns.length (fun g t wr => ∃ (A0 : List Nd) (m : Nd) (B A : List Nd), t = .pointer (some ⟨m.1, 0, none⟩) ∧ Hid (B.length = g) ∧ Hid (r :: A = A0 ++ [m]) ∧ Hid (Chn wr base c (A0 ++ m :: B)) ∧ Hid (dropN (goes1 s) A B = dropN (goes1 s) [] ns) ∧ Hid (∀ x ∈ A ++ B, x ∈ ns) ∧ Hid ((A ++ B).length ≤ ns.length) ∧ Hid (Kn ((r :: ns).map (·.1)) w wr))
 case atStart => exact ⟨[], r, ns, [], rfl, rfl, rfl, HC, rfl, (fun x hx => by simpa using hx), (by show _ ≤ _; simp), Kn.refl _ _⟩
 case round =>
  obtain ⟨A0, m, B, A, rfl, HG, HE, HCr, HD, HM, HLn, HK⟩ := hrel
  have hx := HCr.out.at'
  have m4 := hx.c4
  have mf := hx.fz
  clear hx
  cases B with
  | nil =>
   rw [ptq_nil] at m4
   have HF : Hid (Chn wr base c (r :: dropN (goes1 s) [] ns)) := by
    show Chn _ _ _ _
    rw [← HD.out, dropN_nil, HE.out]
    exact HCr.out
   go_wp2
   go_end0
   exact ⟨rfl, HF.out, HK.out⟩
  | cons n B =>
   rw [ptq_cons] at m4
   have HCa : Hid (Chn wr base c (r :: (A ++ n :: B))) := by
    show Chn _ _ _ _
    rw [← split_eq HE.out]
    exact HCr.out
   have X : Hid (Bx wr n.1 (ndc n.2 (ptq B none))) := seg_at HCa.out rfl
   have XM : Hid (Bx wr m.1 (ndc m.2 (some ⟨n.1, 0, none⟩))) := HCr.out.at'
   have hal : (A ++ n :: B).length ≤ 100000000 := Nat.le_trans HLn.out (by omega)
   have hmem : n ∈ ns := HM.out n (by simp)
   have HMm : Hid (m.1 ∈ (r :: ns).map (·.1)) := by
    show _ ∈ _
    have h1 : m ∈ r :: A := by rw [HE.out]; simp
    rcases List.mem_cons.1 h1 with h2 | h2
    ·rw [h2]; simp
    ·exact List.mem_cons_of_mem _ (List.mem_map.2 ⟨m, HM.out m (by simp [h2]), rfl⟩)
   have HG2 : Hid (B.length < gk) := by show _ < _; rw [← HG.out]; simp
   obtain ⟨q, hq⟩ : ∃ q, q = ptq B none := ⟨_, rfl⟩
   rw [← hq] at X
   have HQ : Hid (q = ptq B none) := hq
   clear hq
   go_wp2_with fail
   refine (ask59 base c bs bl s r n A B hal _ HCa.out (XS.out.kn HK.out NS.out) (XL.out.kn HK.out NL.out)).mono ?_
   rintro e w2 ⟨rfl, hb2⟩
   have HC2 : Hid (Chn w2 base c (A0 ++ m :: n :: B)) := HCr.out.below hb2
   have X2 : Hid (Bx w2 n.1 (ndc n.2 q)) := X.out.below hb2
   have XM2 : Hid (Bx w2 m.1 (ndc m.2 (some ⟨n.1, 0, none⟩))) := XM.out.below hb2
   have HK2 : Hid (Kn ((r :: ns).map (·.1)) w w2) := HK.out.trans (Kn.ofBelow hb2)
   clear hb2 m4 mf
   have m4 := XM2.out.c4
   have mf := XM2.out.fz
   have n4 := X2.out.c4
   cases hg : goes1 s A n B
   ·have HD2 : Hid (dropN (goes1 s) (A ++ [n]) B = dropN (goes1 s) [] ns) := by
     have h := HD.out
     rw [dropN_cons, hg, if_neg (by simp)] at h
     exact h
    clear hg
    go_wp2
    go_roundg B.length
    case measure => exact HG2.out
    case rel => exact ⟨A0 ++ [m], n, B, A ++ [n], rfl, rfl, by show _ = _; rw [← HE.out]; simp, by show Chn _ _ _ _; have h := HC2.out; simpa using h, HD2, (fun x hx => HM.out x (by simpa using hx)), (by have h := HLn.out; simpa [Hid] using h), HK2⟩
   ·have HD2 : Hid (dropN (goes1 s) A B = dropN (goes1 s) [] ns) := by
     have h := HD.out
     rw [dropN_cons, hg, if_pos rfl] at h
     exact h
    have HC3 : Hid (Chn (w2.setCell ⟨m.1, 4, none⟩ (.pointer q)) base c (A0 ++ m :: B)) := by
     show Chn _ _ _ _
     rw [HQ.out]
     exact chn_cut HC2.out
    have HK3 : Hid (Kn ((r :: ns).map (·.1)) w (w2.setCell ⟨m.1, 4, none⟩ (.pointer q))) := HK2.out.trans ((Kn.set w2 m.1 4 (.pointer q)).mono (fun x hx => by rw [List.mem_singleton.1 hx]; exact HMm.out))
    clear hg
    go_wp2
    go_roundg B.length
    case measure => exact HG2.out
    case rel => exact ⟨A0, m, B, A, rfl, rfl, HE, HC3, HD2, (fun x hx => HM.out x (by rcases List.mem_append.1 hx with h | h <;> simp [h])), (by have h := HLn.out; simp only [List.length_append, List.length_cons] at h; show _ ≤ _; rw [List.length_append]; omega), HK3⟩

set_option maxRecDepth 100000 in
set_option maxHeartbeats 2000000 in
theorem drop60 (base c bs bl : Nat) (s : Int) (r : Nd) (ns : List Nd) (hn : ns.length ≤ 10000000) (w : World) (hc : Chn w base c (r :: ns)) (hs : Bx w bs [.int .i64 s]) (hl : Bx w bl [.pointer (some ⟨c, 0, none⟩)]) (hbs : bs ∉ (r :: ns).map (·.1)) (hbl : bl ∉ (r :: ns).map (·.1)) :
  Calls Tryz.prog 107 #[.pointer (some ⟨c, 0, none⟩), (.func (.func 110) #[] #[.pointer (some ⟨bs, 0, none⟩), .pointer (some ⟨bl, 0, none⟩)])] w fun e w' => e = .returned (.tuple #[]) ∧ Chn w' base c (r :: dropN (goes2 s) [] ns) ∧ Kn ((r :: ns).map (·.1)) w w' := by
 have HC : Hid (Chn w base c (r :: ns)) := hc
 have XS : Hid (Bx w bs [.int .i64 s]) := hs
 have XL : Hid (Bx w bl [.pointer (some ⟨c, 0, none⟩)]) := hl
 have NS : Hid (bs ∉ (r :: ns).map (·.1)) := hbs
 have NL : Hid (bl ∉ (r :: ns).map (·.1)) := hbl
 have b0 := hc.bx.c0
 simp only [ptq_cons] at b0
 clear hc hs hl hbs hbl
 go_enter Tryz.func107, Tryz.ntmps107
 go_wp2
 clear b0
 go_loopg [4] ns.length (fun g t wr => ∃ (A0 : List Nd) (m : Nd) (B A : List Nd), t = .pointer (some ⟨m.1, 0, none⟩) ∧ Hid (B.length = g) ∧ Hid (r :: A = A0 ++ [m]) ∧ Hid (Chn wr base c (A0 ++ m :: B)) ∧ Hid (dropN (goes2 s) A B = dropN (goes2 s) [] ns) ∧ Hid (∀ x ∈ A ++ B, x ∈ ns) ∧ Hid ((A ++ B).length ≤ ns.length) ∧ Hid (Kn ((r :: ns).map (·.1)) w wr))
 case atStart => exact ⟨[], r, ns, [], rfl, rfl, rfl, HC, rfl, (fun x hx => by simpa using hx), (by show _ ≤ _; simp), Kn.refl _ _⟩
 case round =>
  obtain ⟨A0, m, B, A, rfl, HG, HE, HCr, HD, HM, HLn, HK⟩ := hrel
  have hx := HCr.out.at'
  have m4 := hx.c4
  have mf := hx.fz
  clear hx
  cases B with
  | nil =>
   rw [ptq_nil] at m4
   have HF : Hid (Chn wr base c (r :: dropN (goes2 s) [] ns)) := by
    show Chn _ _ _ _
    rw [← HD.out, dropN_nil, HE.out]
    exact HCr.out
   go_wp2
   go_end0
   exact ⟨rfl, HF.out, HK.out⟩
  | cons n B =>
   rw [ptq_cons] at m4
   have HCa : Hid (Chn wr base c (r :: (A ++ n :: B))) := by
    show Chn _ _ _ _
    rw [← split_eq HE.out]
    exact HCr.out
   have X : Hid (Bx wr n.1 (ndc n.2 (ptq B none))) := seg_at HCa.out rfl
   have XM : Hid (Bx wr m.1 (ndc m.2 (some ⟨n.1, 0, none⟩))) := HCr.out.at'
   have hal : (A ++ n :: B).length ≤ 100000000 := Nat.le_trans HLn.out (by omega)
   have hmem : n ∈ ns := HM.out n (by simp)
   have HMm : Hid (m.1 ∈ (r :: ns).map (·.1)) := by
    show _ ∈ _
    have h1 : m ∈ r :: A := by rw [HE.out]; simp
    rcases List.mem_cons.1 h1 with h2 | h2
    ·rw [h2]; simp
    ·exact List.mem_cons_of_mem _ (List.mem_map.2 ⟨m, HM.out m (by simp [h2]), rfl⟩)
   have HG2 : Hid (B.length < gk) := by show _ < _; rw [← HG.out]; simp
   obtain ⟨q, hq⟩ : ∃ q, q = ptq B none := ⟨_, rfl⟩
   rw [← hq] at X
   have HQ : Hid (q = ptq B none) := hq
   clear hq
   go_wp2_with fail
   refine (ask60 base c bs bl s r n A B hal _ HCa.out (XS.out.kn HK.out NS.out) (XL.out.kn HK.out NL.out)).mono ?_
   rintro e w2 ⟨rfl, hb2⟩
   have HC2 : Hid (Chn w2 base c (A0 ++ m :: n :: B)) := HCr.out.below hb2
   have X2 : Hid (Bx w2 n.1 (ndc n.2 q)) := X.out.below hb2
   have XM2 : Hid (Bx w2 m.1 (ndc m.2 (some ⟨n.1, 0, none⟩))) := XM.out.below hb2
   have HK2 : Hid (Kn ((r :: ns).map (·.1)) w w2) := HK.out.trans (Kn.ofBelow hb2)
   clear hb2 m4 mf
   have m4 := XM2.out.c4
   have mf := XM2.out.fz
   have n4 := X2.out.c4
   cases hg : goes2 s A n B
   ·have HD2 : Hid (dropN (goes2 s) (A ++ [n]) B = dropN (goes2 s) [] ns) := by
     have h := HD.out
     rw [dropN_cons, hg, if_neg (by simp)] at h
     exact h
    clear hg
    go_wp2
    go_roundg B.length
    case measure => exact HG2.out
    case rel => exact ⟨A0 ++ [m], n, B, A ++ [n], rfl, rfl, by show _ = _; rw [← HE.out]; simp, by show Chn _ _ _ _; have h := HC2.out; simpa using h, HD2, (fun x hx => HM.out x (by simpa using hx)), (by have h := HLn.out; simpa [Hid] using h), HK2⟩
   ·have HD2 : Hid (dropN (goes2 s) A B = dropN (goes2 s) [] ns) := by
     have h := HD.out
     rw [dropN_cons, hg, if_pos rfl] at h
     exact h
    have HC3 : Hid (Chn (w2.setCell ⟨m.1, 4, none⟩ (.pointer q)) base c (A0 ++ m :: B)) := by
     show Chn _ _ _ _
     rw [HQ.out]
     exact chn_cut HC2.out
    have HK3 : Hid (Kn ((r :: ns).map (·.1)) w (w2.setCell ⟨m.1, 4, none⟩ (.pointer q))) := HK2.out.trans ((Kn.set w2 m.1 4 (.pointer q)).mono (fun x hx => by rw [List.mem_singleton.1 hx]; exact HMm.out))
    clear hg
    go_wp2
    go_roundg B.length
    case measure => exact HG2.out
    case rel => exact ⟨A0, m, B, A, rfl, rfl, HE, HC3, HD2, (fun x hx => HM.out x (by rcases List.mem_append.1 hx with h | h <;> simp [h])), (by have h := HLn.out; simp only [List.length_append, List.length_cons] at h; show _ ≤ _; rw [List.length_append]; omega), HK3⟩

theorem drop_sub (p : List Nd → Nd → List Nd → Bool) : ∀ (B A : List Nd), List.Sublist (dropN p A B) (A ++ B)
 | [], A => by rw [dropN_nil, List.append_nil]; exact List.Sublist.refl _
 | n :: B, A => by
  rw [dropN_cons]
  split
  ·exact (drop_sub p B A).trans (List.Sublist.append (List.Sublist.refl _) (List.sublist_cons_self _ _))
  ·have h := drop_sub p B (A ++ [n])
   simpa using h

set_option maxRecDepth 100000 in
set_option maxHeartbeats 2000000 in
theorem itrim (vs : List Vr) (a : Option Addr) (c : Nat) (s : Int) (hn : vs.length ≤ 10000000) (hf : VFit vs) (w : World) (hp : GRow encV w a vs) :
  Calls Tryz.prog 71 #[.slice a vs.length c, .int .i64 s] w fun e w' => ∃ a1 c1, e = .returned (.slice a1 (trimB s vs).length c1) ∧ GOwn encV 150 w' w.heap.size (.slice a1 (trimB s vs).length c1) (trimB s vs) ∧ Below w.heap.size w w' := by
 have HP : Hid (GRow encV w a vs) := hp
 have HF : Hid (VFit vs) := hf
 clear hp hf
 have X0 : Hid (Bx (w.alloc (.cells #[.int .i64 s] 3)) w.heap.size [.int .i64 s]) := Bx.new w [.int .i64 s] 3
 have HB0 : Hid (Below w.heap.size w (w.alloc (.cells #[.int .i64 s] 3))) := (belowRefl w).alloc (Nat.le_refl _) _
 have HS0 : Hid ((w.alloc (.cells #[.int .i64 s] 3)).heap.size = w.heap.size + 1) := World.size_alloc _ _
 have hmf : ∀ (fn : Fn) (first cap : Array Value) (w : World), (Instr.makeFunc fn first cap).run Tryz.prog w = .ok (.func fn first cap) w := fun _ _ _ _ => rfl
 go_enter Tryz.func71, Tryz.ntmps71
 go_wp2_with fail
 generalize (w.alloc (.cells #[.int .i64 s] 3)) = W at *
 refine (chain45 vs a c (by omega) _ (HP.out.below HB0.out)).mono ?_
 rintro e w1 ⟨rfl, ⟨r, ns, hc, hv⟩, hb1⟩
 obtain ⟨cc, hcc⟩ : ∃ cc, cc = W.heap.size + 1 := ⟨_, rfl⟩
 rw [← hcc] at hc ⊢
 clear hcc
 have HV : Hid (ns.map (·.2) = vs) := hv
 have HC1 : Hid (Chn (w1.alloc (.cells #[.pointer (some ⟨cc, 0, none⟩)] 159)) W.heap.size cc ((r, zV) :: ns)) := hc.below ((belowRefl w1).alloc (Nat.le_refl _) _)
 have XL1 : Hid (Bx (w1.alloc (.cells #[.pointer (some ⟨cc, 0, none⟩)] 159)) w1.heap.size [.pointer (some ⟨cc, 0, none⟩)]) := Bx.new w1 [.pointer (some ⟨cc, 0, none⟩)] 159
 have XS1 : Hid (Bx (w1.alloc (.cells #[.pointer (some ⟨cc, 0, none⟩)] 159)) w.heap.size [.int .i64 s]) := (X0.out.below hb1).alloc _
 have HB1 : Hid (Below w.heap.size w (w1.alloc (.cells #[.pointer (some ⟨cc, 0, none⟩)] 159))) := (HB0.out.trans (hb1.mono HB0.out.size)).alloc (Nat.le_trans HB0.out.size hb1.size) _
 have NS : Hid (w.heap.size ∉ ((r, zV) :: ns).map (·.1)) := fun h => by have := hc.lo w.heap.size (List.mem_cons_of_mem _ h); have := HS0.out; omega
 have NL : Hid (w1.heap.size ∉ ((r, zV) :: ns).map (·.1)) := fun h => by have := hc.lt w1.heap.size (List.mem_cons_of_mem _ h); omega
 have HLo : Hid (∀ x ∈ ((r, zV) :: ns).map (·.1), w.heap.size ≤ x) := fun x hx => by have := hc.lo x (List.mem_cons_of_mem _ hx); have := HS0.out; omega
 have hnl : ns.length ≤ 10000000 := by rw [← List.length_map (f := fun x : Nd => x.2), hv]; exact hn
 clear hc hv hb1 X0 HB0
 have l0 := XL1.out.c0
 go_wp2_with fail
 generalize w1.alloc (.cells #[.pointer (some ⟨cc, 0, none⟩)] 159) = W1 at *
 refine (drop59 W.heap.size cc w.heap.size w1.heap.size s (r, zV) ns hnl _ HC1.out XS1.out XL1.out NS.out NL.out).mono ?_
 rintro e w2 ⟨rfl, hc2, hk2⟩
 obtain ⟨n1, hn1⟩ : ∃ n1, n1 = dropN (goes1 s) [] ns := ⟨_, rfl⟩
 rw [← hn1] at hc2
 have HN1 : Hid (n1 = dropN (goes1 s) [] ns) := hn1
 have HSub : Hid (List.Sublist n1 ns) := by
  show List.Sublist _ _
  have h := drop_sub (goes1 s) ns []
  rw [hn1]
  simpa using h
 clear hn1
 have HC2 : Hid (Chn w2 W.heap.size cc ((r, zV) :: n1)) := hc2
 have XS2 : Hid (Bx w2 w.heap.size [.int .i64 s]) := XS1.out.kn hk2 NS.out
 have XL2 : Hid (Bx w2 w1.heap.size [.pointer (some ⟨cc, 0, none⟩)]) := XL1.out.kn hk2 NL.out
 have HB2 : Hid (Below w.heap.size w w2) := HB1.out.trans (hk2.below HB1.out.size HLo.out)
 have HIn : Hid (∀ x ∈ ((r, zV) :: n1).map (·.1), x ∈ ((r, zV) :: ns).map (·.1)) := fun x hx => (List.Sublist.cons_cons _ (HSub.out.map _)).subset hx
 clear hc2 hk2 l0
 have l0 := XL2.out.c0
 go_wp2_with fail
 refine (drop60 W.heap.size cc w.heap.size w1.heap.size s (r, zV) n1 (Nat.le_trans HSub.out.length_le hnl) _ HC2.out XS2.out XL2.out (fun h => NS.out (HIn.out _ h)) (fun h => NL.out (HIn.out _ h))).mono ?_
 rintro e w3 ⟨rfl, hc3, hk3⟩
 obtain ⟨n2, hn2⟩ : ∃ n2, n2 = dropN (goes2 s) [] n1 := ⟨_, rfl⟩
 rw [← hn2] at hc3
 have HT : Hid (n2.map (·.2) = trimB s vs) := by
  show _ = _
  rw [hn2, HN1.out]
  refine trim_of HV.out ?_
  have h := HC1.out.nd
  exact (List.nodup_cons.1 (List.nodup_cons.1 h).2).2
 have HSub2 : Hid (List.Sublist n2 n1) := by
  show List.Sublist _ _
  have h := drop_sub (goes2 s) n1 []
  rw [hn2]
  simpa using h
 clear hn2
 have HC3 : Hid (Chn w3 W.heap.size cc ((r, zV) :: n2)) := hc3
 have XL3 : Hid (Bx w3 w1.heap.size [.pointer (some ⟨cc, 0, none⟩)]) := XL2.out.kn hk3 (fun h => NL.out (HIn.out _ h))
 have HB3 : Hid (Below w.heap.size w w3) := HB2.out.trans (hk3.below HB2.out.size (fun x hx => HLo.out x (HIn.out x hx)))
 clear hc3 hk3 l0
 have l0 := XL3.out.c0
 have HZ : Hid (∀ n ∈ n2, n.2.1.size ≤ 281474976710656 ∧ n.2.2.1.size ≤ 281474976710656) := fun n hm => by
  have h1 : n.2 ∈ vs := by
   rw [← HV.out]
   exact List.mem_map.2 ⟨n, HSub.out.subset (HSub2.out.subset hm), rfl⟩
  have := HF.out n.2 h1
  omega
 have hl2 : n2.length ≤ 100000000 := Nat.le_trans HSub2.out.length_le (Nat.le_trans HSub.out.length_le (by omega))
 go_wp2_with fail
 refine (vers47 W.heap.size cc (r, zV) n2 hl2 HZ.out _ HC3.out).mono ?_
 rintro e w4 ⟨a1, c1, rfl, ho, hb4⟩
 rw [HT.out] at ho ⊢
 have HO : Hid (GOwn encV 150 w4 w.heap.size (.slice a1 (trimB s vs).length c1) (trimB s vs)) := ho.mono HB3.out.size
 have HB4 : Hid (Below w.heap.size w w4) := HB3.out.trans (hb4.mono HB3.out.size)
 clear ho hb4
 go_wp2
 go_ret
 exact ⟨a1, c1, rfl, HO.out, HB4.out⟩
end Go.Proofs.YtmijppfppigjcaaGreat

namespace Go.Proofs.YtmijppfppigjcaaGreat
open Go.RowKit
open KM
open VM
attribute [local go_sem ↓] Go.wp_at_zero Go.wp_at_succ

theorem chn_put {w : World} {base c : Nat} {A B : List Nd} {m : Nd} (h : Chn w base c (A ++ m :: B)) (v : Vr) (hb : base ≤ w.heap.size) :
  Chn ((w.alloc (.cells #[.string v.1, .string v.2.1, .bool v.2.2.1, .int .i64 v.2.2.2, .pointer (ptq B none)] 178)).setCell ⟨m.1, 4, none⟩ (.pointer (some ⟨w.heap.size, 0, none⟩))) base c (A ++ m :: (w.heap.size, v) :: B) := by
 have h1 := h.below ((belowRefl w).alloc (Nat.le_refl _) (.cells #[.string v.1, .string v.2.1, .bool v.2.2.1, .int .i64 v.2.2.2, .pointer (ptq B none)] 178))
 have h2 := Bx.new w (ndc v (ptq B none)) 178
 have hB := ((seg_app A (m :: B) none).1 h1.seg).2.2
 refine h1.next (C := (w.heap.size, v) :: B) ⟨h2, hB⟩ ?_ (fun n hn => ?_)
 ·have hnd := h.nd
  have hlt := h.lt
  have hn : w.heap.size ∉ c :: (A ++ m :: B).map (·.1) := fun hm => by have := hlt _ hm; omega
  have hp : List.Perm (c :: (A ++ m :: (w.heap.size, v) :: B).map (·.1)) (w.heap.size :: c :: (A ++ m :: B).map (·.1)) := by
   refine List.Perm.trans (List.Perm.cons c ?_) (List.Perm.swap _ _ _)
   simp only [List.map_append, List.map_cons]
   refine List.Perm.trans (List.Perm.append_left _ (List.Perm.swap _ _ _)) ?_
   exact List.perm_middle
  exact (List.Perm.nodup_iff hp).2 (List.nodup_cons.2 ⟨hn, hnd⟩)
 ·rcases List.mem_cons.1 hn with rfl | hn
  ·exact hb
  ·exact h.lo n.1 (List.mem_cons_of_mem _ (List.mem_map.2 ⟨n, by simp [hn], rfl⟩))

end Go.Proofs.YtmijppfppigjcaaGreat

namespace Go.Proofs.YtmijppfppigjcaaGreat
open Go.RowKit
open KM
open VM
attribute [local go_sem ↓] Go.wp_at_zero Go.wp_at_succ

theorem mem_ins {l : List Vr} {v x : Vr} : x ∈ insV l v ↔ x = v ∨ x ∈ l := by
 unfold insV
 have h : x ∈ l ↔ x ∈ l.takeWhile (leV v) ∨ x ∈ l.dropWhile (leV v) := by
  rw [← List.mem_append, List.takeWhile_append_dropWhile]
 rw [h]
 simp only [List.mem_append, List.mem_cons]
 constructor
 ·rintro (h | h | h)
  ·exact Or.inr (Or.inl h)
  ·exact Or.inl h
  ·exact Or.inr (Or.inr h)
 ·rintro (h | h | h)
  ·exact Or.inr (Or.inl h)
  ·exact Or.inl h
  ·exact Or.inr (Or.inr h)
theorem mem_put {cs : Int} {x : Vr} : ∀ {ws : List Wt} {l : List Vr}, x ∈ putV l ws cs ↔ x ∈ l ∨ ∃ y ∈ ws, x = verOf cs y := by
 intro ws
 induction ws with
 | nil => intro l; simp [putV]
 | cons y ws ih =>
  intro l
  have e : putV l (y :: ws) cs = putV (insV l (verOf cs y)) ws cs := rfl
  rw [e, ih, mem_ins]
  constructor
  ·rintro ((h | h) | ⟨z, hz, h⟩)
   ·exact Or.inr ⟨y, by simp, h⟩
   ·exact Or.inl h
   ·exact Or.inr ⟨z, by simp [hz], h⟩
  ·rintro (h | ⟨z, hz, h⟩)
   ·exact Or.inl (Or.inr h)
   ·rcases List.mem_cons.1 hz with rfl | hz
    ·exact Or.inl (Or.inl h)
    ·exact Or.inr ⟨z, hz, h⟩
end Go.Proofs.YtmijppfppigjcaaGreat
