/- What readWhole does. -/
import Derived.Test.YtblfljmcbpodbaaF4
import Derived.Defers
import Derived.Recover
import Derived.Laws.Pointers
namespace Go.Proofs.Ytblfljmcbpodbaa
open Go.RowKit
open KM
open VM
attribute [local go_sem ↓] Go.wp_at_zero Go.wp_at_succ

theorem ta_yes (w : World) : (Instr.typeAssert (.iface 176 (.agg #[])) 20 176 true).run Try.prog w = .ok (.tuple #[.agg #[], .bool true]) w := by kernel_rfl
theorem ta_no (w : World) : (Instr.typeAssert .nilIface 20 176 true).run Try.prog w = .ok (.tuple #[.agg #[], .bool false]) w := by kernel_rfl
theorem kn_s8 (bs : List Nat) (w : World) (ob : Nat) (h : ob ∈ bs) (v0 v1 v2 v3 v4 v5 v6 v7 : Value) : Kn bs w ((((((((w.setCell ⟨ob, 0, none⟩ v0).setCell ⟨ob, 1, none⟩ v1).setCell ⟨ob, 2, none⟩ v2).setCell ⟨ob, 3, none⟩ v3).setCell ⟨ob, 4, none⟩ v4).setCell ⟨ob, 5, none⟩ v5).setCell ⟨ob, 6, none⟩ v6).setCell ⟨ob, 7, none⟩ v7) := by
  have hb : ∀ x ∈ [ob], x ∈ bs := fun x hx => by rw [List.mem_singleton.1 hx]; exact h
  exact ((((((((Kn.refl bs w).trans ((Kn.set _ ob 0 v0).mono hb)).trans ((Kn.set _ ob 1 v1).mono hb)).trans ((Kn.set _ ob 2 v2).mono hb)).trans ((Kn.set _ ob 3 v3).mono hb)).trans ((Kn.set _ ob 4 v4).mono hb)).trans ((Kn.set _ ob 5 v5).mono hb)).trans ((Kn.set _ ob 6 v6).mono hb)).trans ((Kn.set _ ob 7 v7).mono hb)
set_option maxRecDepth 100000 in
set_option maxHeartbeats 2000000 in
theorem catch_pan (c : Nat) (z : Bool) (w : World) (hc : w.cell? ⟨c, 0, none⟩ = some (.bool z)) (hz : w.frozen? ⟨c, 0, none⟩ = false) (hlt : c < w.heap.size) :
    CallsD Try.prog 132 #[.pointer (some ⟨c, 0, none⟩)] (.panicking PAN) w fun e u' w' =>
      e = .returned (.tuple #[]) ∧ u' = .panicking [{ v := .iface 176 (.agg #[]), recovered := true }] ∧ w' = (w.setCell ⟨c, 0, none⟩ (.bool false)).alloc (.cells #[] 176) := by
  refine callsD_of_wpS Try.func132 rfl fun c₀ cs hu => ?_
  unfold PAN at hu
  apply wpS_seq
  apply wpS_region
  simp [wpOpsS, go_sem, recoverD, hu, Try.ntmps132, Exit.thenS]
  refine wpS_of_wp ?_
  change Code.wp _ _ _ { tmps := #[.pointer (some ⟨c, 0, none⟩), .iface 176 (.agg #[]), undef, undef, .iface 176 (.agg #[]), undef, undef, undef, undef, undef, undef, undef, undef, undef, undef, undef, undef, undef, undef], defers := [] } w
  have ty := ta_yes
  have tn := ta_no
  go_wp2
  exact ⟨rfl, _, rfl, _, by simp [results, Try.results132], rfl, rfl, rfl⟩

set_option maxRecDepth 100000 in
set_option maxHeartbeats 2000000 in
theorem catch_idle (c : Nat) (z : Bool) (w : World) (hc : w.cell? ⟨c, 0, none⟩ = some (.bool z)) (hz : w.frozen? ⟨c, 0, none⟩ = false) (hlt : c < w.heap.size) :
    CallsD Try.prog 132 #[.pointer (some ⟨c, 0, none⟩)] .returning w fun e u' w' => e = .returned (.tuple #[]) ∧ u' = .returning ∧ w' = (w.setCell ⟨c, 0, none⟩ (.bool true)).alloc (.cells #[] 176) := by
  refine callsD_of_wpS Try.func132 rfl fun c₀ cs hu => ?_
  apply wpS_seq
  apply wpS_region
  simp [wpOpsS, go_sem, recoverD, hu, Try.ntmps132, Exit.thenS]
  refine wpS_of_wp ?_
  change Code.wp _ _ _ { tmps := #[.pointer (some ⟨c, 0, none⟩), .nilIface, undef, undef, .nilIface, undef, undef, undef, undef, undef, undef, undef, undef, undef, undef, undef, undef, undef, undef], defers := [] } w
  have ty := ta_yes
  have tn := ta_no
  go_wp2
  refine ⟨rfl, .returning, by rw [← hu], _, by simp [results, Try.results132], rfl, rfl, rfl⟩

set_option maxRecDepth 100000 in
set_option maxHeartbeats 2000000 in
theorem iclo (x : ByteArray) (rb ob g : Nat) (p : Int) (hs : x.size ≤ 1048576) (hog : ob ≠ g) (w : World) (hr : Bx w rb [.pointer (some ⟨g, 0, none⟩)]) (ho : Bx w ob [.int .i64 0, .int .i64 0, .int .i64 0, .int .i64 0, .slice none 0 0, .slice none 0 0, .bool false, .string ⟨#[]⟩]) (hd : Rd w g x p) :
    Calls Try.prog 99 #[.pointer (some ⟨rb, 0, none⟩), .pointer (some ⟨ob, 0, none⟩)] w fun e w' => Kn [g, ob] w w' ∧ ((e = .panicked PAN ∧ rTx x p = none) ∨ ∃ t q ra rc wa wc, rTx x p = some (t, q) ∧ q ≤ x.size ∧ e = .returned (.tuple #[]) ∧ TLie w' w.heap.size w'.heap.size t ra rc wa wc ∧ Rd w' g x (q : Int) ∧ Bx w' ob [.int .i64 t.id, .int .i64 t.st, .int .i64 t.snap, .int .i64 t.cs, .slice ra t.rs.length rc, .slice wa t.ws.length wc, .bool t.out, .string t.nm]) := by
  have HR : Hid (Bx w rb [.pointer (some ⟨g, 0, none⟩)]) := hr
  have HO : Hid (Bx w ob [.int .i64 0, .int .i64 0, .int .i64 0, .int .i64 0, .slice none 0 0, .slice none 0 0, .bool false, .string ⟨#[]⟩]) := ho
  have HD : Hid (Rd w g x p) := hd
  have hol := ho.lt
  have r0 := hr.c0
  clear hr ho hd
  go_enter Try.func99, Try.ntmps99
  go_wp2_with fail
  refine (itx x g p hs _ HD.out).mono ?_
  rintro e w1 ⟨hg, ⟨rfl, hx⟩ | ⟨t, q, ra, rc, wa, wc, hx, hq, rfl, hl, hd⟩⟩
  · have HK : Hid (Kn [g, ob] w w1) := ⟨hg.os, hg.tape, hg.output, hg.size, fun j hj hn => hg.block j hj (fun e => hn (by simp [Option.some.inj e]))⟩
    have HX := hide hx
    clear hx hg r0
    go_wp2
    exact ⟨rfl, HK.out, Or.inl ⟨rfl, HX.out⟩⟩
  · have HK : Hid (Kn [g, ob] w w1) := ⟨hg.os, hg.tape, hg.output, hg.size, fun j hj hn => hg.block j hj (fun e => hn (by simp [Option.some.inj e]))⟩
    have HX := hide hx
    have HQ := hide hq
    have HL := hide hl
    have HD1 := hide hd
    have HO1 := hide (HO.out.grown hg hog)
    clear hx hq hl hd hg r0 HR HO HD
    have q0_ := HO1.out.c0
    have fq0 := HO1.out.fz 0
    have q1_ := HO1.out.c1
    have fq1 := HO1.out.fz 1
    have q2_ := HO1.out.c2
    have fq2 := HO1.out.fz 2
    have q3_ := HO1.out.c3
    have fq3 := HO1.out.fz 3
    have q4_ := HO1.out.c4
    have fq4 := HO1.out.fz 4
    have q5_ := HO1.out.c5
    have fq5 := HO1.out.fz 5
    have q6_ := HO1.out.c6
    have fq6 := HO1.out.fz 6
    have q7_ := HO1.out.c7
    have fq7 := HO1.out.fz 7
    go_wp2
    go_end0
    refine ⟨?_, Or.inr ⟨t, q, ra, rc, wa, wc, HX.out, HQ.out, rfl, ?_, ?_, ?_⟩⟩
    · exact HK.out.trans (kn_s8 _ _ ob (by simp) _ _ _ _ _ _ _ _)
    · exact (HL.out.s8 (Or.inl hol) _ _ _ _ _ _ _ _).mono (Nat.le_refl _) (by rw [size_s8]; exact Nat.le_refl _)
    · exact HD1.out.o8 hog _ _ _ _ _ _ _ _
    · exact HO1.out.s8 _ _ _ _ _ _ _ _

end Go.Proofs.Ytblfljmcbpodbaa
