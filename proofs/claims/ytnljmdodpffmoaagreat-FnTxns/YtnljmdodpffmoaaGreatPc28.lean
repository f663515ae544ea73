/- What readWhole does. -/
import Derived.Test.YtnljmdodpffmoaaGreatPc01
import Derived.Test.YtnljmdodpffmoaaGreatPc27
import Derived.Defers
import Derived.Recover
import Derived.Laws.Pointers
namespace Go.Proofs.YtnljmdodpffmoaaGreat
open Go.RowKit
open KM
open VM
attribute [local go_sem ↓] Go.wp_at_zero Go.wp_at_succ

theorem ta_yes (w : World) : (Instr.typeAssert (.iface 109 (.agg #[])) 20 109 true).run Tryz.prog w = .ok (.tuple #[.agg #[], .bool true]) w := by kernel_rfl
theorem ta_no (w : World) : (Instr.typeAssert .nilIface 20 109 true).run Tryz.prog w = .ok (.tuple #[.agg #[], .bool false]) w := by kernel_rfl
theorem kn_s8 (bs : List Nat) (w : World) (ob : Nat) (h : ob ∈ bs) (v0 v1 v2 v3 v4 v5 v6 v7 : Value) : Kn bs w ((((((((w.setCell ⟨ob, 0, none⟩ v0).setCell ⟨ob, 1, none⟩ v1).setCell ⟨ob, 2, none⟩ v2).setCell ⟨ob, 3, none⟩ v3).setCell ⟨ob, 4, none⟩ v4).setCell ⟨ob, 5, none⟩ v5).setCell ⟨ob, 6, none⟩ v6).setCell ⟨ob, 7, none⟩ v7) := by
 have hb : ∀ x ∈ [ob], x ∈ bs := fun x hx => by rw [List.mem_singleton.1 hx]; exact h
 exact ((((((((Kn.refl bs w).trans ((Kn.set _ ob 0 v0).mono hb)).trans ((Kn.set _ ob 1 v1).mono hb)).trans ((Kn.set _ ob 2 v2).mono hb)).trans ((Kn.set _ ob 3 v3).mono hb)).trans ((Kn.set _ ob 4 v4).mono hb)).trans ((Kn.set _ ob 5 v5).mono hb)).trans ((Kn.set _ ob 6 v6).mono hb)).trans ((Kn.set _ ob 7 v7).mono hb)
set_option maxRecDepth 100000 in
set_option maxHeartbeats 2000000 in
theorem catch_pan (c : Nat) (z : Bool) (w : World) (hc : w.cell? ⟨c, 0, none⟩ = some (.bool z)) (hz : w.frozen? ⟨c, 0, none⟩ = false) (hlt : c < w.heap.size) :
  CallsD Tryz.prog 71 #[.pointer (some ⟨c, 0, none⟩)] (.panicking PAN) w fun e u' w' =>
   e = .returned (.tuple #[]) ∧ u' = .panicking [{ v := .iface 109 (.agg #[]), recovered := true }] ∧ w' = (w.setCell ⟨c, 0, none⟩ (.bool false)).alloc (.cells #[] 109) := by
 refine callsD_of_wpS Tryz.func71 rfl fun c₀ cs hu => ?_
 unfold PAN at hu
 apply wpS_seq
 apply wpS_region
 simp [wpOpsS, go_sem, recoverD, hu, Tryz.ntmps71, Exit.thenS]
 refine wpS_of_wp ?_
 change Code.wp _ _ _ { tmps := #[.pointer (some ⟨c, 0, none⟩), .iface 109 (.agg #[]), undef, undef, .iface 109 (.agg #[]), undef, undef, undef, undef, undef, undef, undef, undef, undef, undef, undef, undef, undef, undef], defers := [] } w
 have ty := ta_yes
 have tn := ta_no
 go_wp2
 exact ⟨rfl, _, rfl, _, by simp [results, Tryz.results71], rfl, rfl, rfl⟩

set_option maxRecDepth 100000 in
set_option maxHeartbeats 2000000 in
theorem catch_idle (c : Nat) (z : Bool) (w : World) (hc : w.cell? ⟨c, 0, none⟩ = some (.bool z)) (hz : w.frozen? ⟨c, 0, none⟩ = false) (hlt : c < w.heap.size) :
  CallsD Tryz.prog 71 #[.pointer (some ⟨c, 0, none⟩)] .returning w fun e u' w' => e = .returned (.tuple #[]) ∧ u' = .returning ∧ w' = (w.setCell ⟨c, 0, none⟩ (.bool true)).alloc (.cells #[] 109) := by
 refine callsD_of_wpS Tryz.func71 rfl fun c₀ cs hu => ?_
 apply wpS_seq
 apply wpS_region
 simp [wpOpsS, go_sem, recoverD, hu, Tryz.ntmps71, Exit.thenS]
 refine wpS_of_wp ?_
 change Code.wp _ _ _ { tmps := #[.pointer (some ⟨c, 0, none⟩), .nilIface, undef, undef, .nilIface, undef, undef, undef, undef, undef, undef, undef, undef, undef, undef, undef, undef, undef, undef], defers := [] } w
 have ty := ta_yes
 have tn := ta_no
 go_wp2
 refine ⟨rfl, .returning, by rw [← hu], _, by simp [results, Tryz.results71], rfl, rfl, rfl⟩

set_option maxRecDepth 100000 in
set_option maxHeartbeats 2000000 in
theorem iclo (x : ByteArray) (rb ob g : Nat) (p : Int) (hs : x.size ≤ 1048576) (hog : ob ≠ g) (w : World) (hr : Bx w rb [.pointer (some ⟨g, 0, none⟩)]) (ho : Bx w ob [.int .i64 0, .int .i64 0, .int .i64 0, .int .i64 0, .slice none 0 0, .slice none 0 0, .bool false, .string ⟨#[]⟩]) (hd : Rd w g x p) :
  Calls Tryz.prog 28 #[.pointer (some ⟨rb, 0, none⟩), .pointer (some ⟨ob, 0, none⟩)] w fun e w' => Kn [g, ob] w w' ∧ ((e = .panicked PAN ∧ rTx x p = none) ∨ ∃ t q ra rc wa wc, rTx x p = some (t, q) ∧ q ≤ x.size ∧ e = .returned (.tuple #[]) ∧ TLie w' w.heap.size w'.heap.size t ra rc wa wc ∧ Rd w' g x (q : Int) ∧ Bx w' ob [.int .i64 t.id, .int .i64 t.st, .int .i64 t.snap, .int .i64 t.cs, .slice ra t.rs.length rc, .slice wa t.ws.length wc, .bool t.out, .string t.nm]) := by
 have HR : Hid (Bx w rb [.pointer (some ⟨g, 0, none⟩)]) := hr
 have HO : Hid (Bx w ob [.int .i64 0, .int .i64 0, .int .i64 0, .int .i64 0, .slice none 0 0, .slice none 0 0, .bool false, .string ⟨#[]⟩]) := ho
 have HD : Hid (Rd w g x p) := hd
 have hol := ho.lt
 have r0 := hr.c0
 clear hr ho hd
 go_enter Tryz.func28, Tryz.ntmps28
 go_wp2_with fail
 refine (itx x g p hs _ HD.out).mono ?_
 rintro e w1 ⟨hg, ⟨rfl, hx⟩ | ⟨t, q, ra, rc, wa, wc, hx, hq, rfl, hl, hd⟩⟩
 ·have HK : Hid (Kn [g, ob] w w1) := ⟨hg.os, hg.tape, hg.output, hg.size, fun j hj hn => hg.block j hj (fun e => hn (by simp [Option.some.inj e]))⟩
  have HX := hide hx
  clear hx hg r0
  go_wp2
  exact ⟨rfl, HK.out, Or.inl ⟨rfl, HX.out⟩⟩
 ·have HK : Hid (Kn [g, ob] w w1) := ⟨hg.os, hg.tape, hg.output, hg.size, fun j hj hn => hg.block j hj (fun e => hn (by simp [Option.some.inj e]))⟩
  have HX := hide hx
  have HQ := hide hq
  have HL := hide hl
  have HD1 := hide hd
  have HO1 := hide (HO.out.grown hg hog)
  clear hx hq hl hd hg r0 HR HO HD
  have q0_ := HO1.out.c0
  have fq0 := HO1.out.fz 0
  have q1_ := HO1.out.c1
  have fq1 := HO1.out.fz 1
  have q2_ := HO1.out.c2
  have fq2 := HO1.out.fz 2
  have q3_ := HO1.out.c3
  have fq3 := HO1.out.fz 3
  have q4_ := HO1.out.c4
  have fq4 := HO1.out.fz 4
  have q5_ := HO1.out.c5
  have fq5 := HO1.out.fz 5
  have q6_ := HO1.out.c6
  have fq6 := HO1.out.fz 6
  have q7_ := HO1.out.c7
  have fq7 := HO1.out.fz 7
  go_wp2
  go_end0
  refine ⟨?_, Or.inr ⟨t, q, ra, rc, wa, wc, HX.out, HQ.out, rfl, ?_, ?_, ?_⟩⟩
  ·exact HK.out.trans (kn_s8 _ _ ob (by simp) _ _ _ _ _ _ _ _)
  ·exact (HL.out.s8 (Or.inl hol) _ _ _ _ _ _ _ _).mono (Nat.le_refl _) (by rw [size_s8]; exact Nat.le_refl _)
  ·exact HD1.out.o8 hog _ _ _ _ _ _ _ _
  ·exact HO1.out.s8 _ _ _ _ _ _ _ _

end Go.Proofs.YtnljmdodpffmoaaGreat

namespace Go.Proofs.YtnljmdodpffmoaaGreat
open Go.RowKit
open KM
open VM
attribute [local go_sem ↓] Go.wp_at_zero Go.wp_at_succ

def zT : Tx := ⟨0, 0, 0, 0, [], [], false, ⟨#[]⟩⟩
def ansT : Option (Tx × Nat) → Tx × Nat × Bool
 | none => (zT, 0, false)
 | some r => (r.1, r.2, true)
theorem zlie (w : World) (lo hi : Nat) (h : lo ≤ hi) : TLie w lo hi zT none 0 none 0 := ⟨hi, h, Nat.le_refl _, ⟨World.ownsRow_nil _ _ _ _, fun g hg => by cases hg⟩, ⟨World.ownsRow_nil _ _ _ _, fun g hg => by cases hg⟩⟩
theorem below_ca {w1 : World} {c : Nat} (hc : c ≤ w1.heap.size) (v : Value) : Below c w1 ((w1.setCell ⟨c, 0, none⟩ v).alloc (.cells #[] 109)) := ((Below.refl c w1).setCell (Nat.le_refl _) v).alloc (by simpa [World.setCell] using hc) _
theorem kn_new {bs : List Nat} {w w1 w2 w3 : World} (h0 : Below w.heap.size w w1) (h1 : Kn bs w1 w2) (h2 : Below w.heap.size w2 w3) : Kn bs w w3 :=
 ⟨h2.os.trans (h1.os.trans h0.os), h2.tape.trans (h1.tape.trans h0.tape), h2.output.trans (h1.output.trans h0.output), Nat.le_trans h0.size (Nat.le_trans h1.size h2.size), fun j hj hn => (h2.block j hj).trans ((h1.block j (Nat.lt_of_lt_of_le hj h0.size) hn).trans (h0.block j hj))⟩

set_option maxRecDepth 100000 in
set_option maxHeartbeats 2000000 in
theorem iwhole (x : ByteArray) (rb ob g : Nat) (p : Int) (hs : x.size ≤ 1048576) (hog : ob ≠ g) (w : World) (hr : Bx w rb [.pointer (some ⟨g, 0, none⟩)]) (ho : Bx w ob [.int .i64 0, .int .i64 0, .int .i64 0, .int .i64 0, .slice none 0 0, .slice none 0 0, .bool false, .string ⟨#[]⟩]) (hd : Rd w g x p) :
  Calls Tryz.prog 27 #[.func (.func 28) #[] #[.pointer (some ⟨rb, 0, none⟩), .pointer (some ⟨ob, 0, none⟩)]] w fun e w' => Kn [g, ob] w w' ∧ ((e = .returned (.bool false) ∧ rTx x p = none) ∨ ∃ t q ra rc wa wc, rTx x p = some (t, q) ∧ q ≤ x.size ∧ e = .returned (.bool true) ∧ TLie w' w.heap.size w'.heap.size t ra rc wa wc ∧ Rd w' g x (q : Int) ∧ Bx w' ob [.int .i64 t.id, .int .i64 t.st, .int .i64 t.snap, .int .i64 t.cs, .slice ra t.rs.length rc, .slice wa t.ws.length wc, .bool t.out, .string t.nm]) := by
 have hmf : ∀ (fn : Fn) (first cap : Array Value) (w : World), (Instr.makeFunc fn first cap).run Tryz.prog w = .ok (.func fn first cap) w := fun _ _ _ _ => rfl
 have hol := ho.lt
 have hgl := hd.lt
 have HR : Hid (Bx (w.alloc (.cells #[.bool false] 4)) rb [.pointer (some ⟨g, 0, none⟩)]) := hr.alloc _
 have HO : Hid (Bx (w.alloc (.cells #[.bool false] 4)) ob [.int .i64 0, .int .i64 0, .int .i64 0, .int .i64 0, .slice none 0 0, .slice none 0 0, .bool false, .string ⟨#[]⟩]) := ho.alloc _
 have HD : Hid (Rd (w.alloc (.cells #[.bool false] 4)) g x p) := hd.alloc _
 have HC : Hid (Bx (w.alloc (.cells #[.bool false] 4)) w.heap.size [.bool false]) := Bx.new w [.bool false] 4
 have HB : Hid (Below w.heap.size w (w.alloc (.cells #[.bool false] 4))) := (belowRefl w).alloc (Nat.le_refl _) _
 have hcg : w.heap.size ∉ [g, ob] := by simp; omega
 clear hr ho hd
 go_enter_defers Tryz.func27, Tryz.ntmps27
 go_wp2_with fail
 generalize hWW : (w.alloc (.cells #[.bool false] 4)) = W1 at HR HO HD HC HB ⊢
 have HS1 : Hid (w.heap.size < W1.heap.size) := HC.out.lt
 have HS : Hid (w.heap.size ≤ W1.heap.size) := HB.out.size
 clear hWW
 refine (iclo x rb ob g p hs hog _ HR.out HO.out HD.out).mono ?_
 rintro e w1 ⟨hk, ⟨rfl, hx⟩ | ⟨t, q, ra, rc, wa, wc, hx, hq, rfl, hl, hd, ho⟩⟩
 ·have HC1 := hide (HC.out.kn hk hcg)
  have HK := hide hk
  have HX := hide hx
  clear hk hx HC
  go_wp2
  refine leaves_cons (f := 71) (args := #[.pointer (some ⟨w.heap.size, 0, none⟩)]) (by simp) (by simp [go_sem]) ?_
  refine (catch_pan w.heap.size false _ HC1.out.c0 (HC1.out.fz 0) HC1.out.lt).mono ?_
  rintro e u' w2 ⟨rfl, rfl, rfl⟩
  have q0 := ((HC1.out.set 0 (.bool false)).alloc (.cells #[] 109)).c0
  refine ⟨.bool false, by simp [results, Tryz.results27, go_sem, q0], ?_, Or.inl ⟨rfl, HX.out⟩⟩
  exact kn_new HB.out HK.out (below_ca (Nat.le_trans HS.out HK.out.size) _)
 ·have HC1 := hide (HC.out.kn hk hcg)
  have HK := hide hk
  have HX := hide hx
  have HQ := hide hq
  have HL := hide hl
  have HD1 := hide hd
  have HO1 := hide ho
  clear hk hx hq hl hd ho HC
  go_wp2
  refine leaves_cons (f := 71) (args := #[.pointer (some ⟨w.heap.size, 0, none⟩)]) (by simp) (by simp [go_sem]) ?_
  refine (catch_idle w.heap.size false _ HC1.out.c0 (HC1.out.fz 0) HC1.out.lt).mono ?_
  rintro e u' w2 ⟨rfl, rfl, rfl⟩
  have q0 := ((HC1.out.set 0 (.bool true)).alloc (.cells #[] 109)).c0
  have hne : ∀ v, Below w.heap.size w1 ((w1.setCell ⟨w.heap.size, 0, none⟩ v).alloc (.cells #[] 109)) := fun v => below_ca (Nat.le_trans HS.out HK.out.size) v
  refine ⟨.bool true, by simp [results, Tryz.results27, go_sem, q0], ?_, Or.inr ⟨t, q, ra, rc, wa, wc, HX.out, HQ.out, rfl, ?_, ?_, ?_⟩⟩
  ·exact kn_new HB.out HK.out (hne _)
  ·refine (TLie.mono (((HL.out.setz (a := ⟨w.heap.size, 0, none⟩) (Or.inl HS1.out) _)).below ((belowRefl _).alloc (Nat.le_refl _) _)) HS.out ?_)
   simp [World.setCell]
  ·exact (HD1.out.setO (p := ⟨w.heap.size, 0, none⟩) (by show w.heap.size ≠ g; omega) _).alloc _
  ·exact (HO1.out.setO (p := ⟨w.heap.size, 0, none⟩) (by show w.heap.size ≠ ob; omega) _).alloc _

set_option maxRecDepth 100000 in
set_option maxHeartbeats 4000000 in
theorem irt (x : ByteArray) (p : Int) (hs : x.size ≤ 1048576) (t : Tx) (q : Nat) (b : Bool) (ha : ansT (rTx x p) = (t, q, b)) (w : World) :
  Calls Tryz.prog 7 #[.string x, .int .i64 p] w fun e w' => ∃ ra rc wa wc, e = .returned (.tuple #[.agg #[.int .i64 t.id, .int .i64 t.st, .int .i64 t.snap, .int .i64 t.cs, .slice ra t.rs.length rc, .slice wa t.ws.length wc, .bool t.out, .string t.nm], .int .i64 (q : Int), .bool b]) ∧ TLie w' w.heap.size w'.heap.size t ra rc wa wc ∧ Below w.heap.size w w' := by
 have hmf : ∀ (fn : Fn) (first cap : Array Value) (w : World), (Instr.makeFunc fn first cap).run Tryz.prog w = .ok (.func fn first cap) w := fun _ _ _ _ => rfl
 have HA : Hid (ansT (rTx x p) = (t, q, b)) := ha
 clear ha
 have B0 : Hid (Bx ((((w.alloc (.cells #[.int .i64 0, .int .i64 0, .int .i64 0, .int .i64 0, .slice none 0 0, .slice none 0 0, .bool false, .string ⟨#[]⟩] 27)).alloc (.cells #[.string x, .int .i64 p] 65)).alloc (.cells #[.pointer (some ⟨w.heap.size + 1, 0, none⟩)] 63)).alloc (.cells #[.int .i64 0, .int .i64 0, .int .i64 0, .int .i64 0, .slice none 0 0, .slice none 0 0, .bool false, .string ⟨#[]⟩] 27)) w.heap.size [.int .i64 0, .int .i64 0, .int .i64 0, .int .i64 0, .slice none 0 0, .slice none 0 0, .bool false, .string ⟨#[]⟩]) := (((Bx.new w [.int .i64 0, .int .i64 0, .int .i64 0, .int .i64 0, .slice none 0 0, .slice none 0 0, .bool false, .string ⟨#[]⟩] 27).alloc _).alloc _).alloc _
 have BG : Hid (Rd ((((w.alloc (.cells #[.int .i64 0, .int .i64 0, .int .i64 0, .int .i64 0, .slice none 0 0, .slice none 0 0, .bool false, .string ⟨#[]⟩] 27)).alloc (.cells #[.string x, .int .i64 p] 65)).alloc (.cells #[.pointer (some ⟨w.heap.size + 1, 0, none⟩)] 63)).alloc (.cells #[.int .i64 0, .int .i64 0, .int .i64 0, .int .i64 0, .slice none 0 0, .slice none 0 0, .bool false, .string ⟨#[]⟩] 27)) (w.heap.size + 1) x p) := by
  have h := Bx.new (w.alloc (.cells #[.int .i64 0, .int .i64 0, .int .i64 0, .int .i64 0, .slice none 0 0, .slice none 0 0, .bool false, .string ⟨#[]⟩] 27)) [.string x, .int .i64 p] 65
  rw [World.size_alloc] at h
  exact (h.alloc _).alloc _
 have BR : Hid (Bx ((((w.alloc (.cells #[.int .i64 0, .int .i64 0, .int .i64 0, .int .i64 0, .slice none 0 0, .slice none 0 0, .bool false, .string ⟨#[]⟩] 27)).alloc (.cells #[.string x, .int .i64 p] 65)).alloc (.cells #[.pointer (some ⟨w.heap.size + 1, 0, none⟩)] 63)).alloc (.cells #[.int .i64 0, .int .i64 0, .int .i64 0, .int .i64 0, .slice none 0 0, .slice none 0 0, .bool false, .string ⟨#[]⟩] 27)) (w.heap.size + 1 + 1) [.pointer (some ⟨w.heap.size + 1, 0, none⟩)]) := by
  have h := Bx.new ((w.alloc (.cells #[.int .i64 0, .int .i64 0, .int .i64 0, .int .i64 0, .slice none 0 0, .slice none 0 0, .bool false, .string ⟨#[]⟩] 27)).alloc (.cells #[.string x, .int .i64 p] 65)) [.pointer (some ⟨w.heap.size + 1, 0, none⟩)] 63
  rw [World.size_alloc, World.size_alloc] at h
  exact h.alloc _
 have BO : Hid (Bx ((((w.alloc (.cells #[.int .i64 0, .int .i64 0, .int .i64 0, .int .i64 0, .slice none 0 0, .slice none 0 0, .bool false, .string ⟨#[]⟩] 27)).alloc (.cells #[.string x, .int .i64 p] 65)).alloc (.cells #[.pointer (some ⟨w.heap.size + 1, 0, none⟩)] 63)).alloc (.cells #[.int .i64 0, .int .i64 0, .int .i64 0, .int .i64 0, .slice none 0 0, .slice none 0 0, .bool false, .string ⟨#[]⟩] 27)) (w.heap.size + 1 + 1 + 1) [.int .i64 0, .int .i64 0, .int .i64 0, .int .i64 0, .slice none 0 0, .slice none 0 0, .bool false, .string ⟨#[]⟩]) := by
  have h := Bx.new (((w.alloc (.cells #[.int .i64 0, .int .i64 0, .int .i64 0, .int .i64 0, .slice none 0 0, .slice none 0 0, .bool false, .string ⟨#[]⟩] 27)).alloc (.cells #[.string x, .int .i64 p] 65)).alloc (.cells #[.pointer (some ⟨w.heap.size + 1, 0, none⟩)] 63)) [.int .i64 0, .int .i64 0, .int .i64 0, .int .i64 0, .slice none 0 0, .slice none 0 0, .bool false, .string ⟨#[]⟩] 27
  rw [World.size_alloc, World.size_alloc, World.size_alloc] at h
  exact h
 have HB : Hid (Below w.heap.size w ((((w.alloc (.cells #[.int .i64 0, .int .i64 0, .int .i64 0, .int .i64 0, .slice none 0 0, .slice none 0 0, .bool false, .string ⟨#[]⟩] 27)).alloc (.cells #[.string x, .int .i64 p] 65)).alloc (.cells #[.pointer (some ⟨w.heap.size + 1, 0, none⟩)] 63)).alloc (.cells #[.int .i64 0, .int .i64 0, .int .i64 0, .int .i64 0, .slice none 0 0, .slice none 0 0, .bool false, .string ⟨#[]⟩] 27))) := ((((belowRefl w).alloc (Nat.le_refl _) _).alloc (by simp) _).alloc (by simp; omega) _).alloc (by simp; omega) _
 have HS : Hid (((((w.alloc (.cells #[.int .i64 0, .int .i64 0, .int .i64 0, .int .i64 0, .slice none 0 0, .slice none 0 0, .bool false, .string ⟨#[]⟩] 27)).alloc (.cells #[.string x, .int .i64 p] 65)).alloc (.cells #[.pointer (some ⟨w.heap.size + 1, 0, none⟩)] 63)).alloc (.cells #[.int .i64 0, .int .i64 0, .int .i64 0, .int .i64 0, .slice none 0 0, .slice none 0 0, .bool false, .string ⟨#[]⟩] 27)).heap.size = w.heap.size + 1 + 1 + 1 + 1) := by show _ = _; rw [World.size_alloc, World.size_alloc, World.size_alloc, World.size_alloc]
 go_enter Tryz.func7, Tryz.ntmps7
 go_wp2_with fail
 generalize hWW : ((((w.alloc (.cells #[.int .i64 0, .int .i64 0, .int .i64 0, .int .i64 0, .slice none 0 0, .slice none 0 0, .bool false, .string ⟨#[]⟩] 27)).alloc (.cells #[.string x, .int .i64 p] 65)).alloc (.cells #[.pointer (some ⟨w.heap.size + 1, 0, none⟩)] 63)).alloc (.cells #[.int .i64 0, .int .i64 0, .int .i64 0, .int .i64 0, .slice none 0 0, .slice none 0 0, .bool false, .string ⟨#[]⟩] 27)) = W at B0 BG BR BO HB HS ⊢
 clear hWW
 refine (iwhole x (w.heap.size + 1 + 1) (w.heap.size + 1 + 1 + 1) (w.heap.size + 1) p hs (by omega) _ BR.out BO.out BG.out).mono ?_
 rintro e w1 ⟨hk, ⟨rfl, hx⟩ | ⟨t', q', ra, rc, wa, wc, hx, hq, rfl, hl, hd, ho⟩⟩
 ·have B1 := hide (B0.out.kn hk (by simp <;> omega))
  have HB1 : Hid (Below w.heap.size w w1) := HB.out.trans (hk.below (by have := HS.out; omega) (by simp <;> omega))
  have h := HA.out
  rw [hx] at h
  cases h
  clear hx hk B0 BG BR BO HB
  have q0_ := B1.out.c0
  have fq0 := B1.out.fz 0
  have q1_ := B1.out.c1
  have fq1 := B1.out.fz 1
  have q2_ := B1.out.c2
  have fq2 := B1.out.fz 2
  have q3_ := B1.out.c3
  have fq3 := B1.out.fz 3
  have q4_ := B1.out.c4
  have fq4 := B1.out.fz 4
  have q5_ := B1.out.c5
  have fq5 := B1.out.fz 5
  have q6_ := B1.out.c6
  have fq6 := B1.out.fz 6
  have q7_ := B1.out.c7
  have fq7 := B1.out.fz 7
  go_wp2
  refine bodyPost_ret (v := .tuple #[.agg #[.int .i64 0, .int .i64 0, .int .i64 0, .int .i64 0, .slice none 0 0, .slice none 0 0, .bool false, .string ⟨#[]⟩], .int .i64 0, .bool false]) (by simp [results, Tryz.results7, go_sem, q0_, q1_, q2_, q3_, q4_, q5_, q6_, q7_]) rfl ⟨none, 0, none, 0, rfl, zlie _ _ _ ?_, ?_⟩
  ·exact (below_s8 HB1.out (Nat.le_refl _) _ _ _ _ _ _ _ _).size
  ·exact below_s8 HB1.out (Nat.le_refl _) _ _ _ _ _ _ _ _
 ·have B1 := hide (B0.out.kn hk (by simp <;> omega))
  have R1 := hide (BR.out.kn hk (by simp <;> omega))
  have HB1 : Hid (Below w.heap.size w w1) := HB.out.trans (hk.below (by have := HS.out; omega) (by simp <;> omega))
  have G1 := hide hd
  have O1 := hide ho
  have HL := hide hl
  have h := HA.out
  rw [hx] at h
  obtain ⟨rfl, rfl, rfl⟩ : t = t' ∧ q = q' ∧ b = true := by cases h; exact ⟨rfl, rfl, rfl⟩
  clear h
  clear hx hk B0 BG BR BO HB hl hd ho
  go_wp2
  refine wp_region_held_drew (S := fun w' => w'.cell? ⟨w.heap.size + 1 + 1 + 1, 0, none⟩ = some (.int .i64 t.id) ∧ w'.cell? ⟨w.heap.size + 1 + 1 + 1, 1, none⟩ = some (.int .i64 t.st) ∧ w'.cell? ⟨w.heap.size + 1 + 1 + 1, 2, none⟩ = some (.int .i64 t.snap) ∧ w'.cell? ⟨w.heap.size + 1 + 1 + 1, 3, none⟩ = some (.int .i64 t.cs) ∧ w'.cell? ⟨w.heap.size + 1 + 1 + 1, 4, none⟩ = some (.slice ra t.rs.length rc) ∧ w'.cell? ⟨w.heap.size + 1 + 1 + 1, 5, none⟩ = some (.slice wa t.ws.length wc) ∧ w'.cell? ⟨w.heap.size + 1 + 1 + 1, 6, none⟩ = some (.bool t.out) ∧ w'.cell? ⟨w.heap.size + 1 + 1 + 1, 7, none⟩ = some (.string t.nm) ∧ w'.cell? ⟨w.heap.size + 1 + 1, 0, none⟩ = some (.pointer (some ⟨w.heap.size + 1, 0, none⟩)) ∧ w'.cell? ⟨w.heap.size + 1, 1, none⟩ = some (.int .i64 (q : Int))) (by kernel_rfl) ⟨O1.out.c0, O1.out.c1, O1.out.c2, O1.out.c3, O1.out.c4, O1.out.c5, O1.out.c6, O1.out.c7, R1.out.c0, G1.out.c1⟩ (fun hHeld => ?_)
  (refine tk 0 ?_ rfl (Or.inl ⟨by rfl, ?_⟩) ?_; rotate_left; (focus (intro w h; (try dsimp only at h); go_simp; (try with_reducible rfl))); simp only [Act.put, tA, tB, tD, tE, tF])
  (refine tk 1 ?_ rfl (Or.inl ⟨by rfl, ?_⟩) ?_; rotate_left; (focus (intro w h; (try dsimp only at h); go_simp; (try with_reducible rfl))); simp only [Act.put, tA, tB, tC, tD, tE, tF])
  (refine tk 2 ?_ rfl (Or.inl ⟨by rfl, ?_⟩) ?_; rotate_left; (focus (intro w h; (try dsimp only at h); go_simp; (try with_reducible rfl))); simp only [Act.put, tA, tB, tC, tD, tE, tF])
  (refine tk 3 ?_ rfl (Or.inl ⟨by rfl, ?_⟩) ?_; rotate_left; (focus (intro w h; (try dsimp only at h); go_simp; (try with_reducible rfl))); simp only [Act.put, tA, tB, tC, tD, tE, tF])
  (refine tk 4 ?_ rfl (Or.inl ⟨by rfl, ?_⟩) ?_; rotate_left; (focus (intro w h; (try dsimp only at h); go_simp; (try with_reducible rfl))); simp only [Act.put, tA, tB, tC, tD, tE, tF])
  have B2 : Hid (Bx w1.drew w.heap.size [.int .i64 0, .int .i64 0, .int .i64 0, .int .i64 0, .slice none 0 0, .slice none 0 0, .bool false, .string ⟨#[]⟩]) := B1.out.drew
  have O2 : Hid (Bx w1.drew (w.heap.size + 1 + 1 + 1) [.int .i64 t.id, .int .i64 t.st, .int .i64 t.snap, .int .i64 t.cs, .slice ra t.rs.length rc, .slice wa t.ws.length wc, .bool t.out, .string t.nm]) := O1.out.drew
  have R2 : Hid (Bx w1.drew (w.heap.size + 1 + 1) [.pointer (some ⟨w.heap.size + 1, 0, none⟩)]) := R1.out.drew
  have G2 : Hid (Rd w1.drew (w.heap.size + 1) x (q : Int)) := G1.out.drew
  have HB2 : Hid (Below w.heap.size w w1.drew) := HB1.out.drew
  have HL2 : Hid (TLie w1.drew W.heap.size w1.drew.heap.size t ra rc wa wc) := HL.out.below (belowRefl w1).drew
  clear hHeld B1 O1 R1 G1 HB1 HL
  generalize w1.drew = wd at *
  have q0_ := B2.out.c0
  have fq0 := B2.out.fz 0
  have q1_ := B2.out.c1
  have fq1 := B2.out.fz 1
  have q2_ := B2.out.c2
  have fq2 := B2.out.fz 2
  have q3_ := B2.out.c3
  have fq3 := B2.out.fz 3
  have q4_ := B2.out.c4
  have fq4 := B2.out.fz 4
  have q5_ := B2.out.c5
  have fq5 := B2.out.fz 5
  have q6_ := B2.out.c6
  have fq6 := B2.out.fz 6
  have q7_ := B2.out.c7
  have fq7 := B2.out.fz 7
  refine wpAnyH_ready (rs := [5]) (by kernel_rfl) (by simp) ?_
  refine AllReadyH.cons rfl (fun K hK => ?_) AllReadyH.nil
  go_simp
  refine hK.out _ _ ⟨(O2.out.o8 (ob := w.heap.size) (by omega) _ _ _ _ _ _ _ _).c0, (O2.out.o8 (ob := w.heap.size) (by omega) _ _ _ _ _ _ _ _).c1, (O2.out.o8 (ob := w.heap.size) (by omega) _ _ _ _ _ _ _ _).c2, (O2.out.o8 (ob := w.heap.size) (by omega) _ _ _ _ _ _ _ _).c3, (O2.out.o8 (ob := w.heap.size) (by omega) _ _ _ _ _ _ _ _).c4, (O2.out.o8 (ob := w.heap.size) (by omega) _ _ _ _ _ _ _ _).c5, (O2.out.o8 (ob := w.heap.size) (by omega) _ _ _ _ _ _ _ _).c6, (O2.out.o8 (ob := w.heap.size) (by omega) _ _ _ _ _ _ _ _).c7, (R2.out.o8 (ob := w.heap.size) (by omega) _ _ _ _ _ _ _ _).c0, (G2.out.o8 (ob := w.heap.size) (by omega) _ _ _ _ _ _ _ _).c1⟩ (fun hHeld2 => ?_)
  clear hK K
  (refine tk 6 ?_ rfl (Or.inl ⟨by rfl, ?_⟩) ?_; rotate_left; (focus (intro w h; (try dsimp only at h); go_simp; (try with_reducible rfl))); simp only [Act.put, tA, tB, tC, tD, tE, tF])
  (refine tk 7 ?_ rfl (Or.inl ⟨by rfl, ?_⟩) ?_; rotate_left; (focus (intro w h; (try dsimp only at h); go_simp; (try with_reducible rfl))); simp only [Act.put, tA, tB, tC, tD, tE, tF])
  refine wpAnyH_done (by kernel_rfl) ?_ _
  have BF : Hid (Bx ((((((((wd.setCell ⟨w.heap.size, 0, none⟩ (.int .i64 t.id)).setCell ⟨w.heap.size, 1, none⟩ (.int .i64 t.st)).setCell ⟨w.heap.size, 2, none⟩ (.int .i64 t.snap)).setCell ⟨w.heap.size, 3, none⟩ (.int .i64 t.cs)).setCell ⟨w.heap.size, 4, none⟩ (.slice ra t.rs.length rc)).setCell ⟨w.heap.size, 5, none⟩ (.slice wa t.ws.length wc)).setCell ⟨w.heap.size, 6, none⟩ (.bool t.out)).setCell ⟨w.heap.size, 7, none⟩ (.string t.nm)) w.heap.size [.int .i64 t.id, .int .i64 t.st, .int .i64 t.snap, .int .i64 t.cs, .slice ra t.rs.length rc, .slice wa t.ws.length wc, .bool t.out, .string t.nm]) := B2.out.s8 _ _ _ _ _ _ _ _
  have HBF : Hid (Below w.heap.size w ((((((((wd.setCell ⟨w.heap.size, 0, none⟩ (.int .i64 t.id)).setCell ⟨w.heap.size, 1, none⟩ (.int .i64 t.st)).setCell ⟨w.heap.size, 2, none⟩ (.int .i64 t.snap)).setCell ⟨w.heap.size, 3, none⟩ (.int .i64 t.cs)).setCell ⟨w.heap.size, 4, none⟩ (.slice ra t.rs.length rc)).setCell ⟨w.heap.size, 5, none⟩ (.slice wa t.ws.length wc)).setCell ⟨w.heap.size, 6, none⟩ (.bool t.out)).setCell ⟨w.heap.size, 7, none⟩ (.string t.nm))) := below_s8 HB2.out (Nat.le_refl _) _ _ _ _ _ _ _ _
  have LF : Hid (TLie ((((((((wd.setCell ⟨w.heap.size, 0, none⟩ (.int .i64 t.id)).setCell ⟨w.heap.size, 1, none⟩ (.int .i64 t.st)).setCell ⟨w.heap.size, 2, none⟩ (.int .i64 t.snap)).setCell ⟨w.heap.size, 3, none⟩ (.int .i64 t.cs)).setCell ⟨w.heap.size, 4, none⟩ (.slice ra t.rs.length rc)).setCell ⟨w.heap.size, 5, none⟩ (.slice wa t.ws.length wc)).setCell ⟨w.heap.size, 6, none⟩ (.bool t.out)).setCell ⟨w.heap.size, 7, none⟩ (.string t.nm)) w.heap.size ((((((((wd.setCell ⟨w.heap.size, 0, none⟩ (.int .i64 t.id)).setCell ⟨w.heap.size, 1, none⟩ (.int .i64 t.st)).setCell ⟨w.heap.size, 2, none⟩ (.int .i64 t.snap)).setCell ⟨w.heap.size, 3, none⟩ (.int .i64 t.cs)).setCell ⟨w.heap.size, 4, none⟩ (.slice ra t.rs.length rc)).setCell ⟨w.heap.size, 5, none⟩ (.slice wa t.ws.length wc)).setCell ⟨w.heap.size, 6, none⟩ (.bool t.out)).setCell ⟨w.heap.size, 7, none⟩ (.string t.nm)).heap.size t ra rc wa wc) := (TLie.s8 HL2.out (Or.inl (by have := HS.out; omega)) _ _ _ _ _ _ _ _).mono (by have := HS.out; omega) (by rw [size_s8]; exact Nat.le_refl _)
  clear q0_ fq0 q1_ fq1 q2_ fq2 q3_ fq3 q4_ fq4 q5_ fq5 q6_ fq6 q7_ fq7
  have q0_ := BF.out.c0
  have q1_ := BF.out.c1
  have q2_ := BF.out.c2
  have q3_ := BF.out.c3
  have q4_ := BF.out.c4
  have q5_ := BF.out.c5
  have q6_ := BF.out.c6
  have q7_ := BF.out.c7
  go_wp2
  refine bodyPost_ret (v := .tuple #[.agg #[.int .i64 t.id, .int .i64 t.st, .int .i64 t.snap, .int .i64 t.cs, .slice ra t.rs.length rc, .slice wa t.ws.length wc, .bool t.out, .string t.nm], .int .i64 (q : Int), .bool true]) (by simp [results, Tryz.results7, go_sem, q0_, q1_, q2_, q3_, q4_, q5_, q6_, q7_]) rfl ⟨ra, rc, wa, wc, rfl, LF.out, HBF.out⟩
end Go.Proofs.YtnljmdodpffmoaaGreat
