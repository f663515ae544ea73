/- Memory that is marked, and what stays; markTxn, heldTxn. -/
import Derived.Test.YtblfljmcbpodbaaMr
import Derived.Test.YtblfljmcbpodbaaA3
namespace Go.Proofs.Ytblfljmcbpodbaa
open Go.RowKit
open KM
open VM
attribute [local go_sem ↓] Go.wp_at_zero Go.wp_at_succ

/-- all but the blocks lo .. hi is as it was -/
structure Zn (lo hi : Nat) (w w' : World) : Prop where
  os : w'.os = w.os
  tape : w'.tape = w.tape
  output : w'.output = w.output
  size : w.heap.size ≤ w'.heap.size
  block : ∀ j, j < w.heap.size → (j < lo ∨ hi ≤ j) → w'.heap[j]? = w.heap[j]?
theorem Zn.trans {lo hi : Nat} {a b c : World} (h : Zn lo hi a b) (k : Zn lo hi b c) : Zn lo hi a c :=
  ⟨k.os.trans h.os, k.tape.trans h.tape, k.output.trans h.output, Nat.le_trans h.size k.size, fun j hj hn => (k.block j (Nat.lt_of_lt_of_le hj h.size) hn).trans (h.block j hj hn)⟩
theorem Zn.ofBelow (lo hi : Nat) {w w' : World} (h : Below w.heap.size w w') : Zn lo hi w w' := ⟨h.os, h.tape, h.output, h.size, fun j hj _ => h.block j hj⟩
theorem Zn.ofGrown {lo hi : Nat} {w w' : World} {row : Option Nat} (h : w.grownBy w' row) (hr : ∀ g, row = some g → lo ≤ g ∧ g < hi) : Zn lo hi w w' :=
  ⟨h.os, h.tape, h.output, h.size, fun j hj hn => h.block j hj (fun e => by have := hr j e.symm; omega)⟩
theorem Zn.below {lo hi base : Nat} {w w' : World} (h : Zn lo hi w w') (hb : base ≤ lo) (hs : base ≤ w.heap.size) : Below base w w' :=
  ⟨h.os, h.tape, h.output, h.size, fun j hj => h.block j (by omega) (Or.inl (by omega))⟩
theorem Bx.zn {lo hi b : Nat} {w w' : World} {cs : List Value} (h : Bx w b cs) (hg : Zn lo hi w w') (hne : b < lo ∨ hi ≤ b) : Bx w' b cs := by
  have hb := hg.block b h.lt hne
  refine ⟨Nat.lt_of_lt_of_le h.lt hg.size, fun j hj => (World.cell?_of_block (w := w) (a := ⟨b, j, none⟩) hb).trans (h.at' j hj), fun j => ?_⟩
  have := h.fz j
  unfold World.frozen? at this ⊢
  simp only at this ⊢
  rw [hb]; exact this
theorem Lies.zn {α : Type} {E : Enc α} {e : TypeId} {w w' : World} {l h' lo hi : Nat} {v : Value} {xs : List α} (h : Lies E e w l h' v xs) (hz : Zn lo hi w w') (hne : h' ≤ lo ∨ hi ≤ l) : Lies E e w' l h' v xs := by
  refine ⟨?_, h.up⟩
  obtain ⟨h1, h2⟩ := h.own
  refine ⟨h1, ?_⟩
  rcases h2 with h2 | ⟨g, cap, cur, hv, hg', hh, r⟩
  · exact Or.inl h2
  · refine Or.inr ⟨g, cap, cur, hv, hg', ?_, r⟩
    have hlt : g < w.heap.size := (Array.getElem?_eq_some_iff.1 hh).1
    have hup := h.up g (by rw [hv]; rfl)
    rw [hz.block g hlt (by omega)]
    exact hh
theorem TLie.zn {w w' : World} {l h' lo hi : Nat} {t : Tx} {ra wa : Option Addr} {rc wc : Nat} (h : TLie w l h' t ra rc wa wc) (hz : Zn lo hi w w') (hne : h' ≤ lo ∨ hi ≤ l) : TLie w' l h' t ra rc wa wc := by
  obtain ⟨m, p, q, h1, h2⟩ := h.ex
  exact ⟨m, p, q, h1.zn hz (by omega), h2.zn hz (by omega)⟩
/-- its marks -/
def mkT (t : Tx) (k : Nat) : Tx := ⟨t.id, t.st, t.snap, t.cs, mkR k t.rs.length, mkW (k + 2 * t.rs.length) t.ws.length, t.out, t.nm⟩

set_option maxRecDepth 100000 in
set_option maxHeartbeats 2000000 in
theorem markT (t : Tx) (ra wa : Option Addr) (rc wc : Nat) (lo hi k0 : Nat) (hr : t.rs.length ≤ 3000000) (hw : t.ws.length ≤ 3000000) (hk0 : 0 < k0) (hk1 : k0 ≤ 10000000) (w : World) (hhi : hi ≤ w.heap.size) (h : TLie w lo hi t ra rc wa wc) :
    Calls Try.prog 29 #[.agg #[.int .i64 t.id, .int .i64 t.st, .int .i64 t.snap, .int .i64 t.cs, .slice ra t.rs.length rc, .slice wa t.ws.length wc, .bool t.out, .string t.nm], .int .i64 k0] w fun e w' => e = .returned (.int .i64 ((k0 + 2 * t.rs.length + 3 * t.ws.length : Nat) : Int)) ∧ TLie w' lo hi (mkT t k0) ra rc wa wc ∧ Zn lo hi w w' := by
  obtain ⟨m, hm1, hm2, h1, h2⟩ := h.ex
  have L1 : Hid (Lies encR 34 (w.alloc (.cells #[.int .i64 t.id, .int .i64 t.st, .int .i64 t.snap, .int .i64 t.cs, .slice ra t.rs.length rc, .slice wa t.ws.length wc, .bool t.out, .string t.nm] 27)) lo m (.slice ra t.rs.length rc) t.rs) := h1.below ((belowRefl w).alloc (Nat.le_refl _) _)
  have L2 : Hid (Lies encW 39 (w.alloc (.cells #[.int .i64 t.id, .int .i64 t.st, .int .i64 t.snap, .int .i64 t.cs, .slice ra t.rs.length rc, .slice wa t.ws.length wc, .bool t.out, .string t.nm] 27)) m hi (.slice wa t.ws.length wc) t.ws) := h2.below ((belowRefl w).alloc (Nat.le_refl _) _)
  have BX0 : Hid (Bx (w.alloc (.cells #[.int .i64 t.id, .int .i64 t.st, .int .i64 t.snap, .int .i64 t.cs, .slice ra t.rs.length rc, .slice wa t.ws.length wc, .bool t.out, .string t.nm] 27)) w.heap.size [.int .i64 t.id, .int .i64 t.st, .int .i64 t.snap, .int .i64 t.cs, .slice ra t.rs.length rc, .slice wa t.ws.length wc, .bool t.out, .string t.nm]) := Bx.new w [.int .i64 t.id, .int .i64 t.st, .int .i64 t.snap, .int .i64 t.cs, .slice ra t.rs.length rc, .slice wa t.ws.length wc, .bool t.out, .string t.nm] 27
  have Z0 : Hid (Zn lo hi w (w.alloc (.cells #[.int .i64 t.id, .int .i64 t.st, .int .i64 t.snap, .int .i64 t.cs, .slice ra t.rs.length rc, .slice wa t.ws.length wc, .bool t.out, .string t.nm] 27))) := Zn.ofBelow _ _ ((belowRefl w).alloc (Nat.le_refl _) _)
  clear h h1 h2
  go_enter Try.func29, Try.ntmps29
  go_wp2_with fail
  refine (markR t.rs.length k0 ra rc lo _ (by omega) hk0 (by omega) _ L1.out.own).mono ?_
  rintro e w1 ⟨rfl, ho1, hg1⟩
  have LO := hide L1.out.lo
  have L1' : Hid (Lies encR 34 w1 lo m (.slice ra t.rs.length rc) (mkR k0 t.rs.length)) := ⟨by have e := mkR_len k0 t.rs.length; unfold GOwn at ho1 ⊢; exact ho1, L1.out.up⟩
  have L2' : Hid (Lies encW 39 w1 m hi (.slice wa t.ws.length wc) t.ws) := L2.out.marked hg1 (fun g hg => Or.inl (L1.out.up g hg))
  have BX1 : Hid (Bx w1 w.heap.size [.int .i64 t.id, .int .i64 t.st, .int .i64 t.snap, .int .i64 t.cs, .slice ra t.rs.length rc, .slice wa t.ws.length wc, .bool t.out, .string t.nm]) := bx_marked BX0.out hg1 (fun e => by have := L1.out.up _ e; omega)
  have Z1 : Hid (Zn lo hi w w1) := Z0.out.trans (Zn.ofGrown hg1 (fun g hg => by have := LO.out g hg; omega))
  clear ho1 hg1 L1 L2 BX0 Z0
  have x5 := BX1.out.c5
  obtain ⟨k1, hk1'⟩ : ∃ k1, k1 = k0 + 2 * t.rs.length := ⟨_, rfl⟩
  have HK : Hid (k1 = k0 + 2 * t.rs.length) := hk1'
  rw [← hk1']
  have hk2 : 0 < k1 := by omega
  have hk3 : k1 ≤ 100000000 := by omega
  clear hk1'
  go_wp2_with fail
  refine (markW t.ws.length k1 wa wc m _ (by omega) hk2 hk3 _ L2'.out.own).mono ?_
  rintro e w2 ⟨rfl, ho2, hg2⟩
  have LO2 := hide L2'.out.lo
  have L3 : Hid (Lies encW 39 w2 m hi (.slice wa t.ws.length wc) (mkW k1 t.ws.length)) := ⟨ho2, L2'.out.up⟩
  have L4 : Hid (Lies encR 34 w2 lo m (.slice ra t.rs.length rc) (mkR k0 t.rs.length)) := L1'.out.marked hg2 (fun g hg => Or.inr (LO2.out g hg).1)
  have Z2 : Hid (Zn lo hi w w2) := Z1.out.trans (Zn.ofGrown hg2 (fun g hg => by have := LO2.out g hg; omega))
  clear ho2 hg2 x5
  obtain ⟨k2, hk2'⟩ : ∃ k2, k2 = k1 + 3 * t.ws.length := ⟨_, rfl⟩
  have HK2 : Hid (k2 = k0 + 2 * t.rs.length + 3 * t.ws.length) := by show _ = _; rw [hk2', HK.out]
  rw [← hk2']
  clear hk2'
  go_wp2
  go_ret
  refine ⟨ret_int (by have := HK2.out; omega), ⟨m, hm1, hm2, ?_, ?_⟩, Z2.out⟩
  · have h := L4.out
    show Lies encR 34 w2 lo m (.slice ra (mkR k0 t.rs.length).length rc) (mkR k0 t.rs.length)
    rw [mkR_len]; exact h
  · have h := L3.out
    rw [HK.out] at h
    show Lies encW 39 w2 m hi (.slice wa (mkW (k0 + 2 * t.rs.length) t.ws.length).length wc) (mkW (k0 + 2 * t.rs.length) t.ws.length)
    rw [mkW_len]; exact h

set_option maxRecDepth 100000 in
set_option maxHeartbeats 2000000 in
theorem heldT (t : Tx) (ra wa : Option Addr) (rc wc : Nat) (k0 : Nat) (hr : t.rs.length ≤ 3000000) (hw : t.ws.length ≤ 3000000) (hk0 : 0 < k0) (hk1 : k0 ≤ 10000000) (w : World) (h : TRow w (mkT t k0) ra wa) :
    Calls Try.prog 30 #[.agg #[.int .i64 t.id, .int .i64 t.st, .int .i64 t.snap, .int .i64 t.cs, .slice ra t.rs.length rc, .slice wa t.ws.length wc, .bool t.out, .string t.nm], .int .i64 k0] w fun e w' => e = .returned (.int .i64 ((k0 + 2 * t.rs.length + 3 * t.ws.length : Nat) : Int)) ∧ Below w.heap.size w w' := by
  have HR : Hid (GRow encR w ra (mkR k0 t.rs.length)) := h.r
  have HW : Hid (GRow encW w wa (mkW (k0 + 2 * t.rs.length) t.ws.length)) := h.w
  clear h
  have BX0 : Hid (Bx (w.alloc (.cells #[.int .i64 t.id, .int .i64 t.st, .int .i64 t.snap, .int .i64 t.cs, .slice ra t.rs.length rc, .slice wa t.ws.length wc, .bool t.out, .string t.nm] 27)) w.heap.size [.int .i64 t.id, .int .i64 t.st, .int .i64 t.snap, .int .i64 t.cs, .slice ra t.rs.length rc, .slice wa t.ws.length wc, .bool t.out, .string t.nm]) := Bx.new w [.int .i64 t.id, .int .i64 t.st, .int .i64 t.snap, .int .i64 t.cs, .slice ra t.rs.length rc, .slice wa t.ws.length wc, .bool t.out, .string t.nm] 27
  have HB0 : Hid (Below w.heap.size w (w.alloc (.cells #[.int .i64 t.id, .int .i64 t.st, .int .i64 t.snap, .int .i64 t.cs, .slice ra t.rs.length rc, .slice wa t.ws.length wc, .bool t.out, .string t.nm] 27))) := (belowRefl w).alloc (Nat.le_refl _) _
  go_enter Try.func30, Try.ntmps30
  go_wp2_with fail
  refine (heldR t.rs.length k0 ra rc (by omega) hk0 (by omega) _ (HR.out.below HB0.out)).mono ?_
  rintro e w1 ⟨rfl, hb1⟩
  have BX1 : Hid (Bx w1 w.heap.size [.int .i64 t.id, .int .i64 t.st, .int .i64 t.snap, .int .i64 t.cs, .slice ra t.rs.length rc, .slice wa t.ws.length wc, .bool t.out, .string t.nm]) := BX0.out.below hb1
  have HB1 : Hid (Below w.heap.size w w1) := HB0.out.trans (hb1.mono HB0.out.size)
  clear hb1 BX0 HB0
  have x5 := BX1.out.c5
  obtain ⟨k1, hk1'⟩ : ∃ k1, k1 = k0 + 2 * t.rs.length := ⟨_, rfl⟩
  have HK : Hid (k1 = k0 + 2 * t.rs.length) := hk1'
  rw [← hk1'] at HW ⊢
  have hk2 : 0 < k1 := by omega
  have hk3 : k1 ≤ 100000000 := by omega
  have hn1 : ¬ (k1 : Int) < 0 := by omega
  clear hk1'
  go_wp2_with fail
  refine (heldW t.ws.length k1 wa wc (by omega) hk2 hk3 _ (HW.out.below HB1.out)).mono ?_
  rintro e w2 ⟨rfl, hb2⟩
  have HB2 : Hid (Below w.heap.size w w2) := HB1.out.trans (hb2.mono HB1.out.size)
  clear hb2 x5
  obtain ⟨k2, hk2'⟩ : ∃ k2, k2 = k1 + 3 * t.ws.length := ⟨_, rfl⟩
  have HK2 : Hid (k2 = k0 + 2 * t.rs.length + 3 * t.ws.length) := by show _ = _; rw [hk2', HK.out]
  rw [← hk2']
  have hn2 : ¬ (k2 : Int) < 0 := by omega
  clear hk2'
  go_wp2
  go_ret
  exact ⟨ret_int (by have := HK2.out; omega), HB2.out⟩
end Go.Proofs.Ytblfljmcbpodbaa
