/- What OwnGet returns, on both sides. -/
import Derived.Test.YtblfljmcbpodbaaA3
import Derived.Test.YtblfljmcbpodbaaG3
namespace Go.Proofs.Ytblfljmcbpodbaa
open Go.RowKit
open KM
open VM
attribute [local go_sem ↓] Go.wp_at_zero Go.wp_at_succ

/-- the place of the first write of this key, or -1 -/
def oidx : List Wt → ByteArray → Nat → Int
  | [], _, _ => -1
  | x :: xs, k, i => if x.1.toList = k.toList then (i : Int) else oidx xs k (i + 1)
/-- none of the first j has this key -/
def NoK (ws : List Wt) (k : ByteArray) (j : Nat) : Prop := ∀ i (h : i < ws.length), i < j → ¬ ws[i].1.toList = k.toList
theorem noK_more {ws : List Wt} {k : ByteArray} {j : Nat} (h : NoK ws k j) (hj : j < ws.length) (hn : ¬ ws[j].1.toList = k.toList) : NoK ws k (j + 1) := fun i hi hij => by
  by_cases e : i = j
  · subst e; exact hn
  · exact h i hi (by omega)
/-- what one wrote itself of this key -/
def ownW (ws : List Wt) (k : ByteArray) : Option Wt := ws.find? fun x => decide (x.1.toList = k.toList)
theorem ownW_at {ws : List Wt} {k : ByteArray} {j : Nat} (h : NoK ws k j) (hj : j < ws.length) (he : ws[j].1.toList = k.toList) : ownW ws k = some ws[j] := by
  unfold ownW
  rw [List.find?_eq_some_iff_getElem]
  refine ⟨by simpa using he, j, hj, rfl, fun i hi => ?_⟩
  have := h i (by omega) hi
  simpa using this
theorem ownW_none {ws : List Wt} {k : ByteArray} {j : Nat} (h : NoK ws k j) (hj : ws.length ≤ j) : ownW ws k = none := by
  unfold ownW
  rw [List.find?_eq_none]
  intro x hx
  obtain ⟨i, hi, rfl⟩ := List.getElem_of_mem hx
  have := h i hi (by omega)
  simpa using this
/-- what is seen of a key: what one wrote itself, else what was so -/
def ownB (t : Tx) (vs : List Vr) (k : ByteArray) : Option ByteArray := match ownW t.ws k with
  | some x => if x.2.2 = true then none else some x.2.1
  | none => seenB vs k t.snap
theorem ownB_some {t : Tx} {vs : List Vr} {k : ByteArray} {x : Wt} (h : ownW t.ws k = some x) : ownB t vs k = if x.2.2 = true then none else some x.2.1 := by unfold ownB; rw [h]
theorem ownB_none {t : Tx} {vs : List Vr} {k : ByteArray} (h : ownW t.ws k = none) : ownB t vs k = seenB vs k t.snap := by unfold ownB; rw [h]
theorem ret_saw {o : Option ByteArray} {v : Value} (h : v = sawB o) : Ending.returned v = .returned (sawB o) := by rw [h]

set_option maxRecDepth 100000 in
set_option maxHeartbeats 2000000 in
theorem ask53 (x : Wt) (k : ByteArray) (kb : Nat) (w : World) (hk : Bx w kb [.string k]) :
    Calls Try.prog 53 #[.agg #[.string x.1, .string x.2.1, .bool x.2.2], .pointer (some ⟨kb, 0, none⟩)] w fun e w' => e = .returned (.bool (x.1.toList == k.toList)) ∧ Below w.heap.size w w' := by
  have k0 := (hk.alloc (.cells #[.string x.1, .string x.2.1, .bool x.2.2] 39)).c0
  clear hk
  go_enter Try.func53, Try.ntmps53
  go_wp2
  go_ret
  exact ⟨rfl, (belowRefl w).alloc (Nat.le_refl _) _⟩

set_option maxRecDepth 100000 in
set_option maxHeartbeats 2000000 in
theorem find52 (ws : List Wt) (k : ByteArray) (kb : Nat) (a : Option Addr) (c : Nat) (hn : ws.length ≤ 100000000) (w : World) (hk : Bx w kb [.string k]) (hp : GRow encW w a ws) :
    Calls Try.prog 52 #[.slice a ws.length c, (.func (.func 53) #[] #[.pointer (some ⟨kb, 0, none⟩)])] w fun e w' => Below w.heap.size w w' ∧ ((e = .returned (.int .i64 (-1)) ∧ ownW ws k = none) ∨ ∃ (j : Nat) (hj : j < ws.length), e = .returned (.int .i64 j) ∧ ownW ws k = some ws[j]) := by
  have HK : Hid (Bx w kb [.string k]) := hk
  have HP : Hid (GRow encW w a ws) := hp
  clear hk hp
  go_enter Try.func52, Try.ntmps52
  go_wp2
  go_loopw [8] (fun t wr => ∃ j : Nat, j ≤ ws.length ∧ t = .int .i64 j ∧ Hid (NoK ws k j) ∧ Hid (Below w.heap.size w wr)) (fun t _ => ws.length - (intOf t).toNat)
  case atStart => exact ⟨0, Nat.zero_le _, rfl, fun i _ h => by omega, Below.refl _ _⟩
  case round =>
    obtain ⟨j, hj, rfl, HN, HB⟩ := hrel
    by_cases hlt : j < ws.length
    · have hlt' : (j : Int) < (ws.length : Int) := by omega
      have h0 : (0 : Int) ≤ (j : Int) := by omega
      obtain ⟨b, off, rfl, hl, q⟩ := (HP.out.below HB.out) (by omega)
      have r0 := ((wat q) j hlt).1
      have r1 := ((wat q) j hlt).2.1
      have r2 := ((wat q) j hlt).2.2
      clear q
      have HKr : Hid (Bx wr kb [.string k]) := HK.out.below HB.out
      by_cases he : ws[j].1.toList = k.toList
      · have C1 : Hid (∀ w, Bx w kb [.string k] → Calls Try.prog 53 #[.agg #[.string ws[j].1, .string ws[j].2.1, .bool ws[j].2.2], .pointer (some ⟨kb, 0, none⟩)] w fun e w' => e = .returned (.bool true) ∧ Below w.heap.size w w') := fun w h => by have := ask53 ws[j] k kb w h; rw [show (ws[j].1.toList == k.toList) = true by simp [he]] at this; exact this
        have HO : Hid (ownW ws k = some ws[j]) := ownW_at HN.out hlt he
        clear he
        go_wp2_with fail
        refine (C1.out _ HKr.out).mono ?_
        rintro e w2 ⟨rfl, hb2⟩
        have HB2 : Hid (Below w.heap.size w w2) := HB.out.trans (hb2.mono HB.out.size)
        clear hb2
        go_wp2
        go_ret
        exact ⟨HB2.out, Or.inr ⟨j, hlt, rfl, HO.out⟩⟩
      · have C1 : Hid (∀ w, Bx w kb [.string k] → Calls Try.prog 53 #[.agg #[.string ws[j].1, .string ws[j].2.1, .bool ws[j].2.2], .pointer (some ⟨kb, 0, none⟩)] w fun e w' => e = .returned (.bool false) ∧ Below w.heap.size w w') := fun w h => by have := ask53 ws[j] k kb w h; rw [show (ws[j].1.toList == k.toList) = false by simpa using he] at this; exact this
        have HN2 : Hid (NoK ws k (j + 1)) := noK_more HN.out hlt he
        clear he
        go_wp2_with fail
        refine (C1.out _ HKr.out).mono ?_
        rintro e w2 ⟨rfl, hb2⟩
        have HB2 : Hid (Below w.heap.size w w2) := HB.out.trans (hb2.mono HB.out.size)
        clear hb2
        go_wp2
        go_roundw
        case rel => exact ⟨j + 1, by omega, by go_num, HN2, HB2⟩
        case measure => simp [intOf]; omega
    · have hlt' : ¬ (j : Int) < (ws.length : Int) := by omega
      have HO : Hid (ownW ws k = none) := ownW_none HN.out (by omega)
      go_wp2
      go_ret
      exact ⟨HB.out, Or.inl ⟨rfl, HO.out⟩⟩

set_option maxRecDepth 100000 in
set_option maxHeartbeats 2000000 in
theorem iown (t : Tx) (ra wa : Option Addr) (rc wc : Nat) (vs : List Vr) (va : Option Addr) (vc : Nat) (k : ByteArray) (hw : t.ws.length ≤ 100000000) (hwf : WFit t.ws) (hn : vs.length ≤ 100000000) (hf : VFit vs) (w : World) (hp : GRow encW w wa t.ws) (hv : GRow encV w va vs) :
    Calls Try.prog 16 #[.agg #[.int .i64 t.id, .int .i64 t.st, .int .i64 t.snap, .int .i64 t.cs, .slice ra t.rs.length rc, .slice wa t.ws.length wc, .bool t.out, .string t.nm], .slice va vs.length vc, .string k] w fun e w' => e = .returned (sawB (ownB t vs k)) ∧ Below w.heap.size w w' := by
  have HP : Hid (GRow encW w wa t.ws) := hp
  have HWF : Hid (WFit t.ws) := hwf
  have HV : Hid (GRow encV w va vs) := hv
  have HF : Hid (VFit vs) := hf
  clear hp hwf hv hf
  have hmf : ∀ (fn : Fn) (first cap : Array Value) (w : World), (Instr.makeFunc fn first cap).run Try.prog w = .ok (.func fn first cap) w := fun _ _ _ _ => rfl
  have BA0 : Hid (Bx ((w.alloc (.cells #[.int .i64 t.id, .int .i64 t.st, .int .i64 t.snap, .int .i64 t.cs, .slice ra t.rs.length rc, .slice wa t.ws.length wc, .bool t.out, .string t.nm] 27)).alloc (.cells #[.string k] 9)) w.heap.size [.int .i64 t.id, .int .i64 t.st, .int .i64 t.snap, .int .i64 t.cs, .slice ra t.rs.length rc, .slice wa t.ws.length wc, .bool t.out, .string t.nm]) := (Bx.new w [.int .i64 t.id, .int .i64 t.st, .int .i64 t.snap, .int .i64 t.cs, .slice ra t.rs.length rc, .slice wa t.ws.length wc, .bool t.out, .string t.nm] 27).alloc _
  have BK0 : Hid (Bx ((w.alloc (.cells #[.int .i64 t.id, .int .i64 t.st, .int .i64 t.snap, .int .i64 t.cs, .slice ra t.rs.length rc, .slice wa t.ws.length wc, .bool t.out, .string t.nm] 27)).alloc (.cells #[.string k] 9)) (w.heap.size + 1) [.string k]) := by
    have h := Bx.new (w.alloc (.cells #[.int .i64 t.id, .int .i64 t.st, .int .i64 t.snap, .int .i64 t.cs, .slice ra t.rs.length rc, .slice wa t.ws.length wc, .bool t.out, .string t.nm] 27)) [.string k] 9
    rw [show (w.alloc (.cells #[.int .i64 t.id, .int .i64 t.st, .int .i64 t.snap, .int .i64 t.cs, .slice ra t.rs.length rc, .slice wa t.ws.length wc, .bool t.out, .string t.nm] 27)).heap.size = w.heap.size + 1 by simp] at h
    exact h
  have HB0 : Hid (Below w.heap.size w ((w.alloc (.cells #[.int .i64 t.id, .int .i64 t.st, .int .i64 t.snap, .int .i64 t.cs, .slice ra t.rs.length rc, .slice wa t.ws.length wc, .bool t.out, .string t.nm] 27)).alloc (.cells #[.string k] 9))) := ((belowRefl w).alloc (Nat.le_refl _) _).alloc (by simp) _
  go_enter Try.func16, Try.ntmps16
  go_wp2_with fail
  refine (find52 t.ws k (w.heap.size + 1) wa wc hw _ BK0.out (HP.out.below HB0.out)).mono ?_
  rintro e w1 ⟨hb1, hres⟩
  have BA1 : Hid (Bx w1 w.heap.size [.int .i64 t.id, .int .i64 t.st, .int .i64 t.snap, .int .i64 t.cs, .slice ra t.rs.length rc, .slice wa t.ws.length wc, .bool t.out, .string t.nm]) := BA0.out.below hb1
  have BK1 : Hid (Bx w1 (w.heap.size + 1) [.string k]) := BK0.out.below hb1
  have HB1 : Hid (Below w.heap.size w w1) := HB0.out.trans (hb1.mono HB0.out.size)
  clear hb1 BA0 BK0 HB0
  have x2 := BA1.out.c2
  have x5 := BA1.out.c5
  have k0 := BK1.out.c0
  rcases hres with ⟨rfl, ho⟩ | ⟨j, hj, rfl, ho⟩
  · have HO : Hid (ownB t vs k = seenB vs k t.snap) := ownB_none ho
    clear ho
    have CS : Hid (∀ w, GRow encV w va vs → Calls Try.prog 54 #[.slice va vs.length vc, .string k, .int .i64 t.snap] w fun e w' => e = .returned (sawB (seenB vs k t.snap)) ∧ Below w.heap.size w w') := fun w h => iseen vs va vc k t.snap hn HF.out w h
    generalize seenB vs k t.snap = o at CS HO
    cases o with
    | none =>
      rw [sawB_none] at CS
      go_wp2_with fail
      refine (CS.out _ (HV.out.below HB1.out)).mono ?_
      rintro e w2 ⟨rfl, hb2⟩
      have HB2 : Hid (Below w.heap.size w w2) := HB1.out.trans (hb2.mono HB1.out.size)
      clear hb2
      go_wp2
      go_ret2
      exact ⟨ret_saw (by rw [HO.out]; rfl), HB2.out⟩
    | some v =>
      rw [sawB_some] at CS
      go_wp2_with fail
      refine (CS.out _ (HV.out.below HB1.out)).mono ?_
      rintro e w2 ⟨rfl, hb2⟩
      have HB2 : Hid (Below w.heap.size w w2) := HB1.out.trans (hb2.mono HB1.out.size)
      clear hb2
      go_wp2
      go_ret2
      exact ⟨ret_saw (by rw [HO.out]; rfl), HB2.out⟩
  · have HO : Hid (ownB t vs k = if t.ws[j].2.2 = true then none else some t.ws[j].2.1) := ownB_some ho
    clear ho
    have hj' : (j : Int) < (t.ws.length : Int) := by omega
    have h0 : (0 : Int) ≤ (j : Int) := by omega
    have hnn : ¬ (j : Int) < 0 := by omega
    obtain ⟨b, off, rfl, hl, q⟩ := (HP.out.below HB1.out) (by omega)
    have r1 := ((wat q) j hj).2.1
    have r2 := ((wat q) j hj).2.2
    have HZ : Hid (t.ws[j].2.1.size ≤ 281474976710656) := Nat.le_trans (HWF.out _ (List.getElem_mem hj)).2 (by omega)
    clear q
    cases hg : t.ws[j].2.2
    · rw [hg] at r2
      have HO2 : Hid (ownB t vs k = some t.ws[j].2.1) := by show _ = _; rw [HO.out, hg]; rfl
      clear hg
      go_wp2_with (go_at_call 51; refine (clone49 _ HZ.out _).mono ?_; rintro e w2 ⟨rfl, hb2⟩)
      go_ret2
      exact ⟨ret_saw (by rw [HO2.out]; rfl), HB1.out.trans (hb2.mono HB1.out.size)⟩
    · rw [hg] at r2
      have HO2 : Hid (ownB t vs k = none) := by show _ = _; rw [HO.out, hg]; rfl
      clear hg
      go_wp2
      go_ret2
      exact ⟨ret_saw (by rw [HO2.out]; rfl), HB1.out⟩

set_option maxRecDepth 100000 in
set_option maxHeartbeats 2000000 in
theorem sown (t : Tx) (ra wa : Option Addr) (rc wc : Nat) (vs : List Vr) (va : Option Addr) (vc : Nat) (k : ByteArray) (hw : t.ws.length ≤ 100000000) (hn : vs.length ≤ 100000000) (w : World) (hp : GRow encW w wa t.ws) (hv : GRow encV w va vs) :
    Calls Try.prog 36 #[.agg #[.int .i64 t.id, .int .i64 t.st, .int .i64 t.snap, .int .i64 t.cs, .slice ra t.rs.length rc, .slice wa t.ws.length wc, .bool t.out, .string t.nm], .slice va vs.length vc, .string k] w fun e w' => e = .returned (sawB (ownB t vs k)) ∧ Below w.heap.size w w' := by
  have HP : Hid (GRow encW w wa t.ws) := hp
  have HV : Hid (GRow encV w va vs) := hv
  clear hp hv
  have BA0 : Hid (Bx (w.alloc (.cells #[.int .i64 t.id, .int .i64 t.st, .int .i64 t.snap, .int .i64 t.cs, .slice ra t.rs.length rc, .slice wa t.ws.length wc, .bool t.out, .string t.nm] 27)) w.heap.size [.int .i64 t.id, .int .i64 t.st, .int .i64 t.snap, .int .i64 t.cs, .slice ra t.rs.length rc, .slice wa t.ws.length wc, .bool t.out, .string t.nm]) := Bx.new w [.int .i64 t.id, .int .i64 t.st, .int .i64 t.snap, .int .i64 t.cs, .slice ra t.rs.length rc, .slice wa t.ws.length wc, .bool t.out, .string t.nm] 27
  have HB0 : Hid (Below w.heap.size w (w.alloc (.cells #[.int .i64 t.id, .int .i64 t.st, .int .i64 t.snap, .int .i64 t.cs, .slice ra t.rs.length rc, .slice wa t.ws.length wc, .bool t.out, .string t.nm] 27))) := (belowRefl w).alloc (Nat.le_refl _) _
  have x2 := BA0.out.c2
  have x5 := BA0.out.c5
  have hpw := hide0 (HP.out.below HB0.out)
  have hvw := hide0 (HV.out.below HB0.out)
  go_enter Try.func36, Try.ntmps36
  go_wp2
  generalize w.alloc (.cells #[.int .i64 t.id, .int .i64 t.st, .int .i64 t.snap, .int .i64 t.cs, .slice ra t.rs.length rc, .slice wa t.ws.length wc, .bool t.out, .string t.nm] 27) = W1 at *
  go_loopw [8] (fun t' wr => ∃ j : Nat, j ≤ t.ws.length ∧ t' = .int .i64 j ∧ Hid (NoK t.ws k j) ∧ wr = W1) (fun t' _ => t.ws.length - (intOf t').toNat)
  case atStart => exact ⟨0, Nat.zero_le _, rfl, fun i _ h => by omega, rfl⟩
  case round =>
    obtain ⟨j, hj, rfl, HN, rfl⟩ := hrel
    by_cases hlt : j < t.ws.length
    · have hlt' : (j : Int) < (t.ws.length : Int) := by omega
      have h0 : (0 : Int) ≤ (j : Int) := by omega
      obtain ⟨b, off, rfl, hl, q⟩ := hpw.out (by omega)
      have r0 := ((wat q) j hlt).1
      have r1 := ((wat q) j hlt).2.1
      have r2 := ((wat q) j hlt).2.2
      clear q
      by_cases he : t.ws[j].1.toList = k.toList
      · have HO : Hid (ownB t vs k = if t.ws[j].2.2 = true then none else some t.ws[j].2.1) := ownB_some (ownW_at HN.out hlt he)
        cases hg : t.ws[j].2.2
        · rw [hg] at r2
          have HO2 : Hid (ownB t vs k = some t.ws[j].2.1) := by show _ = _; rw [HO.out, hg]; rfl
          clear hg
          go_wp2
          go_ret2
          exact ⟨ret_saw (by rw [HO2.out]; rfl), HB0.out⟩
        · rw [hg] at r2
          have HO2 : Hid (ownB t vs k = none) := by show _ = _; rw [HO.out, hg]; rfl
          clear hg
          go_wp2
          go_ret2
          exact ⟨ret_saw (by rw [HO2.out]; rfl), HB0.out⟩
      · have HN2 : Hid (NoK t.ws k (j + 1)) := noK_more HN.out hlt he
        have he' : (t.ws[j].1.toList == k.toList) = false := by simpa using he
        go_wp2
        go_roundw
        case rel => exact ⟨j + 1, by omega, by go_num, HN2, trivial⟩
        case measure => simp [intOf]; omega
    · have hlt' : ¬ (j : Int) < (t.ws.length : Int) := by omega
      have HO : Hid (ownB t vs k = seenB vs k t.snap) := ownB_none (ownW_none HN.out (by omega))
      have CS : Hid (∀ w, GRow encV w va vs → Calls Try.prog 85 #[.slice va vs.length vc, .string k, .int .i64 t.snap] w fun e w' => e = .returned (sawB (seenB vs k t.snap)) ∧ Below w.heap.size w w') := fun w h => sseen vs va vc k t.snap hn w h
      generalize seenB vs k t.snap = o at CS HO
      cases o with
      | none =>
        rw [sawB_none] at CS
        go_wp2_with fail
        refine (CS.out _ hvw.out).mono ?_
        rintro e w2 ⟨rfl, hb2⟩
        have HB2 : Hid (Below w.heap.size w w2) := HB0.out.trans (hb2.mono HB0.out.size)
        clear hb2
        go_wp2
        go_ret2
        exact ⟨ret_saw (by rw [HO.out]; rfl), HB2.out⟩
      | some v =>
        rw [sawB_some] at CS
        go_wp2_with fail
        refine (CS.out _ hvw.out).mono ?_
        rintro e w2 ⟨rfl, hb2⟩
        have HB2 : Hid (Below w.heap.size w w2) := HB0.out.trans (hb2.mono HB0.out.size)
        clear hb2
        go_wp2
        go_ret2
        exact ⟨ret_saw (by rw [HO.out]; rfl), HB2.out⟩
end Go.Proofs.Ytblfljmcbpodbaa
