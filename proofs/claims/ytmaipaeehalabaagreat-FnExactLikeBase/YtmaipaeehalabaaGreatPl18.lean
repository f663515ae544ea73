/- What a textWriter writes, and what impl.TxnText returns. -/
import Derived.Test.YtmaipaeehalabaaGreatPl17
import Derived.Test.YtmaipaeehalabaaGreatProg
import Derived.WalkKit
import Derived.Test.YtmaipaeehalabaaGreatPl01
import Derived.WalkSpells
import Derived.WalkLawsBesides
import Derived.Deep.QuietTactic
import Derived.BigQuiet
import Derived.Deep.RegionHeld3
import Derived.Deep.DrawnRows
import Derived.Test.YtmaipaeehalabaaGreatPl02
import Derived.Deep.AppendLies
import Derived.Test.YtmaipaeehalabaaGreatPl03
import Derived.Test.YtmaipaeehalabaaGreatPl05
import Derived.Shelf.LaysM
import Derived.Shelf.Strconv.Clone
import Derived.Deep.RegionHeld
import Derived.Shelf.Small.Strs
import Derived.Shelf.Small.Wraps
import Derived.Test.YtmaipaeehalabaaGreatPl06
import Derived.Test.YtmaipaeehalabaaGreatPl07
import Derived.Test.YtmaipaeehalabaaGreatPl08
import Derived.Test.YtmaipaeehalabaaGreatPl09
import Derived.Test.YtmaipaeehalabaaGreatPl16
import Derived.Test.YtmaipaeehalabaaGreatPl10
import Derived.Test.YtmaipaeehalabaaGreatPl11
namespace Go.Proofs.YtmaipaeehalabaaGreat
open Go.RowKit
open KM
open VM
attribute [local go_sem ↓] Go.wp_at_zero Go.wp_at_succ

def shL (s : ByteArray) : List UInt8 := WM.varL s.size ++ s.data.toList
def bitL (b : Bool) : List UInt8 := if b then [1] else [0]
def rgL (rs : List Rg) : List UInt8 := rs.flatMap fun r => shL r.1 ++ shL r.2
def wrtL (ws : List Wt) : List UInt8 := ws.flatMap fun x => shL x.1 ++ (shL x.2.1 ++ bitL x.2.2)
def txL (t : Tx) : List UInt8 := WM.varL t.id.toNat ++ (WM.varL t.st.toNat ++ (WM.varL t.snap.toNat ++ (WM.varL t.cs.toNat ++ (WM.varL t.rs.length ++ (rgL t.rs ++ (WM.varL t.ws.length ++ (wrtL t.ws ++ (bitL t.out ++ shL t.nm))))))))
theorem var_len (n : Nat) (h : n ≤ 1000000000) : (WM.varL n).length ≤ 5 := WM.varL_len5 n (by omega)
theorem sh_len {s : ByteArray} (h : s.size ≤ 20000) : (shL s).length ≤ 20005 := by
  unfold shL
  rw [List.length_append]
  have := var_len s.size (by omega)
  have e : s.data.toList.length = s.size := Array.length_toList
  omega
theorem bit_len (b : Bool) : (bitL b).length = 1 := by cases b <;> rfl
def RSm (rs : List Rg) : Prop := rs.length ≤ 1000 ∧ ∀ r ∈ rs, r.1.size ≤ 20000 ∧ r.2.size ≤ 20000
def WSm (ws : List Wt) : Prop := ws.length ≤ 1000 ∧ ∀ x ∈ ws, x.1.size ≤ 20000 ∧ x.2.1.size ≤ 20000
theorem rg_len : ∀ rs : List Rg, (∀ r ∈ rs, r.1.size ≤ 20000 ∧ r.2.size ≤ 20000) → (rgL rs).length ≤ 40010 * rs.length
  | [], _ => by simp [rgL]
  | r :: rs, h => by
    have ih := rg_len rs (fun x hx => h x (List.mem_cons_of_mem _ hx))
    have h1 := sh_len (h r List.mem_cons_self).1
    have h2 := sh_len (h r List.mem_cons_self).2
    unfold rgL at ih ⊢
    rw [List.flatMap_cons, List.length_append, List.length_append, List.length_cons]; omega
theorem wt_len : ∀ ws : List Wt, (∀ x ∈ ws, x.1.size ≤ 20000 ∧ x.2.1.size ≤ 20000) → (wrtL ws).length ≤ 40011 * ws.length
  | [], _ => by simp [wrtL]
  | x :: ws, h => by
    have ih := wt_len ws (fun y hy => h y (List.mem_cons_of_mem _ hy))
    have h1 := sh_len (h x List.mem_cons_self).1
    have h2 := sh_len (h x List.mem_cons_self).2
    have h3 := bit_len x.2.2
    unfold wrtL at ih ⊢
    rw [List.flatMap_cons, List.length_append, List.length_append, List.length_append, List.length_cons]; omega
theorem rg_take {rs : List Rg} {k : Nat} (h : k < rs.length) : rgL (rs.take (k + 1)) = rgL (rs.take k) ++ (shL rs[k].1 ++ shL rs[k].2) := by
  unfold rgL
  rw [List.take_succ_eq_append_getElem h, List.flatMap_append]; simp
theorem wt_take {ws : List Wt} {k : Nat} (h : k < ws.length) : wrtL (ws.take (k + 1)) = wrtL (ws.take k) ++ (shL ws[k].1 ++ (shL ws[k].2.1 ++ bitL ws[k].2.2)) := by
  unfold wrtL
  rw [List.take_succ_eq_append_getElem h, List.flatMap_append]; simp

structure Wtr (w : World) (B b : Nat) (l : List UInt8) : Prop where
  is : Lib.IsBuilder 92 5 B b (bv l) w
  le : B ≤ w.heap.size
theorem bat_below {B b : Nat} {p : Value} {bs : List Value} {w w' : World} (h : Lib.BuilderAt 92 5 B b p bs w) (hb : Below w.heap.size w w') : Lib.BuilderAt 92 5 B b p bs w' := by
  have hlt := h.lt
  obtain ⟨h1, v, h2, h3, h4⟩ := h
  exact ⟨h1, v, by rw [hb.block b hlt]; exact h2, ownsBelow h3 hb, h4⟩
theorem Wtr.below {w w' : World} {B b : Nat} {l : List UInt8} (h : Wtr w B b l) (hb : Below w.heap.size w w') : Wtr w' B b l :=
  ⟨h.is.elim (fun x => Or.inl (bat_below x hb)) (fun x => Or.inr (bat_below x hb)), Nat.le_trans h.le hb.size⟩
theorem Wtr.new (w : World) : Wtr (w.alloc (.cells #[.pointer none, .slice none 0 0] 92)) w.heap.size w.heap.size [] := by
  refine ⟨Or.inl ⟨Nat.le_refl _, .slice none 0 0, ?_, World.ownsRow_nil _ _ _ _, by simp [Value.ownBlock]⟩, by simp⟩
  unfold World.alloc; simp
set_option maxRecDepth 100000 in
set_option maxHeartbeats 2000000 in
theorem wnum (B b n : Nat) (l : List UInt8) (hn : n ≤ 1000000000) (hl : l.length ≤ 900000000) (w : World) (h : Wtr w B b l) :
    Calls Tryz.prog 71 #[.pointer (some ⟨b, 0, none⟩), .int .i64 n] w fun e w' => e = .returned (.tuple #[]) ∧ Wtr w' B b (l ++ WM.varL n) ∧ Below B w w' ∧ Keep5 b w w' := by
  have HW : Hid (Wtr w B b l) := h
  clear h
  have hv := var_len n hn
  obtain ⟨vs, hvs⟩ : ∃ vs, vs = WM.varL n := ⟨_, rfl⟩
  have C1 : Hid (∀ w, Calls Tryz.prog 87 #[.int .i64 n] w fun e w' => e = .returned (.tuple #[.string ⟨vs.toArray⟩, .bool true]) ∧ Below w.heap.size w w') := fun w => by rw [hvs]; exact ivar_yes n hn w
  rw [← hvs] at hv ⊢
  clear hvs
  go_enter Tryz.func71, Tryz.ntmps71
  go_wp2_with fail
  refine (C1.out _).mono ?_
  rintro e w1 ⟨rfl, hb1⟩
  have HW1 : Hid (Wtr w1 B b l) := HW.out.below hb1
  have HB1 : Hid (Below B w w1) := hb1.mono HW.out.le
  have HK1 : Hid (Keep5 b w w1) := Keep5.below hb1
  clear hb1
  have hsz : l.length + (⟨vs.toArray⟩ : ByteArray).size ≤ 1000000000 := by rw [show (⟨vs.toArray⟩ : ByteArray).size = vs.length from List.size_toArray]; omega
  have C2 : Hid (∀ w, Wtr w B b l → Calls Tryz.prog 88 #[.pointer (some ⟨b, 0, none⟩), .string ⟨vs.toArray⟩] w fun e w' => e = .returned (.tuple #[.int .i64 (⟨vs.toArray⟩ : ByteArray).size, .nilIface]) ∧ Wtr w' B b (l ++ vs) ∧ Below B w w' ∧ Keep5 b w w') := fun w h => by
    refine (write69 B b l ⟨vs.toArray⟩ w h.is hsz h.le).mono ?_
    rintro e w' ⟨rfl, h1, h2, h3⟩
    refine ⟨rfl, ⟨Or.inr ?_, Nat.le_trans h.le h2.size⟩, h2, h3⟩
    simpa using h1
  generalize ((⟨vs.toArray⟩ : ByteArray).size : Int) = sz at C2
  clear hsz
  go_wp2_with fail
  refine (C2.out _ HW1.out).mono ?_
  rintro e w2 ⟨rfl, hw2, hb2, hk2⟩
  have HW2 := hide hw2
  have HB2 : Hid (Below B w w2) := HB1.out.trans hb2
  have HK2 : Hid (Keep5 b w w2) := HK1.out.trans hk2
  clear hw2 hb2 hk2
  go_wp2
  go_end0
  exact ⟨rfl, HW2.out, HB2.out, HK2.out⟩

set_option maxRecDepth 100000 in
set_option maxHeartbeats 2000000 in
theorem wsh (B b : Nat) (s : ByteArray) (l : List UInt8) (hs : s.size ≤ 20000) (hl : l.length ≤ 900000000) (w : World) (h : Wtr w B b l) :
    Calls Tryz.prog 75 #[.pointer (some ⟨b, 0, none⟩), .string s] w fun e w' => e = .returned (.tuple #[]) ∧ Wtr w' B b (l ++ shL s) ∧ Below B w w' ∧ Keep5 b w w' := by
  have HW : Hid (Wtr w B b l) := h
  clear h
  obtain ⟨u, hu⟩ : ∃ u : ByteArray, u = ⟨(WM.varL s.size).toArray⟩ ++ s := ⟨_, rfl⟩
  have HU : Hid (u.data.toList = shL s) := by
    show _ = _
    rw [hu]; unfold shL; simp
  have hul : u.size ≤ 20005 := by
    have := sh_len hs
    rw [← HU.out, Array.length_toList] at this
    exact this
  have C1 : Hid (∀ w, Calls Tryz.prog 89 #[.string s] w fun e w' => e = .returned (.tuple #[.string u, .bool true]) ∧ Below w.heap.size w w') := fun w => by rw [hu]; exact ishort_yes s hs w
  clear hu
  go_enter Tryz.func75, Tryz.ntmps75
  go_wp2_with fail
  refine (C1.out _).mono ?_
  rintro e w1 ⟨rfl, hb1⟩
  have HW1 : Hid (Wtr w1 B b l) := HW.out.below hb1
  have HB1 : Hid (Below B w w1) := hb1.mono HW.out.le
  have HK1 : Hid (Keep5 b w w1) := Keep5.below hb1
  clear hb1
  have C2 : Hid (∀ w, Wtr w B b l → Calls Tryz.prog 88 #[.pointer (some ⟨b, 0, none⟩), .string u] w fun e w' => e = .returned (.tuple #[.int .i64 u.size, .nilIface]) ∧ Wtr w' B b (l ++ shL s) ∧ Below B w w' ∧ Keep5 b w w') := fun w h => by
    refine (write69 B b l u w h.is (by omega) h.le).mono ?_
    rintro e w' ⟨rfl, h1, h2, h3⟩
    rw [HU.out] at h1
    exact ⟨rfl, ⟨Or.inr h1, Nat.le_trans h.le h2.size⟩, h2, h3⟩
  go_wp2_with fail
  refine (C2.out _ HW1.out).mono ?_
  rintro e w2 ⟨rfl, hw2, hb2, hk2⟩
  have HW2 := hide hw2
  have HB2 : Hid (Below B w w2) := HB1.out.trans hb2
  have HK2 : Hid (Keep5 b w w2) := HK1.out.trans hk2
  clear hw2 hb2 hk2
  go_wp2
  go_end0
  exact ⟨rfl, HW2.out, HB2.out, HK2.out⟩

set_option maxRecDepth 100000 in
set_option maxHeartbeats 2000000 in
theorem wflag (B b : Nat) (f : Bool) (l : List UInt8) (hl : l.length ≤ 900000000) (w : World) (h : Wtr w B b l) :
    Calls Tryz.prog 74 #[.pointer (some ⟨b, 0, none⟩), .bool f] w fun e w' => e = .returned (.tuple #[]) ∧ Wtr w' B b (l ++ bitL f) ∧ Below B w w' ∧ Keep5 b w w' := by
  have HW : Hid (Wtr w B b l) := h
  clear h
  cases f
  · have C1 : Hid (∀ w, Wtr w B b l → Calls Tryz.prog 71 #[.pointer (some ⟨b, 0, none⟩), .int .i64 0] w fun e w' => e = .returned (.tuple #[]) ∧ Wtr w' B b (l ++ bitL false) ∧ Below B w w' ∧ Keep5 b w w') := fun w h => by
      have k := wnum B b 0 l (by omega) hl w h
      rw [WM.varL_small 0 (by omega)] at k
      exact k
    go_enter Tryz.func74, Tryz.ntmps74
    go_wp2_with fail
    refine (C1.out _ HW.out).mono ?_
    rintro e w2 ⟨rfl, hw2, hb2, hk2⟩
    have HW2 := hide hw2
    have HB2 := hide hb2
    have HK2 := hide hk2
    clear hw2 hb2 hk2
    go_wp2
    go_end0
    exact ⟨rfl, HW2.out, HB2.out, HK2.out⟩
  · have C1 : Hid (∀ w, Wtr w B b l → Calls Tryz.prog 71 #[.pointer (some ⟨b, 0, none⟩), .int .i64 1] w fun e w' => e = .returned (.tuple #[]) ∧ Wtr w' B b (l ++ bitL true) ∧ Below B w w' ∧ Keep5 b w w') := fun w h => by
      have k := wnum B b 1 l (by omega) hl w h
      rw [WM.varL_small 1 (by omega)] at k
      exact k
    go_enter Tryz.func74, Tryz.ntmps74
    go_wp2_with fail
    refine (C1.out _ HW.out).mono ?_
    rintro e w2 ⟨rfl, hw2, hb2, hk2⟩
    have HW2 := hide hw2
    have HB2 := hide hb2
    have HK2 := hide hk2
    clear hw2 hb2 hk2
    go_wp2
    go_end0
    exact ⟨rfl, HW2.out, HB2.out, HK2.out⟩

theorem bx_heap {w : World} {b : Nat} {cs : List Value} {T : Nat} (h : w.heap[b]? = some (.cells cs.toArray T (0, 0))) : Bx w b cs :=
  ⟨(Array.getElem?_eq_some_iff.1 h).1, fun j hj => by rw [Lib.cell_of_heap h]; simp, fun j => Lib.frozen_of_heap h j⟩

set_option maxRecDepth 100000 in
set_option maxHeartbeats 2000000 in
theorem wrng (B b : Nat) (xs : List Rg) (a : Option Addr) (c : Nat) (l : List UInt8) (hx : RSm xs) (hl : l.length ≤ 800000000) (w : World) (hlo : ∀ b' off, a = some ⟨b', off, none⟩ → 0 < xs.length → b' < B) (h : Wtr w B b l) (hp : GRow encR w a xs) :
    Calls Tryz.prog 72 #[.pointer (some ⟨b, 0, none⟩), .slice a xs.length c] w fun e w' => e = .returned (.tuple #[]) ∧ Wtr w' B b (l ++ (WM.varL xs.length ++ rgL xs)) ∧ Below B w w' ∧ Keep5 b w w' := by
  have HW : Hid (Wtr w B b l) := h
  have HP : Hid (GRow encR w a xs) := hp
  have HX : Hid (RSm xs) := hx
  have HLO : Hid (∀ b' off, a = some ⟨b', off, none⟩ → 0 < xs.length → b' < B) := hlo
  have hn : xs.length ≤ 1000 := hx.1
  have hv := var_len xs.length (by omega)
  have hbb : B ≤ b := by rcases h.is with h | h <;> exact h.1
  clear h hp hx hlo
  go_enter Tryz.func72, Tryz.ntmps72
  go_wp2_with fail
  refine (wnum B b xs.length l (by omega) (by omega) _ HW.out).mono ?_
  rintro e w1 ⟨rfl, hw1, hb1, hk1⟩
  have HW1 := hide hw1
  have HB1 := hide hb1
  have HK1 := hide hk1
  have hl1 : (l ++ WM.varL xs.length).length ≤ 800000005 := by rw [List.length_append]; omega
  have HE1 : Hid (l ++ (WM.varL xs.length ++ rgL xs) = (l ++ WM.varL xs.length) ++ rgL xs) := by show _ = _; rw [List.append_assoc]
  clear hw1 hb1 hk1
  generalize l ++ WM.varL xs.length = l1 at HW1 hl1 HE1
  go_wp2
  go_loopw [12] (fun v wr => ∃ k : Nat, k ≤ xs.length ∧ v = .int .i64 k ∧ Hid (Wtr wr B b (l1 ++ rgL (xs.take k))) ∧ Hid (Below B w wr) ∧ Hid (Keep5 b w wr)) (fun v _ => xs.length - (intOf v).toNat)
  case atStart => exact ⟨0, Nat.zero_le _, rfl, (by show Wtr _ _ _ _; rw [show l1 ++ rgL (xs.take 0) = l1 by simp [rgL]]; exact HW1.out), HB1, HK1⟩
  case round =>
    clear HW1 HB1 HK1
    obtain ⟨k, hk, rfl, HWr, HB, HK⟩ := hrel
    by_cases hlt : k < xs.length
    · have hlt' : (k : Int) < (xs.length : Int) := by omega
      have h0 : (0 : Int) ≤ (k : Int) := by omega
      obtain ⟨b1, off1, hab, hbl, q⟩ := HP.out (by omega)
      subst hab
      have hb1B : b1 < B := HLO.out b1 off1 rfl (by omega)
      have r0 := (HB.out.cell (p := ⟨b1, off1 + k * 2, none⟩) hb1B).trans ((rat q) k hlt).1
      have r1 := (HB.out.cell (p := ⟨b1, off1 + k * 2 + 1, none⟩) hb1B).trans ((rat q) k hlt).2
      clear q
      have HZ := hide (HX.out.2 _ (List.getElem_mem hlt))
      have hlk : (rgL (xs.take k)).length ≤ 80000000 := by
        have h1 := rg_len (xs.take k) (fun x hx => HX.out.2 x (List.mem_of_mem_take hx))
        rw [List.length_take] at h1
        have h2 : min k xs.length ≤ 1000 := by omega
        omega
      have HE : Hid (l1 ++ rgL (xs.take (k + 1)) = ((l1 ++ rgL (xs.take k)) ++ shL xs[k].1) ++ shL xs[k].2) := by show _ = _; rw [rg_take hlt]; simp only [List.append_assoc]
      have hla : (l1 ++ rgL (xs.take k)).length ≤ 880000005 := by rw [List.length_append]; omega
      have HE0 : Hid ((wr.alloc (.cells #[.string xs[k].1, .string xs[k].2] 56)).heap[wr.heap.size]? = some (.cells [.string xs[k].1, .string xs[k].2].toArray 56 (0, 0))) := heapAllocNew wr [.string xs[k].1, .string xs[k].2] 56
      have HWa : Hid (Wtr (wr.alloc (.cells #[.string xs[k].1, .string xs[k].2] 56)) B b (l1 ++ rgL (xs.take k))) := HWr.out.below ((belowRefl wr).alloc (Nat.le_refl _) _)
      have HBa : Hid (Below B w (wr.alloc (.cells #[.string xs[k].1, .string xs[k].2] 56))) := HB.out.alloc HWr.out.le _
      have HKa : Hid (Keep5 b w (wr.alloc (.cells #[.string xs[k].1, .string xs[k].2] 56))) := HK.out.trans (Keep5.below ((belowRefl wr).alloc (Nat.le_refl _) _))
      have hne : wr.heap.size ≠ b := by
        rcases HWr.out.is with h | h <;> (have := h.lt; omega)
      generalize l1 ++ rgL (xs.take k) = la at HWa hla HE
      clear HWr
      go_wp2_with fail
      refine (wsh B b xs[k].1 _ HZ.out.1 (by omega) _ HWa.out).mono ?_
      rintro e v0 ⟨rfl, hw, hb, hk⟩
      have HW0 := hide hw
      have HB0 : Hid (Below B w v0) := HBa.out.trans hb
      have HK0 : Hid (Keep5 b w v0) := HKa.out.trans hk
      have HE1 : Hid (v0.heap[wr.heap.size]? = some (.cells [.string xs[k].1, .string xs[k].2].toArray 56 (0, 0))) := hk _ _ 56 (0, 0) hne (by decide) HE0.out
      clear hw hb hk
      have e1 := (bx_heap HE1.out).c1
      go_wp2_with fail
      refine (wsh B b xs[k].2 _ HZ.out.2 (by rw [List.length_append]; have := sh_len HZ.out.1; omega) _ HW0.out).mono ?_
      rintro e v1 ⟨rfl, hw, hb, hk⟩
      have HW1 := hide hw
      have HB1 : Hid (Below B w v1) := HB0.out.trans hb
      have HK1 : Hid (Keep5 b w v1) := HK0.out.trans hk
      have HE2 : Hid (v1.heap[wr.heap.size]? = some (.cells [.string xs[k].1, .string xs[k].2].toArray 56 (0, 0))) := hk _ _ 56 (0, 0) hne (by decide) HE1.out
      clear hw hb hk
      have HWn : Hid (Wtr v1 B b (l1 ++ rgL (xs.take (k + 1)))) := by show Wtr _ _ _ _; rw [HE.out]; exact HW1.out
      clear HE
      go_wp2
      go_roundw
      case rel => exact ⟨k + 1, by omega, by go_num, HWn, HB1, HK1⟩
      case measure => simp [intOf]; omega
    · have hlt' : ¬ (k : Int) < (xs.length : Int) := by omega
      have hw := HWr.out
      rw [List.take_of_length_le (by omega)] at hw
      have HW2 := hide hw
      clear hw HWr
      go_wp2
      go_end0
      exact ⟨rfl, (by rw [HE1.out]; exact HW2.out), HB.out, HK.out⟩

set_option maxRecDepth 100000 in
set_option maxHeartbeats 2000000 in
theorem wwts (B b : Nat) (xs : List Wt) (a : Option Addr) (c : Nat) (l : List UInt8) (hx : WSm xs) (hl : l.length ≤ 800000000) (w : World) (hlo : ∀ b' off, a = some ⟨b', off, none⟩ → 0 < xs.length → b' < B) (h : Wtr w B b l) (hp : GRow encW w a xs) :
    Calls Tryz.prog 73 #[.pointer (some ⟨b, 0, none⟩), .slice a xs.length c] w fun e w' => e = .returned (.tuple #[]) ∧ Wtr w' B b (l ++ (WM.varL xs.length ++ wrtL xs)) ∧ Below B w w' ∧ Keep5 b w w' := by
  have HW : Hid (Wtr w B b l) := h
  have HP : Hid (GRow encW w a xs) := hp
  have HX : Hid (WSm xs) := hx
  have HLO : Hid (∀ b' off, a = some ⟨b', off, none⟩ → 0 < xs.length → b' < B) := hlo
  have hn : xs.length ≤ 1000 := hx.1
  have hv := var_len xs.length (by omega)
  have hbb : B ≤ b := by rcases h.is with h | h <;> exact h.1
  clear h hp hx hlo
  go_enter Tryz.func73, Tryz.ntmps73
  go_wp2_with fail
  refine (wnum B b xs.length l (by omega) (by omega) _ HW.out).mono ?_
  rintro e w1 ⟨rfl, hw1, hb1, hk1⟩
  have HW1 := hide hw1
  have HB1 := hide hb1
  have HK1 := hide hk1
  have hl1 : (l ++ WM.varL xs.length).length ≤ 800000005 := by rw [List.length_append]; omega
  have HE1 : Hid (l ++ (WM.varL xs.length ++ wrtL xs) = (l ++ WM.varL xs.length) ++ wrtL xs) := by show _ = _; rw [List.append_assoc]
  clear hw1 hb1 hk1
  generalize l ++ WM.varL xs.length = l1 at HW1 hl1 HE1
  go_wp2
  go_loopw [12] (fun v wr => ∃ k : Nat, k ≤ xs.length ∧ v = .int .i64 k ∧ Hid (Wtr wr B b (l1 ++ wrtL (xs.take k))) ∧ Hid (Below B w wr) ∧ Hid (Keep5 b w wr)) (fun v _ => xs.length - (intOf v).toNat)
  case atStart => exact ⟨0, Nat.zero_le _, rfl, (by show Wtr _ _ _ _; rw [show l1 ++ wrtL (xs.take 0) = l1 by simp [wrtL]]; exact HW1.out), HB1, HK1⟩
  case round =>
    clear HW1 HB1 HK1
    obtain ⟨k, hk, rfl, HWr, HB, HK⟩ := hrel
    by_cases hlt : k < xs.length
    · have hlt' : (k : Int) < (xs.length : Int) := by omega
      have h0 : (0 : Int) ≤ (k : Int) := by omega
      obtain ⟨b1, off1, hab, hbl, q⟩ := HP.out (by omega)
      subst hab
      have hb1B : b1 < B := HLO.out b1 off1 rfl (by omega)
      have r0 := (HB.out.cell (p := ⟨b1, off1 + k * 3, none⟩) hb1B).trans ((wat q) k hlt).1
      have r1 := (HB.out.cell (p := ⟨b1, off1 + k * 3 + 1, none⟩) hb1B).trans ((wat q) k hlt).2.1
      have r2 := (HB.out.cell (p := ⟨b1, off1 + k * 3 + 2, none⟩) hb1B).trans ((wat q) k hlt).2.2
      clear q
      have HZ := hide (HX.out.2 _ (List.getElem_mem hlt))
      have hlk : (wrtL (xs.take k)).length ≤ 80000000 := by
        have h1 := wt_len (xs.take k) (fun x hx => HX.out.2 x (List.mem_of_mem_take hx))
        rw [List.length_take] at h1
        have h2 : min k xs.length ≤ 1000 := by omega
        omega
      have HE : Hid (l1 ++ wrtL (xs.take (k + 1)) = (((l1 ++ wrtL (xs.take k)) ++ shL xs[k].1) ++ shL xs[k].2.1) ++ bitL xs[k].2.2) := by show _ = _; rw [wt_take hlt]; simp only [List.append_assoc]
      have hla : (l1 ++ wrtL (xs.take k)).length ≤ 880000005 := by rw [List.length_append]; omega
      have HE0 : Hid ((wr.alloc (.cells #[.string xs[k].1, .string xs[k].2.1, .bool xs[k].2.2] 80)).heap[wr.heap.size]? = some (.cells [.string xs[k].1, .string xs[k].2.1, .bool xs[k].2.2].toArray 80 (0, 0))) := heapAllocNew wr [.string xs[k].1, .string xs[k].2.1, .bool xs[k].2.2] 80
      have HWa : Hid (Wtr (wr.alloc (.cells #[.string xs[k].1, .string xs[k].2.1, .bool xs[k].2.2] 80)) B b (l1 ++ wrtL (xs.take k))) := HWr.out.below ((belowRefl wr).alloc (Nat.le_refl _) _)
      have HBa : Hid (Below B w (wr.alloc (.cells #[.string xs[k].1, .string xs[k].2.1, .bool xs[k].2.2] 80))) := HB.out.alloc HWr.out.le _
      have HKa : Hid (Keep5 b w (wr.alloc (.cells #[.string xs[k].1, .string xs[k].2.1, .bool xs[k].2.2] 80))) := HK.out.trans (Keep5.below ((belowRefl wr).alloc (Nat.le_refl _) _))
      have hne : wr.heap.size ≠ b := by
        rcases HWr.out.is with h | h <;> (have := h.lt; omega)
      generalize l1 ++ wrtL (xs.take k) = la at HWa hla HE
      clear HWr
      go_wp2_with fail
      refine (wsh B b xs[k].1 _ HZ.out.1 (by omega) _ HWa.out).mono ?_
      rintro e v0 ⟨rfl, hw, hb, hk⟩
      have HW0 := hide hw
      have HB0 : Hid (Below B w v0) := HBa.out.trans hb
      have HK0 : Hid (Keep5 b w v0) := HKa.out.trans hk
      have HE1 : Hid (v0.heap[wr.heap.size]? = some (.cells [.string xs[k].1, .string xs[k].2.1, .bool xs[k].2.2].toArray 80 (0, 0))) := hk _ _ 80 (0, 0) hne (by decide) HE0.out
      clear hw hb hk
      have e1 := (bx_heap HE1.out).c1
      go_wp2_with fail
      refine (wsh B b xs[k].2.1 _ HZ.out.2 (by rw [List.length_append]; have := sh_len HZ.out.1; omega) _ HW0.out).mono ?_
      rintro e v1 ⟨rfl, hw, hb, hk⟩
      have HW1 := hide hw
      have HB1 : Hid (Below B w v1) := HB0.out.trans hb
      have HK1 : Hid (Keep5 b w v1) := HK0.out.trans hk
      have HE2 : Hid (v1.heap[wr.heap.size]? = some (.cells [.string xs[k].1, .string xs[k].2.1, .bool xs[k].2.2].toArray 80 (0, 0))) := hk _ _ 80 (0, 0) hne (by decide) HE1.out
      clear hw hb hk
      have e2 := (bx_heap HE2.out).c2
      go_wp2_with fail
      refine (wflag B b xs[k].2.2 _ (by rw [List.length_append, List.length_append]; have := sh_len HZ.out.1; have := sh_len HZ.out.2; omega) _ HW1.out).mono ?_
      rintro e v2 ⟨rfl, hw, hb, hk⟩
      have HW2 := hide hw
      have HB2 : Hid (Below B w v2) := HB1.out.trans hb
      have HK2 : Hid (Keep5 b w v2) := HK1.out.trans hk
      have HE3 : Hid (v2.heap[wr.heap.size]? = some (.cells [.string xs[k].1, .string xs[k].2.1, .bool xs[k].2.2].toArray 80 (0, 0))) := hk _ _ 80 (0, 0) hne (by decide) HE2.out
      clear hw hb hk
      have HWn : Hid (Wtr v2 B b (l1 ++ wrtL (xs.take (k + 1)))) := by show Wtr _ _ _ _; rw [HE.out]; exact HW2.out
      clear HE
      go_wp2
      go_roundw
      case rel => exact ⟨k + 1, by omega, by go_num, HWn, HB2, HK2⟩
      case measure => simp [intOf]; omega
    · have hlt' : ¬ (k : Int) < (xs.length : Int) := by omega
      have hw := HWr.out
      rw [List.take_of_length_le (by omega)] at hw
      have HW2 := hide hw
      clear hw HWr
      go_wp2
      go_end0
      exact ⟨rfl, (by rw [HE1.out]; exact HW2.out), HB.out, HK.out⟩

end Go.Proofs.YtmaipaeehalabaaGreat
