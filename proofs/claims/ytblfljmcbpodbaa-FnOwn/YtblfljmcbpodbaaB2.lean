/- What impl.ownKeys and OwnScan return. -/
import Derived.Test.YtblfljmcbpodbaaB1
import Derived.Test.YtblfljmcbpodbaaH4
namespace Go.Proofs.Ytblfljmcbpodbaa
open Go.RowKit
open KM
open VM
attribute [local go_sem ↓] Go.wp_at_zero Go.wp_at_succ

theorem wpAppKS {ops : Array Oper} {rest : List Oper} {o : Oper} {a : Act} {Q : Exit → Act → World → Prop} (hgd : o.guard = none) (s x : Operand) (ho : o.op = .call { callee := .builtin .append, args := #[s, x], argTypes := #[81, 81] })
    {W : World} {base : Nat} {v : Value} {xs : List ByteArray} (y : ByteArray) (hs : a.eval s = v) (hown : GOwn encS 9 W base v xs)
    {n : Nat} (hnw : W.heap.size = n) (hx : a.eval x = .slice (some ⟨n, 0, none⟩) 1 1) (hlen : xs.length ≤ 100000000) (hB : base ≤ W.heap.size)
    (h : ∀ v' w', GOwn encS 9 w' base v' (xs ++ [y]) → Below base W w' → W.grownBy w' v.ownBlock → (v'.ownBlock = v.ownBlock ∨ ∃ g, v'.ownBlock = some g ∧ W.heap.size ≤ g) → wpList Try.prog ops Q rest (a.put o.dst v') w') :
    wpList Try.prog ops Q (o :: rest) a (W.alloc (.cells #[.string y] 9)) := by
  subst hnw
  obtain ⟨i0, hi, hz0, hz1, hz2⟩ := info_parts Try.info9
  have hown' : (W.alloc (.cells #[.string y] 9)).ownsRow base 9 1 v xs.length (encS.cells xs) := World.ownsRow.alloc hown _
  have hal : W.grownBy (W.alloc (.cells #[.string y] 9)) v.ownBlock := ⟨rfl, rfl, rfl, by simp, fun j hj _ => by
    unfold World.alloc; simp only [Array.getElem?_push]; rw [if_neg (by omega)]⟩
  refine wpList_append_lies _ hgd s x 81 ho base 9 i0 _ 1 16 Try.underlying81 hi hz0 hz1 hz2 rfl (by omega) v xs.length (encS.cells xs) hs hown' ⟨W.heap.size, 0, none⟩ 1 1 (encS.enc y) hx rfl ?_ oneS (by omega) (by unfold maxLen; omega) ?_ (by simp; omega) _ rfl ?_
  · intro j u hj
    rw [Addr.add_lit, Nat.zero_add, World.cell?, show (W.alloc (.cells #[.string y] 9)).heap[W.heap.size]? = some (.cells (encS.enc y).toArray 9 (0, 0)) from heapAllocNew W _ _]
    simpa using hj
  · calc (xs.length + 1) * 16 ≤ 100000001 * 64 := Nat.mul_le_mul (by omega) (by omega)
      _ ≤ _ := by omega
  · intro g' cap w' h1 h2 h3 _
    have hb : Below base W w' := ((Below.refl _ _).alloc hB _).trans ((Below.refl _ _).grown h2 (by simp; omega) (fun j hj => (World.ownsRow.lt hown' j hj).1))
    refine h _ w' ?_ hb ⟨h2.os.trans hal.os, h2.tape.trans hal.tape, h2.output.trans hal.output, Nat.le_trans hal.size h2.size, fun j hj hne => (h2.block j (Nat.lt_of_lt_of_le hj hal.size) hne).trans (hal.block j hj hne)⟩ ?_
    · have e : encS.cells (xs ++ [y]) = encS.cells xs ++ encS.enc y := by rw [encS.cells_app]; simp [Enc.cells]
      unfold GOwn
      rw [e, List.length_append]
      exact h1
    · rcases h3 with h3 | h3
      · exact Or.inl h3.symm
      · exact Or.inr ⟨g', rfl, by rw [h3]; simp⟩

theorem away_of {α : Type} {E : Enc α} {e : TypeId} {w : World} {base : Nat} {v : Value} {xs : List α} (h : GOwn E e w base v xs) (hi : Nat) : Away v w.heap.size hi := fun g hg => Or.inl (World.ownsRow.lt h g hg).2
/-- the keys that are asked of -/
def ownK (t : Tx) (vs : List Vr) (rg : Rg) : List ByteArray := (t.ws.filter fun x => inB rg x.1).map (·.1) ++ (scanB vs rg t.snap).map (·.1)
/-- a key, and what is seen of it -/
def ownF (t : Tx) (vs : List Vr) (k : ByteArray) : Option Rg := (ownB t vs k).map fun v => (k, v)
/-- what is seen of a range -/
def scanO (t : Tx) (vs : List Vr) (rg : Rg) : List Rg := ((keysB (vs.map (·.1) ++ t.ws.map (·.1))).filter (inB rg)).filterMap (ownF t vs)
theorem fm_filter {α β : Type} (f : α → Option β) (l : List α) : l.filterMap f = (l.filter fun k => (f k).isSome).filterMap f := by
  induction l with
  | nil => rfl
  | cons x l ih =>
    cases h : f x with
    | none => simp [h, ih]
    | some y => simp [h, ih]
theorem scanB_key {vs : List Vr} {r : Rg} {s : Int} {x : ByteArray} : x ∈ (scanB vs r s).map (·.1) ↔ x ∈ vs.map (·.1) ∧ inB r x = true ∧ (seenB vs x s).isSome = true := by
  unfold scanB
  rw [List.mem_map]
  constructor
  · rintro ⟨p, hp, rfl⟩
    rw [List.mem_filterMap] at hp
    obtain ⟨k, hk, hf⟩ := hp
    unfold scanF at hf
    by_cases hi : inB r k = true
    · rw [if_pos hi] at hf
      cases hs : seenB vs k s with
      | none => rw [hs] at hf; cases hf
      | some v =>
        rw [hs] at hf
        have e : p = (k, v) := by simpa using hf.symm
        subst e
        exact ⟨((keys_spec _).1 k).1 hk, hi, by rw [hs]; rfl⟩
    · rw [if_neg hi] at hf; cases hf
  · rintro ⟨h1, h2, h3⟩
    cases hs : seenB vs x s with
    | none => rw [hs] at h3; cases h3
    | some v =>
      refine ⟨(x, v), ?_, rfl⟩
      rw [List.mem_filterMap]
      exact ⟨x, ((keys_spec _).1 x).2 h1, by unfold scanF; rw [if_pos h2, hs]; rfl⟩
theorem ownW_key {ws : List Wt} {k : ByteArray} {x : Wt} (h : ownW ws k = some x) : x ∈ ws ∧ x.1 = k := by
  unfold ownW at h
  have h1 := List.find?_some h
  have h2 := List.mem_of_find?_eq_some h
  exact ⟨h2, toList_inj (by simpa using h1)⟩
theorem ownW_no {ws : List Wt} {k : ByteArray} (h : ownW ws k = none) : k ∉ ws.map (·.1) := by
  intro hm
  obtain ⟨x, hx, rfl⟩ := List.mem_map.1 hm
  unfold ownW at h
  rw [List.find?_eq_none] at h
  exact h x hx (by simp)
theorem scanO_own (t : Tx) (vs : List Vr) (rg : Rg) : scanO t vs rg = (keysB (ownK t vs rg)).filterMap (ownF t vs) := by
  unfold scanO
  rw [fm_filter, fm_filter (l := keysB (ownK t vs rg))]
  congr 1
  refine asc_ext (R := fun a b => lt a b = true) lt_irr lt_tr _ _ (((keys_spec _).2.filter _).filter _) ((keys_spec _).2.filter _) (fun x => ?_)
  rw [List.mem_filter, List.mem_filter, List.mem_filter, (keys_spec _).1, (keys_spec _).1]
  have hsome : (ownF t vs x).isSome = (ownB t vs x).isSome := by unfold ownF; cases ownB t vs x <;> rfl
  rw [hsome]
  unfold ownK
  rw [List.mem_append, List.mem_append, scanB_key]
  constructor
  · rintro ⟨⟨h1, h2⟩, h3⟩
    refine ⟨?_, h3⟩
    cases ho : ownW t.ws x with
    | some y =>
      obtain ⟨hy, rfl⟩ := ownW_key ho
      exact Or.inl (List.mem_map.2 ⟨y, List.mem_filter.2 ⟨hy, h2⟩, rfl⟩)
    | none =>
      rw [ownB_none ho] at h3
      rcases h1 with h1 | h1
      · exact Or.inr ⟨h1, h2, h3⟩
      · exact absurd h1 (ownW_no ho)
  · rintro ⟨h1, h3⟩
    refine ⟨?_, h3⟩
    rcases h1 with h1 | ⟨h1, h2, _⟩
    · obtain ⟨y, hy, rfl⟩ := List.mem_map.1 h1
      obtain ⟨hy, hi⟩ := List.mem_filter.1 hy
      exact ⟨Or.inr (List.mem_map.2 ⟨y, hy, rfl⟩), hi⟩
    · exact ⟨Or.inl h1, h2⟩
theorem scan_len' (vs : List Vr) (rg : Rg) (s : Int) : (scanB vs rg s).length ≤ vs.length := by
  unfold scanB
  refine Nat.le_trans (fmap_len _ _) (Nat.le_trans (keys_len _) ?_)
  rw [List.length_map]; exact Nat.le_refl _
theorem ownK_len (t : Tx) (vs : List Vr) (rg : Rg) : (ownK t vs rg).length ≤ t.ws.length + vs.length := by
  unfold ownK
  rw [List.length_append, List.length_map, List.length_map]
  have h1 := List.length_filter_le (fun x : Wt => inB rg x.1) t.ws
  have h2 := scan_len' vs rg t.snap
  omega
theorem filt_map_no {ws : List Wt} {rg : Rg} {i : Nat} (h : i < ws.length) (hf : inB rg ws[i].1 = false) : ((ws.take (i + 1)).filter fun x => inB rg x.1).map (·.1) = ((ws.take i).filter fun x => inB rg x.1).map (·.1) := by
  rw [filter_no h hf]
theorem filt_map_yes {ws : List Wt} {rg : Rg} {i : Nat} (h : i < ws.length) (hf : inB rg ws[i].1 = true) : ((ws.take (i + 1)).filter fun x => inB rg x.1).map (·.1) = ((ws.take i).filter fun x => inB rg x.1).map (·.1) ++ [ws[i].1] := by
  rw [filter_yes h hf, List.map_append]; rfl
/-- keys, and those of the first i pairs -/
def joinK (k0 : List ByteArray) (ps : List Rg) (i : Nat) : List ByteArray := k0 ++ (ps.take i).map (·.1)
theorem take_map_one {ps : List Rg} {i : Nat} (h : i < ps.length) : (ps.take (i + 1)).map (·.1) = (ps.take i).map (·.1) ++ [ps[i].1] := by
  rw [List.take_succ_eq_append_getElem h, List.map_append]; rfl

set_option maxRecDepth 100000 in
set_option maxHeartbeats 2000000 in
theorem ikeys (t : Tx) (ra wa : Option Addr) (rc wc : Nat) (vs : List Vr) (va : Option Addr) (vc : Nat) (rg : Rg) (hw : t.ws.length ≤ 10000000) (hn : vs.length ≤ 10000000) (hf : VFit vs) (w : World) (hp : GRow encW w wa t.ws) (hv : GRow encV w va vs) :
    Calls Try.prog 50 #[.agg #[.int .i64 t.id, .int .i64 t.st, .int .i64 t.snap, .int .i64 t.cs, .slice ra t.rs.length rc, .slice wa t.ws.length wc, .bool t.out, .string t.nm], .slice va vs.length vc, .agg #[.string rg.1, .string rg.2]] w fun e w' => ∃ ao cap, e = .returned (.slice ao (keysB (ownK t vs rg)).length cap) ∧ GRow encS w' ao (keysB (ownK t vs rg)) ∧ Below w.heap.size w w' := by
  have HP : Hid (GRow encW w wa t.ws) := hp
  have HV : Hid (GRow encV w va vs) := hv
  have HF : Hid (VFit vs) := hf
  clear hp hv hf
  have BT0 : Hid (Bx ((w.alloc (.cells #[.int .i64 t.id, .int .i64 t.st, .int .i64 t.snap, .int .i64 t.cs, .slice ra t.rs.length rc, .slice wa t.ws.length wc, .bool t.out, .string t.nm] 27)).alloc (.cells #[.string rg.1, .string rg.2] 34)) w.heap.size [.int .i64 t.id, .int .i64 t.st, .int .i64 t.snap, .int .i64 t.cs, .slice ra t.rs.length rc, .slice wa t.ws.length wc, .bool t.out, .string t.nm]) := (Bx.new w [.int .i64 t.id, .int .i64 t.st, .int .i64 t.snap, .int .i64 t.cs, .slice ra t.rs.length rc, .slice wa t.ws.length wc, .bool t.out, .string t.nm] 27).alloc _
  have BR0 : Hid (Bx ((w.alloc (.cells #[.int .i64 t.id, .int .i64 t.st, .int .i64 t.snap, .int .i64 t.cs, .slice ra t.rs.length rc, .slice wa t.ws.length wc, .bool t.out, .string t.nm] 27)).alloc (.cells #[.string rg.1, .string rg.2] 34)) (w.heap.size + 1) [.string rg.1, .string rg.2]) := by
    have h := Bx.new (w.alloc (.cells #[.int .i64 t.id, .int .i64 t.st, .int .i64 t.snap, .int .i64 t.cs, .slice ra t.rs.length rc, .slice wa t.ws.length wc, .bool t.out, .string t.nm] 27)) [.string rg.1, .string rg.2] 34
    rw [show (w.alloc (.cells #[.int .i64 t.id, .int .i64 t.st, .int .i64 t.snap, .int .i64 t.cs, .slice ra t.rs.length rc, .slice wa t.ws.length wc, .bool t.out, .string t.nm] 27)).heap.size = w.heap.size + 1 by simp] at h
    exact h
  have HB0 : Hid (Below w.heap.size w ((w.alloc (.cells #[.int .i64 t.id, .int .i64 t.st, .int .i64 t.snap, .int .i64 t.cs, .slice ra t.rs.length rc, .slice wa t.ws.length wc, .bool t.out, .string t.nm] 27)).alloc (.cells #[.string rg.1, .string rg.2] 34))) := ((belowRefl w).alloc (Nat.le_refl _) _).alloc (by simp) _
  have x5 := BT0.out.c5
  go_enter Try.func50, Try.ntmps50
  go_wp2
  clear x5
  generalize (w.alloc (.cells #[.int .i64 t.id, .int .i64 t.st, .int .i64 t.snap, .int .i64 t.cs, .slice ra t.rs.length rc, .slice wa t.ws.length wc, .bool t.out, .string t.nm] 27)).alloc (.cells #[.string rg.1, .string rg.2] 34) = W0 at *
  go_loopw [7, 15] (fun v n wr => ∃ i : Nat, i ≤ t.ws.length ∧ n = .int .i64 i ∧ Hid (GOwn encS 9 wr W0.heap.size v (((t.ws.take i).filter fun x => inB rg x.1).map (·.1))) ∧ Hid (Below W0.heap.size W0 wr)) (fun _ n _ => t.ws.length - (intOf n).toNat)
  case atStart => exact ⟨0, Nat.zero_le _, rfl, GOwn.nil _ _, belowRefl W0⟩
  case round =>
    obtain ⟨i, hi, rfl, HO, HB⟩ := hrel
    by_cases hlt : i < t.ws.length
    · have hlt' : (i : Int) < (t.ws.length : Int) := by omega
      have hi0 : (0 : Int) ≤ (i : Int) := by omega
      have HBw : Hid (Below w.heap.size w wr) := HB0.out.trans (HB.out.mono HB0.out.size)
      obtain ⟨b, off, rfl, hbl, hc⟩ := (HP.out.below HBw.out) (by omega)
      have r0 := (wat hc i hlt).1
      have r1 := (wat hc i hlt).2.1
      have r2 := (wat hc i hlt).2.2
      clear hc
      have BRr := hide (BR0.out.below HB.out)
      have y0 := (BRr.out.alloc (.cells #[.string t.ws[i].1, .string t.ws[i].2.1, .bool t.ws[i].2.2] 39)).c0
      have y1 := (BRr.out.alloc (.cells #[.string t.ws[i].1, .string t.ws[i].2.1, .bool t.ws[i].2.2] 39)).c1
      have BE : Hid (Bx (wr.alloc (.cells #[.string t.ws[i].1, .string t.ws[i].2.1, .bool t.ws[i].2.2] 39)) wr.heap.size [.string t.ws[i].1, .string t.ws[i].2.1, .bool t.ws[i].2.2]) := Bx.new wr [.string t.ws[i].1, .string t.ws[i].2.1, .bool t.ws[i].2.2] 39
      have HBa : Hid (Below W0.heap.size W0 (wr.alloc (.cells #[.string t.ws[i].1, .string t.ws[i].2.1, .bool t.ws[i].2.2] 39))) := HB.out.alloc HB.out.size _
      have HOa := hide (HO.out.alloc (.cells #[.string t.ws[i].1, .string t.ws[i].2.1, .bool t.ws[i].2.2] 39))
      cases hin : inB rg t.ws[i].1
      · have C1 : Hid (∀ w, Calls Try.prog 107 #[.agg #[.string rg.1, .string rg.2], .string t.ws[i].1] w fun e w' => e = .returned (.bool false) ∧ Below w.heap.size w w') := fun w => hin ▸ iin rg.1 rg.2 t.ws[i].1 w
        have ho2 := HOa.out
        rw [← filt_map_no hlt hin] at ho2
        have HO2 := hide ho2
        clear ho2 hin
        go_wp2_with fail
        refine (C1.out _).mono ?_
        rintro e w2 ⟨rfl, hb2⟩
        have HO3 := hide (HO2.out.below hb2)
        have HB3 : Hid (Below W0.heap.size W0 w2) := HBa.out.trans (hb2.mono HBa.out.size)
        clear hb2
        go_wp2
        go_roundw
        case rel => exact ⟨i + 1, by omega, by go_num, HO3, HB3⟩
        case measure => simp [intOf]; omega
      · have C1 : Hid (∀ w, Calls Try.prog 107 #[.agg #[.string rg.1, .string rg.2], .string t.ws[i].1] w fun e w' => e = .returned (.bool true) ∧ Below w.heap.size w w') := fun w => hin ▸ iin rg.1 rg.2 t.ws[i].1 w
        have HE : Hid (((t.ws.take (i + 1)).filter fun x => inB rg x.1).map (·.1) = ((t.ws.take i).filter fun x => inB rg x.1).map (·.1) ++ [t.ws[i].1]) := filt_map_yes hlt hin
        have hll : (((t.ws.take i).filter fun x => inB rg x.1).map (·.1)).length ≤ 100000000 := by rw [List.length_map]; exact filt_len _ _ _ _ (by omega)
        clear hin
        go_wp2_with fail
        refine (C1.out _).mono ?_
        rintro e w2 ⟨rfl, hb2⟩
        have HO2 := hide (HOa.out.below hb2)
        have HB2 : Hid (Below W0.heap.size W0 w2) := HBa.out.trans (hb2.mono HBa.out.size)
        have BE2 := hide (BE.out.below hb2)
        clear hb2 r0 r1 r2 y0 y1
        have e0 := BE2.out.c0
        go_wp2_with (at_builtin; refine wpAppS rfl _ _ rfl t.ws[i].1 rfl HO2.out rfl hll HB2.out.size ?_)
        intro v' w' ho' hb'
        have HO3 : Hid (GOwn encS 9 w' W0.heap.size v' (((t.ws.take (i + 1)).filter fun x => inB rg x.1).map (·.1))) := by
          show GOwn _ _ _ _ _ _
          rw [HE.out]; exact ho'
        have HB3 : Hid (Below W0.heap.size W0 w') := HB2.out.trans hb'
        clear ho' hb'
        go_wp2
        go_roundw
        case rel => exact ⟨i + 1, by omega, by go_num, HO3, HB3⟩
        case measure => simp [intOf]; omega
    · have hlt' : ¬ (i : Int) < (t.ws.length : Int) := by omega
      obtain ⟨wA, rfl⟩ : ∃ wA, wA = wr := ⟨_, rfl⟩
      have ho := HO.out
      rw [List.take_of_length_le (by omega)] at ho
      have HO1 := hide ho
      clear ho HO
      have HBw : Hid (Below w.heap.size w wA) := HB0.out.trans (HB.out.mono HB0.out.size)
      have y0 := (BR0.out.below HB.out).c0
      have y1 := (BR0.out.below HB.out).c1
      have x2 := (BT0.out.below HB.out).c2
      have hpl : (scanB vs rg t.snap).length ≤ 10000000 := Nat.le_trans (scan_len' _ _ _) hn
      have hwl : ((t.ws.filter fun x => inB rg x.1).map (·.1)).length ≤ 10000000 := by rw [List.length_map]; exact Nat.le_trans (List.length_filter_le _ _) hw
      have HK : Hid (ownK t vs rg = (t.ws.filter fun x => inB rg x.1).map (·.1) ++ (scanB vs rg t.snap).map (·.1)) := rfl
      have CS : Hid (∀ w, GRow encV w va vs → Calls Try.prog 18 #[.slice va vs.length vc, .agg #[.string rg.1, .string rg.2], .int .i64 t.snap] w fun e w' => ∃ a1 c1, e = .returned (.slice a1 (scanB vs rg t.snap).length c1) ∧ GOwn encR 41 w' w.heap.size (.slice a1 (scanB vs rg t.snap).length c1) (scanB vs rg t.snap) ∧ Below w.heap.size w w') := fun w h => iscan vs va vc rg t.snap (by omega) HF.out w h
      generalize scanB vs rg t.snap = ps at CS HK hpl
      generalize (t.ws.filter fun x => inB rg x.1).map (·.1) = k0 at HO1 HK hwl
      go_wp2_with fail
      refine (CS.out _ (HV.out.below HBw.out)).mono ?_
      rintro e w2 ⟨pa, pc, rfl, hd2, hb2⟩
      have HO2 := hide (HO1.out.below hb2)
      have HBv : Hid (Below W0.heap.size W0 w2) := HB.out.trans (hb2.mono HB.out.size)
      have PR := hide (Lies.of hd2)
      have HAw := hide (away_of HO1.out w2.heap.size)
      clear hd2 hb2 y0 y1 x2 CS
      go_wp2
      go_loopw [7, 35] (fun v n wr => ∃ i : Nat, i ≤ ps.length ∧ n = .int .i64 i ∧ Hid (GOwn encS 9 wr W0.heap.size v (joinK k0 ps i)) ∧ Hid (GRow encR wr pa ps) ∧ Hid (Away v wA.heap.size w2.heap.size) ∧ Hid (w2.heap.size ≤ wr.heap.size) ∧ Hid (Below W0.heap.size W0 wr)) (fun _ n _ => ps.length - (intOf n).toNat)
      case atStart => exact ⟨0, Nat.zero_le _, rfl, (by show GOwn _ _ _ _ _ (joinK k0 ps 0); rw [show joinK k0 ps 0 = k0 by simp [joinK]]; exact HO2.out), PR.out.own.grow, HAw, Nat.le_refl _, HBv⟩
      case round =>
        obtain ⟨i, hi, rfl, HOi, HRi, HAv, HSr, HBi⟩ := hrel
        by_cases hlt : i < ps.length
        · have hlt' : (i : Int) < (ps.length : Int) := by omega
          have hi0 : (0 : Int) ≤ (i : Int) := by omega
          obtain ⟨b, off, rfl, hbl, hc⟩ := HRi.out (by omega)
          have r0 := (rat hc i hlt).1
          have r1 := (rat hc i hlt).2
          clear hc
          have HE : Hid (joinK k0 ps (i + 1) = joinK k0 ps i ++ [ps[i].1]) := by show _ = _; unfold joinK; rw [take_map_one hlt, List.append_assoc]
          have hll : (joinK k0 ps i).length ≤ 100000000 := by unfold joinK; rw [List.length_append, List.length_map, List.length_take]; omega
          have BE : Hid (Bx (wr.alloc (.cells #[.string ps[i].1, .string ps[i].2] 41)) wr.heap.size [.string ps[i].1, .string ps[i].2]) := Bx.new wr [.string ps[i].1, .string ps[i].2] 41
          have HOa := hide (HOi.out.alloc (.cells #[.string ps[i].1, .string ps[i].2] 41))
          have HBa : Hid (Below W0.heap.size W0 (wr.alloc (.cells #[.string ps[i].1, .string ps[i].2] 41))) := HBi.out.alloc HBi.out.size _
          have HRa := hide (HRi.out.below ((belowRefl wr).alloc (Nat.le_refl _) (.cells #[.string ps[i].1, .string ps[i].2] 41)))
          go_wp2_with (at_builtin; refine wpAppKS rfl _ _ rfl ps[i].1 rfl HOa.out (World.size_alloc _ _) rfl hll HBa.out.size ?_)
          intro v' w' ho' hb' hg' hv'
          have HR3 : Hid (GRow encR w' (some ⟨b, off, none⟩) ps) := HRa.out.grown hg' (fun b1 off1 e he => by
            have h1 := PR.out.lo b1 (by cases e; rfl)
            rcases HAv.out b1 he with h | h <;> omega)
          have HSa : Hid (w2.heap.size ≤ wr.heap.size + 1) := Nat.le_succ_of_le HSr.out
          have HA3 : Hid (Away v' wA.heap.size w2.heap.size) := HAv.out.next HSa.out hv'
          have HS3 : Hid (w2.heap.size ≤ w'.heap.size) := by have h := hg'.size; rw [World.size_alloc] at h; exact Nat.le_trans HSa.out h
          have HO3 : Hid (GOwn encS 9 w' W0.heap.size v' (joinK k0 ps (i + 1))) := by
            show GOwn _ _ _ _ _ _
            rw [HE.out]; exact ho'
          have HB3 : Hid (Below W0.heap.size W0 w') := HBa.out.trans hb'
          clear ho' hb' hg' hv'
          go_wp2
          go_roundw
          case rel => exact ⟨i + 1, by omega, by go_num, HO3, HR3, HA3, HS3, HB3⟩
          case measure => simp [intOf]; omega
        · have hlt' : ¬ (i : Int) < (ps.length : Int) := by omega
          have ho := HOi.out
          unfold joinK at ho
          rw [List.take_of_length_le (by omega), ← HK.out] at ho
          have HO3 := hide ho
          have hkl : (ownK t vs rg).length ≤ 100000000 := Nat.le_trans (ownK_len _ _ _) (by omega)
          clear ho HOi HK
          go_wp2_with fail
          refine (sort95 _ W0.heap.size _ _ hkl HO3.out).mono ?_
          rintro e w5 ⟨rfl, ho1, hb1⟩
          have HO4 := hide ho1
          have HB4 : Hid (Below W0.heap.size W0 w5) := HBi.out.trans hb1
          clear ho1 hb1
          go_wp2_with fail
          refine (comp96 _ W0.heap.size _ _ (by rw [sortB_len]; exact hkl) HO4.out).mono ?_
          rintro e w6 ⟨ao, cap, rfl, hr, hb2⟩
          have HR : Hid (GRow encS w6 ao (keysB (ownK t vs rg))) := hr
          have HB5 : Hid (Below w.heap.size w w6) := HB0.out.trans ((HB4.out.trans hb2).mono HB0.out.size)
          have HL : Hid ((compB (sortB (ownK t vs rg))).length = (keysB (ownK t vs rg)).length) := rfl
          clear hr hb2
          generalize (compB (sortB (ownK t vs rg))).length = L at *
          go_wp2
          go_ret
          exact ⟨ao, cap, by rw [← HL.out]; rfl, HR.out, HB5.out⟩

set_option maxRecDepth 100000 in
set_option maxHeartbeats 2000000 in
theorem iscanO (t : Tx) (ra wa : Option Addr) (rc wc : Nat) (vs : List Vr) (va : Option Addr) (vc : Nat) (rg : Rg) (hw : t.ws.length ≤ 10000000) (hwf : WFit t.ws) (hn : vs.length ≤ 10000000) (hf : VFit vs) (w : World) (hp : GRow encW w wa t.ws) (hv : GRow encV w va vs) :
    Calls Try.prog 14 #[.agg #[.int .i64 t.id, .int .i64 t.st, .int .i64 t.snap, .int .i64 t.cs, .slice ra t.rs.length rc, .slice wa t.ws.length wc, .bool t.out, .string t.nm], .slice va vs.length vc, .agg #[.string rg.1, .string rg.2]] w fun e w' => ∃ a1 c1, e = .returned (.slice a1 (scanO t vs rg).length c1) ∧ GOwn encR 41 w' w.heap.size (.slice a1 (scanO t vs rg).length c1) (scanO t vs rg) ∧ Below w.heap.size w w' := by
  have HP : Hid (GRow encW w wa t.ws) := hp
  have HWF : Hid (WFit t.ws) := hwf
  have HV : Hid (GRow encV w va vs) := hv
  have HF : Hid (VFit vs) := hf
  clear hp hwf hv hf
  have BT0 : Hid (Bx ((w.alloc (.cells #[.int .i64 t.id, .int .i64 t.st, .int .i64 t.snap, .int .i64 t.cs, .slice ra t.rs.length rc, .slice wa t.ws.length wc, .bool t.out, .string t.nm] 27)).alloc (.cells #[.string rg.1, .string rg.2] 34)) w.heap.size [.int .i64 t.id, .int .i64 t.st, .int .i64 t.snap, .int .i64 t.cs, .slice ra t.rs.length rc, .slice wa t.ws.length wc, .bool t.out, .string t.nm]) := (Bx.new w [.int .i64 t.id, .int .i64 t.st, .int .i64 t.snap, .int .i64 t.cs, .slice ra t.rs.length rc, .slice wa t.ws.length wc, .bool t.out, .string t.nm] 27).alloc _
  have BR0 : Hid (Bx ((w.alloc (.cells #[.int .i64 t.id, .int .i64 t.st, .int .i64 t.snap, .int .i64 t.cs, .slice ra t.rs.length rc, .slice wa t.ws.length wc, .bool t.out, .string t.nm] 27)).alloc (.cells #[.string rg.1, .string rg.2] 34)) (w.heap.size + 1) [.string rg.1, .string rg.2]) := by
    have h := Bx.new (w.alloc (.cells #[.int .i64 t.id, .int .i64 t.st, .int .i64 t.snap, .int .i64 t.cs, .slice ra t.rs.length rc, .slice wa t.ws.length wc, .bool t.out, .string t.nm] 27)) [.string rg.1, .string rg.2] 34
    rw [show (w.alloc (.cells #[.int .i64 t.id, .int .i64 t.st, .int .i64 t.snap, .int .i64 t.cs, .slice ra t.rs.length rc, .slice wa t.ws.length wc, .bool t.out, .string t.nm] 27)).heap.size = w.heap.size + 1 by simp] at h
    exact h
  have HB0 : Hid (Below w.heap.size w ((w.alloc (.cells #[.int .i64 t.id, .int .i64 t.st, .int .i64 t.snap, .int .i64 t.cs, .slice ra t.rs.length rc, .slice wa t.ws.length wc, .bool t.out, .string t.nm] 27)).alloc (.cells #[.string rg.1, .string rg.2] 34))) := ((belowRefl w).alloc (Nat.le_refl _) _).alloc (by simp) _
  go_enter Try.func14, Try.ntmps14
  go_wp2_with fail
  refine (ikeys t ra wa rc wc vs va vc rg hw hn HF.out _ (HP.out.below HB0.out) (HV.out.below HB0.out)).mono ?_
  rintro e w1 ⟨ao, cap, rfl, hr, hb1⟩
  have HL : Hid (scanO t vs rg = (keysB (ownK t vs rg)).filterMap (ownF t vs)) := scanO_own t vs rg
  have HM : Hid (∀ k ∈ keysB (ownK t vs rg), k.size ≤ 281474976710656) := fun k hk => by
    have h1 := ((keys_spec _).1 k).1 hk
    unfold ownK at h1
    rw [List.mem_append, scanB_key] at h1
    rcases h1 with h1 | h1
    · obtain ⟨x, hx, rfl⟩ := List.mem_map.1 h1
      have := (HWF.out x (List.mem_filter.1 hx).1).1
      omega
    · obtain ⟨x, hx, rfl⟩ := List.mem_map.1 h1.1
      have := (HF.out x hx).1
      omega
  have hkl : (keysB (ownK t vs rg)).length ≤ 100000000 := Nat.le_trans (keys_len _) (Nat.le_trans (ownK_len _ _ _) (by omega))
  obtain ⟨ks, hks⟩ : ∃ ks, ks = keysB (ownK t vs rg) := ⟨_, rfl⟩
  rw [← hks] at hr hkl HL HM ⊢
  clear hks
  have HR : Hid (GRow encS w1 ao ks) := hr
  have BT1 := hide (BT0.out.below hb1)
  have HB1 : Hid (Below w.heap.size w w1) := HB0.out.trans (hb1.mono HB0.out.size)
  clear hr hb1 BT0 BR0 HB0
  go_wp2
  go_loopw [7, 17] (fun v n wr => ∃ i : Nat, i ≤ ks.length ∧ n = .int .i64 i ∧ Hid (GOwn encR 41 wr w1.heap.size v ((ks.take i).filterMap (ownF t vs))) ∧ Hid (Below w1.heap.size w1 wr)) (fun _ n _ => ks.length - (intOf n).toNat)
  case atStart => exact ⟨0, Nat.zero_le _, rfl, GOwn.nil _ _, belowRefl w1⟩
  case round =>
    obtain ⟨i, hi, rfl, HO, HB⟩ := hrel
    by_cases hlt : i < ks.length
    · have hlt' : (i : Int) < (ks.length : Int) := by omega
      have hi0 : (0 : Int) ≤ (i : Int) := by omega
      obtain ⟨b, off, rfl, hbl, hc⟩ := (HR.out.below HB.out) (by omega)
      have k0 := sat hc i hlt
      clear hc
      have HBw : Hid (Below w.heap.size w wr) := HB1.out.trans (HB.out.mono HB1.out.size)
      have HZ : Hid (ks[i].size ≤ 281474976710656) := HM.out _ (List.getElem_mem hlt)
      have hll : ((ks.take i).filterMap (ownF t vs)).length ≤ 100000000 := Nat.le_trans (fmap_len _ _) (by rw [List.length_take]; omega)
      have BTr := hide (BT1.out.below HB.out)
      have x0 := BTr.out.c0
      have x1 := BTr.out.c1
      have x2 := BTr.out.c2
      have x3 := BTr.out.c3
      have x4 := BTr.out.c4
      have x5 := BTr.out.c5
      have x6 := BTr.out.c6
      have x7 := BTr.out.c7
      have CI : Hid (∀ w, GRow encW w wa t.ws → GRow encV w va vs → Calls Try.prog 16 #[.agg #[.int .i64 t.id, .int .i64 t.st, .int .i64 t.snap, .int .i64 t.cs, .slice ra t.rs.length rc, .slice wa t.ws.length wc, .bool t.out, .string t.nm], .slice va vs.length vc, .string ks[i]] w fun e w' => e = .returned (sawB (ownB t vs ks[i])) ∧ Below w.heap.size w w') := fun w h1 h2 => iown t ra wa rc wc vs va vc ks[i] (by omega) HWF.out (by omega) HF.out w h1 h2
      cases hs : ownB t vs ks[i] with
      | none =>
        rw [hs, sawB_none] at CI
        have ho2 := HO.out
        rw [← fm_no (f := ownF t vs) hlt (by unfold ownF; rw [hs]; rfl)] at ho2
        have HO2 := hide ho2
        clear ho2 hs HO
        go_wp2_with fail
        refine (CI.out _ (HP.out.below HBw.out) (HV.out.below HBw.out)).mono ?_
        rintro e w2 ⟨rfl, hb2⟩
        have HO3 := hide (HO2.out.below hb2)
        have HB3 : Hid (Below w1.heap.size w1 w2) := HB.out.trans (hb2.mono HB.out.size)
        clear hb2
        go_wp2
        go_roundw
        case rel => exact ⟨i + 1, by omega, by go_num, HO3, HB3⟩
        case measure => simp [intOf]; omega
      | some val =>
        rw [hs, sawB_some] at CI
        have HP2 : Hid ((ks.take (i + 1)).filterMap (ownF t vs) = (ks.take i).filterMap (ownF t vs) ++ [(ks[i], val)]) := fm_yes hlt (by unfold ownF; rw [hs]; rfl)
        clear hs
        go_wp2_with fail
        refine (CI.out _ (HP.out.below HBw.out) (HV.out.below HBw.out)).mono ?_
        rintro e w2 ⟨rfl, hb2⟩
        have HO2 := hide (HO.out.below hb2)
        have HB2 : Hid (Below w1.heap.size w1 w2) := HB.out.trans (hb2.mono HB.out.size)
        clear hb2 HO k0 x0 x1 x2 x3 x4 x5 x6 x7
        go_wp2_with fail
        refine (clone49 ks[i] HZ.out _).mono ?_
        rintro e w3 ⟨rfl, hb3⟩
        have HO3 := hide (HO2.out.below hb3)
        have HB3 : Hid (Below w1.heap.size w1 w3) := HB2.out.trans (hb3.mono HB2.out.size)
        clear hb3 HO2
        go_wp2_with (at_builtin; refine wpAppP rfl _ _ rfl (ks[i], val) rfl HO3.out rfl hll HB3.out.size ?_)
        intro v' w' ho' hb'
        have HO4 : Hid (GOwn encR 41 w' w1.heap.size v' ((ks.take (i + 1)).filterMap (ownF t vs))) := by
          show GOwn _ _ _ _ _ _
          rw [HP2.out]; exact ho'
        have HB4 : Hid (Below w1.heap.size w1 w') := HB3.out.trans hb'
        clear ho' hb'
        go_wp2
        go_roundw
        case rel => exact ⟨i + 1, by omega, by go_num, HO4, HB4⟩
        case measure => simp [intOf]; omega
    · have hlt' : ¬ (i : Int) < (ks.length : Int) := by omega
      have ho := HO.out
      rw [List.take_of_length_le (by omega), ← HL.out] at ho
      obtain ⟨a1, c1, rfl, _⟩ := ho.row
      have HO1 : Hid (GOwn encR 41 wr w.heap.size (.slice a1 (scanO t vs rg).length c1) (scanO t vs rg)) := ho.mono HB1.out.size
      have HB2 : Hid (Below w.heap.size w wr) := HB1.out.trans (HB.out.mono HB1.out.size)
      clear ho HO
      go_wp2
      go_ret
      exact ⟨a1, c1, rfl, HO1.out, HB2.out⟩
end Go.Proofs.Ytblfljmcbpodbaa
