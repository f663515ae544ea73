/- One by one: countsBefore, of each place how many must come before it. -/
import Derived.Test.YtbajpnbodhhmjaaGreatPs05
import Derived.Test.YtbajpnbodhhmjaaGreatPs02
import Derived.WalkMore
import Derived.ScopeJumps
namespace Go.Proofs.YtbajpnbodhhmjaaGreat
open Go.RowKit
open KM
attribute [local go_sem ↓] Go.wp_at_zero Go.wp_at_succ

theorem encI_cells (ys : List Int) : encI.cells ys = ys.map (fun y => Value.int .i64 y) := by
 induction ys with
 | nil => rfl
 | cons y ys ih =>
  simp [Enc.cells, encI] at ih ⊢
  exact ih
theorem own_zeros (w : World) (n : Nat) (hn : n ≤ 1048576) : GOwn encI 3 (w.alloc (.cells (madeCells (Value.int .i64 0).cells (n * 1)) 3)) w.heap.size (.slice (some ⟨w.heap.size, 0, none⟩) n n) (List.replicate n 0) := by
 have h := World.ownsRow_lit (size := 1) (e := 3) w (madeCells (Value.int .i64 0).cells (n * 1)) n (Nat.le_refl _) (by unfold maxLen; omega) (by rw [size_madeCells])
 unfold GOwn
 rw [List.length_replicate, encI_cells]
 have e : (madeCells (Value.int .i64 0).cells (n * 1)).toList = (List.replicate n (0 : Int)).map (fun y => Value.int .i64 y) := by
  have : (Value.int .i64 0).cells = #[Value.int .i64 0] := rfl
  rw [Nat.mul_one, this, toList_madeCells_one]
  simp
 rw [← e]
 exact h

set_option maxRecDepth 100000 in
set_option maxHeartbeats 4000000 in
theorem icounts (ys : List Ta) (a : Option Addr) (c n : Nat) (hny : n = ys.length) (hn : n ≤ 1048576) (hf : LFit (txs ys)) (w : World) (hl : TRows w a ys) :
  Calls Tryz.prog 63 #[.slice a n c] w fun e w' => ∃ g, e = .returned (.slice (some ⟨g, 0, none⟩) n n) ∧ GOwn encI 3 w' w.heap.size (.slice (some ⟨g, 0, none⟩) n n) (cnts (txs ys) []) ∧ Below w.heap.size w w' := by
 have HL : Hid (TRows w a ys) := hl
 have HF : Hid (LFit (txs ys)) := hf
 have HNY : Hid (n = ys.length) := hny
 have HNT : Hid (n = (txs ys).length) := by show _ = _; rw [txs_len]; exact hny
 clear hl hf hny
 have hmk := mkRow 70 3 1 8 _ Tryz.underlying70 Tryz.info3 n (by omega) (by omega)
 have HZ := hide (own_zeros w n hn)
 go_enter Tryz.func63, Tryz.ntmps63
 go_wp2
 clear hmk
 have HO0 : Hid (GOwn encI 3 (w.alloc (.cells (madeCells #[Value.int .i64 0] n) 3)) w.heap.size (.slice (some ⟨w.heap.size, 0, none⟩) n n) (cntsK (txs ys) 0)) := by
  rw [cntsK_zero, ← HNT.out]; have h := HZ.out; rw [Nat.mul_one] at h; exact h
 clear HZ
 go_loopw [11] (fun s wr => ∃ k : Nat, k ≤ n ∧ s = .int .i64 k ∧ Hid (GOwn encI 3 wr w.heap.size (.slice (some ⟨w.heap.size, 0, none⟩) n n) (cntsK (txs ys) k)) ∧ Hid (Below w.heap.size w wr)) (fun s _ => n - (intOf s).toNat)
 case atStart => exact ⟨0, Nat.zero_le _, rfl, HO0, (belowRefl w).alloc (Nat.le_refl _) _⟩
 case round =>
  obtain ⟨k, hk, rfl, HOk, HB⟩ := hrel
  by_cases hlt : k < n
  ·have hlt' : (k : Int) < (n : Int) := by omega
   have h0 : (0 : Int) ≤ (k : Int) := by omega
   have hky : k < ys.length := by rw [← HNY.out]; exact hlt
   have hkt : k < (txs ys).length := by rw [← HNT.out]; exact hlt
   have hrow0 := ((HL.out).cls k hky)
   obtain ⟨b, o, ea, hbl, hc, hrow⟩ := (HL.out.below HB.out).cls k hky
   obtain ⟨b0, o0, e0, hb0, hc0, hrw⟩ := hrow0
   clear e0 hb0 hc0
   have hfx : TFit ys[k].t := HF.out.2 _ (List.mem_map.2 ⟨_, List.getElem_mem hky, rfl⟩)
   obtain ⟨x, hx⟩ : ∃ x, x = ys[k] := ⟨_, rfl⟩
   rw [← hx] at hc hfx hrw
   have HXT : Hid ((txs ys)[k] = x.t) := by show _ = _; rw [hx]; simp [txs]
   clear hx hrow
   have hle : (cntsK (txs ys) k).length = n := by rw [cntsK_len, ← HNT.out]
   have hbd := cntsK_bd (txs ys) k (by omega)
   rw [← HNT.out] at hbd
   have HCN := fun (wa : World) (h1 : Below w.heap.size w wa) (h2 : GOwn encI 3 wa w.heap.size (.slice (some ⟨w.heap.size, 0, none⟩) n n) (cntsK (txs ys) k)) =>
    icbeh ys a c x.t x.ra x.wa x.rc x.wc 1 (Or.inl rfl) (cntsK (txs ys) k) n hle.symm HNY.out (fun u hu => ⟨(hbd u hu).1, by have := (hbd u hu).2; omega⟩) hn HF.out hfx w.heap.size n w wa h1 HL.out hrw h2
   have HCN' := hide HCN
   have HE : Hid (addL x.t 1 (txs ys) (cntsK (txs ys) k) = cntsK (txs ys) (k + 1)) := by show _ = _; rw [← HXT.out]; exact cntsK_next _ k hkt
   clear HCN hbd hle hrw hfx HXT
   subst ea
   have r0 := hc.c0
   have r1 := hc.c1
   have r2 := hc.c2
   have r3 := hc.c3
   have r4 := hc.c4
   have r5 := hc.c5
   have r6 := hc.c6
   have r7 := hc.c7
   clear hc
   have HB1 : Hid (Below w.heap.size w (wr.alloc (.cells #[.int .i64 x.t.id, .int .i64 x.t.st, .int .i64 x.t.snap, .int .i64 x.t.cs, .slice x.ra x.t.rs.length x.rc, .slice x.wa x.t.ws.length x.wc, .bool x.t.out, .string x.t.nm] 30))) := HB.out.alloc HB.out.size _
   have BT1 : Hid (Bx (wr.alloc (.cells #[.int .i64 x.t.id, .int .i64 x.t.st, .int .i64 x.t.snap, .int .i64 x.t.cs, .slice x.ra x.t.rs.length x.rc, .slice x.wa x.t.ws.length x.wc, .bool x.t.out, .string x.t.nm] 30)) wr.heap.size [.int .i64 x.t.id, .int .i64 x.t.st, .int .i64 x.t.snap, .int .i64 x.t.cs, .slice x.ra x.t.rs.length x.rc, .slice x.wa x.t.ws.length x.wc, .bool x.t.out, .string x.t.nm]) := Bx.new wr [.int .i64 x.t.id, .int .i64 x.t.st, .int .i64 x.t.snap, .int .i64 x.t.cs, .slice x.ra x.t.rs.length x.rc, .slice x.wa x.t.ws.length x.wc, .bool x.t.out, .string x.t.nm] 30
   have HO1 : Hid (GOwn encI 3 (wr.alloc (.cells #[.int .i64 x.t.id, .int .i64 x.t.st, .int .i64 x.t.snap, .int .i64 x.t.cs, .slice x.ra x.t.rs.length x.rc, .slice x.wa x.t.ws.length x.wc, .bool x.t.out, .string x.t.nm] 30)) w.heap.size (.slice (some ⟨w.heap.size, 0, none⟩) n n) (cntsK (txs ys) k)) := HOk.out.alloc _
   have HC := hide (HCN'.out _ HB1.out HO1.out)
   go_upto_region 5 with fail
   clear r0 r1 r2 r3 r4 r5 r6 r7 HCN'
   generalize (wr.alloc (.cells #[.int .i64 x.t.id, .int .i64 x.t.st, .int .i64 x.t.snap, .int .i64 x.t.cs, .slice x.ra x.t.rs.length x.rc, .slice x.wa x.t.ws.length x.wc, .bool x.t.out, .string x.t.nm] 30)) = w1 at *
   have y0 := BT1.out.c0
   have y1 := BT1.out.c1
   have y2 := BT1.out.c2
   have y3 := BT1.out.c3
   have y4 := BT1.out.c4
   have y5 := BT1.out.c5
   have y6 := BT1.out.c6
   have y7 := BT1.out.c7
   go_wp2_with fail
   refine HC.out.mono ?_
   rintro e w2 ⟨rfl, ho2, hg2, hb2⟩
   have HO2 : Hid (GOwn encI 3 w2 w.heap.size (.slice (some ⟨w.heap.size, 0, none⟩) n n) (cntsK (txs ys) (k + 1))) := by show GOwn _ _ _ _ _ _; rw [← HE.out]; exact ho2
   have HB2 : Hid (Below w.heap.size w w2) := hb2
   clear y0 y1 y2 y3 y4 y5 y6 y7 ho2 hg2 hb2 HE HOk HB
   go_wp2
   go_roundw
   case rel => exact ⟨k + 1, by omega, by go_num, HO2, HB2⟩
   case measure => simp [intOf]; omega
  ·have hd : ¬ (k : Int) < (n : Int) := by omega
   have HO2 : Hid (GOwn encI 3 wr w.heap.size (.slice (some ⟨w.heap.size, 0, none⟩) n n) (cnts (txs ys) [])) := by
    have e : k = (txs ys).length := by rw [← HNT.out]; omega
    have h := HOk.out
    rw [e, cntsK_all] at h
    exact h
   clear HOk
   go_wp2
   go_ret
   exact ⟨_, rfl, HO2.out, HB.out⟩
end Go.Proofs.YtbajpnbodhhmjaaGreat

namespace Go.Proofs.YtbajpnbodhhmjaaGreat
open Go.RowKit
open KM
attribute [local go_sem ↓] Go.wp_at_zero Go.wp_at_succ

def lenOf : Value → Nat
 | .slice _ n _ => n
 | _ => 0
structure SerJ (w wr : World) (ys : List Ta) (n g m cap : Nat) (ao : Option Addr) (o : List Nat) : Prop where
 ord : Ordd (txs ys) o
 hm : m = o.length
 cn : GOwn encI 3 wr w.heap.size (.slice (some ⟨g, 0, none⟩) n n) (cnts (txs ys) o)
 or : GOwn encI 3 wr w.heap.size (.slice ao m cap) (o.map Int.ofNat)
 ne : ∀ g', (Value.slice ao m cap).ownBlock = some g' → g' ≠ g
 bel : Below w.heap.size w wr
 ser : serF (txs ys) ((txs ys).length - o.length) o = serB (txs ys)

set_option maxRecDepth 100000 in
set_option maxHeartbeats 4000000 in
theorem iserial (ys : List Ta) (a : Option Addr) (c n : Nat) (hny : n = ys.length) (hn : n ≤ 1048576) (hf : LFit (txs ys)) (w : World) (hl : TRows w a ys) :
  Calls Tryz.prog 33 #[.slice a n c] w fun e w' => ∃ v, e = .returned (.tuple #[v, .bool (serB (txs ys)).isSome]) ∧ GOwn encI 3 w' w.heap.size v ((serO (txs ys)).map Int.ofNat) ∧ Below w.heap.size w w' := by
 have HL : Hid (TRows w a ys) := hl
 have HF : Hid (LFit (txs ys)) := hf
 have HNY : Hid (n = ys.length) := hny
 have HNT : Hid (n = (txs ys).length) := by show _ = _; rw [txs_len]; exact hny
 have HC := hide (icounts ys a c n hny hn hf w hl)
 clear hl hf hny
 go_enter Tryz.func33, Tryz.ntmps33
 go_wp2
 refine wp_scope_jumps 0 (fun a' wr => ∃ (g : Nat) (o : List Nat) (m cap : Nat) (ao : Option Addr), (∃ (u6 u7 u8 u9 u10 u11 u12 u13 u14 u15 u16 u17 u18 u19 u20 u21 u22 u23 u24 u25 u26 u27 u28 u29 u30 u31 u32 u33 u34 u35 u36 u37 u38 u39 : Value), a' = { tmps := #[.slice a n c, undef, .slice none 0 0, .bool false, .slice (some ⟨g, 0, none⟩) n n, .slice ao m cap, u6, u7, u8, u9, u10, u11, u12, u13, u14, u15, u16, u17, u18, u19, u20, u21, u22, u23, u24, u25, u26, u27, u28, u29, u30, u31, u32, u33, u34, u35, u36, u37, u38, u39], defers := [] }) ∧ SerJ w wr ys n g m cap ao o) (fun a' _ => n - lenOf (a'.tmps.getD 5 undef)) rfl ?_ ?_
 ·go_wp2_with fail
  refine HC.out.mono ?_
  rintro e wj ⟨g, rfl, hcn, hbj⟩
  have HCn : Hid (GOwn encI 3 wj w.heap.size (.slice (some ⟨g, 0, none⟩) n n) (cnts (txs ys) [])) := hcn
  have HBj : Hid (Below w.heap.size w wj) := hbj
  clear hcn hbj HC
  go_wp2
  go_step3
  obtain ⟨o, ho⟩ : ∃ o : List Nat, o = [] := ⟨_, rfl⟩
  obtain ⟨m, hm⟩ : ∃ m : Nat, m = 0 := ⟨_, rfl⟩
  obtain ⟨cap, hcap⟩ : ∃ m : Nat, m = 0 := ⟨_, rfl⟩
  obtain ⟨ao, hao⟩ : ∃ a : Option Addr, a = none := ⟨_, rfl⟩
  have HOrd : Hid (Ordd (txs ys) o) := by rw [ho]; exact Ordd.nil _
  have HM : Hid (m = o.length) := by show _ = _; rw [ho, hm]; rfl
  have HOr : Hid (GOwn encI 3 wj w.heap.size (.slice ao m cap) (o.map Int.ofNat)) := by rw [ho, hm, hcap, hao]; exact GOwn.nil _ _
  have HNE : Hid (∀ g', (Value.slice ao m cap).ownBlock = some g' → g' ≠ g) := fun g' h => by rw [hao] at h; cases h
  have HS : Hid (serF (txs ys) ((txs ys).length - o.length) o = serB (txs ys)) := by show _ = _; rw [ho]; rfl
  rw [← ho] at HCn
  have hsl : (Value.slice none 0 0) = Value.slice ao m cap := by rw [hm, hcap, hao]
  clear ho hm hcap hao
  rw (occs := .pos [2]) [hsl]
  clear hsl
  go_wp2
  go_loopw [5, 12] (fun v s wr => v = .slice ao m cap ∧ ∃ k : Nat, k ≤ n ∧ s = .int .i64 k ∧ Hid (∀ j, j < k → freeB (txs ys) o j = false) ∧ wr = wj) (fun _ s _ => n - (intOf s).toNat)
  case atStart => exact ⟨rfl, 0, Nat.zero_le _, rfl, (fun j hj => absurd hj (Nat.not_lt_zero _)), rfl⟩
  case round =>
   obtain ⟨rfl, k, hk, rfl, HFr, rfl⟩ := hrel
   by_cases hlt : k < n
   ·have hlt' : (k : Int) < (n : Int) := by omega
    have h0 : (0 : Int) ≤ (k : Int) := by omega
    have hky : k < ys.length := by rw [← HNY.out]; exact hlt
    have hkt : k < (txs ys).length := by rw [← HNT.out]; exact hlt
    have hln : n = (cnts (txs ys) o).length := by rw [cnts_len]; exact HNT.out
    have hkl : k < (cnts (txs ys) o).length := by rw [← hln]; exact hlt
    have q0 := own_at HCn.out hln k hkl
    rw [cnts_at _ _ _ hkt] at q0
    have hcz := cnt_zero (txs ys) o k
    by_cases hz : cnt (txs ys) o k = 0
    ·rw [hz] at q0
     have HFree : Hid (freeB (txs ys) o k = true) := by show _ = _; rw [hcz, hz]; rfl
     have HNx : Hid (nxt (txs ys) o = some k) := nxt_first hkt HFree.out HFr.out
     have HOrd2 : Hid (Ordd (txs ys) (o ++ [k])) := HOrd.out.snoc hkt HFree.out
     have HLt : Hid (o.length < (txs ys).length) := by
      have h1 := HOrd2.out.len
      rw [List.length_append] at h1
      simp at h1
      exact h1
     have HS2 : Hid (serF (txs ys) ((txs ys).length - (o ++ [k]).length) (o ++ [k]) = serB (txs ys)) := by
      show _ = _
      rw [← ser_step HLt.out HNx.out]; exact HS.out
     have HBd : Hid (∀ u ∈ (cnts (txs ys) o).set k (-1), -2000000 ≤ u ∧ u ≤ 2000000) := fun u hu => ⟨(cnts_bd (txs ys) o k u hu).1, by have := (cnts_bd (txs ys) o k u hu).2; rw [← HNT.out] at this; omega⟩
     have hoL : (o.map Int.ofNat).length = m := by rw [List.length_map]; exact HM.out.symm
     have hmb : m ≤ 100000000 := by have := HLt.out; rw [← HNT.out, ← HM.out] at this; omega
     have HM2 : Hid (m + 1 = (o ++ [k]).length) := by show _ = _; rw [List.length_append, ← HM.out]; rfl
     have HML : Hid (m < n) := by have := HLt.out; rw [← HNT.out, ← HM.out] at this; exact this
     obtain ⟨b0, o0, e0, hbl0, hc0, hrw⟩ := (HL.out).cls k hky
     have hfx : TFit ys[k].t := HF.out.2 _ (List.mem_map.2 ⟨_, List.getElem_mem hky, rfl⟩)
     obtain ⟨x, hx⟩ : ∃ x, x = ys[k] := ⟨_, rfl⟩
     rw [← hx] at hfx hrw
     have HX : Hid (x = ys[k]) := hx
     have hxt : (txs ys)[k] = x.t := by rw [hx]; simp [txs]
     have HCx : Hid (addL x.t (-1) (txs ys) ((cnts (txs ys) o).set k (-1)) = cnts (txs ys) (o ++ [k])) := by show _ = _; rw [← hxt]; exact cnts_next HOrd.out hkt HFree.out
     clear hxt
     have hgl : g < wr.heap.size := (World.ownsRow.lt HCn.out g rfl).2
     have HGL : Hid (g < wr.heap.size) := hgl
     have HCN := hide (fun (wa : World) (h1 : Below w.heap.size w wa) (h2 : GOwn encI 3 wa w.heap.size (.slice (some ⟨g, 0, none⟩) n n) ((cnts (txs ys) o).set k (-1))) =>
      icbeh ys a c x.t x.ra x.wa x.rc x.wc (-1) (Or.inr rfl) ((cnts (txs ys) o).set k (-1)) n (by rw [List.length_set]; exact hln) HNY.out HBd.out hn HF.out hfx g n w wa h1 HL.out hrw h2)
     clear e0 hbl0 hc0 hrw hfx hx hcz hz HBd
     have HBK : Hid ((wr.alloc (.cells #[.int .i64 (k : Int)] 3)).heap[wr.heap.size]? = some (.cells (encI.enc (k : Int)).toArray 3 (0, 0))) := heap_alloc_new wr _
     have O2a := hide (HOr.out.alloc (.cells #[.int .i64 (k : Int)] 3))
     have C2a := hide (HCn.out.alloc (.cells #[.int .i64 (k : Int)] 3))
     have hbs : w.heap.size ≤ wr.heap.size := HBj.out.size
     have HB1 : Hid (Below w.heap.size w (wr.alloc (.cells #[.int .i64 (k : Int)] 3))) := HBj.out.alloc HBj.out.size _
     have hG1 : (wr.alloc (.cells #[.int .i64 (k : Int)] 3)).heap.size = wr.heap.size + 1 := by simp
     have HG1 : Hid ((wr.alloc (.cells #[.int .i64 (k : Int)] 3)).heap.size = wr.heap.size + 1) := hG1
     have HLN := hide hln
     have HKL := hide hkl
     have HOL := hide hoL
     clear hgl hG1 hln hkl hoL hkt
     go_wp2_with (at_builtin; refine wpAppK (E := encI) 70 3 8 _ Tryz.underlying70 Tryz.info3 rfl (by omega) rfl _ _ rfl (k : Int) oneI rfl O2a.out rfl HBK.out (by rw [HOL.out]; exact hmb) (by simp; omega) ?_)
     intro g' cap' w3 ho3 hg3 hg4 hlt3
     rw [← HM.out] at ho3 ⊢
  
     have HNg : Hid (g' ≠ g) := by
      rcases hg4 with h | h
      ·exact HNE.out g' h
      ·have := HGL.out; intro e; omega
     have hne0 : (Value.slice ao m cap).ownBlock = none ∨ (Value.slice (some ⟨g, 0, none⟩) n n).ownBlock ≠ (Value.slice ao m cap).ownBlock := by
      right
      intro e
      exact HNE.out g e.symm rfl
     have C3 : Hid (GOwn encI 3 w3 w.heap.size (.slice (some ⟨g, 0, none⟩) n n) (cnts (txs ys) o)) := World.ownsRow.kept C2a.out hg3 (Or.inr (fun e => HNE.out g e.symm rfl))
     have O3 : Hid (GOwn encI 3 w3 w.heap.size (.slice (some ⟨g', 0, none⟩) (m + 1) cap') ((o ++ [k]).map Int.ofNat)) := by
      show GOwn _ _ _ _ _ _
      rw [List.map_append]
      exact ho3
     have hb3 : Below w.heap.size w w3 := HB1.out.trans ((Below.refl _ _).grown hg3 (by rw [HG1.out]; omega) (fun j hj => (World.ownsRow.lt O2a.out j hj).1))
     have HB3 : Hid (Below w.heap.size w w3) := hb3
     clear ho3 hg3 hg4 hlt3 hne0 O2a C2a HBK hb3 HB1 HG1 q0
     have hln := HLN.out
     have hkl := HKL.out
     have q1 := own_at C3.out hln k hkl
     obtain ⟨vq, hvq⟩ : ∃ vq, vq = (cnts (txs ys) o)[k] := ⟨_, rfl⟩
     rw [← hvq] at q1
     clear hvq
     have f0 : w3.frozen? ⟨g, k, none⟩ = false := own_fz C3.out hln k
     have C4 : Hid (GOwn encI 3 (w3.setCell ⟨g, k, none⟩ (.int .i64 (-1))) w.heap.size (.slice (some ⟨g, 0, none⟩) n n) ((cnts (txs ys) o).set k (-1))) := own_int C3.out hln k (-1)
     have O4 : Hid (GOwn encI 3 (w3.setCell ⟨g, k, none⟩ (.int .i64 (-1))) w.heap.size (.slice (some ⟨g', 0, none⟩) (m + 1) cap') ((o ++ [k]).map Int.ofNat)) := World.ownsRow.kept O3.out (grown_set _ _ _ _) (Or.inr (fun e => HNg.out (Option.some.inj e)))
     have HB4 : Hid (Below w.heap.size w (w3.setCell ⟨g, k, none⟩ (.int .i64 (-1)))) := HB3.out.trans (grown_base (grown_set _ _ _ _) (World.ownsRow.lt C3.out g rfl).1 (World.ownsRow.lt C3.out g rfl).2)
     obtain ⟨b, oo, ea, hbl, hc, hrow⟩ := (HL.out.below HB4.out).cls k hky
     rw [← HX.out] at hc
     clear HX
     clear hrow hbl hln hkl HKL HLN HOL hmb hky
     have HC4 := hide (HCN.out _ HB4.out C4.out)
     rw [ea] at HC4 HL
     subst ea
     go_upto_region 9 with fail
     clear q1 f0
     generalize (w3.setCell ⟨g, k, none⟩ (.int .i64 (-1))) = w4 at *
     have r0 := hc.c0
     have r1 := hc.c1
     have r2 := hc.c2
     have r3 := hc.c3
     have r4 := hc.c4
     have r5 := hc.c5
     have r6 := hc.c6
     have r7 := hc.c7
     clear hc
     go_wp2_with fail
     refine HC4.out.mono ?_
     rintro e w5 ⟨rfl, ho5, hg5, hb5⟩
     have C5 : Hid (GOwn encI 3 w5 w.heap.size (.slice (some ⟨g, 0, none⟩) n n) (cnts (txs ys) (o ++ [k]))) := by
      show GOwn _ _ _ _ _ _
      rw [← HCx.out]; exact ho5
     have O5 : Hid (GOwn encI 3 w5 w.heap.size (.slice (some ⟨g', 0, none⟩) (m + 1) cap') ((o ++ [k]).map Int.ofNat)) := World.ownsRow.kept O4.out hg5 (Or.inr (fun e => HNg.out (Option.some.inj e)))
     have HB5 : Hid (Below w.heap.size w w5) := hb5
     clear r0 r1 r2 r3 r4 r5 r6 r7 ho5 hg5 hb5
     go_wp2
     go_step3
     refine ⟨rfl, ⟨g, o ++ [k], m + 1, cap', _, ⟨_, _, _, _, _, _, _, _, _, _, _, _, _, _, _, _, _, _, _, _, _, _, _, _, _, _, _, _, _, _, _, _, _, _, rfl⟩, ⟨HOrd2.out, HM2.out, C5.out, O5.out, (fun j hj => by have e := Option.some.inj hj; rw [← e]; exact HNg.out), HB5.out, HS2.out⟩⟩⟩
    ·obtain ⟨v, hv⟩ : ∃ v, v = cnt (txs ys) o k := ⟨_, rfl⟩
     have HF2 : Hid (∀ j, j < k + 1 → freeB (txs ys) o j = false) := fun j hj => by
      by_cases hjk : j < k
      ·exact HFr.out j hjk
      ·have : j = k := by omega
       subst this
       rw [hcz]
       simpa using hz
     rw [← hv] at q0 hz
     clear hcz hv
     go_wp2
     go_roundw
     case rel => exact ⟨rfl, k + 1, by omega, by go_num, HF2, trivial⟩
     case measure => simp [intOf]; omega
   ·have hd : ¬ (k : Int) < (n : Int) := by omega
    have HNo : Hid (nxt (txs ys) o = none) := nxt_none (fun j hj => HFr.out j (by rw [← HNT.out] at hj; omega))
    by_cases hm : m < n
    ·have hm' : (m : Int) < (n : Int) := by omega
     have HE : Hid (serB (txs ys) = none) := by
      show _ = _
      rw [← HS.out]
      exact ser_stop (by rw [← HM.out, ← HNT.out]; exact hm) HNo.out
     go_wp2
     simp only [Exit.jump]
     go_ret2
     exact ⟨_, by rw [HE.out]; rfl, by unfold serO; rw [HE.out]; exact GOwn.nil _ _, HBj.out⟩
    ·have hm' : ¬ (m : Int) < (n : Int) := by omega
     have HE : Hid (serB (txs ys) = some o) := by
      show _ = _
      rw [← HS.out]
      refine ser_end ?_
      have h1 := HOrd.out.len
      rw [← HNT.out] at h1 ⊢
      have h2 := HM.out
      omega
     go_wp2
     simp only [Exit.jump]
     go_ret2
     exact ⟨_, by rw [HE.out]; rfl, by unfold serO; rw [HE.out]; exact HOr.out, HBj.out⟩
 ·rintro a' wj ⟨g, o, m, cap, ao, ⟨u6, u7, u8, u9, u10, u11, u12, u13, u14, u15, u16, u17, u18, u19, u20, u21, u22, u23, u24, u25, u26, u27, u28, u29, u30, u31, u32, u33, u34, u35, u36, u37, u38, u39, rfl⟩, hj⟩
  have HOrd := hide hj.ord
  have HM := hide hj.hm
  have HCn := hide hj.cn
  have HOr := hide hj.or
  have HNE := hide hj.ne
  have HBj := hide hj.bel
  have HS := hide hj.ser
  clear hj HC
  go_wp2
  go_loopw [5, 12] (fun v s wr => v = .slice ao m cap ∧ ∃ k : Nat, k ≤ n ∧ s = .int .i64 k ∧ Hid (∀ j, j < k → freeB (txs ys) o j = false) ∧ wr = wj) (fun _ s _ => n - (intOf s).toNat)
  case atStart => exact ⟨rfl, 0, Nat.zero_le _, rfl, (fun j hj => absurd hj (Nat.not_lt_zero _)), rfl⟩
  case round =>
   obtain ⟨rfl, k, hk, rfl, HFr, rfl⟩ := hrel
   by_cases hlt : k < n
   ·have hlt' : (k : Int) < (n : Int) := by omega
    have h0 : (0 : Int) ≤ (k : Int) := by omega
    have hky : k < ys.length := by rw [← HNY.out]; exact hlt
    have hkt : k < (txs ys).length := by rw [← HNT.out]; exact hlt
    have hln : n = (cnts (txs ys) o).length := by rw [cnts_len]; exact HNT.out
    have hkl : k < (cnts (txs ys) o).length := by rw [← hln]; exact hlt
    have q0 := own_at HCn.out hln k hkl
    rw [cnts_at _ _ _ hkt] at q0
    have hcz := cnt_zero (txs ys) o k
    by_cases hz : cnt (txs ys) o k = 0
    ·rw [hz] at q0
     have HFree : Hid (freeB (txs ys) o k = true) := by show _ = _; rw [hcz, hz]; rfl
     have HNx : Hid (nxt (txs ys) o = some k) := nxt_first hkt HFree.out HFr.out
     have HOrd2 : Hid (Ordd (txs ys) (o ++ [k])) := HOrd.out.snoc hkt HFree.out
     have HLt : Hid (o.length < (txs ys).length) := by
      have h1 := HOrd2.out.len
      rw [List.length_append] at h1
      simp at h1
      exact h1
     have HS2 : Hid (serF (txs ys) ((txs ys).length - (o ++ [k]).length) (o ++ [k]) = serB (txs ys)) := by
      show _ = _
      rw [← ser_step HLt.out HNx.out]; exact HS.out
     have HBd : Hid (∀ u ∈ (cnts (txs ys) o).set k (-1), -2000000 ≤ u ∧ u ≤ 2000000) := fun u hu => ⟨(cnts_bd (txs ys) o k u hu).1, by have := (cnts_bd (txs ys) o k u hu).2; rw [← HNT.out] at this; omega⟩
     have hoL : (o.map Int.ofNat).length = m := by rw [List.length_map]; exact HM.out.symm
     have hmb : m ≤ 100000000 := by have := HLt.out; rw [← HNT.out, ← HM.out] at this; omega
     have HM2 : Hid (m + 1 = (o ++ [k]).length) := by show _ = _; rw [List.length_append, ← HM.out]; rfl
     have HML : Hid (m < n) := by have := HLt.out; rw [← HNT.out, ← HM.out] at this; exact this
     obtain ⟨b0, o0, e0, hbl0, hc0, hrw⟩ := (HL.out).cls k hky
     have hfx : TFit ys[k].t := HF.out.2 _ (List.mem_map.2 ⟨_, List.getElem_mem hky, rfl⟩)
     obtain ⟨x, hx⟩ : ∃ x, x = ys[k] := ⟨_, rfl⟩
     rw [← hx] at hfx hrw
     have HX : Hid (x = ys[k]) := hx
     have hxt : (txs ys)[k] = x.t := by rw [hx]; simp [txs]
     have HCx : Hid (addL x.t (-1) (txs ys) ((cnts (txs ys) o).set k (-1)) = cnts (txs ys) (o ++ [k])) := by show _ = _; rw [← hxt]; exact cnts_next HOrd.out hkt HFree.out
     clear hxt
     have hgl : g < wr.heap.size := (World.ownsRow.lt HCn.out g rfl).2
     have HGL : Hid (g < wr.heap.size) := hgl
     have HCN := hide (fun (wa : World) (h1 : Below w.heap.size w wa) (h2 : GOwn encI 3 wa w.heap.size (.slice (some ⟨g, 0, none⟩) n n) ((cnts (txs ys) o).set k (-1))) =>
      icbeh ys a c x.t x.ra x.wa x.rc x.wc (-1) (Or.inr rfl) ((cnts (txs ys) o).set k (-1)) n (by rw [List.length_set]; exact hln) HNY.out HBd.out hn HF.out hfx g n w wa h1 HL.out hrw h2)
     clear e0 hbl0 hc0 hrw hfx hx hcz hz HBd
     have HBK : Hid ((wr.alloc (.cells #[.int .i64 (k : Int)] 3)).heap[wr.heap.size]? = some (.cells (encI.enc (k : Int)).toArray 3 (0, 0))) := heap_alloc_new wr _
     have O2a := hide (HOr.out.alloc (.cells #[.int .i64 (k : Int)] 3))
     have C2a := hide (HCn.out.alloc (.cells #[.int .i64 (k : Int)] 3))
     have hbs : w.heap.size ≤ wr.heap.size := HBj.out.size
     have HB1 : Hid (Below w.heap.size w (wr.alloc (.cells #[.int .i64 (k : Int)] 3))) := HBj.out.alloc HBj.out.size _
     have hG1 : (wr.alloc (.cells #[.int .i64 (k : Int)] 3)).heap.size = wr.heap.size + 1 := by simp
     have HG1 : Hid ((wr.alloc (.cells #[.int .i64 (k : Int)] 3)).heap.size = wr.heap.size + 1) := hG1
     have HLN := hide hln
     have HKL := hide hkl
     have HOL := hide hoL
     clear hgl hG1 hln hkl hoL hkt
     go_wp2_with (at_builtin; refine wpAppK (E := encI) 70 3 8 _ Tryz.underlying70 Tryz.info3 rfl (by omega) rfl _ _ rfl (k : Int) oneI rfl O2a.out rfl HBK.out (by rw [HOL.out]; exact hmb) (by simp; omega) ?_)
     intro g' cap' w3 ho3 hg3 hg4 hlt3
     rw [← HM.out] at ho3 ⊢
  
     have HNg : Hid (g' ≠ g) := by
      rcases hg4 with h | h
      ·exact HNE.out g' h
      ·have := HGL.out; intro e; omega
     have hne0 : (Value.slice ao m cap).ownBlock = none ∨ (Value.slice (some ⟨g, 0, none⟩) n n).ownBlock ≠ (Value.slice ao m cap).ownBlock := by
      right
      intro e
      exact HNE.out g e.symm rfl
     have C3 : Hid (GOwn encI 3 w3 w.heap.size (.slice (some ⟨g, 0, none⟩) n n) (cnts (txs ys) o)) := World.ownsRow.kept C2a.out hg3 (Or.inr (fun e => HNE.out g e.symm rfl))
     have O3 : Hid (GOwn encI 3 w3 w.heap.size (.slice (some ⟨g', 0, none⟩) (m + 1) cap') ((o ++ [k]).map Int.ofNat)) := by
      show GOwn _ _ _ _ _ _
      rw [List.map_append]
      exact ho3
     have hb3 : Below w.heap.size w w3 := HB1.out.trans ((Below.refl _ _).grown hg3 (by rw [HG1.out]; omega) (fun j hj => (World.ownsRow.lt O2a.out j hj).1))
     have HB3 : Hid (Below w.heap.size w w3) := hb3
     clear ho3 hg3 hg4 hlt3 hne0 O2a C2a HBK hb3 HB1 HG1 q0
     have hln := HLN.out
     have hkl := HKL.out
     have q1 := own_at C3.out hln k hkl
     obtain ⟨vq, hvq⟩ : ∃ vq, vq = (cnts (txs ys) o)[k] := ⟨_, rfl⟩
     rw [← hvq] at q1
     clear hvq
     have f0 : w3.frozen? ⟨g, k, none⟩ = false := own_fz C3.out hln k
     have C4 : Hid (GOwn encI 3 (w3.setCell ⟨g, k, none⟩ (.int .i64 (-1))) w.heap.size (.slice (some ⟨g, 0, none⟩) n n) ((cnts (txs ys) o).set k (-1))) := own_int C3.out hln k (-1)
     have O4 : Hid (GOwn encI 3 (w3.setCell ⟨g, k, none⟩ (.int .i64 (-1))) w.heap.size (.slice (some ⟨g', 0, none⟩) (m + 1) cap') ((o ++ [k]).map Int.ofNat)) := World.ownsRow.kept O3.out (grown_set _ _ _ _) (Or.inr (fun e => HNg.out (Option.some.inj e)))
     have HB4 : Hid (Below w.heap.size w (w3.setCell ⟨g, k, none⟩ (.int .i64 (-1)))) := HB3.out.trans (grown_base (grown_set _ _ _ _) (World.ownsRow.lt C3.out g rfl).1 (World.ownsRow.lt C3.out g rfl).2)
     obtain ⟨b, oo, ea, hbl, hc, hrow⟩ := (HL.out.below HB4.out).cls k hky
     rw [← HX.out] at hc
     clear HX
     clear hrow hbl hln hkl HKL HLN HOL hmb hky
     have HC4 := hide (HCN.out _ HB4.out C4.out)
     rw [ea] at HC4 HL
     subst ea
     go_upto_region 9 with fail
     clear q1 f0
     generalize (w3.setCell ⟨g, k, none⟩ (.int .i64 (-1))) = w4 at *
     have r0 := hc.c0
     have r1 := hc.c1
     have r2 := hc.c2
     have r3 := hc.c3
     have r4 := hc.c4
     have r5 := hc.c5
     have r6 := hc.c6
     have r7 := hc.c7
     clear hc
     go_wp2_with fail
     refine HC4.out.mono ?_
     rintro e w5 ⟨rfl, ho5, hg5, hb5⟩
     have C5 : Hid (GOwn encI 3 w5 w.heap.size (.slice (some ⟨g, 0, none⟩) n n) (cnts (txs ys) (o ++ [k]))) := by
      show GOwn _ _ _ _ _ _
      rw [← HCx.out]; exact ho5
     have O5 : Hid (GOwn encI 3 w5 w.heap.size (.slice (some ⟨g', 0, none⟩) (m + 1) cap') ((o ++ [k]).map Int.ofNat)) := World.ownsRow.kept O4.out hg5 (Or.inr (fun e => HNg.out (Option.some.inj e)))
     have HB5 : Hid (Below w.heap.size w w5) := hb5
     clear r0 r1 r2 r3 r4 r5 r6 r7 ho5 hg5 hb5
     go_wp2
     go_step3
     refine ⟨rfl, ⟨g, o ++ [k], m + 1, cap', _, ⟨_, _, _, _, _, _, _, _, _, _, _, _, _, _, _, _, _, _, _, _, _, _, _, _, _, _, _, _, _, _, _, _, _, _, rfl⟩, ⟨HOrd2.out, HM2.out, C5.out, O5.out, (fun j hj => by have e := Option.some.inj hj; rw [← e]; exact HNg.out), HB5.out, HS2.out⟩⟩, ?_⟩
     have := HML.out
     simp [lenOf]
     omega
    ·obtain ⟨v, hv⟩ : ∃ v, v = cnt (txs ys) o k := ⟨_, rfl⟩
     have HF2 : Hid (∀ j, j < k + 1 → freeB (txs ys) o j = false) := fun j hj => by
      by_cases hjk : j < k
      ·exact HFr.out j hjk
      ·have : j = k := by omega
       subst this
       rw [hcz]
       simpa using hz
     rw [← hv] at q0 hz
     clear hcz hv
     go_wp2
     go_roundw
     case rel => exact ⟨rfl, k + 1, by omega, by go_num, HF2, trivial⟩
     case measure => simp [intOf]; omega
   ·have hd : ¬ (k : Int) < (n : Int) := by omega
    have HNo : Hid (nxt (txs ys) o = none) := nxt_none (fun j hj => HFr.out j (by rw [← HNT.out] at hj; omega))
    by_cases hm : m < n
    ·have hm' : (m : Int) < (n : Int) := by omega
     have HE : Hid (serB (txs ys) = none) := by
      show _ = _
      rw [← HS.out]
      exact ser_stop (by rw [← HM.out, ← HNT.out]; exact hm) HNo.out
     go_wp2
     simp only [Exit.jump]
     go_ret2
     exact ⟨_, by rw [HE.out]; rfl, by unfold serO; rw [HE.out]; exact GOwn.nil _ _, HBj.out⟩
    ·have hm' : ¬ (m : Int) < (n : Int) := by omega
     have HE : Hid (serB (txs ys) = some o) := by
      show _ = _
      rw [← HS.out]
      refine ser_end ?_
      have h1 := HOrd.out.len
      rw [← HNT.out] at h1 ⊢
      have h2 := HM.out
      omega
     go_wp2
     simp only [Exit.jump]
     go_ret2
     exact ⟨_, by rw [HE.out]; rfl, by unfold serO; rw [HE.out]; exact HOr.out, HBj.out⟩

end Go.Proofs.YtbajpnbodhhmjaaGreat
