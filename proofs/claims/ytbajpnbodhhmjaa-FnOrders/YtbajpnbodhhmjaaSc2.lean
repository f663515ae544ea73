/- One by one: countsBefore, of each place how many must come before it. -/
import Derived.Test.YtbajpnbodhhmjaaSc1
namespace Go.Proofs.Ytbajpnbodhhmjaa
open Go.RowKit
open KM
attribute [local go_sem ↓] Go.wp_at_zero Go.wp_at_succ

theorem encI_cells (ys : List Int) : encI.cells ys = ys.map (fun y => Value.int .i64 y) := by
  induction ys with
  | nil => rfl
  | cons y ys ih =>
    simp [Enc.cells, encI] at ih ⊢
    exact ih
theorem own_zeros (w : World) (n : Nat) (hn : n ≤ 1048576) : GOwn encI 3 (w.alloc (.cells (madeCells (Value.int .i64 0).cells (n * 1)) 3)) w.heap.size (.slice (some ⟨w.heap.size, 0, none⟩) n n) (List.replicate n 0) := by
  have h := World.ownsRow_lit (size := 1) (e := 3) w (madeCells (Value.int .i64 0).cells (n * 1)) n (Nat.le_refl _) (by unfold maxLen; omega) (by rw [size_madeCells])
  unfold GOwn
  rw [List.length_replicate, encI_cells]
  have e : (madeCells (Value.int .i64 0).cells (n * 1)).toList = (List.replicate n (0 : Int)).map (fun y => Value.int .i64 y) := by
    have : (Value.int .i64 0).cells = #[Value.int .i64 0] := rfl
    rw [Nat.mul_one, this, toList_madeCells_one]
    simp
  rw [← e]
  exact h

set_option maxRecDepth 100000 in
set_option maxHeartbeats 4000000 in
theorem icounts (ys : List Ta) (a : Option Addr) (c n : Nat) (hny : n = ys.length) (hn : n ≤ 1048576) (hf : LFit (txs ys)) (w : World) (hl : TRows w a ys) :
    Calls Try.prog 14 #[.slice a n c] w fun e w' => ∃ g, e = .returned (.slice (some ⟨g, 0, none⟩) n n) ∧ GOwn encI 3 w' w.heap.size (.slice (some ⟨g, 0, none⟩) n n) (cnts (txs ys) []) ∧ Below w.heap.size w w' := by
  have HL : Hid (TRows w a ys) := hl
  have HF : Hid (LFit (txs ys)) := hf
  have HNY : Hid (n = ys.length) := hny
  have HNT : Hid (n = (txs ys).length) := by show _ = _; rw [txs_len]; exact hny
  clear hl hf hny
  have hmk := mkRow 26 3 1 8 _ Try.underlying26 Try.info3 n (by omega) (by omega)
  have HZ := hide (own_zeros w n hn)
  go_enter Try.func14, Try.ntmps14
  go_wp2
  clear hmk
  have HO0 : Hid (GOwn encI 3 (w.alloc (.cells (madeCells #[Value.int .i64 0] n) 3)) w.heap.size (.slice (some ⟨w.heap.size, 0, none⟩) n n) (cntsK (txs ys) 0)) := by
    rw [cntsK_zero, ← HNT.out]; have h := HZ.out; rw [Nat.mul_one] at h; exact h
  clear HZ
  go_loopw [11] (fun s wr => ∃ k : Nat, k ≤ n ∧ s = .int .i64 k ∧ Hid (GOwn encI 3 wr w.heap.size (.slice (some ⟨w.heap.size, 0, none⟩) n n) (cntsK (txs ys) k)) ∧ Hid (Below w.heap.size w wr)) (fun s _ => n - (intOf s).toNat)
  case atStart => exact ⟨0, Nat.zero_le _, rfl, HO0, (belowRefl w).alloc (Nat.le_refl _) _⟩
  case round =>
    obtain ⟨k, hk, rfl, HOk, HB⟩ := hrel
    by_cases hlt : k < n
    · have hlt' : (k : Int) < (n : Int) := by omega
      have h0 : (0 : Int) ≤ (k : Int) := by omega
      have hky : k < ys.length := by rw [← HNY.out]; exact hlt
      have hkt : k < (txs ys).length := by rw [← HNT.out]; exact hlt
      have hrow0 := ((HL.out).cls k hky)
      obtain ⟨b, o, ea, hbl, hc, hrow⟩ := (HL.out.below HB.out).cls k hky
      obtain ⟨b0, o0, e0, hb0, hc0, hrw⟩ := hrow0
      clear e0 hb0 hc0
      have hfx : TFit ys[k].t := HF.out.2 _ (List.mem_map.2 ⟨_, List.getElem_mem hky, rfl⟩)
      obtain ⟨x, hx⟩ : ∃ x, x = ys[k] := ⟨_, rfl⟩
      rw [← hx] at hc hfx hrw
      have HXT : Hid ((txs ys)[k] = x.t) := by show _ = _; rw [hx]; simp [txs]
      clear hx hrow
      have hle : (cntsK (txs ys) k).length = n := by rw [cntsK_len, ← HNT.out]
      have hbd := cntsK_bd (txs ys) k (by omega)
      rw [← HNT.out] at hbd
      have HCN := fun (wa : World) (h1 : Below w.heap.size w wa) (h2 : GOwn encI 3 wa w.heap.size (.slice (some ⟨w.heap.size, 0, none⟩) n n) (cntsK (txs ys) k)) =>
        icbeh ys a c x.t x.ra x.wa x.rc x.wc 1 (Or.inl rfl) (cntsK (txs ys) k) n hle.symm HNY.out (fun u hu => ⟨(hbd u hu).1, by have := (hbd u hu).2; omega⟩) hn HF.out hfx w.heap.size n w wa h1 HL.out hrw h2
      have HCN' := hide HCN
      have HE : Hid (addL x.t 1 (txs ys) (cntsK (txs ys) k) = cntsK (txs ys) (k + 1)) := by show _ = _; rw [← HXT.out]; exact cntsK_next _ k hkt
      clear HCN hbd hle hrw hfx HXT
      subst ea
      have r0 := hc.c0
      have r1 := hc.c1
      have r2 := hc.c2
      have r3 := hc.c3
      have r4 := hc.c4
      have r5 := hc.c5
      have r6 := hc.c6
      have r7 := hc.c7
      clear hc
      have HB1 : Hid (Below w.heap.size w (wr.alloc (.cells #[.int .i64 x.t.id, .int .i64 x.t.st, .int .i64 x.t.snap, .int .i64 x.t.cs, .slice x.ra x.t.rs.length x.rc, .slice x.wa x.t.ws.length x.wc, .bool x.t.out, .string x.t.nm] 34))) := HB.out.alloc HB.out.size _
      have BT1 : Hid (Bx (wr.alloc (.cells #[.int .i64 x.t.id, .int .i64 x.t.st, .int .i64 x.t.snap, .int .i64 x.t.cs, .slice x.ra x.t.rs.length x.rc, .slice x.wa x.t.ws.length x.wc, .bool x.t.out, .string x.t.nm] 34)) wr.heap.size [.int .i64 x.t.id, .int .i64 x.t.st, .int .i64 x.t.snap, .int .i64 x.t.cs, .slice x.ra x.t.rs.length x.rc, .slice x.wa x.t.ws.length x.wc, .bool x.t.out, .string x.t.nm]) := Bx.new wr [.int .i64 x.t.id, .int .i64 x.t.st, .int .i64 x.t.snap, .int .i64 x.t.cs, .slice x.ra x.t.rs.length x.rc, .slice x.wa x.t.ws.length x.wc, .bool x.t.out, .string x.t.nm] 34
      have HO1 : Hid (GOwn encI 3 (wr.alloc (.cells #[.int .i64 x.t.id, .int .i64 x.t.st, .int .i64 x.t.snap, .int .i64 x.t.cs, .slice x.ra x.t.rs.length x.rc, .slice x.wa x.t.ws.length x.wc, .bool x.t.out, .string x.t.nm] 34)) w.heap.size (.slice (some ⟨w.heap.size, 0, none⟩) n n) (cntsK (txs ys) k)) := HOk.out.alloc _
      have HC := hide (HCN'.out _ HB1.out HO1.out)
      go_upto_region 5 with fail
      clear r0 r1 r2 r3 r4 r5 r6 r7 HCN'
      generalize (wr.alloc (.cells #[.int .i64 x.t.id, .int .i64 x.t.st, .int .i64 x.t.snap, .int .i64 x.t.cs, .slice x.ra x.t.rs.length x.rc, .slice x.wa x.t.ws.length x.wc, .bool x.t.out, .string x.t.nm] 34)) = w1 at *
      have y0 := BT1.out.c0
      have y1 := BT1.out.c1
      have y2 := BT1.out.c2
      have y3 := BT1.out.c3
      have y4 := BT1.out.c4
      have y5 := BT1.out.c5
      have y6 := BT1.out.c6
      have y7 := BT1.out.c7
      go_wp2_with fail
      refine HC.out.mono ?_
      rintro e w2 ⟨rfl, ho2, hg2, hb2⟩
      have HO2 : Hid (GOwn encI 3 w2 w.heap.size (.slice (some ⟨w.heap.size, 0, none⟩) n n) (cntsK (txs ys) (k + 1))) := by show GOwn _ _ _ _ _ _; rw [← HE.out]; exact ho2
      have HB2 : Hid (Below w.heap.size w w2) := hb2
      clear y0 y1 y2 y3 y4 y5 y6 y7 ho2 hg2 hb2 HE HOk HB
      go_wp2
      go_roundw
      case rel => exact ⟨k + 1, by omega, by go_num, HO2, HB2⟩
      case measure => simp [intOf]; omega
    · have hd : ¬ (k : Int) < (n : Int) := by omega
      have HO2 : Hid (GOwn encI 3 wr w.heap.size (.slice (some ⟨w.heap.size, 0, none⟩) n n) (cnts (txs ys) [])) := by
        have e : k = (txs ys).length := by rw [← HNT.out]; omega
        have h := HOk.out
        rw [e, cntsK_all] at h
        exact h
      clear HOk
      go_wp2
      go_ret
      exact ⟨_, rfl, HO2.out, HB.out⟩
end Go.Proofs.Ytbajpnbodhhmjaa
