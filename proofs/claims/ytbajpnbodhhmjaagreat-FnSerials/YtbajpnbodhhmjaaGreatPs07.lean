/- One by one: the document's SerialOrder. -/
import Derived.Test.YtbajpnbodhhmjaaGreatPs01
import Derived.Test.YtbajpnbodhhmjaaGreatPs06
import Derived.Deep.RegionHeld3
namespace Go.Proofs.YtbajpnbodhhmjaaGreat
open Go.RowKit
open KM
attribute [local go_sem ↓] Go.wp_at_zero Go.wp_at_succ

theorem Tryz.info4 : (Tryz.prog.info? 4).map (fun i => (i.zero, i.size, i.bytes)) = some (some (.bool false), 1, 1) := by kernel_rfl
theorem Tryz.underlying99 : Tryz.prog.underlying 99 = some (.slice 4) := by kernel_rfl
def encB : Enc Bool := ⟨fun x => [.bool x], 1, by decide, fun _ => rfl⟩
theorem encB_cells (ys : List Bool) : encB.cells ys = ys.map (fun y => Value.bool y) := by
 induction ys with
 | nil => rfl
 | cons y ys ih =>
  simp [Enc.cells, encB] at ih ⊢
  exact ih
theorem own_bool {W : World} {base g cap n : Nat} {l : List Bool} (h : GOwn encB 4 W base (.slice (some ⟨g, 0, none⟩) n cap) l) (hn : n = l.length) (i : Nat) (x : Bool) :
  GOwn encB 4 (W.setCell ⟨g, i, none⟩ (.bool x)) base (.slice (some ⟨g, 0, none⟩) n cap) (l.set i x) := by
 subst hn
 unfold GOwn
 rw [encB_cells, List.map_set, List.length_set, ← encB_cells]
 exact (World.ownsRow.stored h i _).1
theorem bool_fz {W : World} {base g cap n : Nat} {l : List Bool} (h : GOwn encB 4 W base (.slice (some ⟨g, 0, none⟩) n cap) l) (hn : n = l.length) (k : Nat) : W.frozen? ⟨g, k, none⟩ = false := by
 subst hn
 exact World.ownsRow.frozenAt h k
theorem bool_at {W : World} {base g cap n : Nat} {l : List Bool} (h : GOwn encB 4 W base (.slice (some ⟨g, 0, none⟩) n cap) l) (hn : n = l.length) (k : Nat) (hk : k < l.length) : W.cell? ⟨g, k, none⟩ = some (.bool l[k]) := by
 subst hn
 obtain ⟨b, o, hbo, _, hc⟩ := h.grow (by omega)
 cases hbo
 have := hc k hk 0 (by decide)
 simpa [encB] using this
theorem own_falses (w : World) (n : Nat) (hn : n ≤ 1048576) : GOwn encB 4 (w.alloc (.cells (madeCells (Value.bool false).cells (n * 1)) 4)) w.heap.size (.slice (some ⟨w.heap.size, 0, none⟩) n n) (List.replicate n false) := by
 have h := World.ownsRow_lit (size := 1) (e := 4) w (madeCells (Value.bool false).cells (n * 1)) n (Nat.le_refl _) (by unfold maxLen; omega) (by rw [size_madeCells])
 unfold GOwn
 rw [List.length_replicate, encB_cells]
 have e : (madeCells (Value.bool false).cells (n * 1)).toList = (List.replicate n false).map (fun y => Value.bool y) := by
  have : (Value.bool false).cells = #[Value.bool false] := rfl
  rw [Nat.mul_one, this, toList_madeCells_one]
  simp
 rw [← e]
 exact h
def fillT (n k : Nat) : List Bool := (List.range n).map fun j => decide (j < k)
theorem fillT_len (n k : Nat) : (fillT n k).length = n := by simp [fillT]
theorem fillT_zero (n : Nat) : fillT n 0 = List.replicate n false := by
 apply List.ext_getElem
 ·simp [fillT]
 ·intro j h1 h2; simp [fillT]
theorem fillT_next (n k : Nat) : (fillT n k).set k true = fillT n (k + 1) := by
 apply List.ext_getElem
 ·simp [fillT]
 ·intro j h1 h2
  rw [List.getElem_set]
  simp only [fillT, List.getElem_map, List.getElem_range]
  by_cases h : k = j
  ·rw [if_pos h]; simp; omega
  ·rw [if_neg h]; congr 1; apply propext; omega
def leftB (n : Nat) (o : List Nat) : List Bool := (List.range n).map fun j => !(o.contains j)
theorem leftB_len (n : Nat) (o : List Nat) : (leftB n o).length = n := by simp [leftB]
theorem leftB_at (n : Nat) (o : List Nat) (j : Nat) (h : j < n) : (leftB n o)[j]'(by rw [leftB_len]; exact h) = !(o.contains j) := by simp [leftB]
theorem fillT_all (n : Nat) : fillT n n = leftB n [] := by
 apply List.ext_getElem
 ·simp [fillT, leftB]
 ·intro j h1 h2
  simp [fillT, leftB]
  simpa [fillT] using h1
theorem leftB_next (n : Nat) (o : List Nat) (k : Nat) : (leftB n o).set k false = leftB n (o ++ [k]) := by
 apply List.ext_getElem
 ·simp [leftB]
 ·intro j h1 h2
  rw [List.getElem_set]
  simp only [leftB, List.getElem_map, List.getElem_range]
  by_cases h : k = j
  ·subst h; simp
  ·have h' : ¬ j = k := fun e => h e.symm
   rw [if_neg h]; simp [h']
def frK (ts : List Tx) (o : List Nat) (i k : Nat) : Bool := !(o.contains i) && (List.range k).all fun j => o.contains j || !(bef ts j i)
theorem frK_zero (ts : List Tx) (o : List Nat) (i : Nat) : frK ts o i 0 = !(o.contains i) := by simp [frK]
theorem frK_all (ts : List Tx) (o : List Nat) (i : Nat) : frK ts o i ts.length = freeB ts o i := rfl
theorem frK_next (ts : List Tx) (o : List Nat) (i k : Nat) : frK ts o i (k + 1) = (frK ts o i k && (o.contains k || !(bef ts k i))) := by
 unfold frK
 rw [List.range_succ, List.all_append]
 simp [Bool.and_assoc]
theorem frK_no (ts : List Tx) (o : List Nat) (i k : Nat) (hk : k ≤ ts.length) (h : frK ts o i k = false) : freeB ts o i = false := by
 cases hf : freeB ts o i with
 | false => rfl
 | true =>
  obtain ⟨h1, h2⟩ := (free_iff ts o i).1 hf
  exfalso
  have : frK ts o i k = true := by
   unfold frK
   simp only [Bool.and_eq_true, Bool.not_eq_true', List.all_eq_true, List.mem_range, Bool.or_eq_true]
   refine ⟨by simpa using h1, fun j hj => ?_⟩
   by_cases hm : j ∈ o
   ·left; simpa using hm
   ·right; exact h2 j (by omega) hm
  rw [h] at this
  cases this
def AtS (ts : List Tx) (o : List Nat) (i : Nat) (v : Value) : Prop := (v = .int .i64 (-1) ∧ ∀ j, j < i → freeB ts o j = false) ∨ ∃ k : Nat, v = .int .i64 (k : Int) ∧ k < ts.length ∧ nxt ts o = some k
structure SerS (w wr : World) (ys : List Ta) (n g m cap : Nat) (ao : Option Addr) (o : List Nat) : Prop where
 ord : Ordd (txs ys) o
 hm : m = o.length
 cn : GOwn encB 4 wr w.heap.size (.slice (some ⟨g, 0, none⟩) n n) (leftB n o)
 or : GOwn encI 3 wr w.heap.size (.slice ao m cap) (o.map Int.ofNat)
 ne : ∀ g', (Value.slice ao m cap).ownBlock = some g' → g' ≠ g
 bel : Below w.heap.size w wr
 ser : serF (txs ys) ((txs ys).length - o.length) o = serB (txs ys)

set_option maxRecDepth 100000 in
set_option maxHeartbeats 8000000 in
theorem sserial (ys : List Ta) (a : Option Addr) (c n : Nat) (hny : n = ys.length) (hn : n ≤ 1048576) (hf : LFit (txs ys)) (w : World) (hl : TRows w a ys) :
  Calls Tryz.prog 36 #[.slice a n c] w fun e w' => ∃ v, e = .returned (.tuple #[v, .bool (serB (txs ys)).isSome]) ∧ GOwn encI 3 w' w.heap.size v ((serO (txs ys)).map Int.ofNat) ∧ Below w.heap.size w w' := by
 have HL : Hid (TRows w a ys) := hl
 have HF : Hid (LFit (txs ys)) := hf
 have HNY : Hid (n = ys.length) := hny
 have HNT : Hid (n = (txs ys).length) := by show _ = _; rw [txs_len]; exact hny
 clear hl hf hny
 have hmk := mkRow 99 4 1 1 _ Tryz.underlying99 Tryz.info4 n (by omega) (by omega)
 have HZ := hide (own_falses w n hn)
 go_enter Tryz.func36, Tryz.ntmps36
 go_wp2
 clear hmk
 have HO0 : Hid (GOwn encB 4 (w.alloc (.cells (madeCells #[Value.bool false] n) 4)) w.heap.size (.slice (some ⟨w.heap.size, 0, none⟩) n n) (fillT n 0)) := by
  rw [fillT_zero]; have h := HZ.out; rw [Nat.mul_one] at h; exact h
 have HB0 : Hid (Below w.heap.size w (w.alloc (.cells (madeCells #[Value.bool false] n) 4))) := (belowRefl w).alloc (Nat.le_refl _) _
 clear HZ
 obtain ⟨g, hg⟩ : ∃ g, g = w.heap.size := ⟨_, rfl⟩
 rw [← hg] at HO0
 go_loopw [5] (fun s wr => ∃ k : Nat, k ≤ n ∧ s = .int .i64 k ∧ Hid (GOwn encB 4 wr w.heap.size (.slice (some ⟨w.heap.size, 0, none⟩) n n) (fillT n k)) ∧ Hid (Below w.heap.size w wr)) (fun s _ => n - (intOf s).toNat)
 case atStart => exact ⟨0, Nat.zero_le _, rfl, by rw [hg] at HO0; exact HO0, HB0⟩
 case round =>
  clear HO0 HB0 hg g
  obtain ⟨k, hk, rfl, HOk, HB⟩ := hrel
  by_cases hlt : k < n
  ·have hlt' : (k : Int) < (n : Int) := by omega
   have h0 : (0 : Int) ≤ (k : Int) := by omega
   have hln : n = (fillT n k).length := (fillT_len n k).symm
   have q0 := bool_at HOk.out hln k (by rw [fillT_len]; exact hlt)
   have f0 : wr.frozen? ⟨w.heap.size, k, none⟩ = false := bool_fz HOk.out hln k
   obtain ⟨vq, hvq⟩ : ∃ vq, vq = (fillT n k)[k]'(by rw [fillT_len]; exact hlt) := ⟨_, rfl⟩
   rw [← hvq] at q0
   have O2 : Hid (GOwn encB 4 (wr.setCell ⟨w.heap.size, k, none⟩ (.bool true)) w.heap.size (.slice (some ⟨w.heap.size, 0, none⟩) n n) (fillT n (k + 1))) := by
    show GOwn _ _ _ _ _ _
    rw [← fillT_next]
    exact own_bool HOk.out hln k true
   have B2 : Hid (Below w.heap.size w (wr.setCell ⟨w.heap.size, k, none⟩ (.bool true))) := HB.out.trans (grown_base (grown_set _ _ _ _) (Nat.le_refl _) (World.ownsRow.lt HOk.out _ rfl).2)
   clear hvq hln HOk HB
   go_wp2
   go_roundw
   case rel => exact ⟨k + 1, by omega, by go_num, O2, B2⟩
   case measure => simp [intOf]; omega
  ·have hd : ¬ (k : Int) < (n : Int) := by omega
   have HO1 : Hid (GOwn encB 4 wr w.heap.size (.slice (some ⟨w.heap.size, 0, none⟩) n n) (leftB n [])) := by
    have h := HOk.out
    rw [show k = n by omega, fillT_all] at h
    exact h
   have HG : Hid (w.heap.size < wr.heap.size) := (World.ownsRow.lt HO1.out _ rfl).2
   clear HOk
   obtain ⟨g, hg⟩ : ∃ g, g = w.heap.size := ⟨_, rfl⟩
   have HO2 : Hid (GOwn encB 4 (wr.alloc (.cells #[] 3)) w.heap.size (.slice (some ⟨w.heap.size, 0, none⟩) n n) (leftB n [])) := HO1.out.alloc _
   have HR2 : Hid (GOwn encI 3 (wr.alloc (.cells #[] 3)) w.heap.size (.slice (some ⟨wr.heap.size, 0, none⟩) 0 0) []) := GOwn.empty wr w.heap.size HB.out.size
   have HB2 : Hid (Below w.heap.size w (wr.alloc (.cells #[] 3))) := HB.out.alloc HB.out.size _
   have HJ : Hid (SerS w (wr.alloc (.cells #[] 3)) ys n w.heap.size 0 0 (some ⟨wr.heap.size, 0, none⟩) []) := ⟨Ordd.nil _, rfl, HO2.out, HR2.out, (fun g' h => by have e : wr.heap.size = g' := Option.some.inj h; have := HG.out; omega), HB2.out, rfl⟩
   clear HO1 HO2 HR2 HB2 HB HG hg g hk hlt
   go_wp2
   generalize (wr.alloc (.cells #[] 3)) = w1 at *
   generalize wr.heap.size = g1 at *
   go_loopw [6] (fun v wr => ∃ (o : List Nat) (m cap : Nat) (ao : Option Addr), v = .slice ao m cap ∧ SerS w wr ys n w.heap.size m cap ao o) (fun v _ => n - lenOf v)
   case atStart => exact ⟨[], 0, 0, _, rfl, HJ.out⟩
   case round =>
    obtain ⟨o, m, cap, ao, rfl, hj⟩ := hrel
    obtain ⟨v2, hv2⟩ : ∃ z, z = wr := ⟨_, rfl⟩
    subst hv2
    have HOrd := hide hj.ord
    have HM := hide hj.hm
    have HCn := hide hj.cn
    have HOr := hide hj.or
    have HNE := hide hj.ne
    have HBj := hide hj.bel
    have HS := hide hj.ser
    clear hj HJ
    by_cases hm : m < n
    ·have hm' : (m : Int) < (n : Int) := by omega
     go_wp2
     go_loopw [7, 8] (fun av s wr => ∃ i : Nat, i ≤ n ∧ s = .int .i64 i ∧ AtS (txs ys) o i av ∧ Hid (Below v2.heap.size v2 wr)) (fun _ s _ => n - (intOf s).toNat)
     case atStart => exact ⟨0, Nat.zero_le _, rfl, Or.inl ⟨rfl, fun j hj => absurd hj (Nat.not_lt_zero _)⟩, belowRefl _⟩
     case round =>
      obtain ⟨i, hi, rfl, hat, HB3⟩ := hrel
      obtain ⟨v3, hv3⟩ : ∃ z, z = wr := ⟨_, rfl⟩
      subst hv3
      rcases hat with ⟨rfl, hfr⟩ | ⟨k0, rfl, hk0t, hnx⟩
      ·have HFr := hide hfr
       clear hfr
       by_cases hilt : i < n
       ·have hilt' : (i : Int) < (n : Int) := by omega
        have hid : decide (i < n) = true := decide_eq_true hilt
        have hi0 : (0 : Int) ≤ (i : Int) := by omega
        have hln : n = (leftB n o).length := (leftB_len n o).symm
        have q0 := bool_at (HCn.out.below HB3.out) hln i (by rw [leftB_len]; exact hilt)
        rw [leftB_at _ _ _ hilt, ← frK_zero (txs ys)] at q0
        obtain ⟨f0, hf0⟩ : ∃ f0, f0 = frK (txs ys) o i 0 := ⟨_, rfl⟩
        rw [← hf0] at q0
        have HF0 := hide hf0
        clear hln hf0
        go_wp2
        go_loopw [9, 10] (fun fv s wr => ∃ k : Nat, k ≤ n ∧ s = .int .i64 k ∧ fv = .bool (frK (txs ys) o i k) ∧ Hid (Below v2.heap.size v2 wr)) (fun _ s _ => n - (intOf s).toNat)
        case atStart => exact ⟨0, Nat.zero_le _, rfl, by rw [HF0.out], HB3⟩
        case round =>
         clear q0 HF0 HB3
         obtain ⟨k, hk, rfl, rfl, HB4⟩ := hrel
         obtain ⟨v4, hv4⟩ : ∃ z, z = wr := ⟨_, rfl⟩
         subst hv4
         obtain ⟨f, hf⟩ : ∃ f, f = frK (txs ys) o i k := ⟨_, rfl⟩
         rw [← hf]
         have HFK := hide hf
         clear hf
         by_cases hlt : k < n
         ·have hlt' : (k : Int) < (n : Int) := by omega
          have hkd0 : decide (k < n) = true := decide_eq_true hlt
          cases f
          ·have HFI : Hid (freeB (txs ys) o i = false) := frK_no _ _ _ k (by rw [← HNT.out]; exact hk) HFK.out.symm
           have HFr2 : Hid (∀ j, j < i + 1 → freeB (txs ys) o j = false) := fun j hj => by
            by_cases hjk : j < i
            ·exact HFr.out j hjk
            ·have : j = i := by omega
             subst this
             exact HFI.out
           clear HFI
           go_wp2
           go_roundw
           case rel => exact ⟨i + 1, by omega, by go_num, Or.inl ⟨rfl, HFr2.out⟩, HB4⟩
           case measure => simp [intOf]; omega
          ·have hkt : k < (txs ys).length := by rw [← HNT.out]; exact hlt
           have hit : i < (txs ys).length := by rw [← HNT.out]; exact hilt
           have hky : k < ys.length := by rw [← HNY.out]; exact hlt
           have hiy : i < ys.length := by rw [← HNY.out]; exact hilt
           have hk0 : (0 : Int) ≤ (k : Int) := by omega
           have hln : n = (leftB n o).length := (leftB_len n o).symm
           have C4 := HCn.out.below HB4.out
           have q0 := bool_at C4 hln k (by rw [leftB_len]; exact hlt)
           have hgl4 : w.heap.size < v4.heap.size := (World.ownsRow.lt C4 _ rfl).2
           rw [leftB_at _ _ _ hlt] at q0
           have HNX := hide (frK_next (txs ys) o i k)
           rw [← HFK.out] at HNX
           clear HFK C4 hln
           cases hck : o.contains k
           ·rw [hck] at q0 HNX
            clear hck
            by_cases hki : k = i
            ·subst hki
             have HN2 : Hid (frK (txs ys) o k (k + 1) = true) := by show _ = _; rw [HNX.out, bef_self]; rfl
             clear hgl4 hkt hit hky hiy
             go_wp2
             go_quiet (fail)
             go_wp2
             go_roundw
             case rel => exact ⟨k + 1, by omega, by go_num, by rw [HN2.out], below_drewN HB4.out _⟩
             case measure => simp [intOf]; omega
            ·have hki' : ((k : Int) == (i : Int)) = false := by rw [beq_eq_false_iff_ne]; omega
             have hkd : decide ((k : Int) = (i : Int)) = false := by rw [decide_eq_false_iff_not]; omega
             obtain ⟨b, of, rfl, hbl, hc, hrx⟩ := (HL.out.below (HBj.out.trans (HB4.out.mono HBj.out.size))).cls k hky
             obtain ⟨b9, o9, e9, hbl9, hc9, hry⟩ := (HL.out.below (HBj.out.trans (HB4.out.mono HBj.out.size))).cls i hiy
             cases e9
             have hfx : TFit ys[k].t := HF.out.2 _ (List.mem_map.2 ⟨_, List.getElem_mem hky, rfl⟩)
             have hfy : TFit ys[i].t := HF.out.2 _ (List.mem_map.2 ⟨_, List.getElem_mem hiy, rfl⟩)
             have hbe : bef (txs ys) k i = befB ys[k].t ys[i].t := by rw [bef_at _ _ _ hkt hit]; simp [txs]
             rw [hbe] at HNX
             clear hbe
             obtain ⟨x, hx⟩ : ∃ x, x = ys[k] := ⟨_, rfl⟩
             obtain ⟨y, hy⟩ : ∃ y, y = ys[i] := ⟨_, rfl⟩
             rw [← hx] at hc hrx hfx HNX
             rw [← hy] at hc9 hry hfy HNX
             clear hx hy hkt hit hky hiy hbl9
             have HSB := hide (fun (W : World) (h : Below v4.heap.size v4 W) => sbefore x.t y.t x.ra x.wa x.rc x.wc y.ra y.wa y.rc y.wc hfx.1 hfx.2.2.1 hfy.1 hfy.2.2.1 W (hrx.below h).r (hrx.below h).w (hry.below h).r (hry.below h).w)
             obtain ⟨bf, hbf⟩ : ∃ bf, bf = befB x.t y.t := ⟨_, rfl⟩
             rw [← hbf] at HSB HNX
             clear hbf hrx hry hfx hfy
             have r0 := hc.c0
             have r1 := hc.c1
             have r2 := hc.c2
             have r3 := hc.c3
             have r4 := hc.c4
             have r5 := hc.c5
             have r6 := hc.c6
             have r7 := hc.c7
             have s0 := hc9.c0
             have s1 := hc9.c1
             have s2 := hc9.c2
             have s3 := hc9.c3
             have s4 := hc9.c4
             have s5 := hc9.c5
             have s6 := hc9.c6
             have s7 := hc9.c7
             clear hc hc9
             have HN2 : Hid (frK (txs ys) o i (k + 1) = !bf) := by show _ = _; rw [HNX.out]; rfl
             clear HNX
             go_wp2
             refine wp_region_held_drew (S := fun w' => w'.cell? ⟨w.heap.size, k, none⟩ = some (.bool true) ∧ w'.cell? ⟨b, of + k * 8, none⟩ = some (.int .i64 x.t.id) ∧ w'.cell? ⟨b, of + k * 8 + 1, none⟩ = some (.int .i64 x.t.st) ∧ w'.cell? ⟨b, of + k * 8 + 2, none⟩ = some (.int .i64 x.t.snap) ∧ w'.cell? ⟨b, of + k * 8 + 3, none⟩ = some (.int .i64 x.t.cs) ∧ w'.cell? ⟨b, of + k * 8 + 4, none⟩ = some (.slice x.ra x.t.rs.length x.rc) ∧ w'.cell? ⟨b, of + k * 8 + 5, none⟩ = some (.slice x.wa x.t.ws.length x.wc) ∧ w'.cell? ⟨b, of + k * 8 + 6, none⟩ = some (.bool x.t.out) ∧ w'.cell? ⟨b, of + k * 8 + 7, none⟩ = some (.string x.t.nm) ∧ w'.cell? ⟨b, of + i * 8, none⟩ = some (.int .i64 y.t.id) ∧ w'.cell? ⟨b, of + i * 8 + 1, none⟩ = some (.int .i64 y.t.st) ∧ w'.cell? ⟨b, of + i * 8 + 2, none⟩ = some (.int .i64 y.t.snap) ∧ w'.cell? ⟨b, of + i * 8 + 3, none⟩ = some (.int .i64 y.t.cs) ∧ w'.cell? ⟨b, of + i * 8 + 4, none⟩ = some (.slice y.ra y.t.rs.length y.rc) ∧ w'.cell? ⟨b, of + i * 8 + 5, none⟩ = some (.slice y.wa y.t.ws.length y.wc) ∧ w'.cell? ⟨b, of + i * 8 + 6, none⟩ = some (.bool y.t.out) ∧ w'.cell? ⟨b, of + i * 8 + 7, none⟩ = some (.string y.t.nm)) (by kernel_rfl) ⟨q0, r0, r1, r2, r3, r4, r5, r6, r7, s0, s1, s2, s3, s4, s5, s6, s7⟩ (fun hHeld => ?_)
             (refine tk 0 ?_ rfl (Or.inl ⟨by rfl, ?_⟩) ?_; rotate_left; (focus (intro w h; (try dsimp only at h); go_simp; (try with_reducible rfl))); simp only [Act.put, tA, tB, tD, tE, tF])
             (refine tk 1 ?_ rfl (Or.inl ⟨by rfl, ?_⟩) ?_; rotate_left; (focus (intro w h; (try dsimp only at h); go_simp; (try with_reducible rfl))); simp only [Act.put, tA, tB, tC, tD, tE, tF])
             (refine tk 2 ?_ rfl (Or.inl ⟨by rfl, ?_⟩) ?_; rotate_left; (focus (intro w h; (try dsimp only at h); go_simp; (try with_reducible rfl))); simp only [Act.put, tA, tB, tC, tD, tE, tF])
             (refine tk 3 ?_ rfl (Or.inl ⟨by rfl, ?_⟩) ?_; rotate_left; (focus (intro w h; (try dsimp only at h); go_simp; (try with_reducible rfl))); simp only [Act.put, tA, tB, tC, tD, tE, tF])
             (refine tk 4 ?_ rfl (Or.inl ⟨by rfl, ?_⟩) ?_; rotate_left; (focus (intro w h; (try dsimp only at h); go_simp; (try with_reducible rfl))); simp only [Act.put, tA, tB, tC, tD, tE, tF])
             (refine tk 5 ?_ rfl (Or.inl ⟨by rfl, ?_⟩) ?_; rotate_left; (focus (intro w h; (try dsimp only at h); go_simp; (try with_reducible rfl))); simp only [Act.put, tA, tB, tC, tD, tE, tF])
             (refine tk 6 ?_ rfl (Or.inl ⟨by rfl, ?_⟩) ?_; rotate_left; (focus (intro w h; (try dsimp only at h); go_simp; (try with_reducible rfl))); simp only [Act.put, tA, tB, tC, tD, tE, tF])
             (refine tk 7 ?_ rfl (Or.inl ⟨by rfl, ?_⟩) ?_; rotate_left; (focus (intro w h; (try dsimp only at h); go_simp; (try with_reducible rfl))); simp only [Act.put, tA, tB, tC, tD, tE, tF])
             (refine tk 8 ?_ rfl (Or.inl ⟨by rfl, ?_⟩) ?_; rotate_left; (focus (intro w h; (try dsimp only at h); go_simp; (try with_reducible rfl))); simp only [Act.put, tA, tB, tC, tD, tE, tF])
             (refine tk 9 ?_ rfl (Or.inl ⟨by rfl, ?_⟩) ?_; rotate_left; (focus (intro w h; (try dsimp only at h); go_simp; (try with_reducible rfl))); simp only [Act.put, tA, tB, tC, tD, tE, tF])
             (refine tk 10 ?_ rfl (Or.inl ⟨by rfl, ?_⟩) ?_; rotate_left; (focus (intro w h; (try dsimp only at h); go_simp; (try with_reducible rfl))); simp only [Act.put, tA, tB, tC, tD, tE, tF])
             (refine tk 11 ?_ rfl (Or.inl ⟨by rfl, ?_⟩) ?_; rotate_left; (focus (intro w h; (try dsimp only at h); go_simp; (try with_reducible rfl))); simp only [Act.put, tA, tB, tC, tD, tE, tF])
             (refine tk 12 ?_ rfl (Or.inl ⟨by rfl, ?_⟩) ?_; rotate_left; (focus (intro w h; (try dsimp only at h); go_simp; (try with_reducible rfl))); simp only [Act.put, tA, tB, tC, tD, tE, tF])
             (refine tk 13 ?_ rfl (Or.inl ⟨by rfl, ?_⟩) ?_; rotate_left; (focus (intro w h; (try dsimp only at h); go_simp; (try with_reducible rfl))); simp only [Act.put, tA, tB, tC, tD, tE, tF])
             (refine tk 14 ?_ rfl (Or.inl ⟨by rfl, ?_⟩) ?_; rotate_left; (focus (intro w h; (try dsimp only at h); go_simp; (try with_reducible rfl))); simp only [Act.put, tA, tB, tC, tD, tE, tF])
             (refine tk 15 ?_ rfl (Or.inl ⟨by rfl, ?_⟩) ?_; rotate_left; (focus (intro w h; (try dsimp only at h); go_simp; (try with_reducible rfl))); simp only [Act.put, tA, tB, tC, tD, tE, tF])
             (refine tk 16 ?_ rfl (Or.inl ⟨by rfl, ?_⟩) ?_; rotate_left; (focus (intro w h; (try dsimp only at h); go_simp; (try with_reducible rfl))); simp only [Act.put, tA, tB, tC, tD, tE, tF])
             (refine tk 17 ?_ rfl (Or.inl ⟨by rfl, ?_⟩) ?_; rotate_left; (focus (intro w h; (try dsimp only at h); go_simp; (try with_reducible rfl))); simp only [Act.put, tA, tB, tC, tD, tE, tF])
             (refine tk 18 ?_ rfl (Or.inl ⟨by rfl, ?_⟩) ?_; rotate_left; (focus (intro w h; (try dsimp only at h); go_simp; (try with_reducible rfl))); simp only [Act.put, tA, tB, tC, tD, tE, tF])
             refine wpAnyH_ready (rs := [19]) (by kernel_rfl) (by simp) ?_
             refine AllReadyH.cons rfl (fun K hK => ?_) AllReadyH.nil
             go_simp
             go_wp2_with fail
             refine (HSB.out _ ((belowRefl v4).drew)).mono ?_
             rintro e w5 ⟨rfl, hb5⟩
             have HB5 : Hid (Below v2.heap.size v2 w5) := HB4.out.trans (((belowRefl v4).drew.trans hb5).mono HB4.out.size)
             go_wp2_with fail
             refine hK.out _ _ ⟨(hb5.cell (p := ⟨w.heap.size, k, none⟩) hgl4).trans q0, (hb5.cell (p := ⟨b, of + k * 8, none⟩) hbl).trans r0, (hb5.cell (p := ⟨b, of + k * 8 + 1, none⟩) hbl).trans r1, (hb5.cell (p := ⟨b, of + k * 8 + 2, none⟩) hbl).trans r2, (hb5.cell (p := ⟨b, of + k * 8 + 3, none⟩) hbl).trans r3, (hb5.cell (p := ⟨b, of + k * 8 + 4, none⟩) hbl).trans r4, (hb5.cell (p := ⟨b, of + k * 8 + 5, none⟩) hbl).trans r5, (hb5.cell (p := ⟨b, of + k * 8 + 6, none⟩) hbl).trans r6, (hb5.cell (p := ⟨b, of + k * 8 + 7, none⟩) hbl).trans r7, (hb5.cell (p := ⟨b, of + i * 8, none⟩) hbl).trans s0, (hb5.cell (p := ⟨b, of + i * 8 + 1, none⟩) hbl).trans s1, (hb5.cell (p := ⟨b, of + i * 8 + 2, none⟩) hbl).trans s2, (hb5.cell (p := ⟨b, of + i * 8 + 3, none⟩) hbl).trans s3, (hb5.cell (p := ⟨b, of + i * 8 + 4, none⟩) hbl).trans s4, (hb5.cell (p := ⟨b, of + i * 8 + 5, none⟩) hbl).trans s5, (hb5.cell (p := ⟨b, of + i * 8 + 6, none⟩) hbl).trans s6, (hb5.cell (p := ⟨b, of + i * 8 + 7, none⟩) hbl).trans s7⟩ (fun hHeld5 => ?_)
             clear hK K hb5
             (refine tk 20 ?_ rfl (Or.inl ⟨by rfl, ?_⟩) ?_; rotate_left; (focus (intro w h; (try dsimp only at h); go_simp; (try with_reducible rfl))); simp only [Act.put, tA, tB, tC, tD, tE, tF])
             (refine tk 21 ?_ rfl (Or.inl ⟨by rfl, ?_⟩) ?_; rotate_left; (focus (intro w h; (try dsimp only at h); go_simp; (try with_reducible rfl))); simp only [Act.put, tA, tB, tC, tD, tE, tF])
             (refine tk 22 ?_ rfl (Or.inl ⟨by rfl, ?_⟩) ?_; rotate_left; (focus (intro w h; (try dsimp only at h); go_simp; (try with_reducible rfl))); simp only [Act.put, tA, tB, tC, tD, tE, tF])
             refine wpAnyH_done (by kernel_rfl) ?_ _
             clear r0 r1 r2 r3 r4 r5 r6 r7 s0 s1 s2 s3 s4 s5 s6 s7 q0 hbl hgl4 HSB HB4
             go_wp2
             go_roundw
             case rel => exact ⟨k + 1, by omega, by go_num, by rw [HN2.out], HB5⟩
             case measure => simp [intOf]; omega
           ·rw [hck] at q0 HNX
            clear hck
            have HN2 : Hid (frK (txs ys) o i (k + 1) = true) := by show _ = _; rw [HNX.out]; rfl
            clear hgl4 hkt hit hky hiy
            go_wp2
            go_quiet (fail)
            go_wp2
            go_roundw
            case rel => exact ⟨k + 1, by omega, by go_num, by rw [HN2.out], below_drewN HB4.out _⟩
            case measure => simp [intOf]; omega
         ·have hlt' : ¬ (k : Int) < (n : Int) := by omega
          have hkd0 : decide (k < n) = false := decide_eq_false hlt
          cases f
          ·have HFI : Hid (freeB (txs ys) o i = false) := frK_no _ _ _ k (by rw [← HNT.out]; exact hk) HFK.out.symm
           have HFr2 : Hid (∀ j, j < i + 1 → freeB (txs ys) o j = false) := fun j hj => by
            by_cases hjk : j < i
            ·exact HFr.out j hjk
            ·have : j = i := by omega
             subst this
             exact HFI.out
           clear HFI
           go_wp2
           go_roundw
           case rel => exact ⟨i + 1, by omega, by go_num, Or.inl ⟨rfl, HFr2.out⟩, HB4⟩
           case measure => simp [intOf]; omega
          ·have hit : i < (txs ys).length := by rw [← HNT.out]; exact hilt
           have HNxi : Hid (nxt (txs ys) o = some i) := nxt_first hit (by rw [← frK_all, ← HNT.out, ← show k = n by omega]; exact HFK.out.symm) HFr.out
           have HIT := hide hit
           clear hit HFK
           go_wp2
           go_roundw
           case rel => exact ⟨i + 1, by omega, by go_num, Or.inr ⟨i, rfl, HIT.out, HNxi.out⟩, HB4⟩
           case measure => simp [intOf]; omega
       ·have hilt' : ¬ (i : Int) < (n : Int) := by omega
        have hid : decide (i < n) = false := decide_eq_false hilt
        have HNo : Hid (nxt (txs ys) o = none) := nxt_none (fun j hj => HFr.out j (by rw [← HNT.out] at hj; omega))
        have HE : Hid (serB (txs ys) = none) := by
         show _ = _
         rw [← HS.out]
         exact ser_stop (by rw [← HM.out, ← HNT.out]; exact hm) HNo.out
        have B3 : Hid (Below w.heap.size w v3) := HBj.out.trans (HB3.out.mono HBj.out.size)
        go_wp2
        go_ret2
        exact ⟨_, by rw [HE.out]; rfl, by unfold serO; rw [HE.out]; exact GOwn.empty v3 _ B3.out.size, B3.out.alloc B3.out.size _⟩
      ·by_cases hilt : i < n
       ·have hilt' : (i : Int) < (n : Int) := by omega
        have hid : decide (i < n) = true := decide_eq_true hilt
        have hkt : k0 < (txs ys).length := hk0t
        have hkn : k0 < n := by rw [← HNT.out] at hk0t; exact hk0t
        have h00 : (0 : Int) ≤ (k0 : Int) := by omega
        have hkn' : (k0 : Int) < (n : Int) := by omega
        have hneg : ¬ (k0 : Int) < 0 := by omega
        have C3 := HCn.out.below HB3.out
        have O3 := HOr.out.below HB3.out
        have hln : n = (leftB n o).length := (leftB_len n o).symm
        have hkl : k0 < (leftB n o).length := by rw [leftB_len]; exact hkn
        have q0 := bool_at C3 hln k0 hkl
        obtain ⟨vq, hvq⟩ : ∃ vq, vq = (leftB n o)[k0] := ⟨_, rfl⟩
        rw [← hvq] at q0
        clear hvq
        have f0 : v3.frozen? ⟨w.heap.size, k0, none⟩ = false := bool_fz C3 hln k0
        have HFree : Hid (freeB (txs ys) o k0 = true) := (nxt_some hnx).2
        have HOrd2 : Hid (Ordd (txs ys) (o ++ [k0])) := HOrd.out.snoc hkt HFree.out
        have HLt : Hid (o.length < (txs ys).length) := by
         have := HM.out
         rw [← HNT.out, ← this]
         exact hm
        have HS2 : Hid (serF (txs ys) ((txs ys).length - (o ++ [k0]).length) (o ++ [k0]) = serB (txs ys)) := by
         show _ = _
         rw [← ser_step HLt.out hnx]; exact HS.out
        have HM2 : Hid (m + 1 = (o ++ [k0]).length) := by show _ = _; rw [List.length_append, ← HM.out]; rfl
        have HOL : Hid ((o.map Int.ofNat).length = m) := by show _ = _; rw [List.length_map]; exact HM.out.symm
        have C4 : Hid (GOwn encB 4 (v3.setCell ⟨w.heap.size, k0, none⟩ (.bool false)) w.heap.size (.slice (some ⟨w.heap.size, 0, none⟩) n n) (leftB n (o ++ [k0]))) := by
         show GOwn _ _ _ _ _ _
         rw [← leftB_next]
         exact own_bool C3 hln k0 false
        have O4 : Hid (GOwn encI 3 (v3.setCell ⟨w.heap.size, k0, none⟩ (.bool false)) w.heap.size (.slice ao m cap) (o.map Int.ofNat)) := World.ownsRow.kept O3 (grown_set _ _ _ _) (Or.inr (fun e => HNE.out w.heap.size e rfl))
        have B3 : Hid (Below w.heap.size w v3) := HBj.out.trans (HB3.out.mono HBj.out.size)
        have B4 : Hid (Below w.heap.size w (v3.setCell ⟨w.heap.size, k0, none⟩ (.bool false))) := B3.out.trans (grown_base (grown_set _ _ _ _) (Nat.le_refl _) (World.ownsRow.lt C3 _ rfl).2)
        have HG4 : Hid (w.heap.size < (v3.setCell ⟨w.heap.size, k0, none⟩ (.bool false)).heap.size) := (World.ownsRow.lt C4.out _ rfl).2
        have hnx2 := hide hnx
        clear hnx hln hkl C3 O3 hkt hk0t HFree
        go_upto_region 22 with fail
        clear q0 f0
        generalize (v3.setCell ⟨w.heap.size, k0, none⟩ (.bool false)) = v5 at *
        have HBK : Hid ((v5.alloc (.cells #[.int .i64 (k0 : Int)] 3)).heap[v5.heap.size]? = some (.cells (encI.enc (k0 : Int)).toArray 3 (0, 0))) := heap_alloc_new v5 _
        have O5a := hide (O4.out.alloc (.cells #[.int .i64 (k0 : Int)] 3))
        have C5a := hide (C4.out.alloc (.cells #[.int .i64 (k0 : Int)] 3))
        have hb5s : w.heap.size ≤ v5.heap.size := B4.out.size
        have B5 : Hid (Below w.heap.size w (v5.alloc (.cells #[.int .i64 (k0 : Int)] 3))) := B4.out.alloc B4.out.size _
        go_wp2_with (at_builtin; refine wpAppK (E := encI) 70 3 8 _ Tryz.underlying70 Tryz.info3 rfl (by omega) rfl _ _ rfl (k0 : Int) oneI rfl O5a.out rfl HBK.out (by rw [HOL.out]; omega) (by simp; omega) ?_)
        intro g' cap' w6 ho6 hg6 hg7 hlt6
        rw [← HM.out] at ho6 ⊢
        have HNg : Hid (g' ≠ w.heap.size) := by
         rcases hg7 with h | h
         ·exact HNE.out g' h
         ·have := HG4.out; intro e; omega
        have C6 : Hid (GOwn encB 4 w6 w.heap.size (.slice (some ⟨w.heap.size, 0, none⟩) n n) (leftB n (o ++ [k0]))) := World.ownsRow.kept C5a.out hg6 (Or.inr (fun e => HNE.out w.heap.size e.symm rfl))
        have O6 : Hid (GOwn encI 3 w6 w.heap.size (.slice (some ⟨g', 0, none⟩) (m + 1) cap') ((o ++ [k0]).map Int.ofNat)) := by
         show GOwn _ _ _ _ _ _
         rw [List.map_append]
         exact ho6
        have B6 : Hid (Below w.heap.size w w6) := B5.out.trans ((Below.refl _ _).grown hg6 (by simp; omega) (fun j hj => (World.ownsRow.lt O5a.out j hj).1))
        clear ho6 hg6 hg7 hlt6 O5a C5a HBK B5 B4 O4 C4
        go_wp2
        go_roundw
        case rel => exact ⟨o ++ [k0], m + 1, cap', _, rfl, ⟨HOrd2.out, HM2.out, C6.out, O6.out, (fun j hj => by have e := Option.some.inj hj; rw [← e]; exact HNg.out), B6.out, HS2.out⟩⟩
        case measure => simp [lenOf]; omega
       ·have hilt' : ¬ (i : Int) < (n : Int) := by omega
        have hid : decide (i < n) = false := decide_eq_false hilt
        have hkt : k0 < (txs ys).length := hk0t
        have hkn : k0 < n := by rw [← HNT.out] at hk0t; exact hk0t
        have h00 : (0 : Int) ≤ (k0 : Int) := by omega
        have hkn' : (k0 : Int) < (n : Int) := by omega
        have hneg : ¬ (k0 : Int) < 0 := by omega
        have C3 := HCn.out.below HB3.out
        have O3 := HOr.out.below HB3.out
        have hln : n = (leftB n o).length := (leftB_len n o).symm
        have hkl : k0 < (leftB n o).length := by rw [leftB_len]; exact hkn
        have q0 := bool_at C3 hln k0 hkl
        obtain ⟨vq, hvq⟩ : ∃ vq, vq = (leftB n o)[k0] := ⟨_, rfl⟩
        rw [← hvq] at q0
        clear hvq
        have f0 : v3.frozen? ⟨w.heap.size, k0, none⟩ = false := bool_fz C3 hln k0
        have HFree : Hid (freeB (txs ys) o k0 = true) := (nxt_some hnx).2
        have HOrd2 : Hid (Ordd (txs ys) (o ++ [k0])) := HOrd.out.snoc hkt HFree.out
        have HLt : Hid (o.length < (txs ys).length) := by
         have := HM.out
         rw [← HNT.out, ← this]
         exact hm
        have HS2 : Hid (serF (txs ys) ((txs ys).length - (o ++ [k0]).length) (o ++ [k0]) = serB (txs ys)) := by
         show _ = _
         rw [← ser_step HLt.out hnx]; exact HS.out
        have HM2 : Hid (m + 1 = (o ++ [k0]).length) := by show _ = _; rw [List.length_append, ← HM.out]; rfl
        have HOL : Hid ((o.map Int.ofNat).length = m) := by show _ = _; rw [List.length_map]; exact HM.out.symm
        have C4 : Hid (GOwn encB 4 (v3.setCell ⟨w.heap.size, k0, none⟩ (.bool false)) w.heap.size (.slice (some ⟨w.heap.size, 0, none⟩) n n) (leftB n (o ++ [k0]))) := by
         show GOwn _ _ _ _ _ _
         rw [← leftB_next]
         exact own_bool C3 hln k0 false
        have O4 : Hid (GOwn encI 3 (v3.setCell ⟨w.heap.size, k0, none⟩ (.bool false)) w.heap.size (.slice ao m cap) (o.map Int.ofNat)) := World.ownsRow.kept O3 (grown_set _ _ _ _) (Or.inr (fun e => HNE.out w.heap.size e rfl))
        have B3 : Hid (Below w.heap.size w v3) := HBj.out.trans (HB3.out.mono HBj.out.size)
        have B4 : Hid (Below w.heap.size w (v3.setCell ⟨w.heap.size, k0, none⟩ (.bool false))) := B3.out.trans (grown_base (grown_set _ _ _ _) (Nat.le_refl _) (World.ownsRow.lt C3 _ rfl).2)
        have HG4 : Hid (w.heap.size < (v3.setCell ⟨w.heap.size, k0, none⟩ (.bool false)).heap.size) := (World.ownsRow.lt C4.out _ rfl).2
        have hnx2 := hide hnx
        clear hnx hln hkl C3 O3 hkt hk0t HFree
        go_upto_region 22 with fail
        clear q0 f0
        generalize (v3.setCell ⟨w.heap.size, k0, none⟩ (.bool false)) = v5 at *
        have HBK : Hid ((v5.alloc (.cells #[.int .i64 (k0 : Int)] 3)).heap[v5.heap.size]? = some (.cells (encI.enc (k0 : Int)).toArray 3 (0, 0))) := heap_alloc_new v5 _
        have O5a := hide (O4.out.alloc (.cells #[.int .i64 (k0 : Int)] 3))
        have C5a := hide (C4.out.alloc (.cells #[.int .i64 (k0 : Int)] 3))
        have hb5s : w.heap.size ≤ v5.heap.size := B4.out.size
        have B5 : Hid (Below w.heap.size w (v5.alloc (.cells #[.int .i64 (k0 : Int)] 3))) := B4.out.alloc B4.out.size _
        go_wp2_with (at_builtin; refine wpAppK (E := encI) 70 3 8 _ Tryz.underlying70 Tryz.info3 rfl (by omega) rfl _ _ rfl (k0 : Int) oneI rfl O5a.out rfl HBK.out (by rw [HOL.out]; omega) (by simp; omega) ?_)
        intro g' cap' w6 ho6 hg6 hg7 hlt6
        rw [← HM.out] at ho6 ⊢
        have HNg : Hid (g' ≠ w.heap.size) := by
         rcases hg7 with h | h
         ·exact HNE.out g' h
         ·have := HG4.out; intro e; omega
        have C6 : Hid (GOwn encB 4 w6 w.heap.size (.slice (some ⟨w.heap.size, 0, none⟩) n n) (leftB n (o ++ [k0]))) := World.ownsRow.kept C5a.out hg6 (Or.inr (fun e => HNE.out w.heap.size e.symm rfl))
        have O6 : Hid (GOwn encI 3 w6 w.heap.size (.slice (some ⟨g', 0, none⟩) (m + 1) cap') ((o ++ [k0]).map Int.ofNat)) := by
         show GOwn _ _ _ _ _ _
         rw [List.map_append]
         exact ho6
        have B6 : Hid (Below w.heap.size w w6) := B5.out.trans ((Below.refl _ _).grown hg6 (by simp; omega) (fun j hj => (World.ownsRow.lt O5a.out j hj).1))
        clear ho6 hg6 hg7 hlt6 O5a C5a HBK B5 B4 O4 C4
        go_wp2
        go_roundw
        case rel => exact ⟨o ++ [k0], m + 1, cap', _, rfl, ⟨HOrd2.out, HM2.out, C6.out, O6.out, (fun j hj => by have e := Option.some.inj hj; rw [← e]; exact HNg.out), B6.out, HS2.out⟩⟩
        case measure => simp [lenOf]; omega
    ·have hm' : ¬ (m : Int) < (n : Int) := by omega
     have HE : Hid (serB (txs ys) = some o) := by
      show _ = _
      rw [← HS.out]
      refine ser_end ?_
      have h1 := HOrd.out.len
      rw [← HNT.out] at h1 ⊢
      have h2 := HM.out
      omega
     go_wp2
     go_ret2
     exact ⟨_, by rw [HE.out]; rfl, by unfold serO; rw [HE.out]; exact HOr.out, HBj.out⟩

end Go.Proofs.YtbajpnbodhhmjaaGreat
