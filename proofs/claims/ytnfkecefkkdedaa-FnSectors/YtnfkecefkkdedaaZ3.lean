/- FnSectors: what is written is read, before and behind a flush; the other sectors stay. -/
import Derived.Test.YtnfkecefkkdedaaY2
namespace Go.Proofs.Ytnfkecefkkdedaa
open Go.RowKit
open DM
attribute [local go_sem ↓] Go.wp_at_zero Go.wp_at_succ

/-- a write that can be -/
def okW (n : Nat) (p : Wr) : Prop := 0 ≤ p.1 ∧ p.1 < (n : Int) ∧ p.2.size = 64

theorem back_flush (ss : List ByteArray) (ps : List Wr) (hp : ∀ p ∈ ps, okW ss.length p) (j : Nat) (hj : j < ss.length) : ∀ k, k ≤ ps.length → (back ps (j : Int) k).getD (ss.getD j ByteArray.empty) = (flush ss (ps.take k)).getD j ByteArray.empty
  | 0, _ => by simp [back, flush]
  | k + 1, hk => by
    have hk' : k < ps.length := hk
    have hok := hp ps[k] (List.getElem_mem hk')
    obtain ⟨m, hm⟩ := Int.eq_ofNat_of_zero_le hok.1
    have hmn : m < ss.length := by have := hok.2.1; omega
    rw [flush_succ ss ps k m hk' hm]
    by_cases e : ps[k].1 = (j : Int)
    · obtain rfl : m = j := by omega
      rw [back_hit hk' e]
      show ps[k].2 = _
      rw [List.getD_eq_getElem?_getD, List.getElem?_set_self (by rw [flush_len]; exact hmn)]
      rfl
    · have hne : m ≠ j := by omega
      rw [back_miss hk' e, back_flush ss ps hp j hj k (by omega), List.getD_eq_getElem?_getD, List.getD_eq_getElem?_getD, List.getElem?_set_ne hne]
theorem rdR_flush (ss : List ByteArray) (ps : List Wr) (hp : ∀ p ∈ ps, okW ss.length p) (j : Nat) (hj : j < ss.length) : rdR ss ps (j : Int) = (flush ss ps).getD j ByteArray.empty := by
  rw [show rdR ss ps (j : Int) = rd ss ps (j : Int) from if_pos (hasB_iff.2 ⟨by omega, by omega⟩)]
  have h := back_flush ss ps hp j hj ps.length (Nat.le_refl _)
  rw [List.take_length] at h
  exact h
theorem rdR_put (ss : List ByteArray) (cur : List Wr) (at' : Nat) (T : ByteArray) (i : Nat) (hi : i < ss.length) : rdR ss (cur ++ [((at' : Int), T)]) (i : Int) = if i = at' then T else rdR ss cur (i : Int) := by
  have hh : hasB (i : Int) ss.length = true := hasB_iff.2 ⟨by omega, by omega⟩
  have e : ∀ ps : List Wr, rdR ss ps (i : Int) = rd ss ps (i : Int) := fun ps => if_pos hh
  rw [e, e]
  unfold rd
  by_cases h : i = at'
  · subst h
    rw [back_same, if_pos rfl]
    rfl
  · rw [back_other _ _ _ _ (by omega), if_neg h]

set_option maxRecDepth 100000 in
set_option maxHeartbeats 8000000 in
theorem law3 (len cap : Nat) (a : Option Addr) (w : World) (hl0 : len ≤ 9223372036854775807) (hr : CodeRow w a len) :
    Calls Try.prog 3 #[.slice a len cap] w fun e w' => e = .returned (.bool true) ∧ Below w.heap.size w w' := by
  have HBG : Hid (∀ W : World, Calls Try.prog 10 #[.slice a len cap] W fun e w' => e = .returned (.bool (decide ((1048576 : Int) < (len : Int)))) ∧ w' = W) := fun W => big10 len cap a W
  have HR : Hid (CodeRow w a len) := hr
  clear hr
  by_cases hbig : len ≤ 1048576
  · rw [decide_eq_false (by omega)] at HBG
    go_enter Try.func3, Try.ntmps3
    go_wp2_with fail
    refine (HBG.out _).mono ?_
    rintro e w ⟨rfl, rfl⟩
    go_wp2_with fail
    refine (ddisk11 len cap a hbig _ HR.out).mono ?_
    rintro e w1 ⟨ss, cur, x1, x2, x3, x4, rfl, hd1, hI1, hb1⟩
    have HI1 : Hid (DkI ss cur 24) := hI1
    have HB1 : Hid (Below w.heap.size w (w1.alloc (.cells #[.slice x1 ss.length x2, .slice x3 cur.length x4] 27))) := hb1.alloc hb1.size _
    have HX1 : Hid (Bx (w1.alloc (.cells #[.slice x1 ss.length x2, .slice x3 cur.length x4] 27)) w1.heap.size (.slice x1 ss.length x2) (.slice x3 cur.length x4)) := Bx.new w1 _ _ 27
    have HD1 : Hid (DOwn (w1.alloc (.cells #[.slice x1 ss.length x2, .slice x3 cur.length x4] 27)) w.heap.size x1 x2 x3 x4 ss cur) := hd1.below ((belowRefl w1).alloc (Nat.le_refl _) _)
    clear hd1 hI1 hb1
    go_wp2_with fail
    refine (places12 len cap a hbig _ (HR.out.below HB1.out)).mono ?_
    rintro e w3 ⟨p0, p1, G, cp, rfl, hp, hG, hg0, hg1, hb3⟩
    have HB3 : Hid (Below w.heap.size w w3) := HB1.out.trans (hb3.mono HB1.out.size)
    have HX3 : Hid (Bx w3 w1.heap.size (.slice x1 ss.length x2) (.slice x3 cur.length x4)) := HX1.out.keep hb3 HX1.out.lt
    have HD3 : Hid (DOwn w3 w.heap.size x1 x2 x3 x4 ss cur) := HD1.out.below hb3
    clear hb3 HX1 HB1 HD1
    generalize w1.heap.size = X at *
    have hok : okB ss cur = true := HI1.out.1
    have HO1 := okB_iff.1 hok
    have h64 : ∀ s ∈ ss, s.size = 64 := HO1.2.2.2.1
    have hfs : 0 < ss.length ∧ ss.length ≤ 6 := ⟨HO1.1, HI1.out.2.1⟩
    have hc24 : cur.length ≤ 24 := HI1.out.2.2
    obtain ⟨at', hat⟩ : ∃ at', at' = p0 % ss.length := ⟨_, rfl⟩
    have hal : at' < ss.length := by rw [hat]; exact Nat.mod_lt _ hfs.1
    have E1 : ((p0 : Int) % (ss.length : Int)) = (at' : Int) := by rw [hat]; simp
    obtain ⟨old, hold⟩ : ∃ old, old = ss[at'] := ⟨_, rfl⟩
    have hos : old.size = 64 := by rw [hold]; exact h64 _ (List.getElem_mem hal)
    obtain ⟨bx, ox, rfl, hbx, hcx⟩ := HD3.out.s.srow (by omega)
    have hco : w3.cell? ⟨bx, ox + at', none⟩ = some (.string old) := by rw [hcx at' hal, hold]
    have HCO : Hid (w3.cell? ⟨bx, ox + at', none⟩ = some (.string old)) := hco
    have HOLD : Hid (ss[at'] = old) := hold.symm
    have H64 : Hid (∀ s ∈ ss, s.size = 64) := h64
    have HOK1 : Hid (OkD ss cur) := HO1
    have HOKB : Hid (okB ss cur = true) := hok
    clear hcx hold h64 HO1 hok
    have g0 := HX3.out.c0
    have g1 := HX3.out.c1
    have hf0 : ¬ ss.length = 0 := by omega
    have hf1 : ¬ (ss.length : Int) = 0 := by omega
    have h12 : (0 : Int) < 12 := by omega
    have ha0 : (0 : Int) ≤ (at' : Int) := by omega
    have ha1 : (at' : Int) < (ss.length : Int) := by omega
    go_wp2
    go_quiet (fail)
    rw [E1]
    clear hat E1
    go_wp2
    have hT1 : (old.extract 0 7 ++ ⟨#[115, 101, 118, 101, 110, 98, 121, 116, 101, 115, 32, 111, 102, 32, 97, 110, 111, 116, 104, 101, 114, 32, 116, 101, 120, 116, 44, 32, 115, 101, 118, 101, 110, 98, 121, 116, 101, 115, 32, 111, 102, 32, 97, 110, 111, 116, 104, 101, 114, 32, 116, 101, 120, 116, 44, 32, 97, 110, 100, 32, 111, 102, 32, 105, 116]⟩).size = 72 := by rw [ByteArray.size_append, ByteArray.size_extract, hos]; rfl
    generalize old.extract 0 7 ++ ⟨#[115, 101, 118, 101, 110, 98, 121, 116, 101, 115, 32, 111, 102, 32, 97, 110, 111, 116, 104, 101, 114, 32, 116, 101, 120, 116, 44, 32, 115, 101, 118, 101, 110, 98, 121, 116, 101, 115, 32, 111, 102, 32, 97, 110, 111, 116, 104, 101, 114, 32, 116, 101, 120, 116, 44, 32, 97, 110, 100, 32, 111, 102, 32, 105, 116]⟩ = T1 at *
    have bq : Below w3.heap.size w3 (w3.drewN nq) := below_drewN (belowRefl w3) nq
    have HB4 : Hid (Below w.heap.size w (w3.drewN nq)) := HB3.out.trans (bq.mono HB3.out.size)
    have HX4 : Hid (Bx (w3.drewN nq) X (.slice (some ⟨bx, ox, none⟩) ss.length x2) (.slice x3 cur.length x4)) := HX3.out.keep bq HX3.out.lt
    have HD4 : Hid (DOwn (w3.drewN nq) w.heap.size (some ⟨bx, ox, none⟩) x2 x3 x4 ss cur) := HD3.out.below bq
    have HCO4 : Hid ((w3.drewN nq).cell? ⟨bx, ox + at', none⟩ = some (.string old)) := hco
    have HG4 : Hid ((w3.drewN nq).cell? ⟨G, 1, none⟩ = some (.int .i64 (p1 : Int))) := hg1
    have hbx4 : bx < (w3.drewN nq).heap.size := hbx
    have hG4 : G < (w3.drewN nq).heap.size := hG
    clear bq HB3 HX3 HD3 HCO hco hg0 hg1 g0 g1 hbx hG
    generalize w3.drewN nq = W4 at *
    refine wp_region_held_drew (S := fun w' => w'.cell? ⟨G, 1, none⟩ = some (.int .i64 (p1 : Int))) (by kernel_rfl) HG4.out (fun hHeld => ?_)
    (refine wpAnyH_take (i := 0) (v := ?_) rfl (by kernel_rfl) (by kernel_rfl) (by kernel_rfl) (fun _ _ _ h => h) (Or.inl ⟨by rfl, ?_⟩) (by assumption) ?_; rotate_left; (focus (intro w hSw; (try dsimp only at hSw); go_simp; (try with_reducible rfl); done)); simp only [Act.put, List.getElem_toArray, List.getElem_cons_zero, List.setIfInBounds_toArray, List.set_cons_zero, List.set_cons_succ])
    (refine wpAnyH_take (i := 1) (v := ?_) rfl (by kernel_rfl) (by kernel_rfl) (by kernel_rfl) (fun _ _ _ h => h) (Or.inl ⟨by rfl, ?_⟩) (by assumption) ?_; rotate_left; (focus (intro w hSw; (try dsimp only at hSw); go_simp; (try with_reducible rfl); done)); simp only [Act.put, List.getElem_toArray, List.getElem_cons_zero, List.getElem_cons_succ, List.setIfInBounds_toArray, List.set_cons_zero, List.set_cons_succ])
    (refine wpAnyH_take (i := 2) (v := ?_) rfl (by kernel_rfl) (by kernel_rfl) (by kernel_rfl) (fun _ _ _ h => h) (Or.inl ⟨by rfl, ?_⟩) (by assumption) ?_; rotate_left; (focus (intro w hSw; (try dsimp only at hSw); go_simp; (try with_reducible rfl); done)); simp only [Act.put, List.getElem_toArray, List.getElem_cons_zero, List.getElem_cons_succ, List.setIfInBounds_toArray, List.set_cons_zero, List.set_cons_succ])
    (refine wpAnyH_take (i := 3) (v := ?_) rfl (by kernel_rfl) (by kernel_rfl) (by kernel_rfl) (fun _ _ _ h => h) (Or.inl ⟨by rfl, ?_⟩) (by assumption) ?_; rotate_left; (focus (intro w hSw; (try dsimp only at hSw); go_simp; (try with_reducible rfl); done)); simp only [Act.put, List.getElem_toArray, List.getElem_cons_zero, List.getElem_cons_succ, List.setIfInBounds_toArray, List.set_cons_zero, List.set_cons_succ])
    (refine wpAnyH_take (i := 4) (v := ?_) rfl (by kernel_rfl) (by kernel_rfl) (by kernel_rfl) (fun _ _ _ h => h) (Or.inl ⟨by rfl, ?_⟩) (by assumption) ?_; rotate_left; (focus (intro w hSw; (try dsimp only at hSw); go_simp; (try with_reducible rfl); done)); simp only [Act.put, List.getElem_toArray, List.getElem_cons_zero, List.getElem_cons_succ, List.setIfInBounds_toArray, List.set_cons_zero, List.set_cons_succ])
    (refine wpAnyH_take (i := 5) (v := ?_) rfl (by kernel_rfl) (by kernel_rfl) (by kernel_rfl) (fun _ _ _ h => h) (Or.inl ⟨by rfl, ?_⟩) (by assumption) ?_; rotate_left; (focus (intro w hSw; (try dsimp only at hSw); go_simp; (try with_reducible rfl); done)); simp only [Act.put, List.getElem_toArray, List.getElem_cons_zero, List.getElem_cons_succ, List.setIfInBounds_toArray, List.set_cons_zero, List.set_cons_succ])
    obtain ⟨bt, hbt⟩ : ∃ bt : UInt8, IntKind.u8.wrap (p1 : Int) = (bt.toNat : Int) := ⟨UInt8.ofNat p1, by rw [IntKind.wrap_u8]; simp⟩
    rw [hbt]
    have ba5 : Below W4.heap.size W4 (W4.alloc (.cells #[.int .u8 (bt.toNat : Int)] 5)).drew := ((belowRefl W4).alloc (Nat.le_refl _) _).drew
    have HG5 : Hid ((W4.alloc (.cells #[.int .u8 (bt.toNat : Int)] 5)).drew.cell? ⟨G, 1, none⟩ = some (.int .i64 (p1 : Int))) := (ba5.cell (p := ⟨G, 1, none⟩) hG4).trans HG4.out
    refine wpAnyH_ready (rs := [6]) (by kernel_rfl) (by simp) ?_
    refine AllReadyH.cons rfl (fun K hK => ?_) AllReadyH.nil
    go_simp
    refine hK.out _ _ HG5.out (fun hHeld5 => ?_)
    clear hK K
    have HO8 : Own (W4.alloc (.cells #[.int .u8 (bt.toNat : Int)] 5)).drew 0 (.slice (some ⟨W4.heap.size, 0, none⟩) 1 1) [bt] := ownsBelow (World.ownsRow_lit (base := 0) (e := 5) (size := 1) W4 #[.int .u8 (bt.toNat : Int)] 1 (Nat.zero_le _) (by unfold maxLen; omega) rfl) (belowRefl _).drew
    have hst := HO8.str
    refine wpAnyH_ready (rs := [7]) (by kernel_rfl) (by simp) ?_
    refine AllReadyH.cons rfl (fun K hK => ?_) AllReadyH.nil
    go_simp
    refine hK.out _ _ HG5.out (fun hHeld6 => ?_)
    clear hK K
    (refine wpAnyH_take (i := 8) (v := ?_) rfl (by kernel_rfl) (by kernel_rfl) (by kernel_rfl) (fun _ _ _ h => h) (Or.inl ⟨by rfl, ?_⟩) (by assumption) ?_; rotate_left; (focus (intro w hSw; (try dsimp only at hSw); go_simp; (try with_reducible rfl); done)); simp only [Act.put, List.getElem_toArray, List.getElem_cons_zero, List.getElem_cons_succ, List.setIfInBounds_toArray, List.set_cons_zero, List.set_cons_succ])
    (refine wpAnyH_take (i := 9) (v := ?_) rfl (by kernel_rfl) (by kernel_rfl) (by kernel_rfl) (fun _ _ _ h => h) (Or.inl ⟨by rfl, ?_⟩) (by assumption) ?_; rotate_left; (focus (intro w hSw; (try dsimp only at hSw); go_simp; (try with_reducible rfl); done)); simp only [Act.put, List.getElem_toArray, List.getElem_cons_zero, List.getElem_cons_succ, List.setIfInBounds_toArray, List.set_cons_zero, List.set_cons_succ])
    refine wpAnyH_done (by kernel_rfl) ?_ _
    clear hst HO8
    have hTs : (T1.extract 0 63 ++ ⟨#[bt]⟩ : ByteArray).size = 64 := by rw [ByteArray.size_append, ByteArray.size_extract, hT1]; rfl
    generalize (T1.extract 0 63 ++ ⟨#[bt]⟩ : ByteArray) = T at *
    have HB5 : Hid (Below w.heap.size w (W4.alloc (.cells #[.int .u8 (bt.toNat : Int)] 5)).drew) := HB4.out.trans (ba5.mono HB4.out.size)
    have HX5 : Hid (Bx (W4.alloc (.cells #[.int .u8 (bt.toNat : Int)] 5)).drew X (.slice (some ⟨bx, ox, none⟩) ss.length x2) (.slice x3 cur.length x4)) := HX4.out.keep ba5 HX4.out.lt
    have HD5 : Hid (DOwn (W4.alloc (.cells #[.int .u8 (bt.toNat : Int)] 5)).drew w.heap.size (some ⟨bx, ox, none⟩) x2 x3 x4 ss cur) := HD4.out.below ba5
    have HCO5 : Hid ((W4.alloc (.cells #[.int .u8 (bt.toNat : Int)] 5)).drew.cell? ⟨bx, ox + at', none⟩ = some (.string old)) := (ba5.cell (p := ⟨bx, ox + at', none⟩) hbx4).trans HCO4.out
    have hbx5 : bx < (W4.alloc (.cells #[.int .u8 (bt.toNat : Int)] 5)).drew.heap.size := Nat.lt_of_lt_of_le hbx4 ba5.size
    clear hHeld hHeld5 hHeld6 ba5 HG5 HB4 HX4 HD4 HCO4 HG4 hbx4 hG4
    generalize (W4.alloc (.cells #[.int .u8 (bt.toNat : Int)] 5)).drew = W5 at *
    obtain ⟨Q, hQ⟩ : ∃ Q : List Wr, Q = cur ++ [((at' : Int), T)] := ⟨_, rfl⟩
    have hokQ : okB ss Q = true := by
      rw [hQ]
      exact (okB_snoc ss cur _ _).2 ⟨HOKB.out, ⟨by omega, by omega⟩, hTs, by omega⟩
    have hQl : Q.length ≤ 25 := by rw [hQ]; simp; omega
    obtain ⟨F, hF⟩ : ∃ F, F = flS ss Q := ⟨_, rfl⟩
    obtain ⟨P2, hP2⟩ : ∃ P2, P2 = flP ss Q := ⟨_, rfl⟩
    have HOKF : Hid (okB F P2 = true) := by show _ = _; rw [hF, hP2]; exact okB_flush hokQ
    have hP0 : P2 = [] := by rw [hP2, flP_yes hokQ]
    have hFl : F.length = ss.length := by rw [hF, flS_length hokQ]
    have HPF : Hid (∀ i : Nat, i < ss.length → rdR ss Q (i : Int) = (if i = at' then T else rdR ss cur (i : Int)) ∧ rdR F P2 (i : Int) = rdR ss Q (i : Int) ∧ F.getD i ByteArray.empty = rdR ss Q (i : Int)) := fun i hi => by
      have h3 : F.getD i ByteArray.empty = rdR ss Q (i : Int) := by
        rw [rdR_flush ss Q (fun p hp => (okB_iff.1 hokQ).2.2.2.2 p hp) i hi, hF, flS_yes hokQ]
      refine ⟨?_, ?_, h3⟩
      · rw [hQ]
        exact rdR_put ss cur at' T i hi
      · rw [hP0, rdR_nil F i (by omega), h3]
    have hls : ∀ s ∈ ss, s.size ≤ 1000000000 := fun s hs => by have := H64.out s hs; omega
    have hlF : ∀ s ∈ F, s.size ≤ 1000000000 := fun s hs => by have := (okB_iff.1 HOKF.out).2.2.2.1 s hs; omega
    have hlc : ∀ p ∈ cur, p.2.size ≤ 1000000000 := fun p hp => by have := (HOK1.out.2.2.2.2 p hp).2.2; omega
    have hlQ : ∀ p ∈ Q, p.2.size ≤ 1000000000 := fun p hp => by have := ((okB_iff.1 hokQ).2.2.2.2 p hp).2.2; omega
    have HWS : Hid (∀ W : World, DOwn W w.heap.size (some ⟨bx, ox, none⟩) x2 x3 x4 ss cur → Calls Try.prog 13 #[.agg #[.slice (some ⟨bx, ox, none⟩) ss.length x2, .slice x3 cur.length x4], .int .i64 (at' : Int), .string T] W fun e w' => ∃ y1 y2 y3 y4, e = .returned (.tuple #[.agg #[.slice y1 ss.length y2, .slice y3 Q.length y4], .bool true]) ∧ DOwn w' W.heap.size y1 y2 y3 y4 ss Q ∧ Below W.heap.size W w') := fun W hW => by
      have h := iws18 ss cur (at' : Int) T (some ⟨bx, ox, none⟩) x3 x2 x4 (by omega) (by omega) hls hlc (by omega) W hW.s.srow hW.p.prow
      rw [wsP_yes (by rw [← hQ]; exact hokQ), ← hQ, hokQ] at h
      exact h
    have HFL : Hid (∀ (W : World) (B y2 y4 : Nat) (y1 y3 : Option Addr), DOwn W B y1 y2 y3 y4 ss Q → Calls Try.prog 14 #[.agg #[.slice y1 ss.length y2, .slice y3 Q.length y4]] W fun e w' => ∃ z1 z2 z3 z4, e = .returned (.agg #[.slice z1 F.length z2, .slice z3 P2.length z4]) ∧ DOwn w' W.heap.size z1 z2 z3 z4 F P2 ∧ Below W.heap.size W w') := fun W B y2 y4 y1 y3 hW => by
      have h := iflush19 ss Q y1 y3 y2 y4 (by omega) (by omega) hls hlQ W hW.s.srow hW.p.prow
      rw [← hF, ← hP2] at h
      exact h
    have hF6 : F.length ≤ 6 := by omega
    have hFa : at' < F.length := by omega
    have HFL2 : Hid (F.length = ss.length) := hFl
    have HP0 : Hid (P2 = []) := hP0
    have hP25 : P2.length ≤ 25 := by rw [hP0]; simp
    have HPD1 : Hid (decide ((P2.length : Int) = 0) = true) := by show _ = _; rw [hP0]; rfl
    have HPD5 : Hid (((P2.length : Int) == 0) = true) := by show _ = _; rw [hP0]; rfl
    have HPD6 : Hid ((P2.length == 0) = true) := by show _ = _; rw [hP0]; rfl
    have HPD7 : Hid ((P2 == []) = true) := by show _ = _; rw [hP0]; rfl
    have HPD2 : Hid (decide (P2.length = 0) = true) := by show _ = _; rw [hP0]; rfl
    have HPD3 : Hid (decide (P2 = []) = true) := by show _ = _; rw [hP0]; rfl
    have HPD4 : Hid (P2.isEmpty = true) := by show _ = _; rw [hP0]; rfl
    have HLS : Hid (∀ s ∈ ss, s.size ≤ 1000000000) := hls
    have HLF : Hid (∀ s ∈ F, s.size ≤ 1000000000) := hlF
    have HLC : Hid (∀ p ∈ cur, p.2.size ≤ 1000000000) := hlc
    have HLQ : Hid (∀ p ∈ Q, p.2.size ≤ 1000000000) := hlQ
    have HLP : Hid (∀ p ∈ P2, p.2.size ≤ 1000000000) := fun p hp => by rw [hP0] at hp; cases hp
    clear hP0 hFl hF hP2 hQ hokQ hls hlF hlc hlQ
    have g0 := HX5.out.c0
    have g1 := HX5.out.c1
    go_wp2_with fail
    refine (HWS.out _ HD5.out).mono ?_
    rintro e w6 ⟨y1, y2, y3, y4, rfl, hd6, hb6⟩
    have b6a : Below W5.heap.size W5 (w6.alloc (.cells #[.slice y1 ss.length y2, .slice y3 Q.length y4] 27)) := hb6.alloc hb6.size _
    have HB6 : Hid (Below w.heap.size w (w6.alloc (.cells #[.slice y1 ss.length y2, .slice y3 Q.length y4] 27))) := HB5.out.trans (b6a.mono HB5.out.size)
    have HX6 : Hid (Bx (w6.alloc (.cells #[.slice y1 ss.length y2, .slice y3 Q.length y4] 27)) X (.slice (some ⟨bx, ox, none⟩) ss.length x2) (.slice x3 cur.length x4)) := HX5.out.keep b6a HX5.out.lt
    have HD6 : Hid (DOwn (w6.alloc (.cells #[.slice y1 ss.length y2, .slice y3 Q.length y4] 27)) w.heap.size (some ⟨bx, ox, none⟩) x2 x3 x4 ss cur) := HD5.out.below b6a
    have HCO6 : Hid ((w6.alloc (.cells #[.slice y1 ss.length y2, .slice y3 Q.length y4] 27)).cell? ⟨bx, ox + at', none⟩ = some (.string old)) := (b6a.cell (p := ⟨bx, ox + at', none⟩) hbx5).trans HCO5.out
    have hbx6 : bx < (w6.alloc (.cells #[.slice y1 ss.length y2, .slice y3 Q.length y4] 27)).heap.size := Nat.lt_of_lt_of_le hbx5 b6a.size
    have HY6 : Hid (Bx (w6.alloc (.cells #[.slice y1 ss.length y2, .slice y3 Q.length y4] 27)) w6.heap.size (.slice y1 ss.length y2) (.slice y3 Q.length y4)) := Bx.new w6 _ _ 27
    have HE6 : Hid (DOwn (w6.alloc (.cells #[.slice y1 ss.length y2, .slice y3 Q.length y4] 27)) w.heap.size y1 y2 y3 y4 ss Q) := (hd6.mono HB5.out.size).below ((belowRefl w6).alloc (Nat.le_refl _) _)
    clear hd6 hb6 b6a HB5 HX5 HD5 HCO5 hbx5 g0 g1
    have g0 := HY6.out.c0
    have g1 := HY6.out.c1
    go_wp2_with fail
    generalize w6.alloc (.cells #[.slice y1 ss.length y2, .slice y3 Q.length y4] 27) = W6 at *
    refine (HFL.out _ _ _ _ _ _ HE6.out).mono ?_
    rintro e w7 ⟨z1, z2, z3, z4, rfl, hd7, hb7⟩
    have b7a : Below W6.heap.size W6 (w7.alloc (.cells #[.slice z1 F.length z2, .slice z3 P2.length z4] 27)) := hb7.alloc hb7.size _
    have HB7 : Hid (Below w.heap.size w (w7.alloc (.cells #[.slice z1 F.length z2, .slice z3 P2.length z4] 27))) := HB6.out.trans (b7a.mono HB6.out.size)
    have HX7 : Hid (Bx (w7.alloc (.cells #[.slice z1 F.length z2, .slice z3 P2.length z4] 27)) X (.slice (some ⟨bx, ox, none⟩) ss.length x2) (.slice x3 cur.length x4)) := HX6.out.keep b7a HX6.out.lt
    have HD7 : Hid (DOwn (w7.alloc (.cells #[.slice z1 F.length z2, .slice z3 P2.length z4] 27)) w.heap.size (some ⟨bx, ox, none⟩) x2 x3 x4 ss cur) := HD6.out.below b7a
    have HCO7 : Hid ((w7.alloc (.cells #[.slice z1 F.length z2, .slice z3 P2.length z4] 27)).cell? ⟨bx, ox + at', none⟩ = some (.string old)) := (b7a.cell (p := ⟨bx, ox + at', none⟩) hbx6).trans HCO6.out
    have hbx7 : bx < (w7.alloc (.cells #[.slice z1 F.length z2, .slice z3 P2.length z4] 27)).heap.size := Nat.lt_of_lt_of_le hbx6 b7a.size
    have HY7 : Hid (Bx (w7.alloc (.cells #[.slice z1 F.length z2, .slice z3 P2.length z4] 27)) w6.heap.size (.slice y1 ss.length y2) (.slice y3 Q.length y4)) := HY6.out.keep b7a HY6.out.lt
    have HE7 : Hid (DOwn (w7.alloc (.cells #[.slice z1 F.length z2, .slice z3 P2.length z4] 27)) w.heap.size y1 y2 y3 y4 ss Q) := HE6.out.below b7a
    have HZ7 : Hid (Bx (w7.alloc (.cells #[.slice z1 F.length z2, .slice z3 P2.length z4] 27)) w7.heap.size (.slice z1 F.length z2) (.slice z3 P2.length z4)) := Bx.new w7 _ _ 27
    have HG7 : Hid (DOwn (w7.alloc (.cells #[.slice z1 F.length z2, .slice z3 P2.length z4] 27)) w.heap.size z1 z2 z3 z4 F P2) := (hd7.mono HB6.out.size).below ((belowRefl w7).alloc (Nat.le_refl _) _)
    clear hd7 hb7 b7a HB6 HX6 HD6 HCO6 hbx6 HY6 HE6 g0 g1
    go_wp2
    generalize w7.alloc (.cells #[.slice z1 F.length z2, .slice z3 P2.length z4] 27) = W7 at *
    generalize w6.heap.size = Y at *
    generalize w7.heap.size = Z at *
    obtain ⟨bY, oY, rfl, hbY, hcY⟩ := HE7.out.s.srow (by omega)
    have HCY : Hid (W7.cell? ⟨bY, oY + at', none⟩ = some (.string old)) := by show _ = _; rw [hcY at' hal, HOLD.out]
    obtain ⟨bZ, oZ, rfl, hbZ, hcZ⟩ := HG7.out.s.srow (by omega)
    have HCZ : Hid (∀ i, i < ss.length → W7.cell? ⟨bZ, oZ + i, none⟩ = some (.string (rdR ss Q (i : Int)))) := fun i hi => by
      have hi2 : i < F.length := by rw [HFL2.out]; exact hi
      rw [hcZ i hi2, ← (HPF.out i hi).2.2, getD_at hi2]
    clear hcY hcZ HWS HFL
    have HRA : Hid (∀ (i : Nat) (W : World), i < ss.length → Below W7.heap.size W7 W → Calls Try.prog 15 #[.agg #[.slice (some ⟨bx, ox, none⟩) ss.length x2, .slice x3 cur.length x4], .int .i64 (i : Int)] W fun e w' => e = .returned (.tuple #[.string (rdR ss cur (i : Int)), .bool true]) ∧ Below W.heap.size W w') := fun i W hi hW => by
      have h := srd20_any ss cur (i : Int) (some ⟨bx, ox, none⟩) x3 x2 x4 (by omega) (by omega) W (HD7.out.s.srow.below hW) (HD7.out.p.prow.below hW)
      rw [hasB_iff.2 ⟨by omega, by omega⟩] at h
      exact h
    have HRB : Hid (∀ (i : Nat) (W : World), i < ss.length → Below W7.heap.size W7 W → Calls Try.prog 16 #[.agg #[.slice (some ⟨bY, oY, none⟩) ss.length y2, .slice y3 Q.length y4], .int .i64 (i : Int)] W fun e w' => e = .returned (.tuple #[.string (rdR ss Q (i : Int)), .bool true]) ∧ Below W.heap.size W w') := fun i W hi hW => by
      have h := ird21_any ss Q (i : Int) (some ⟨bY, oY, none⟩) y3 y2 y4 (by omega) (by omega) HLS.out HLQ.out W (HE7.out.s.srow.below hW) (HE7.out.p.prow.below hW)
      rw [hasB_iff.2 ⟨by omega, by omega⟩] at h
      exact h
    have HRC : Hid (∀ (i : Nat) (W : World), i < ss.length → Below W7.heap.size W7 W → Calls Try.prog 16 #[.agg #[.slice (some ⟨bZ, oZ, none⟩) F.length z2, .slice z3 P2.length z4], .int .i64 (i : Int)] W fun e w' => e = .returned (.tuple #[.string (rdR ss Q (i : Int)), .bool true]) ∧ Below W.heap.size W w') := fun i W hi hW => by
      have h := ird21_any F P2 (i : Int) (some ⟨bZ, oZ, none⟩) z3 z2 z4 (by omega) (by omega) HLF.out HLP.out W (HG7.out.s.srow.below hW) (HG7.out.p.prow.below hW)
      rw [hasB_iff.2 ⟨by omega, by have := HFL2.out; omega⟩, (HPF.out i hi).2.1] at h
      exact h
    have HOKC : Hid (∀ W : World, Below W7.heap.size W7 W → Calls Try.prog 17 #[.agg #[.slice (some ⟨bZ, oZ, none⟩) F.length z2, .slice z3 P2.length z4]] W fun e w' => e = .returned (.bool true) ∧ Below W.heap.size W w') := fun W hW => by
      have h := iok22 F P2 (some ⟨bZ, oZ, none⟩) z3 z2 z4 (by omega) (by omega) W (HG7.out.s.srow.below hW) (HG7.out.p.prow.below hW)
      rw [HOKF.out] at h
      exact h
    have hX7 := HX7.out.lt
    have hY7 := HY7.out.lt
    have hZ7 := HZ7.out.lt
    have fa0 : (0 : Int) ≤ (at' : Int) := by omega
    have fa1 : (at' : Int) < (ss.length : Int) := by omega
    go_loopw [10] (fun t wr => ∃ i : Nat, i ≤ ss.length ∧ t = .int .i64 i ∧ Hid (Below W7.heap.size W7 wr)) (fun t _ => ss.length - (intOf t).toNat)
    case atStart => exact ⟨0, Nat.zero_le _, rfl, belowRefl _⟩
    case round =>
      obtain ⟨i, hi, rfl, HBr⟩ := hrel
      have HXr : Hid (Bx wr X (.slice (some ⟨bx, ox, none⟩) ss.length x2) (.slice x3 cur.length x4)) := HX7.out.keep HBr.out hX7
      have r0 := HXr.out.c0
      have r1 := HXr.out.c1
      by_cases hlt : i < ss.length
      · have hlt' : (i : Int) < (ss.length : Int) := by omega
        have hi0 : (0 : Int) ≤ (i : Int) := by omega
        have hiF : (i : Int) < (F.length : Int) := by rw [HFL2.out]; exact hlt'
        have cA := HRA.out i
        have cB := HRB.out i
        have cC := HRC.out i
        have hz := HCZ.out i hlt
        have hpf := (HPF.out i hlt).1
        rw [hpf] at cB cC hz
        clear hpf
        generalize rdR ss cur (i : Int) = av at *
        have CA : Hid _ := cA
        have HZc : Hid _ := hz
        by_cases hia : i = at'
        · have hia' : (i : Int) = (at' : Int) := by omega
          rw [if_pos hia] at cB cC hz
          clear HZc CA
          have CA : Hid (∀ W : World, i < ss.length → Below W7.heap.size W7 W → Calls Try.prog 15 #[.agg #[.slice (some ⟨bx, ox, none⟩) ss.length x2, .slice x3 cur.length x4], .int .i64 (i : Int)] W fun e w' => e = .returned (.tuple #[.string av, .bool true]) ∧ Below W.heap.size W w') := cA
          have CB : Hid (∀ W : World, i < ss.length → Below W7.heap.size W7 W → Calls Try.prog 16 #[.agg #[.slice (some ⟨bY, oY, none⟩) ss.length y2, .slice y3 Q.length y4], .int .i64 (i : Int)] W fun e w' => e = .returned (.tuple #[.string T, .bool true]) ∧ Below W.heap.size W w') := cB
          have CC : Hid (∀ W : World, i < ss.length → Below W7.heap.size W7 W → Calls Try.prog 16 #[.agg #[.slice (some ⟨bZ, oZ, none⟩) F.length z2, .slice z3 P2.length z4], .int .i64 (i : Int)] W fun e w' => e = .returned (.tuple #[.string T, .bool true]) ∧ Below W.heap.size W w') := cC
          have HZc : Hid (W7.cell? ⟨bZ, oZ + i, none⟩ = some (.string T)) := hz
          clear cA cB cC hz
          obtain rfl := hia
          go_wp2_with fail
          refine (CA.out _ hlt HBr.out).mono ?_
          rintro e w8 ⟨rfl, hb8⟩
          have B8 : Hid (Below W7.heap.size W7 w8) := HBr.out.trans (hb8.mono HBr.out.size)
          have HY8 : Hid (Bx w8 Y (.slice (some ⟨bY, oY, none⟩) ss.length y2) (.slice y3 Q.length y4)) := HY7.out.keep B8.out hY7
          clear r0 r1 hb8 HXr
          have r0 := HY8.out.c0
          have r1 := HY8.out.c1
          go_wp2_with fail
          refine (CB.out _ hlt B8.out).mono ?_
          rintro e w9 ⟨rfl, hb9⟩
          have B9 : Hid (Below W7.heap.size W7 w9) := B8.out.trans (hb9.mono B8.out.size)
          have HZ9 : Hid (Bx w9 Z (.slice (some ⟨bZ, oZ, none⟩) F.length z2) (.slice z3 P2.length z4)) := HZ7.out.keep B9.out hZ7
          clear r0 r1 hb9 HY8
          have r0 := HZ9.out.c0
          have r1 := HZ9.out.c1
          go_wp2_with fail
          refine (CC.out _ hlt B9.out).mono ?_
          rintro e w10 ⟨rfl, hb10⟩
          have B10 : Hid (Below W7.heap.size W7 w10) := B9.out.trans (hb10.mono B9.out.size)
          have HZ10 : Hid (Bx w10 Z (.slice (some ⟨bZ, oZ, none⟩) F.length z2) (.slice z3 P2.length z4)) := HZ7.out.keep B10.out hZ7
          have rz := (B10.out.cell (p := ⟨bZ, oZ + i, none⟩) hbZ).trans HZc.out
          clear r0 r1 hb10 HZ9
          have r0 := HZ10.out.c0
          go_wp2
          go_roundw
          case rel => exact ⟨i + 1, by omega, by go_num, B10⟩
          case measure => simp [intOf]; omega
        · have hia' : ¬ (i : Int) = (at' : Int) := by omega
          rw [if_neg hia] at cB cC hz
          clear HZc CA
          have CA : Hid (∀ W : World, i < ss.length → Below W7.heap.size W7 W → Calls Try.prog 15 #[.agg #[.slice (some ⟨bx, ox, none⟩) ss.length x2, .slice x3 cur.length x4], .int .i64 (i : Int)] W fun e w' => e = .returned (.tuple #[.string av, .bool true]) ∧ Below W.heap.size W w') := cA
          have CB : Hid (∀ W : World, i < ss.length → Below W7.heap.size W7 W → Calls Try.prog 16 #[.agg #[.slice (some ⟨bY, oY, none⟩) ss.length y2, .slice y3 Q.length y4], .int .i64 (i : Int)] W fun e w' => e = .returned (.tuple #[.string av, .bool true]) ∧ Below W.heap.size W w') := cB
          have CC : Hid (∀ W : World, i < ss.length → Below W7.heap.size W7 W → Calls Try.prog 16 #[.agg #[.slice (some ⟨bZ, oZ, none⟩) F.length z2, .slice z3 P2.length z4], .int .i64 (i : Int)] W fun e w' => e = .returned (.tuple #[.string av, .bool true]) ∧ Below W.heap.size W w') := cC
          have HZc : Hid (W7.cell? ⟨bZ, oZ + i, none⟩ = some (.string av)) := hz
          clear cA cB cC hz
          go_wp2_with fail
          refine (CA.out _ hlt HBr.out).mono ?_
          rintro e w8 ⟨rfl, hb8⟩
          have B8 : Hid (Below W7.heap.size W7 w8) := HBr.out.trans (hb8.mono HBr.out.size)
          have HY8 : Hid (Bx w8 Y (.slice (some ⟨bY, oY, none⟩) ss.length y2) (.slice y3 Q.length y4)) := HY7.out.keep B8.out hY7
          clear r0 r1 hb8 HXr
          have r0 := HY8.out.c0
          have r1 := HY8.out.c1
          go_wp2_with fail
          refine (CB.out _ hlt B8.out).mono ?_
          rintro e w9 ⟨rfl, hb9⟩
          have B9 : Hid (Below W7.heap.size W7 w9) := B8.out.trans (hb9.mono B8.out.size)
          have HZ9 : Hid (Bx w9 Z (.slice (some ⟨bZ, oZ, none⟩) F.length z2) (.slice z3 P2.length z4)) := HZ7.out.keep B9.out hZ7
          clear r0 r1 hb9 HY8
          have r0 := HZ9.out.c0
          have r1 := HZ9.out.c1
          go_wp2_with fail
          refine (CC.out _ hlt B9.out).mono ?_
          rintro e w10 ⟨rfl, hb10⟩
          have B10 : Hid (Below W7.heap.size W7 w10) := B9.out.trans (hb10.mono B9.out.size)
          have HZ10 : Hid (Bx w10 Z (.slice (some ⟨bZ, oZ, none⟩) F.length z2) (.slice z3 P2.length z4)) := HZ7.out.keep B10.out hZ7
          have rz := (B10.out.cell (p := ⟨bZ, oZ + i, none⟩) hbZ).trans HZc.out
          clear r0 r1 hb10 HZ9
          have r0 := HZ10.out.c0
          go_wp2
          go_roundw
          case rel => exact ⟨i + 1, by omega, by go_num, B10⟩
          case measure => simp [intOf]; omega
      · have hlt' : ¬ (i : Int) < (ss.length : Int) := by omega
        have HYr : Hid (Bx wr Y (.slice (some ⟨bY, oY, none⟩) ss.length y2) (.slice y3 Q.length y4)) := HY7.out.keep HBr.out hY7
        have HZr : Hid (Bx wr Z (.slice (some ⟨bZ, oZ, none⟩) F.length z2) (.slice z3 P2.length z4)) := HZ7.out.keep HBr.out hZ7
        have HCOr : Hid (wr.cell? ⟨bx, ox + at', none⟩ = some (.string old)) := (HBr.out.cell (p := ⟨bx, ox + at', none⟩) hbx7).trans HCO7.out
        have HCYr : Hid (wr.cell? ⟨bY, oY + at', none⟩ = some (.string old)) := (HBr.out.cell (p := ⟨bY, oY + at', none⟩) hbY).trans HCY.out
        go_wp2
        clear r0 r1
        refine wp_region_held_drew (S := fun w' => w'.cell? ⟨X, 0, none⟩ = some (.slice (some ⟨bx, ox, none⟩) ss.length x2) ∧ w'.cell? ⟨Y, 0, none⟩ = some (.slice (some ⟨bY, oY, none⟩) ss.length y2) ∧ w'.cell? ⟨Z, 0, none⟩ = some (.slice (some ⟨bZ, oZ, none⟩) F.length z2) ∧ w'.cell? ⟨Z, 1, none⟩ = some (.slice z3 P2.length z4) ∧ w'.cell? ⟨bx, ox + at', none⟩ = some (.string old) ∧ w'.cell? ⟨bY, oY + at', none⟩ = some (.string old)) (by kernel_rfl) ⟨HXr.out.c0, HYr.out.c0, HZr.out.c0, HZr.out.c1, HCOr.out, HCYr.out⟩ (fun hHeld => ?_)
        (refine wpAnyH_take (i := 0) (v := ?_) rfl (by kernel_rfl) (by kernel_rfl) (by kernel_rfl) (fun _ _ _ h => h) (Or.inl ⟨by rfl, ?_⟩) (by assumption) ?_; rotate_left; (focus (intro w hSw; (try dsimp only at hSw); go_simp; (try with_reducible rfl); done)); simp only [Act.put, List.getElem_toArray, List.getElem_cons_zero, List.setIfInBounds_toArray, List.set_cons_zero, List.set_cons_succ])
        (refine wpAnyH_take (i := 1) (v := ?_) rfl (by kernel_rfl) (by kernel_rfl) (by kernel_rfl) (fun _ _ _ h => h) (Or.inl ⟨by rfl, ?_⟩) (by assumption) ?_; rotate_left; (focus (intro w hSw; (try dsimp only at hSw); go_simp; (try with_reducible rfl); done)); simp only [Act.put, List.getElem_toArray, List.getElem_cons_zero, List.getElem_cons_succ, List.setIfInBounds_toArray, List.set_cons_zero, List.set_cons_succ])
        (refine wpAnyH_take (i := 2) (v := ?_) rfl (by kernel_rfl) (by kernel_rfl) (by kernel_rfl) (fun _ _ _ h => h) (Or.inl ⟨by rfl, ?_⟩) (by assumption) ?_; rotate_left; (focus (intro w hSw; (try dsimp only at hSw); go_simp; (try with_reducible rfl); done)); simp only [Act.put, List.getElem_toArray, List.getElem_cons_zero, List.getElem_cons_succ, List.setIfInBounds_toArray, List.set_cons_zero, List.set_cons_succ])
        (refine wpAnyH_take (i := 3) (v := ?_) rfl (by kernel_rfl) (by kernel_rfl) (by kernel_rfl) (fun _ _ _ h => h) (Or.inl ⟨by rfl, ?_⟩) (by assumption) ?_; rotate_left; (focus (intro w hSw; (try dsimp only at hSw); go_simp; (try with_reducible rfl); done)); simp only [Act.put, List.getElem_toArray, List.getElem_cons_zero, List.getElem_cons_succ, List.setIfInBounds_toArray, List.set_cons_zero, List.set_cons_succ])
        (refine wpAnyH_take (i := 4) (v := ?_) rfl (by kernel_rfl) (by kernel_rfl) (by kernel_rfl) (fun _ _ _ h => h) (Or.inl ⟨by rfl, ?_⟩) (by assumption) ?_; rotate_left; (focus (intro w hSw; (try dsimp only at hSw); go_simp; (try with_reducible rfl); done)); simp only [Act.put, List.getElem_toArray, List.getElem_cons_zero, List.getElem_cons_succ, List.setIfInBounds_toArray, List.set_cons_zero, List.set_cons_succ])
        (refine wpAnyH_take (i := 5) (v := ?_) rfl (by kernel_rfl) (by kernel_rfl) (by kernel_rfl) (fun _ _ _ h => h) (Or.inl ⟨by rfl, ?_⟩) (by assumption) ?_; rotate_left; (focus (intro w hSw; (try dsimp only at hSw); go_simp; (try with_reducible rfl); done)); simp only [Act.put, List.getElem_toArray, List.getElem_cons_zero, List.getElem_cons_succ, List.setIfInBounds_toArray, List.set_cons_zero, List.set_cons_succ])
        first | rw [HPD1.out] | rw [HPD2.out] | rw [HPD3.out] | rw [HPD4.out] | rw [HPD5.out] | rw [HPD6.out] | rw [HPD7.out]
        (refine wpAnyH_take (i := 6) (v := ?_) rfl (by kernel_rfl) (by kernel_rfl) (by kernel_rfl) (fun _ _ _ h => h) (Or.inl ⟨by rfl, ?_⟩) (by assumption) ?_; rotate_left; (focus (intro w hSw; (try dsimp only at hSw); go_simp; (try with_reducible rfl); done)); simp only [Act.put, List.getElem_toArray, List.getElem_cons_zero, List.getElem_cons_succ, List.setIfInBounds_toArray, List.set_cons_zero, List.set_cons_succ])
        (refine wpAnyH_take (i := 7) (v := ?_) rfl (by kernel_rfl) (by kernel_rfl) (by kernel_rfl) (fun _ _ _ h => h) (Or.inl ⟨by rfl, ?_⟩) (by assumption) ?_; rotate_left; (focus (intro w hSw; (try dsimp only at hSw); go_simp; (try with_reducible rfl); done)); simp only [Act.put, List.getElem_toArray, List.getElem_cons_zero, List.getElem_cons_succ, List.setIfInBounds_toArray, List.set_cons_zero, List.set_cons_succ])
        (refine wpAnyH_take (i := 8) (v := ?_) rfl (by kernel_rfl) (by kernel_rfl) (by kernel_rfl) (fun _ _ _ h => h) (Or.inl ⟨by rfl, ?_⟩) (by assumption) ?_; rotate_left; (focus (intro w hSw; (try dsimp only at hSw); go_simp; (try with_reducible rfl); done)); simp only [Act.put, List.getElem_toArray, List.getElem_cons_zero, List.getElem_cons_succ, List.setIfInBounds_toArray, List.set_cons_zero, List.set_cons_succ])
        refine wpAnyH_ready (rs := [9]) (by kernel_rfl) (by simp) ?_
        refine AllReadyH.cons rfl (fun K hK => ?_) AllReadyH.nil
        go_simp
        go_wp2_with fail
        refine (HOKC.out _ (HBr.out.drew)).mono ?_
        rintro e w11 ⟨rfl, hb11'⟩
        have hb11 : Below wr.heap.size wr w11 := undrew hb11'
        have B11 : Hid (Below W7.heap.size W7 w11) := HBr.out.trans (hb11.mono HBr.out.size)
        have HX11 : Hid (Bx w11 X (.slice (some ⟨bx, ox, none⟩) ss.length x2) (.slice x3 cur.length x4)) := HX7.out.keep B11.out hX7
        have HY11 : Hid (Bx w11 Y (.slice (some ⟨bY, oY, none⟩) ss.length y2) (.slice y3 Q.length y4)) := HY7.out.keep B11.out hY7
        have HZ11 : Hid (Bx w11 Z (.slice (some ⟨bZ, oZ, none⟩) F.length z2) (.slice z3 P2.length z4)) := HZ7.out.keep B11.out hZ7
        have HCO11 : Hid (w11.cell? ⟨bx, ox + at', none⟩ = some (.string old)) := (B11.out.cell (p := ⟨bx, ox + at', none⟩) hbx7).trans HCO7.out
        have HCY11 : Hid (w11.cell? ⟨bY, oY + at', none⟩ = some (.string old)) := (B11.out.cell (p := ⟨bY, oY + at', none⟩) hbY).trans HCY.out
        clear hb11 hb11'
        go_wp2_with fail
        refine hK.out _ _ ⟨HX11.out.c0, HY11.out.c0, HZ11.out.c0, HZ11.out.c1, HCO11.out, HCY11.out⟩ (fun hHeld11 => ?_)
        clear hK K
        (refine wpAnyH_take (i := 10) (v := ?_) rfl (by kernel_rfl) (by kernel_rfl) (by kernel_rfl) (fun _ _ _ h => h) (Or.inl ⟨by rfl, ?_⟩) (by assumption) ?_; rotate_left; (focus (intro w hSw; (try dsimp only at hSw); go_simp; (try with_reducible rfl); done)); simp only [Act.put, List.getElem_toArray, List.getElem_cons_zero, List.getElem_cons_succ, List.setIfInBounds_toArray, List.set_cons_zero, List.set_cons_succ])
        (refine wpAnyH_take (i := 11) (v := ?_) rfl (by kernel_rfl) (by kernel_rfl) (by kernel_rfl) (fun _ _ _ h => h) (Or.inl ⟨by rfl, ?_⟩) (by assumption) ?_; rotate_left; (focus (intro w hSw; (try dsimp only at hSw); go_simp; (try with_reducible rfl); done)); simp only [Act.put, List.getElem_toArray, List.getElem_cons_zero, List.getElem_cons_succ, List.setIfInBounds_toArray, List.set_cons_zero, List.set_cons_succ])
        (refine wpAnyH_take (i := 12) (v := ?_) rfl (by kernel_rfl) (by kernel_rfl) (by kernel_rfl) (fun _ _ _ h => h) (Or.inl ⟨by rfl, ?_⟩) (by assumption) ?_; rotate_left; (focus (intro w hSw; (try dsimp only at hSw); go_simp; (try with_reducible rfl); done)); simp only [Act.put, List.getElem_toArray, List.getElem_cons_zero, List.getElem_cons_succ, List.setIfInBounds_toArray, List.set_cons_zero, List.set_cons_succ])
        (refine wpAnyH_take (i := 13) (v := ?_) rfl (by kernel_rfl) (by kernel_rfl) (by kernel_rfl) (fun _ _ _ h => h) (Or.inl ⟨by rfl, ?_⟩) (by assumption) ?_; rotate_left; (focus (intro w hSw; (try dsimp only at hSw); go_simp; (try with_reducible rfl); done)); simp only [Act.put, List.getElem_toArray, List.getElem_cons_zero, List.getElem_cons_succ, List.setIfInBounds_toArray, List.set_cons_zero, List.set_cons_succ])
        (refine wpAnyH_take (i := 14) (v := ?_) rfl (by kernel_rfl) (by kernel_rfl) (by kernel_rfl) (fun _ _ _ h => h) (Or.inl ⟨by rfl, ?_⟩) (by assumption) ?_; rotate_left; (focus (intro w hSw; (try dsimp only at hSw); go_simp; (try with_reducible rfl); done)); simp only [Act.put, List.getElem_toArray, List.getElem_cons_zero, List.getElem_cons_succ, List.setIfInBounds_toArray, List.set_cons_zero, List.set_cons_succ])
        (refine wpAnyH_take (i := 15) (v := ?_) rfl (by kernel_rfl) (by kernel_rfl) (by kernel_rfl) (fun _ _ _ h => h) (Or.inl ⟨by rfl, ?_⟩) (by assumption) ?_; rotate_left; (focus (intro w hSw; (try dsimp only at hSw); go_simp; (try with_reducible rfl); done)); simp only [Act.put, List.getElem_toArray, List.getElem_cons_zero, List.getElem_cons_succ, List.setIfInBounds_toArray, List.set_cons_zero, List.set_cons_succ])
        (refine wpAnyH_take (i := 16) (v := ?_) rfl (by kernel_rfl) (by kernel_rfl) (by kernel_rfl) (fun _ _ _ h => h) (Or.inl ⟨by rfl, ?_⟩) (by assumption) ?_; rotate_left; (focus (intro w hSw; (try dsimp only at hSw); go_simp; (try with_reducible rfl); done)); simp only [Act.put, List.getElem_toArray, List.getElem_cons_zero, List.getElem_cons_succ, List.setIfInBounds_toArray, List.set_cons_zero, List.set_cons_succ])
        (refine wpAnyH_take (i := 17) (v := ?_) rfl (by kernel_rfl) (by kernel_rfl) (by kernel_rfl) (fun _ _ _ h => h) (Or.inl ⟨by rfl, ?_⟩) (by assumption) ?_; rotate_left; (focus (intro w hSw; (try dsimp only at hSw); go_simp; (try with_reducible rfl); done)); simp only [Act.put, List.getElem_toArray, List.getElem_cons_zero, List.getElem_cons_succ, List.setIfInBounds_toArray, List.set_cons_zero, List.set_cons_succ])
        (refine wpAnyH_take (i := 18) (v := ?_) rfl (by kernel_rfl) (by kernel_rfl) (by kernel_rfl) (fun _ _ _ h => h) (Or.inl ⟨by rfl, ?_⟩) (by assumption) ?_; rotate_left; (focus (intro w hSw; (try dsimp only at hSw); go_simp; (try with_reducible rfl); done)); simp only [Act.put, List.getElem_toArray, List.getElem_cons_zero, List.getElem_cons_succ, List.setIfInBounds_toArray, List.set_cons_zero, List.set_cons_succ])
        (refine wpAnyH_take (i := 19) (v := ?_) rfl (by kernel_rfl) (by kernel_rfl) (by kernel_rfl) (fun _ _ _ h => h) (Or.inl ⟨by rfl, ?_⟩) (by assumption) ?_; rotate_left; (focus (intro w hSw; (try dsimp only at hSw); go_simp; (try with_reducible rfl); done)); simp only [Act.put, List.getElem_toArray, List.getElem_cons_zero, List.getElem_cons_succ, List.setIfInBounds_toArray, List.set_cons_zero, List.set_cons_succ])
        (refine wpAnyH_take (i := 20) (v := ?_) rfl (by kernel_rfl) (by kernel_rfl) (by kernel_rfl) (fun _ _ _ h => h) (Or.inl ⟨by rfl, ?_⟩) (by assumption) ?_; rotate_left; (focus (intro w hSw; (try dsimp only at hSw); go_simp; (try with_reducible rfl); done)); simp only [Act.put, List.getElem_toArray, List.getElem_cons_zero, List.getElem_cons_succ, List.setIfInBounds_toArray, List.set_cons_zero, List.set_cons_succ])
        (refine wpAnyH_take (i := 21) (v := ?_) rfl (by kernel_rfl) (by kernel_rfl) (by kernel_rfl) (fun _ _ _ h => h) (Or.inl ⟨by rfl, ?_⟩) (by assumption) ?_; rotate_left; (focus (intro w hSw; (try dsimp only at hSw); go_simp; (try with_reducible rfl); done)); simp only [Act.put, List.getElem_toArray, List.getElem_cons_zero, List.getElem_cons_succ, List.setIfInBounds_toArray, List.set_cons_zero, List.set_cons_succ])
        (refine wpAnyH_take (i := 22) (v := ?_) rfl (by kernel_rfl) (by kernel_rfl) (by kernel_rfl) (fun _ _ _ h => h) (Or.inl ⟨by rfl, ?_⟩) (by assumption) ?_; rotate_left; (focus (intro w hSw; (try dsimp only at hSw); go_simp; (try with_reducible rfl); done)); simp only [Act.put, List.getElem_toArray, List.getElem_cons_zero, List.getElem_cons_succ, List.setIfInBounds_toArray, List.set_cons_zero, List.set_cons_succ])
        (refine wpAnyH_take (i := 23) (v := ?_) rfl (by kernel_rfl) (by kernel_rfl) (by kernel_rfl) (fun _ _ _ h => h) (Or.inl ⟨by rfl, ?_⟩) (by assumption) ?_; rotate_left; (focus (intro w hSw; (try dsimp only at hSw); go_simp; (try with_reducible rfl); done)); simp only [Act.put, List.getElem_toArray, List.getElem_cons_zero, List.getElem_cons_succ, List.setIfInBounds_toArray, List.set_cons_zero, List.set_cons_succ])
        (refine wpAnyH_take (i := 24) (v := ?_) rfl (by kernel_rfl) (by kernel_rfl) (by kernel_rfl) (fun _ _ _ h => h) (Or.inl ⟨by rfl, ?_⟩) (by assumption) ?_; rotate_left; (focus (intro w hSw; (try dsimp only at hSw); go_simp; (try with_reducible rfl); done)); simp only [Act.put, List.getElem_toArray, List.getElem_cons_zero, List.getElem_cons_succ, List.setIfInBounds_toArray, List.set_cons_zero, List.set_cons_succ])
        refine wpAnyH_done (by kernel_rfl) ?_ _
        go_wp2
        go_ret
        exact ⟨rfl, HB7.out.trans (B11.out.mono HB7.out.size)⟩
  · rw [decide_eq_true (by omega)] at HBG
    go_enter Try.func3, Try.ntmps3
    go_wp2_with fail
    refine (HBG.out _).mono ?_
    rintro e w ⟨rfl, rfl⟩
    go_wp2
    go_ret
    exact ⟨rfl, belowRefl w⟩
end Go.Proofs.Ytnfkecefkkdedaa
