/- A log stays one: what is put, set to none, turned; a list filled in. -/
import Derived.Test.YtnfkfhpmhhmbaaaPb19
import Derived.Test.YtnfkfhpmhhmbaaaPb20
namespace Go.Proofs.Ytnfkfhpmhhmbaaa
open Go.RowKit
open DM
open FM

theorem wbGo_len (ss : List ByteArray) (k0 : Nat) : ∀ (f : Nat) (cur : List Wr) (q : Nat) (rest : List UInt8), (wbGo ss k0 f cur q rest).length ≤ cur.length + (q % 64 + rest.length + 63) / 64
  | 0, cur, q, rest => by simp only [wbGo]; omega
  | f + 1, cur, q, rest => by
    simp only [wbGo]
    by_cases hn : rest = []
    · rw [if_pos hn]; omega
    · rw [if_neg hn]
      have hpos : 0 < rest.length := List.length_pos_iff.2 hn
      by_cases hs : rest.length ≤ 64 - q % 64
      · rw [List.drop_of_length_le hs]
        have h := wbGo_nil (ss := ss) (k0 := k0) (f := f) (q := q + min (64 - q % 64) rest.length) (cur := cur ++ [(((k0 + q / 64 : Nat) : Int), spl (rdR ss cur ((k0 + q / 64 : Nat) : Int)) (q % 64) (rest.take (64 - q % 64)))]) rfl
        rw [← h, List.length_append, List.length_singleton]
        omega
      · have h := wbGo_len ss k0 f (cur ++ [(((k0 + q / 64 : Nat) : Int), spl (rdR ss cur ((k0 + q / 64 : Nat) : Int)) (q % 64) (rest.take (64 - q % 64)))]) (q + min (64 - q % 64) rest.length) (rest.drop (64 - q % 64))
        refine Nat.le_trans h ?_
        rw [List.length_append, List.length_drop, List.length_singleton]
        rw [show min (64 - q % 64) rest.length = 64 - q % 64 by omega]
        have e1 : (q + (64 - q % 64)) % 64 = 0 := by omega
        omega
theorem wbGo_okW (ss : List ByteArray) (h64 : ∀ s ∈ ss, s.size = 64) (k0 : Nat) : ∀ (f : Nat) (cur : List Wr) (q : Nat) (rest : List UInt8), (∀ p ∈ cur, okW ss.length p) → k0 * 64 + q + rest.length ≤ ss.length * 64 → ∀ p ∈ wbGo ss k0 f cur q rest, okW ss.length p
  | 0, cur, q, rest, hc, _ => hc
  | f + 1, cur, q, rest, hc, hr => by
    simp only [wbGo]
    by_cases hn : rest = []
    · rw [if_pos hn]; exact hc
    · rw [if_neg hn]
      have hpos : 0 < rest.length := List.length_pos_iff.2 hn
      refine wbGo_okW ss h64 k0 f _ _ _ (fun r hr' => ?_) (by rw [List.length_drop]; omega)
      rcases List.mem_append.1 hr' with hr' | hr'
      · exact hc r hr'
      · obtain rfl := List.mem_singleton.1 hr'
        have hjl : k0 + q / 64 < ss.length := by omega
        have hS64 : ∀ s ∈ flush ss cur, s.size = 64 := flush_64 ss cur h64 (fun p hp => (hc p hp).2.2)
        have hjf : k0 + q / 64 < (flush ss cur).length := by rw [flush_len]; exact hjl
        have hsz : (rdR ss cur ((k0 + q / 64 : Nat) : Int)).size = 64 := by
          rw [rdR_flush ss cur hc _ hjl, List.getD_eq_getElem?_getD, List.getElem?_eq_getElem hjf]
          exact hS64 _ (List.getElem_mem hjf)
        refine ⟨by show (0 : Int) ≤ ((k0 + q / 64 : Nat) : Int); omega, by show ((k0 + q / 64 : Nat) : Int) < _; omega, ?_⟩
        show (spl _ _ _).size = 64
        rw [spl_size _ _ _ (by rw [hsz, List.length_take]; omega), hsz]
theorem wb_ok {ss : List ByteArray} (hok : okB ss [] = true) (k0 q : Nat) (l : List UInt8) (hl : l.length ≤ 3008) (h : k0 * 64 + q + l.length ≤ ss.length * 64) : okB ss (wb ss k0 q l) = true := by
  have hO := okB_iff.1 hok
  have h2 := wbGo_len ss k0 l.length [] q l
  have h3 := wbGo_okW ss hO.2.2.2.1 k0 l.length [] q l (fun p hp => by cases hp) h
  rw [okB_iff]
  refine ⟨hO.1, hO.2.1, ?_, hO.2.2.2.1, fun p hp => ?_⟩
  · have : (wb ss k0 q l).length ≤ 0 + (q % 64 + l.length + 63) / 64 := h2
    omega
  · have := h3 p hp
    exact ⟨this.1, this.2.1, this.2.2⟩

theorem logB_iff {ss : List ByteArray} : logB ss [] = true ↔ okB ss [] = true ∧ ss.length = 97 ∧ (∃ x, raF (flat ss) 0 = some x) ∧ (∃ x, raF (flat ss) 1 = some x) := by
  constructor
  · intro h
    have hp := logB_parts h
    have h64 := (okB_iff.1 hp.1).2.2.2.1
    have h4 := logB_4 hp.1 hp.2.1 rfl
    rw [h] at h4
    have h5 := (Bool.and_eq_true _ _ ▸ h4.symm : oB (raO ss [] 0) = true ∧ oB (raO ss [] 1) = true)
    rw [raO_flat h64 hp.2.1 (by decide), raO_flat h64 hp.2.1 (by decide)] at h5
    exact ⟨hp.1, hp.2.1, Option.isSome_iff_exists.1 h5.1, Option.isSome_iff_exists.1 h5.2⟩
  · rintro ⟨h1, h2, h3, h4⟩
    have h64 := (okB_iff.1 h1).2.2.2.1
    rw [logB_4 h1 h2 rfl, raO_flat h64 h2 (by decide), raO_flat h64 h2 (by decide)]
    unfold oB
    rw [Option.isSome_iff_exists.2 h3, Option.isSome_iff_exists.2 h4]
    rfl
theorem logB_some {ss : List ByteArray} (h : logB ss [] = true) {a : Int} (hA : isA a = true) : ∃ x, raF (flat ss) a = some x := by
  have h2 := logB_iff.1 h
  rcases isA_iff.1 hA with rfl | rfl
  · exact h2.2.2.1
  · exact h2.2.2.2
theorem logB_all {ss : List ByteArray} (h1 : okB ss [] = true) (h2 : ss.length = 97) (h : ∀ a, isA a = true → ∃ x, raF (flat ss) a = some x) : logB ss [] = true := logB_iff.2 ⟨h1, h2, h 0 (by decide), h 1 (by decide)⟩

theorem fl_wb {ss : List ByteArray} (hok : okB ss [] = true) (k0 q : Nat) (l : List UInt8) (hl : l.length ≤ 3008) (h : k0 * 64 + q + l.length ≤ ss.length * 64) : okB (flS ss (wb ss k0 q l)) [] = true ∧ (flS ss (wb ss k0 q l)).length = ss.length ∧ flat (flS ss (wb ss k0 q l)) = splL (flat ss) (k0 * 64 + q) l := by
  have hw := wb_ok hok k0 q l hl h
  have h2 := okB_flush hw
  rw [flP_yes hw] at h2
  refine ⟨h2, flS_length hw, ?_⟩
  rw [flS_yes hw, wb_flat ss (okB_iff.1 hok).2.2.2.1 k0 q l h]
theorem flat97 {ss : List ByteArray} (hok : okB ss [] = true) (h97 : ss.length = 97) : (flat ss).length = 6208 := by rw [flat_len ss (okB_iff.1 hok).2.2.2.1, h97]

theorem put_flat {ss : List ByteArray} {a : Int} {t : ByteArray} (hlog : logB ss [] = true) (hr : recB ss [] a t = true) : okB (putS ss [] a t) [] = true ∧ (putS ss [] a t).length = 97 ∧ flat (putS ss [] a t) = putF (flat ss) a (oE (raO ss [] a)) t := by
  have hp := logB_parts hlog
  have hpt := recB_parts hr
  have hA := hpt.2.2.2.2
  have hin := af_in hA
  have hin1 := af1_in hA
  have e1 := fl_wb hp.1 (af a + 1).toNat (oE (raO ss [] a)) (recL t) (by omega) (by have := hp.2.1; omega)
  have eW : recW ss [] a t = wb ss (af a + 1).toNat (oE (raO ss [] a)) (recL t) := if_pos hr
  rw [← eW] at e1
  have e2 := fl_wb e1.1 (af a).toNat 0 [UInt8.ofNat ((cnt ss [] a).toNat + 1)] (by simp) (by rw [e1.2.1]; have := hp.2.1; simp; omega)
  refine ⟨e2.1, by unfold putS; rw [e2.2.1, e1.2.1, hp.2.1], ?_⟩
  unfold putS
  rw [e2.2.2, e1.2.2, cnt_flat (okB_iff.1 hp.1).2.2.2.1 hp.2.1 hA, Int.toNat_natCast]
  rfl
theorem put_read {ss : List ByteArray} {a : Int} {t : ByteArray} (hlog : logB ss [] = true) (hr : recB ss [] a t = true) (htz : t.size ≤ 1048576) : raO (putS ss [] a t) [] a = some (oL (raO ss [] a) ++ [t], oE (raO ss [] a) + (recL t).length) ∧ (∀ b, isA b = true → b ≠ a → raO (putS ss [] a t) [] b = raO ss [] b) ∧ logB (putS ss [] a t) [] = true := by
  have hp := logB_parts hlog
  have hpt := recB_parts hr
  have hA := hpt.2.2.2.2
  have h64 := (okB_iff.1 hp.1).2.2.2.1
  have hf := put_flat hlog hr
  have h64' := (okB_iff.1 hf.1).2.2.2.1
  have hF := flat97 hp.1 hp.2.1
  obtain ⟨⟨l, E⟩, hx⟩ := logB_some hlog hA
  have hra : raO ss [] a = some (l, E) := by rw [raO_flat h64 hp.2.1 hA, hx]
  have hE : oE (raO ss [] a) = E := by rw [hra]; rfl
  have hL : oL (raO ss [] a) = l := by rw [hra]; rfl
  have hroom := hpt.2.2.2.1
  have hcn := hpt.2.2.1
  rw [cnt_flat h64 hp.2.1 hA] at hcn
  rw [hE] at hroom hf ⊢
  rw [hL]
  have h1 : raF (flat (putS ss [] a t)) a = some (l ++ [t], E + (recL t).length) := by
    rw [hf.2.2]
    exact putF_in hF hA hx hroom hpt.2.1 htz (by omega)
  have h2 : ∀ b, isA b = true → b ≠ a → raF (flat (putS ss [] a t)) b = raF (flat ss) b := fun b hB hne => by
    rw [hf.2.2]
    exact putF_out hF hA hB hne hroom
  refine ⟨by rw [raO_flat h64' hf.2.1 hA, h1], fun b hB hne => by rw [raO_flat h64' hf.2.1 hB, raO_flat h64 hp.2.1 hB, h2 b hB hne], logB_all hf.1 hf.2.1 (fun b hB => ?_)⟩
  by_cases hne : b = a
  · rw [hne]; exact ⟨_, h1⟩
  · rw [h2 b hB hne]; exact logB_some hlog hB

def zrS (ss : List ByteArray) (a : Int) : List ByteArray := flS ss (wb ss (af a).toNat 0 [UInt8.ofNat 0])
theorem zr_read {ss : List ByteArray} {a : Int} (hlog : logB ss [] = true) (hA : isA a = true) : raO (zrS ss a) [] a = some ([], 0) ∧ (∀ b, isA b = true → b ≠ a → raO (zrS ss a) [] b = raO ss [] b) ∧ logB (zrS ss a) [] = true := by
  have hp := logB_parts hlog
  have h64 := (okB_iff.1 hp.1).2.2.2.1
  have hF := flat97 hp.1 hp.2.1
  have hin := af_in hA
  have ho := af_off hA
  have hf := fl_wb hp.1 (af a).toNat 0 [UInt8.ofNat 0] (by simp) (by have := hp.2.1; simp; omega)
  have h64' : ∀ s ∈ zrS ss a, s.size = 64 := (okB_iff.1 hf.1).2.2.2.1
  have h97' : (zrS ss a).length = 97 := by unfold zrS; rw [hf.2.1, hp.2.1]
  have h1 : raF (flat (zrS ss a)) a = some ([], 0) := by
    unfold zrS
    rw [hf.2.2, Nat.add_zero]
    have e : UInt8.ofNat 0 = 0 := by decide
    rw [e]
    exact raF_zero hF hA
  have h2 : ∀ b, isA b = true → b ≠ a → raF (flat (zrS ss a)) b = raF (flat ss) b := fun b hB hne => by
    unfold zrS
    rw [hf.2.2, Nat.add_zero]
    have h3 := af_two hA hB hne
    exact raF_out hF hB (by simp; omega) (by simp; omega)
  refine ⟨by rw [raO_flat h64' h97' hA, h1], fun b hB hne => by rw [raO_flat h64' h97' hB, raO_flat h64 hp.2.1 hB, h2 b hB hne], logB_all hf.1 h97' (fun b hB => ?_)⟩
  by_cases hne : b = a
  · rw [hne]; exact ⟨_, h1⟩
  · rw [h2 b hB hne]; exact logB_some hlog hB

def fillO (a : Int) : List ByteArray → List ByteArray → List ByteArray × Bool
  | cur, [] => (cur, true)
  | cur, t :: ts => if recB cur [] a t = true then fillO a (putS cur [] a t) ts else (cur, false)
theorem fillO_yes {a : Int} {cur : List ByteArray} {ts : List ByteArray} {k : Nat} (hk : k < ts.length) (h : recB cur [] a ts[k] = true) : fillO a cur (ts.drop k) = fillO a (putS cur [] a ts[k]) (ts.drop (k + 1)) := by
  rw [List.drop_eq_getElem_cons hk, fillO, if_pos h]
theorem fillO_no {a : Int} {cur : List ByteArray} {ts : List ByteArray} {k : Nat} (hk : k < ts.length) (h : recB cur [] a ts[k] = false) : fillO a cur (ts.drop k) = (cur, false) := by
  rw [List.drop_eq_getElem_cons hk, fillO, if_neg (by simp [h])]
theorem fillO_end {a : Int} {cur : List ByteArray} {ts : List ByteArray} {k : Nat} (hk : ts.length ≤ k) : fillO a cur (ts.drop k) = (cur, true) := by
  rw [List.drop_of_length_le hk, fillO]
theorem fillO_log {a : Int} : ∀ (ts cur : List ByteArray), (∀ t ∈ ts, t.size ≤ 1048576) → logB cur [] = true → logB (fillO a cur ts).1 [] = true
  | [], cur, _, h => h
  | t :: ts, cur, ht, h => by
    rw [fillO]
    by_cases hr : recB cur [] a t = true
    · rw [if_pos hr]
      exact fillO_log ts _ (fun x hx => ht x (List.mem_cons_of_mem _ hx)) (put_read h hr (ht t (List.mem_cons_self ..))).2.2
    · rw [if_neg hr]
      exact h
def oth (ss : List ByteArray) (ps : List Wr) : Int := 1 - act ss ps
theorem oth_A (ss : List ByteArray) (ps : List Wr) : isA (oth ss ps) = true := by
  rcases isA_iff.1 (act_01 ss ps) with h | h <;> (unfold oth; rw [h]; decide)
end Go.Proofs.Ytnfkfhpmhhmbaaa

namespace Go.Proofs.Ytnfkfhpmhhmbaaa
open Go.RowKit
open DM
attribute [local go_sem ↓] Go.wp_at_zero Go.wp_at_succ

theorem prS_lp {ss : List ByteArray} {ps : List Wr} {a : Int} {t : ByteArray} (h : logB ss ps = true) : prB ss ps a t = recB ss ps a t ∧ prS ss ps a t = lpS ss ps a t := by
  have e : prB ss ps a t = recB ss ps a t := by simp [prB, h]
  refine ⟨e, ?_⟩
  unfold prS lpS
  rw [e]
end Go.Proofs.Ytnfkfhpmhhmbaaa

namespace Go.Proofs.Ytnfkfhpmhhmbaaa
open Go.RowKit
open DM
attribute [local go_sem ↓] Go.wp_at_zero Go.wp_at_succ

def Half (a : Int) (ps : List Wr) (ts : List ByteArray) (FS : List ByteArray) (FB : Bool) (cur : List ByteArray) (ok : Bool) (k : Nat) : Prop := logB cur ps = true ∧ ((ok = true ∧ fillO a cur (ts.drop k) = (FS, FB)) ∨ (ok = false ∧ FS = cur ∧ FB = false))
theorem Half.step {a : Int} {ps : List Wr} {ts FS : List ByteArray} {FB : Bool} {cur : List ByteArray} {k : Nat} (hps : ps = []) (hts : ∀ t ∈ ts, t.size ≤ 1048576) (h : Half a ps ts FS FB cur true k) (hk : k < ts.length) : Half a ps ts FS FB (lpS cur ps a ts[k]) (recB cur ps a ts[k]) (k + 1) := by
  subst hps
  obtain ⟨hl, (⟨_, hf⟩ | ⟨h0, _⟩)⟩ := h
  · cases hb : recB cur [] a ts[k] with
    | true =>
      rw [lpS_yes hb]
      refine ⟨(put_read hl hb (hts _ (List.getElem_mem hk))).2.2, Or.inl ⟨rfl, ?_⟩⟩
      rw [← hf, fillO_yes hk hb]
    | false =>
      rw [lpS_no hb]
      refine ⟨hl, Or.inr ⟨rfl, ?_⟩⟩
      rw [fillO_no hk hb] at hf
      simp only [Prod.mk.injEq] at hf
      exact ⟨hf.1.symm, hf.2.symm⟩
  · cases h0
theorem Half.out {a : Int} {ps : List Wr} {ts FS : List ByteArray} {FB : Bool} {cur : List ByteArray} {ok : Bool} {k : Nat} (h : Half a ps ts FS FB cur ok k) (hk : ok = true → ts.length ≤ k) : FS = cur ∧ FB = ok := by
  obtain ⟨hl, (⟨h0, hf⟩ | ⟨h0, h1⟩)⟩ := h
  · rw [fillO_end (hk h0)] at hf
    simp only [Prod.mk.injEq] at hf
    exact ⟨hf.1.symm, by rw [h0]; exact hf.2.symm⟩
  · rw [h0]; exact h1

set_option maxRecDepth 100000 in
set_option maxHeartbeats 8000000 in
theorem sfill74 (ss : List ByteArray) (ps : List Wr) (ts : List ByteArray) (a1 a2 al : Option Addr) (c1 c2 cl B0 : Nat) (hlog : logB ss ps = true) (htn : ts.length ≤ 1048576) (hts : ∀ t ∈ ts, t.size ≤ 1048576) (w : World) (hd : DOwn w B0 a1 c1 a2 c2 ss ps) (hl : SRow w al ts) :
    Calls Try.prog 43 #[.agg #[.slice a1 ss.length c1, .slice a2 ps.length c2], .slice al ts.length cl] w fun e w' => ∃ b1 d1 b2 d2, e = .returned (.tuple #[.agg #[.slice b1 (fillO (1 - act ss ps) (zrS ss (1 - act ss ps)) ts).1.length d1, .slice b2 ps.length d2], .bool (fillO (1 - act ss ps) (zrS ss (1 - act ss ps)) ts).2]) ∧ DOwn w' w.heap.size b1 d1 b2 d2 (fillO (1 - act ss ps) (zrS ss (1 - act ss ps)) ts).1 ps ∧ Below w.heap.size w w' := by
  have hlp := logB_parts hlog
  have HO : Hid (OkD ss ps) := okB_iff.1 hlp.1
  have hs100 : ss.length ≤ 100 := HO.out.2.1
  have hpl : ps.length ≤ 60 := HO.out.2.2.1
  have hA : isA (1 - act ss ps) = true := oth_A ss ps
  have hac := act_01 ss ps
  obtain ⟨ac, hacE⟩ : ∃ ac, ac = act ss ps := ⟨_, rfl⟩
  rw [← hacE] at hA hac ⊢
  have hac' : ac = 0 ∨ ac = 1 := isA_iff.1 hac
  have hw1 : IntKind.i64.wrap (1 - ac) = 1 - ac := by rw [IntKind.wrap_i64]; omega
  obtain ⟨FF, hFF⟩ : ∃ FF, fillO (1 - ac) (zrS ss (1 - ac)) ts = FF := ⟨_, rfl⟩
  obtain ⟨FS, FB⟩ := FF
  rw [hFF]
  show Calls Try.prog 43 #[.agg #[.slice a1 ss.length c1, .slice a2 ps.length c2], .slice al ts.length cl] w fun e w' => ∃ b1 d1 b2 d2, e = .returned (.tuple #[.agg #[.slice b1 FS.length d1, .slice b2 ps.length d2], .bool FB]) ∧ DOwn w' w.heap.size b1 d1 b2 d2 FS ps ∧ Below w.heap.size w w'
  obtain ⟨WZ, hWZ⟩ : ∃ WZ, WZ = wb ss (af (1 - ac)).toNat 0 [UInt8.ofNat 0] := ⟨_, rfl⟩
  have hWZk : okB ss WZ = true := by
    have hin := af_in hA
    rw [hWZ]
    exact wb_ok (by rw [← hlp.2.2]; exact hlp.1) _ _ _ (by simp) (by have := hlp.2.1; simp; omega)
  obtain ⟨ZS, hZS⟩ : ∃ ZS, ZS = zrS ss (1 - ac) := ⟨_, rfl⟩
  have HH0 : Hid (Half (1 - ac) ps ts FS FB ZS true 0) := by
    have hz := zr_read (a := 1 - ac) (by rw [← hlp.2.2]; exact hlog) hA
    refine ⟨by rw [hlp.2.2, hZS]; exact hz.2.2, Or.inl ⟨rfl, by rw [hZS, List.drop_zero]; exact hFF⟩⟩
  have HHS : Hid (∀ cur k (hk : k < ts.length), Half (1 - ac) ps ts FS FB cur true k → Half (1 - ac) ps ts FS FB (lpS cur ps (1 - ac) ts[k]) (recB cur ps (1 - ac) ts[k]) (k + 1)) := fun cur k hk h => h.step hlp.2.2 hts hk
  have HAC : Hid (∀ W : World, DOwn W B0 a1 c1 a2 c2 ss ps → Calls Try.prog 24 #[.agg #[.slice a1 ss.length c1, .slice a2 ps.length c2]] W fun e w' => e = .returned (.int .i64 ac) ∧ Below W.heap.size W w') := fun W h => by
    rw [hacE]
    exact sac25 ss ps a1 a2 c1 c2 (by omega) (by omega) W h.s.srow h.p.prow
  have HCZ : Hid (∀ (W : World) (B : Nat) (x1 : Option Addr) (x2 : Nat) (x3 : Option Addr) (x4 : Nat), DOwn W B x1 x2 x3 x4 ss ps → Calls Try.prog 27 #[.agg #[.slice x1 ss.length x2, .slice x3 ps.length x4], .int .i64 (1 - ac), .int .i64 0] W fun e w' => ∃ f1 f2 f3 f4, e = .returned (.tuple #[.agg #[.slice f1 ss.length f2, .slice f3 WZ.length f4], .bool true]) ∧ DOwn w' W.heap.size f1 f2 f3 f4 ss WZ ∧ Below W.heap.size W w') := fun W B x1 x2 x3 x4 h => by
    refine (scount96 ss ps (1 - ac) 0 x1 x3 x2 x4 B hA hlp.1 hlp.2.2 hlp.2.1 (by omega) W h).mono ?_
    rw [← hWZ]
    rintro e w' ⟨f1, f2, f3, f4, h1, h2, _, h3⟩
    exact ⟨f1, f2, f3, f4, h1, h2, h3⟩
  have HFZ : Hid (∀ (W : World) (B : Nat) (x1 : Option Addr) (x2 : Nat) (x3 : Option Addr) (x4 : Nat), DOwn W B x1 x2 x3 x4 ss WZ → Calls Try.prog 28 #[.agg #[.slice x1 ss.length x2, .slice x3 WZ.length x4]] W fun e w' => ∃ f1 f2 f3 f4, e = .returned (.agg #[.slice f1 ZS.length f2, .slice f3 ps.length f4]) ∧ DOwn w' W.heap.size f1 f2 f3 f4 ZS ps ∧ Below W.heap.size W w') := fun W B x1 x2 x3 x4 h => by
    have h2 := sflush38 ss WZ x1 x3 x2 x4 B (by omega) (by have := (okB_iff.1 hWZk).2.2.1; omega) W h
    rw [flP_yes hWZk, ← hlp.2.2] at h2
    rw [hZS, zrS, ← hWZ]
    exact h2
  have HPU : Hid (∀ (cur : List ByteArray) (t : ByteArray), logB cur ps = true → t.size ≤ 1048576 → ∀ (W : World) (B : Nat) (x1 : Option Addr) (x2 : Nat) (x3 : Option Addr) (x4 : Nat), DOwn W B x1 x2 x3 x4 cur ps → Calls Try.prog 77 #[.agg #[.slice x1 cur.length x2, .slice x3 ps.length x4], .int .i64 (1 - ac), .string t] W fun e w' => ∃ f1 f2 f3 f4, e = .returned (.tuple #[.agg #[.slice f1 (lpS cur ps (1 - ac) t).length f2, .slice f3 ps.length f4], .bool (recB cur ps (1 - ac) t)]) ∧ DOwn w' W.heap.size f1 f2 f3 f4 (lpS cur ps (1 - ac) t) ps ∧ Below W.heap.size W w') := fun cur t hc ht W B x1 x2 x3 x4 h => by
    have hlc := logB_parts hc
    exact sput69 cur ps (1 - ac) t x1 x3 x2 x4 B hA hlc.1 hlp.2.2 hlc.2.1 ht W h
  have HD : Hid (DOwn w B0 a1 c1 a2 c2 ss ps) := hd
  have HL : Hid (SRow w al ts) := hl
  have HTS : Hid (∀ t ∈ ts, t.size ≤ 1048576) := hts
  have b0 : Hid (Below w.heap.size w ((w.alloc (.cells #[.slice a1 ss.length c1, .slice a2 ps.length c2] 30)).alloc (.cells #[.slice none 0 0, .slice none 0 0] 30))) := ((belowRefl w).alloc (Nat.le_refl _) _).alloc (by simp) _
  have X0 : Hid (Bx ((w.alloc (.cells #[.slice a1 ss.length c1, .slice a2 ps.length c2] 30)).alloc (.cells #[.slice none 0 0, .slice none 0 0] 30)) w.heap.size (.slice a1 ss.length c1) (.slice a2 ps.length c2)) := (Bx.new w _ _ _).alloc _
  have X1 : Hid (Bx ((w.alloc (.cells #[.slice a1 ss.length c1, .slice a2 ps.length c2] 30)).alloc (.cells #[.slice none 0 0, .slice none 0 0] 30)) (w.heap.size + 1) (.slice none 0 0) (.slice none 0 0)) := by
    have h := Bx.new (w.alloc (.cells #[.slice a1 ss.length c1, .slice a2 ps.length c2] 30)) (.slice none 0 0) (.slice none 0 0) 30
    rw [World.size_alloc] at h
    exact h
  have HD0 : Hid (DOwn ((w.alloc (.cells #[.slice a1 ss.length c1, .slice a2 ps.length c2] 30)).alloc (.cells #[.slice none 0 0, .slice none 0 0] 30)) B0 a1 c1 a2 c2 ss ps) := HD.out.below b0.out
  clear hd hl hts hlog hlp HO hA hac hac' hFF hWZ hWZk hZS hacE HD
  go_enter Try.func43, Try.ntmps43
  go_wp2_with fail
  refine (HAC.out _ HD0.out).mono ?_
  rintro e w1 ⟨rfl, hb1⟩
  have Y01 : Hid (Bx w1 w.heap.size (.slice a1 ss.length c1) (.slice a2 ps.length c2)) := X0.out.keep hb1 X0.out.lt
  have Y11 : Hid (Bx w1 (w.heap.size + 1) (.slice none 0 0) (.slice none 0 0)) := X1.out.keep hb1 X1.out.lt
  have HB1 : Hid (Below w.heap.size w w1) := b0.out.trans (hb1.mono b0.out.size)
  have g01 := Y01.out.c0
  have g11 := Y01.out.c1
  go_wp2_with fail
  refine (HCZ.out _ _ _ _ _ _ (HD0.out.below hb1)).mono ?_
  rintro e w2 ⟨y1, y2, y3, y4, rfl, hd2, hb2⟩
  have Y02 : Hid (Bx w2 w.heap.size (.slice a1 ss.length c1) (.slice a2 ps.length c2)) := Y01.out.keep hb2 Y01.out.lt
  have Y12 : Hid (Bx w2 (w.heap.size + 1) (.slice none 0 0) (.slice none 0 0)) := Y11.out.keep hb2 Y11.out.lt
  have HB2 : Hid (Below w.heap.size w w2) := HB1.out.trans (hb2.mono HB1.out.size)
  have g02 := Y02.out.c0
  have g12 := Y02.out.c1
  have Y13' : Hid (Bx (w2.alloc (.cells #[.slice y1 ss.length y2, .slice y3 WZ.length y4] 30)) (w.heap.size + 1) (.slice none 0 0) (.slice none 0 0)) := Y12.out.alloc _
  have Y23' : Hid (Bx (w2.alloc (.cells #[.slice y1 ss.length y2, .slice y3 WZ.length y4] 30)) w2.heap.size (.slice y1 ss.length y2) (.slice y3 WZ.length y4)) := Bx.new w2 _ _ _
  have HB3' : Hid (Below w.heap.size w (w2.alloc (.cells #[.slice y1 ss.length y2, .slice y3 WZ.length y4] 30))) := HB2.out.alloc HB2.out.size _
  have HY3 : Hid (DOwn (w2.alloc (.cells #[.slice y1 ss.length y2, .slice y3 WZ.length y4] 30)) (w.heap.size + 1 + 1) y1 y2 y3 y4 ss WZ) := (hd2.mono Y11.out.lt).below ((belowRefl w2).alloc (Nat.le_refl _) _)
  have hX : w.heap.size + 1 + 1 ≤ w2.heap.size := Y12.out.lt
  have g24 := Y23'.out.c0
  have g34 := Y23'.out.c1
  clear hd2 hb2 hb1
  go_wp2_with fail
  refine (HFZ.out _ _ _ _ _ _ HY3.out).mono ?_
  rintro e w3 ⟨z1, z2, z3, z4, rfl, hd3, hb3⟩
  have Y13 : Hid (Bx w3 (w.heap.size + 1) (.slice none 0 0) (.slice none 0 0)) := Y13'.out.keep hb3 Y13'.out.lt
  have Y23 : Hid (Bx w3 w2.heap.size (.slice y1 ss.length y2) (.slice y3 WZ.length y4)) := Y23'.out.keep hb3 Y23'.out.lt
  have HB3 : Hid (Below w.heap.size w w3) := HB3'.out.trans (hb3.mono HB3'.out.size)
  have HZ3 : Hid (DOwn w3 (w2.heap.size + 1) z1 z2 z3 z4 ZS ps) := hd3.mono (by simp)
  have k0 := Y23.out.c0
  have k1 := Y23.out.c1
  have kf := Y23.out.fz
  clear hd3 hb3
  go_wp2
  generalize w2.heap.size = X at *
  have V1 : Hid (Bx ((w3.setCell ⟨X, 0, none⟩ (.slice z1 ZS.length z2)).setCell ⟨X, 1, none⟩ (.slice z3 ps.length z4)) (w.heap.size + 1) (.slice none 0 0) (.slice none 0 0)) := (Y13.out.setO (by show X ≠ _; omega) _).setO (by show X ≠ _; omega) _
  have V2 : Hid (Bx ((w3.setCell ⟨X, 0, none⟩ (.slice z1 ZS.length z2)).setCell ⟨X, 1, none⟩ (.slice z3 ps.length z4)) X (.slice z1 ZS.length z2) (.slice z3 ps.length z4)) := (Y23.out.set0 _).set1 _
  have VB : Hid (Below w.heap.size w ((w3.setCell ⟨X, 0, none⟩ (.slice z1 ZS.length z2)).setCell ⟨X, 1, none⟩ (.slice z3 ps.length z4))) := (HB3.out.setCell (by show _ ≤ X; omega) _).setCell (by show _ ≤ X; omega) _
  have VD : Hid (DOwn ((w3.setCell ⟨X, 0, none⟩ (.slice z1 ZS.length z2)).setCell ⟨X, 1, none⟩ (.slice z3 ps.length z4)) (X + 1) z1 z2 z3 z4 ZS ps) := ⟨(HZ3.out.s.set (by show X < _; omega) _).set (by show X < _; omega) _, (HZ3.out.p.set (by show X < _; omega) _).set (by show X < _; omega) _⟩
  clear k0 k1 kf g24 g34 Y13' Y23' HB3' HY3 Y13 Y23 HB3 HZ3 Y01 Y11 HB1 g01 g11 Y02 Y12 HB2 g02 g12
  go_loopw [8, 9] (fun tok ti wr => ∃ (k : Nat) (ok : Bool) (cur : List ByteArray) (x1 : Option Addr) (x2 : Nat) (x3 : Option Addr) (x4 : Nat), k ≤ ts.length ∧ ti = .int .i64 k ∧ tok = .bool ok ∧ Hid (Half (1 - ac) ps ts FS FB cur ok k) ∧ Hid (Bx wr (w.heap.size + 1) (.slice none 0 0) (.slice none 0 0)) ∧ Hid (Bx wr X (.slice x1 cur.length x2) (.slice x3 ps.length x4)) ∧ Hid (DOwn wr (X + 1) x1 x2 x3 x4 cur ps) ∧ Hid (Below w.heap.size w wr)) (fun _ ti _ => ts.length - (intOf ti).toNat)
  case atStart => exact ⟨0, true, ZS, z1, z2, z3, z4, Nat.zero_le _, rfl, rfl, HH0, V1, V2, VD, VB⟩
  case round =>
    clear HH0 V1 V2 VD VB
    obtain ⟨k, ok, cur, x1, x2, x3, x4, hk, rfl, rfl, HH, Y1, Y2, HX, HB⟩ := hrel
    have k0 := Y2.out.c0
    have k1 := Y2.out.c1
    by_cases hlt : k < ts.length
    · have hlt' : (k : Int) < (ts.length : Int) := by omega
      cases ok with
      | false =>
        have HE := Half.out HH.out (fun h => by cases h)
        obtain ⟨rfl, rfl⟩ := HE
        have HX' : Hid (DOwn wr (w.heap.size + 1 + 1) x1 x2 x3 x4 FS ps) := HX.out.mono (by omega)
        have r0 := Y1.out.c0
        have r1 := Y1.out.c1
        have rf := Y1.out.fz
        have V9 : Hid (Bx ((wr.setCell ⟨w.heap.size + 1, 0, none⟩ (.slice x1 FS.length x2)).setCell ⟨w.heap.size + 1, 1, none⟩ (.slice x3 ps.length x4)) (w.heap.size + 1) (.slice x1 FS.length x2) (.slice x3 ps.length x4)) := (Y1.out.set0 _).set1 _
        have q0 := V9.out.c0
        have q1 := V9.out.c1
        go_wp2
        refine bodyPost_ret (v := .tuple #[.agg #[.slice x1 FS.length x2, .slice x3 ps.length x4], .bool false]) (by simp [results, Try.results43, go_sem, q0, q1]) rfl ⟨x1, x2, x3, x4, rfl, ⟨?_, ?_⟩, ?_⟩
        · exact ((HX'.out.s.set (by show w.heap.size + 1 < _; omega) _).set (by show w.heap.size + 1 < _; omega) _).mono (by omega)
        · exact ((HX'.out.p.set (by show w.heap.size + 1 < _; omega) _).set (by show w.heap.size + 1 < _; omega) _).mono (by omega)
        · exact (HB.out.setCell (by show _ ≤ w.heap.size + 1; omega) _).setCell (by show _ ≤ w.heap.size + 1; omega) _
      | true =>
        have h0 : (0 : Int) ≤ (k : Int) := by omega
        have HN : Hid (Half (1 - ac) ps ts FS FB (lpS cur ps (1 - ac) ts[k]) (recB cur ps (1 - ac) ts[k]) (k + 1)) := HHS.out cur k hlt HH.out
        have HPK : Hid (∀ (W : World) (B : Nat) (x1 : Option Addr) (x2 : Nat) (x3 : Option Addr) (x4 : Nat), DOwn W B x1 x2 x3 x4 cur ps → Calls Try.prog 77 #[.agg #[.slice x1 cur.length x2, .slice x3 ps.length x4], .int .i64 (1 - ac), .string ts[k]] W fun e w' => ∃ f1 f2 f3 f4, e = .returned (.tuple #[.agg #[.slice f1 (lpS cur ps (1 - ac) ts[k]).length f2, .slice f3 ps.length f4], .bool (recB cur ps (1 - ac) ts[k])]) ∧ DOwn w' W.heap.size f1 f2 f3 f4 (lpS cur ps (1 - ac) ts[k]) ps ∧ Below W.heap.size W w') := HPU.out cur ts[k] HH.out.1 (HTS.out _ (List.getElem_mem hlt))
        obtain ⟨b, off, rfl, hbl, hc⟩ := (HL.out.below HB.out) (by omega)
        have hck := hc k hlt
        clear hc
        generalize lpS cur ps (1 - ac) ts[k] = NS at *
        generalize recB cur ps (1 - ac) ts[k] = NB at *
        go_wp2
        go_region_law (first
          | (go_simp; go_at_call 77
             refine (HPK.out _ _ _ _ _ _ HX.out.drew).mono ?_
             rintro e w5 ⟨u1, u2, u3, u4, rfl, hd5, hb5⟩
             have Y15 : Hid (Bx w5 (w.heap.size + 1) (.slice none 0 0) (.slice none 0 0)) := Y1.out.keep (undrew hb5) Y1.out.lt
             have Y25 : Hid (Bx w5 X (.slice x1 cur.length x2) (.slice x3 ps.length x4)) := Y2.out.keep (undrew hb5) Y2.out.lt
             have HB5 : Hid (Below w.heap.size w w5) := HB.out.trans ((undrew hb5).mono HB.out.size)
             have hd5' : DOwn w5 wr.heap.size u1 u2 u3 u4 NS ps := hd5
             have HD5 : Hid (DOwn w5 (X + 1) u1 u2 u3 u4 NS ps) := hd5'.mono Y2.out.lt
             have q0 := Y25.out.c0
             have q1 := Y25.out.c1
             have qf := Y25.out.fz))
        all_goals
          have V1 : Hid (Bx ((w5.setCell ⟨X, 0, none⟩ (.slice u1 NS.length u2)).setCell ⟨X, 1, none⟩ (.slice u3 ps.length u4)) (w.heap.size + 1) (.slice none 0 0) (.slice none 0 0)) := (Y15.out.setO (by show X ≠ _; omega) _).setO (by show X ≠ _; omega) _
          have V2 : Hid (Bx ((w5.setCell ⟨X, 0, none⟩ (.slice u1 NS.length u2)).setCell ⟨X, 1, none⟩ (.slice u3 ps.length u4)) X (.slice u1 NS.length u2) (.slice u3 ps.length u4)) := (Y25.out.set0 _).set1 _
          have VB : Hid (Below w.heap.size w ((w5.setCell ⟨X, 0, none⟩ (.slice u1 NS.length u2)).setCell ⟨X, 1, none⟩ (.slice u3 ps.length u4))) := (HB5.out.setCell (by show _ ≤ X; omega) _).setCell (by show _ ≤ X; omega) _
          have VD : Hid (DOwn ((w5.setCell ⟨X, 0, none⟩ (.slice u1 NS.length u2)).setCell ⟨X, 1, none⟩ (.slice u3 ps.length u4)) (X + 1) u1 u2 u3 u4 NS ps) := ⟨(HD5.out.s.set (by show X < _; omega) _).set (by show X < _; omega) _, (HD5.out.p.set (by show X < _; omega) _).set (by show X < _; omega) _⟩
          clear q0 q1 qf hck k0 k1 hd5 hd5' hb5
          go_wp2
          try simp only [Act.put, List.getElem_toArray]
          go_roundw
          case rel => exact ⟨k + 1, NB, NS, u1, u2, u3, u4, by omega, by go_num, rfl, HN, V1, V2, VD, VB⟩
          case measure => simp [intOf]; omega
    · have hlt' : ¬ (k : Int) < (ts.length : Int) := by omega
      have HE := Half.out HH.out (fun h => by omega)
      obtain ⟨rfl, rfl⟩ := HE
      have HX' : Hid (DOwn wr (w.heap.size + 1 + 1) x1 x2 x3 x4 FS ps) := HX.out.mono (by omega)
      have r0 := Y1.out.c0
      have r1 := Y1.out.c1
      have rf := Y1.out.fz
      have V9 : Hid (Bx ((wr.setCell ⟨w.heap.size + 1, 0, none⟩ (.slice x1 FS.length x2)).setCell ⟨w.heap.size + 1, 1, none⟩ (.slice x3 ps.length x4)) (w.heap.size + 1) (.slice x1 FS.length x2) (.slice x3 ps.length x4)) := (Y1.out.set0 _).set1 _
      have q0 := V9.out.c0
      have q1 := V9.out.c1
      go_wp2
      refine bodyPost_ret (v := .tuple #[.agg #[.slice x1 FS.length x2, .slice x3 ps.length x4], .bool FB]) (by simp [results, Try.results43, go_sem, q0, q1]) rfl ⟨x1, x2, x3, x4, rfl, ⟨?_, ?_⟩, ?_⟩
      · exact ((HX'.out.s.set (by show w.heap.size + 1 < _; omega) _).set (by show w.heap.size + 1 < _; omega) _).mono (by omega)
      · exact ((HX'.out.p.set (by show w.heap.size + 1 < _; omega) _).set (by show w.heap.size + 1 < _; omega) _).mono (by omega)
      · exact (HB.out.setCell (by show _ ≤ w.heap.size + 1; omega) _).setCell (by show _ ≤ w.heap.size + 1; omega) _

end Go.Proofs.Ytnfkfhpmhhmbaaa
