/- A log stays one: what is put, set to none, turned; a list filled in. -/
import Derived.Test.YtekjpoenbcnhdaaPb20
import Derived.Test.YtekjpoenbcnhdaaPb18
namespace Go.Proofs.Ytekjpoenbcnhdaa
open Go.RowKit
open DM
open FM

theorem wbGo_len (ss : List ByteArray) (k0 : Nat) : ∀ (f : Nat) (cur : List Wr) (q : Nat) (rest : List UInt8), (wbGo ss k0 f cur q rest).length ≤ cur.length + (q % 64 + rest.length + 63) / 64
  | 0, cur, q, rest => by simp only [wbGo]; omega
  | f + 1, cur, q, rest => by
    simp only [wbGo]
    by_cases hn : rest = []
    · rw [if_pos hn]; omega
    · rw [if_neg hn]
      have hpos : 0 < rest.length := List.length_pos_iff.2 hn
      by_cases hs : rest.length ≤ 64 - q % 64
      · rw [List.drop_of_length_le hs]
        have h := wbGo_nil (ss := ss) (k0 := k0) (f := f) (q := q + min (64 - q % 64) rest.length) (cur := cur ++ [(((k0 + q / 64 : Nat) : Int), spl (rdR ss cur ((k0 + q / 64 : Nat) : Int)) (q % 64) (rest.take (64 - q % 64)))]) rfl
        rw [← h, List.length_append, List.length_singleton]
        omega
      · have h := wbGo_len ss k0 f (cur ++ [(((k0 + q / 64 : Nat) : Int), spl (rdR ss cur ((k0 + q / 64 : Nat) : Int)) (q % 64) (rest.take (64 - q % 64)))]) (q + min (64 - q % 64) rest.length) (rest.drop (64 - q % 64))
        refine Nat.le_trans h ?_
        rw [List.length_append, List.length_drop, List.length_singleton]
        rw [show min (64 - q % 64) rest.length = 64 - q % 64 by omega]
        have e1 : (q + (64 - q % 64)) % 64 = 0 := by omega
        omega
theorem wbGo_okW (ss : List ByteArray) (h64 : ∀ s ∈ ss, s.size = 64) (k0 : Nat) : ∀ (f : Nat) (cur : List Wr) (q : Nat) (rest : List UInt8), (∀ p ∈ cur, okW ss.length p) → k0 * 64 + q + rest.length ≤ ss.length * 64 → ∀ p ∈ wbGo ss k0 f cur q rest, okW ss.length p
  | 0, cur, q, rest, hc, _ => hc
  | f + 1, cur, q, rest, hc, hr => by
    simp only [wbGo]
    by_cases hn : rest = []
    · rw [if_pos hn]; exact hc
    · rw [if_neg hn]
      have hpos : 0 < rest.length := List.length_pos_iff.2 hn
      refine wbGo_okW ss h64 k0 f _ _ _ (fun r hr' => ?_) (by rw [List.length_drop]; omega)
      rcases List.mem_append.1 hr' with hr' | hr'
      · exact hc r hr'
      · obtain rfl := List.mem_singleton.1 hr'
        have hjl : k0 + q / 64 < ss.length := by omega
        have hS64 : ∀ s ∈ flush ss cur, s.size = 64 := flush_64 ss cur h64 (fun p hp => (hc p hp).2.2)
        have hjf : k0 + q / 64 < (flush ss cur).length := by rw [flush_len]; exact hjl
        have hsz : (rdR ss cur ((k0 + q / 64 : Nat) : Int)).size = 64 := by
          rw [rdR_flush ss cur hc _ hjl, List.getD_eq_getElem?_getD, List.getElem?_eq_getElem hjf]
          exact hS64 _ (List.getElem_mem hjf)
        refine ⟨by show (0 : Int) ≤ ((k0 + q / 64 : Nat) : Int); omega, by show ((k0 + q / 64 : Nat) : Int) < _; omega, ?_⟩
        show (spl _ _ _).size = 64
        rw [spl_size _ _ _ (by rw [hsz, List.length_take]; omega), hsz]
theorem wb_ok {ss : List ByteArray} (hok : okB ss [] = true) (k0 q : Nat) (l : List UInt8) (hl : l.length ≤ 3008) (h : k0 * 64 + q + l.length ≤ ss.length * 64) : okB ss (wb ss k0 q l) = true := by
  have hO := okB_iff.1 hok
  have h2 := wbGo_len ss k0 l.length [] q l
  have h3 := wbGo_okW ss hO.2.2.2.1 k0 l.length [] q l (fun p hp => by cases hp) h
  rw [okB_iff]
  refine ⟨hO.1, hO.2.1, ?_, hO.2.2.2.1, fun p hp => ?_⟩
  · have : (wb ss k0 q l).length ≤ 0 + (q % 64 + l.length + 63) / 64 := h2
    omega
  · have := h3 p hp
    exact ⟨this.1, this.2.1, this.2.2⟩

theorem logB_iff {ss : List ByteArray} : logB ss [] = true ↔ okB ss [] = true ∧ ss.length = 97 ∧ (∃ x, raF (flat ss) 0 = some x) ∧ (∃ x, raF (flat ss) 1 = some x) := by
  constructor
  · intro h
    have hp := logB_parts h
    have h64 := (okB_iff.1 hp.1).2.2.2.1
    have h4 := logB_4 hp.1 hp.2.1 rfl
    rw [h] at h4
    have h5 := (Bool.and_eq_true _ _ ▸ h4.symm : oB (raO ss [] 0) = true ∧ oB (raO ss [] 1) = true)
    rw [raO_flat h64 hp.2.1 (by decide), raO_flat h64 hp.2.1 (by decide)] at h5
    exact ⟨hp.1, hp.2.1, Option.isSome_iff_exists.1 h5.1, Option.isSome_iff_exists.1 h5.2⟩
  · rintro ⟨h1, h2, h3, h4⟩
    have h64 := (okB_iff.1 h1).2.2.2.1
    rw [logB_4 h1 h2 rfl, raO_flat h64 h2 (by decide), raO_flat h64 h2 (by decide)]
    unfold oB
    rw [Option.isSome_iff_exists.2 h3, Option.isSome_iff_exists.2 h4]
    rfl
theorem logB_some {ss : List ByteArray} (h : logB ss [] = true) {a : Int} (hA : isA a = true) : ∃ x, raF (flat ss) a = some x := by
  have h2 := logB_iff.1 h
  rcases isA_iff.1 hA with rfl | rfl
  · exact h2.2.2.1
  · exact h2.2.2.2
theorem logB_all {ss : List ByteArray} (h1 : okB ss [] = true) (h2 : ss.length = 97) (h : ∀ a, isA a = true → ∃ x, raF (flat ss) a = some x) : logB ss [] = true := logB_iff.2 ⟨h1, h2, h 0 (by decide), h 1 (by decide)⟩

theorem fl_wb {ss : List ByteArray} (hok : okB ss [] = true) (k0 q : Nat) (l : List UInt8) (hl : l.length ≤ 3008) (h : k0 * 64 + q + l.length ≤ ss.length * 64) : okB (flS ss (wb ss k0 q l)) [] = true ∧ (flS ss (wb ss k0 q l)).length = ss.length ∧ flat (flS ss (wb ss k0 q l)) = splL (flat ss) (k0 * 64 + q) l := by
  have hw := wb_ok hok k0 q l hl h
  have h2 := okB_flush hw
  rw [flP_yes hw] at h2
  refine ⟨h2, flS_length hw, ?_⟩
  rw [flS_yes hw, wb_flat ss (okB_iff.1 hok).2.2.2.1 k0 q l h]
theorem flat97 {ss : List ByteArray} (hok : okB ss [] = true) (h97 : ss.length = 97) : (flat ss).length = 6208 := by rw [flat_len ss (okB_iff.1 hok).2.2.2.1, h97]

theorem put_flat {ss : List ByteArray} {a : Int} {t : ByteArray} (hlog : logB ss [] = true) (hr : recB ss [] a t = true) : okB (putS ss [] a t) [] = true ∧ (putS ss [] a t).length = 97 ∧ flat (putS ss [] a t) = putF (flat ss) a (oE (raO ss [] a)) t := by
  have hp := logB_parts hlog
  have hpt := recB_parts hr
  have hA := hpt.2.2.2.2
  have hin := af_in hA
  have hin1 := af1_in hA
  have e1 := fl_wb hp.1 (af a + 1).toNat (oE (raO ss [] a)) (recL t) (by omega) (by have := hp.2.1; omega)
  have eW : recW ss [] a t = wb ss (af a + 1).toNat (oE (raO ss [] a)) (recL t) := if_pos hr
  rw [← eW] at e1
  have e2 := fl_wb e1.1 (af a).toNat 0 [UInt8.ofNat ((cnt ss [] a).toNat + 1)] (by simp) (by rw [e1.2.1]; have := hp.2.1; simp; omega)
  refine ⟨e2.1, by unfold putS; rw [e2.2.1, e1.2.1, hp.2.1], ?_⟩
  unfold putS
  rw [e2.2.2, e1.2.2, cnt_flat (okB_iff.1 hp.1).2.2.2.1 hp.2.1 hA, Int.toNat_natCast]
  rfl
theorem put_read {ss : List ByteArray} {a : Int} {t : ByteArray} (hlog : logB ss [] = true) (hr : recB ss [] a t = true) (htz : t.size ≤ 1048576) : raO (putS ss [] a t) [] a = some (oL (raO ss [] a) ++ [t], oE (raO ss [] a) + (recL t).length) ∧ (∀ b, isA b = true → b ≠ a → raO (putS ss [] a t) [] b = raO ss [] b) ∧ logB (putS ss [] a t) [] = true := by
  have hp := logB_parts hlog
  have hpt := recB_parts hr
  have hA := hpt.2.2.2.2
  have h64 := (okB_iff.1 hp.1).2.2.2.1
  have hf := put_flat hlog hr
  have h64' := (okB_iff.1 hf.1).2.2.2.1
  have hF := flat97 hp.1 hp.2.1
  obtain ⟨⟨l, E⟩, hx⟩ := logB_some hlog hA
  have hra : raO ss [] a = some (l, E) := by rw [raO_flat h64 hp.2.1 hA, hx]
  have hE : oE (raO ss [] a) = E := by rw [hra]; rfl
  have hL : oL (raO ss [] a) = l := by rw [hra]; rfl
  have hroom := hpt.2.2.2.1
  have hcn := hpt.2.2.1
  rw [cnt_flat h64 hp.2.1 hA] at hcn
  rw [hE] at hroom hf ⊢
  rw [hL]
  have h1 : raF (flat (putS ss [] a t)) a = some (l ++ [t], E + (recL t).length) := by
    rw [hf.2.2]
    exact putF_in hF hA hx hroom hpt.2.1 htz (by omega)
  have h2 : ∀ b, isA b = true → b ≠ a → raF (flat (putS ss [] a t)) b = raF (flat ss) b := fun b hB hne => by
    rw [hf.2.2]
    exact putF_out hF hA hB hne hroom
  refine ⟨by rw [raO_flat h64' hf.2.1 hA, h1], fun b hB hne => by rw [raO_flat h64' hf.2.1 hB, raO_flat h64 hp.2.1 hB, h2 b hB hne], logB_all hf.1 hf.2.1 (fun b hB => ?_)⟩
  by_cases hne : b = a
  · rw [hne]; exact ⟨_, h1⟩
  · rw [h2 b hB hne]; exact logB_some hlog hB

def zrS (ss : List ByteArray) (a : Int) : List ByteArray := flS ss (wb ss (af a).toNat 0 [UInt8.ofNat 0])
theorem zr_read {ss : List ByteArray} {a : Int} (hlog : logB ss [] = true) (hA : isA a = true) : raO (zrS ss a) [] a = some ([], 0) ∧ (∀ b, isA b = true → b ≠ a → raO (zrS ss a) [] b = raO ss [] b) ∧ logB (zrS ss a) [] = true := by
  have hp := logB_parts hlog
  have h64 := (okB_iff.1 hp.1).2.2.2.1
  have hF := flat97 hp.1 hp.2.1
  have hin := af_in hA
  have ho := af_off hA
  have hf := fl_wb hp.1 (af a).toNat 0 [UInt8.ofNat 0] (by simp) (by have := hp.2.1; simp; omega)
  have h64' : ∀ s ∈ zrS ss a, s.size = 64 := (okB_iff.1 hf.1).2.2.2.1
  have h97' : (zrS ss a).length = 97 := by unfold zrS; rw [hf.2.1, hp.2.1]
  have h1 : raF (flat (zrS ss a)) a = some ([], 0) := by
    unfold zrS
    rw [hf.2.2, Nat.add_zero]
    have e : UInt8.ofNat 0 = 0 := by decide
    rw [e]
    exact raF_zero hF hA
  have h2 : ∀ b, isA b = true → b ≠ a → raF (flat (zrS ss a)) b = raF (flat ss) b := fun b hB hne => by
    unfold zrS
    rw [hf.2.2, Nat.add_zero]
    have h3 := af_two hA hB hne
    exact raF_out hF hB (by simp; omega) (by simp; omega)
  refine ⟨by rw [raO_flat h64' h97' hA, h1], fun b hB hne => by rw [raO_flat h64' h97' hB, raO_flat h64 hp.2.1 hB, h2 b hB hne], logB_all hf.1 h97' (fun b hB => ?_)⟩
  by_cases hne : b = a
  · rw [hne]; exact ⟨_, h1⟩
  · rw [h2 b hB hne]; exact logB_some hlog hB

def fillO (a : Int) : List ByteArray → List ByteArray → List ByteArray × Bool
  | cur, [] => (cur, true)
  | cur, t :: ts => if recB cur [] a t = true then fillO a (putS cur [] a t) ts else (cur, false)
theorem fillO_yes {a : Int} {cur : List ByteArray} {ts : List ByteArray} {k : Nat} (hk : k < ts.length) (h : recB cur [] a ts[k] = true) : fillO a cur (ts.drop k) = fillO a (putS cur [] a ts[k]) (ts.drop (k + 1)) := by
  rw [List.drop_eq_getElem_cons hk, fillO, if_pos h]
theorem fillO_no {a : Int} {cur : List ByteArray} {ts : List ByteArray} {k : Nat} (hk : k < ts.length) (h : recB cur [] a ts[k] = false) : fillO a cur (ts.drop k) = (cur, false) := by
  rw [List.drop_eq_getElem_cons hk, fillO, if_neg (by simp [h])]
theorem fillO_end {a : Int} {cur : List ByteArray} {ts : List ByteArray} {k : Nat} (hk : ts.length ≤ k) : fillO a cur (ts.drop k) = (cur, true) := by
  rw [List.drop_of_length_le hk, fillO]
theorem fillO_log {a : Int} : ∀ (ts cur : List ByteArray), (∀ t ∈ ts, t.size ≤ 1048576) → logB cur [] = true → logB (fillO a cur ts).1 [] = true
  | [], cur, _, h => h
  | t :: ts, cur, ht, h => by
    rw [fillO]
    by_cases hr : recB cur [] a t = true
    · rw [if_pos hr]
      exact fillO_log ts _ (fun x hx => ht x (List.mem_cons_of_mem _ hx)) (put_read h hr (ht t (List.mem_cons_self ..))).2.2
    · rw [if_neg hr]
      exact h
def oth (ss : List ByteArray) (ps : List Wr) : Int := 1 - act ss ps
theorem oth_A (ss : List ByteArray) (ps : List Wr) : isA (oth ss ps) = true := by
  rcases isA_iff.1 (act_01 ss ps) with h | h <;> (unfold oth; rw [h]; decide)
end Go.Proofs.Ytekjpoenbcnhdaa

namespace Go.Proofs.Ytekjpoenbcnhdaa
open Go.RowKit
open DM
attribute [local go_sem ↓] Go.wp_at_zero Go.wp_at_succ

theorem prS_lp {ss : List ByteArray} {ps : List Wr} {a : Int} {t : ByteArray} (h : logB ss ps = true) : prB ss ps a t = recB ss ps a t ∧ prS ss ps a t = lpS ss ps a t := by
  have e : prB ss ps a t = recB ss ps a t := by simp [prB, h]
  refine ⟨e, ?_⟩
  unfold prS lpS
  rw [e]
theorem recB_na {ss : List ByteArray} {ps : List Wr} {a : Int} {t : ByteArray} (h : isA a = false) : recB ss ps a t = false := by
  cases hb : recB ss ps a t with
  | false => rfl
  | true => rw [(recB_parts hb).2.2.2.2] at h; cases h

set_option maxRecDepth 100000 in
set_option maxHeartbeats 8000000 in
theorem spr36 (ss : List ByteArray) (ps : List Wr) (a : Int) (t : ByteArray) (a1 a2 : Option Addr) (c1 c2 B0 : Nat) (hn : ss.length ≤ 1048576) (hm : ps.length ≤ 1048576) (hs : ∀ s ∈ ss, s.size ≤ 1048576) (hp : ∀ p ∈ ps, p.2.size ≤ 1048576) (htz : t.size ≤ 1048576) (w : World) (hd : DOwn w B0 a1 c1 a2 c2 ss ps) :
    Calls Try.prog 22 #[.agg #[.slice a1 ss.length c1, .slice a2 ps.length c2], .int .i64 a, .string t] w fun e w' => ∃ b1 d1 b2 d2, e = .returned (.tuple #[.agg #[.slice b1 (prS ss ps a t).length d1, .slice b2 ps.length d2], .bool (prB ss ps a t)]) ∧ DOwn w' w.heap.size b1 d1 b2 d2 (prS ss ps a t) ps ∧ Below w.heap.size w w' := by
  have HD : Hid (DOwn w B0 a1 c1 a2 c2 ss ps) := hd
  have HLO : Hid (∀ W : World, DOwn W B0 a1 c1 a2 c2 ss ps → Calls Try.prog 15 #[.agg #[.slice a1 ss.length c1, .slice a2 ps.length c2]] W fun e w' => e = .returned (.bool (logB ss ps)) ∧ Below W.heap.size W w') := fun W h => slok22 ss ps a1 a2 c1 c2 hn hm hs hp W h.s.srow h.p.prow
  have HIN : Hid (∀ W : World, Calls Try.prog 47 #[.int .i64 a, .int .i64 0, .int .i64 1] W fun e w' => e = .returned (.bool (isA a)) ∧ w' = W) := fun W => in57 a 0 1 (isA a) rfl W
  have HCP : Hid (∀ (W : World) (B : Nat) (x1 : Option Addr) (x2 : Nat) (x3 : Option Addr) (x4 : Nat), DOwn W B x1 x2 x3 x4 ss ps → Calls Try.prog 24 #[.agg #[.slice x1 ss.length x2, .slice x3 ps.length x4]] W fun e w' => ∃ f1 f2 f3 f4, e = .returned (.agg #[.slice f1 ss.length f2, .slice f3 ps.length f4]) ∧ DOwn w' W.heap.size f1 f2 f3 f4 ss ps ∧ Below W.heap.size W w') := fun W B x1 x2 x3 x4 h => copy64 ss ps x1 x3 x2 x4 B (by omega) (by omega) W h
  have b0 : Hid (Below w.heap.size w ((w.alloc (.cells #[.slice a1 ss.length c1, .slice a2 ps.length c2] 27)).alloc (.cells #[.slice none 0 0, .slice none 0 0] 27))) := ((belowRefl w).alloc (Nat.le_refl _) _).alloc (by simp) _
  have X0 : Hid (Bx ((w.alloc (.cells #[.slice a1 ss.length c1, .slice a2 ps.length c2] 27)).alloc (.cells #[.slice none 0 0, .slice none 0 0] 27)) w.heap.size (.slice a1 ss.length c1) (.slice a2 ps.length c2)) := (Bx.new w _ _ _).alloc _
  have X1 : Hid (Bx ((w.alloc (.cells #[.slice a1 ss.length c1, .slice a2 ps.length c2] 27)).alloc (.cells #[.slice none 0 0, .slice none 0 0] 27)) (w.heap.size + 1) (.slice none 0 0) (.slice none 0 0)) := by
    have h := Bx.new (w.alloc (.cells #[.slice a1 ss.length c1, .slice a2 ps.length c2] 27)) (.slice none 0 0) (.slice none 0 0) 27
    rw [World.size_alloc] at h
    exact h
  have HD0 : Hid (DOwn ((w.alloc (.cells #[.slice a1 ss.length c1, .slice a2 ps.length c2] 27)).alloc (.cells #[.slice none 0 0, .slice none 0 0] 27)) B0 a1 c1 a2 c2 ss ps) := HD.out.below b0.out
  cases hl : logB ss ps with
  | false =>
    have HN : Hid (prB ss ps a t = false ∧ prS ss ps a t = ss) := prS_no1 hl
    rw [HN.out.1, HN.out.2]
    rw [hl] at HLO
    clear hl hd hs hp HD
    go_enter Try.func22, Try.ntmps22
    go_wp2_with fail
    refine (HLO.out _ HD0.out).mono ?_
    rintro e w1 ⟨rfl, hb1⟩
    have Y01 : Hid (Bx w1 w.heap.size (.slice a1 ss.length c1) (.slice a2 ps.length c2)) := X0.out.keep hb1 X0.out.lt
    have Y11 : Hid (Bx w1 (w.heap.size + 1) (.slice none 0 0) (.slice none 0 0)) := X1.out.keep hb1 X1.out.lt
    have HB1 : Hid (Below w.heap.size w w1) := b0.out.trans (hb1.mono b0.out.size)
    have g01 := Y01.out.c0
    have g11 := Y01.out.c1
    go_wp2_with fail
    refine (HCP.out _ _ _ _ _ _ (HD0.out.below hb1)).mono ?_
    rintro e w9 ⟨y1, y2, y3, y4, rfl, hd9, hb9⟩
    have Y09 : Hid (Bx w9 w.heap.size (.slice a1 ss.length c1) (.slice a2 ps.length c2)) := Y01.out.keep hb9 Y01.out.lt
    have Y19 : Hid (Bx w9 (w.heap.size + 1) (.slice none 0 0) (.slice none 0 0)) := Y11.out.keep hb9 Y11.out.lt
    have HB9 : Hid (Below w.heap.size w w9) := HB1.out.trans (hb9.mono HB1.out.size)
    have g09 := Y09.out.c0
    have g19 := Y09.out.c1
    have HD9 : Hid (DOwn w9 (w.heap.size + 1 + 1) y1 y2 y3 y4 ss ps) := hd9.mono Y11.out.lt
    clear hd9 hb9
    have r0 := Y19.out.c0
    have r1 := Y19.out.c1
    have rf := Y19.out.fz
    have V9 : Hid (Bx ((w9.setCell ⟨w.heap.size + 1, 0, none⟩ (.slice y1 ss.length y2)).setCell ⟨w.heap.size + 1, 1, none⟩ (.slice y3 ps.length y4)) (w.heap.size + 1) (.slice y1 ss.length y2) (.slice y3 ps.length y4)) := (Y19.out.set0 _).set1 _
    have q0 := V9.out.c0
    have q1 := V9.out.c1
    go_wp2
    refine bodyPost_ret (v := .tuple #[.agg #[.slice y1 ss.length y2, .slice y3 ps.length y4], .bool false]) (by simp [results, Try.results22, go_sem, q0, q1]) rfl ⟨y1, y2, y3, y4, rfl, ⟨?_, ?_⟩, ?_⟩
    · exact ((HD9.out.s.set (by show w.heap.size + 1 < _; omega) _).set (by show w.heap.size + 1 < _; omega) _).mono (by omega)
    · exact ((HD9.out.p.set (by show w.heap.size + 1 < _; omega) _).set (by show w.heap.size + 1 < _; omega) _).mono (by omega)
    · exact (HB9.out.setCell (by show _ ≤ w.heap.size + 1; omega) _).setCell (by show _ ≤ w.heap.size + 1; omega) _
  | true =>
    have hpr := prS_lp (a := a) (t := t) hl
    have hlp := logB_parts hl
    rw [hpr.1, hpr.2]
    rw [hl] at HLO
    cases hA : isA a with
    | false =>
      have HN : Hid (recB ss ps a t = false) := recB_na hA
      rw [lpS_no HN.out, HN.out]
      rw [hA] at HIN
      clear hl hd hs hp HD hpr hlp hA
      go_enter Try.func22, Try.ntmps22
      go_wp2_with fail
      refine (HLO.out _ HD0.out).mono ?_
      rintro e w1 ⟨rfl, hb1⟩
      have Y01 : Hid (Bx w1 w.heap.size (.slice a1 ss.length c1) (.slice a2 ps.length c2)) := X0.out.keep hb1 X0.out.lt
      have Y11 : Hid (Bx w1 (w.heap.size + 1) (.slice none 0 0) (.slice none 0 0)) := X1.out.keep hb1 X1.out.lt
      have HB1 : Hid (Below w.heap.size w w1) := b0.out.trans (hb1.mono b0.out.size)
      have g01 := Y01.out.c0
      have g11 := Y01.out.c1
      go_wp2_with fail
      refine (HIN.out _).mono ?_
      rintro e w1 ⟨rfl, rfl⟩
      go_wp2_with fail
      refine (HCP.out _ _ _ _ _ _ (HD0.out.below hb1)).mono ?_
      rintro e w9 ⟨y1, y2, y3, y4, rfl, hd9, hb9⟩
      have Y09 : Hid (Bx w9 w.heap.size (.slice a1 ss.length c1) (.slice a2 ps.length c2)) := Y01.out.keep hb9 Y01.out.lt
      have Y19 : Hid (Bx w9 (w.heap.size + 1) (.slice none 0 0) (.slice none 0 0)) := Y11.out.keep hb9 Y11.out.lt
      have HB9 : Hid (Below w.heap.size w w9) := HB1.out.trans (hb9.mono HB1.out.size)
      have g09 := Y09.out.c0
      have g19 := Y09.out.c1
      have HD9 : Hid (DOwn w9 (w.heap.size + 1 + 1) y1 y2 y3 y4 ss ps) := hd9.mono Y11.out.lt
      clear hd9 hb9
      have r0 := Y19.out.c0
      have r1 := Y19.out.c1
      have rf := Y19.out.fz
      have V9 : Hid (Bx ((w9.setCell ⟨w.heap.size + 1, 0, none⟩ (.slice y1 ss.length y2)).setCell ⟨w.heap.size + 1, 1, none⟩ (.slice y3 ps.length y4)) (w.heap.size + 1) (.slice y1 ss.length y2) (.slice y3 ps.length y4)) := (Y19.out.set0 _).set1 _
      have q0 := V9.out.c0
      have q1 := V9.out.c1
      go_wp2
      refine bodyPost_ret (v := .tuple #[.agg #[.slice y1 ss.length y2, .slice y3 ps.length y4], .bool false]) (by simp [results, Try.results22, go_sem, q0, q1]) rfl ⟨y1, y2, y3, y4, rfl, ⟨?_, ?_⟩, ?_⟩
      · exact ((HD9.out.s.set (by show w.heap.size + 1 < _; omega) _).set (by show w.heap.size + 1 < _; omega) _).mono (by omega)
      · exact ((HD9.out.p.set (by show w.heap.size + 1 < _; omega) _).set (by show w.heap.size + 1 < _; omega) _).mono (by omega)
      · exact (HB9.out.setCell (by show _ ≤ w.heap.size + 1; omega) _).setCell (by show _ ≤ w.heap.size + 1; omega) _
    | true =>
      have HPU : Hid (∀ (W : World) (B : Nat) (x1 : Option Addr) (x2 : Nat) (x3 : Option Addr) (x4 : Nat), DOwn W B x1 x2 x3 x4 ss ps → Calls Try.prog 48 #[.agg #[.slice x1 ss.length x2, .slice x3 ps.length x4], .int .i64 a, .string t] W fun e w' => ∃ f1 f2 f3 f4, e = .returned (.tuple #[.agg #[.slice f1 (lpS ss ps a t).length f2, .slice f3 ps.length f4], .bool (recB ss ps a t)]) ∧ DOwn w' W.heap.size f1 f2 f3 f4 (lpS ss ps a t) ps ∧ Below W.heap.size W w') := fun W B x1 x2 x3 x4 h => sput69 ss ps a t x1 x3 x2 x4 B hA hlp.1 hlp.2.2 hlp.2.1 htz W h
      rw [hA] at HIN
      cases hB : recB ss ps a t with
      | false =>
        rw [lpS_no hB]
        rw [hB, lpS_no hB] at HPU
        clear hl hd hs hp HD hpr hlp hA hB
        go_enter Try.func22, Try.ntmps22
        go_wp2_with fail
        refine (HLO.out _ HD0.out).mono ?_
        rintro e w1 ⟨rfl, hb1⟩
        have Y01 : Hid (Bx w1 w.heap.size (.slice a1 ss.length c1) (.slice a2 ps.length c2)) := X0.out.keep hb1 X0.out.lt
        have Y11 : Hid (Bx w1 (w.heap.size + 1) (.slice none 0 0) (.slice none 0 0)) := X1.out.keep hb1 X1.out.lt
        have HB1 : Hid (Below w.heap.size w w1) := b0.out.trans (hb1.mono b0.out.size)
        have g01 := Y01.out.c0
        have g11 := Y01.out.c1
        go_wp2_with fail
        refine (HIN.out _).mono ?_
        rintro e w1 ⟨rfl, rfl⟩
        go_wp2_with fail
        refine (HPU.out _ _ _ _ _ _ (HD0.out.below hb1)).mono ?_
        rintro e w3 ⟨y1, y2, y3, y4, rfl, hd3, hb3⟩
        have Y03 : Hid (Bx w3 w.heap.size (.slice a1 ss.length c1) (.slice a2 ps.length c2)) := Y01.out.keep hb3 Y01.out.lt
        have Y13 : Hid (Bx w3 (w.heap.size + 1) (.slice none 0 0) (.slice none 0 0)) := Y11.out.keep hb3 Y11.out.lt
        have HB3 : Hid (Below w.heap.size w w3) := HB1.out.trans (hb3.mono HB1.out.size)
        have g03 := Y03.out.c0
        have g13 := Y03.out.c1
        have Y04 : Hid (Bx (w3.alloc (.cells #[.slice y1 ss.length y2, .slice y3 ps.length y4] 27)) w.heap.size (.slice a1 ss.length c1) (.slice a2 ps.length c2)) := Y03.out.alloc _
        have Y14 : Hid (Bx (w3.alloc (.cells #[.slice y1 ss.length y2, .slice y3 ps.length y4] 27)) (w.heap.size + 1) (.slice none 0 0) (.slice none 0 0)) := Y13.out.alloc _
        have Y24 : Hid (Bx (w3.alloc (.cells #[.slice y1 ss.length y2, .slice y3 ps.length y4] 27)) w3.heap.size (.slice y1 ss.length y2) (.slice y3 ps.length y4)) := Bx.new w3 _ _ _
        have HB4 : Hid (Below w.heap.size w (w3.alloc (.cells #[.slice y1 ss.length y2, .slice y3 ps.length y4] 27))) := HB3.out.alloc HB3.out.size _
        have HD4 : Hid (DOwn (w3.alloc (.cells #[.slice y1 ss.length y2, .slice y3 ps.length y4] 27)) B0 a1 c1 a2 c2 ss ps) := ((HD0.out.below hb1).below hb3).below ((belowRefl w3).alloc (Nat.le_refl _) _)
        have HY4 : Hid (DOwn (w3.alloc (.cells #[.slice y1 ss.length y2, .slice y3 ps.length y4] 27)) (w.heap.size + 1 + 1) y1 y2 y3 y4 ss ps) := (hd3.mono Y11.out.lt).below ((belowRefl w3).alloc (Nat.le_refl _) _)
        have g04 := Y04.out.c0
        have g14 := Y04.out.c1
        have g24 := Y24.out.c0
        have g34 := Y24.out.c1
        clear hd3 hb3 hb1
        go_wp2_with fail
        refine (HCP.out _ _ _ _ _ _ HD4.out).mono ?_
        rintro e w9 ⟨z1, z2, z3, z4, rfl, hd9, hb9⟩
        have Y09 : Hid (Bx w9 w.heap.size (.slice a1 ss.length c1) (.slice a2 ps.length c2)) := Y04.out.keep hb9 Y04.out.lt
        have Y19 : Hid (Bx w9 (w.heap.size + 1) (.slice none 0 0) (.slice none 0 0)) := Y14.out.keep hb9 Y14.out.lt
        have HB9 : Hid (Below w.heap.size w w9) := HB4.out.trans (hb9.mono HB4.out.size)
        have g09 := Y09.out.c0
        have g19 := Y09.out.c1
        have HD9 : Hid (DOwn w9 (w.heap.size + 1 + 1) z1 z2 z3 z4 ss ps) := hd9.mono Y14.out.lt
        clear hd9 hb9
        have r0 := Y19.out.c0
        have r1 := Y19.out.c1
        have rf := Y19.out.fz
        have V9 : Hid (Bx ((w9.setCell ⟨w.heap.size + 1, 0, none⟩ (.slice z1 ss.length z2)).setCell ⟨w.heap.size + 1, 1, none⟩ (.slice z3 ps.length z4)) (w.heap.size + 1) (.slice z1 ss.length z2) (.slice z3 ps.length z4)) := (Y19.out.set0 _).set1 _
        have q0 := V9.out.c0
        have q1 := V9.out.c1
        go_wp2
        refine bodyPost_ret (v := .tuple #[.agg #[.slice z1 ss.length z2, .slice z3 ps.length z4], .bool false]) (by simp [results, Try.results22, go_sem, q0, q1]) rfl ⟨z1, z2, z3, z4, rfl, ⟨?_, ?_⟩, ?_⟩
        · exact ((HD9.out.s.set (by show w.heap.size + 1 < _; omega) _).set (by show w.heap.size + 1 < _; omega) _).mono (by omega)
        · exact ((HD9.out.p.set (by show w.heap.size + 1 < _; omega) _).set (by show w.heap.size + 1 < _; omega) _).mono (by omega)
        · exact (HB9.out.setCell (by show _ ≤ w.heap.size + 1; omega) _).setCell (by show _ ≤ w.heap.size + 1; omega) _
      | true =>
        rw [hB] at HPU
        clear hl hd hs hp HD hpr hlp hA hB
        generalize lpS ss ps a t = LP at *
        go_enter Try.func22, Try.ntmps22
        go_wp2_with fail
        refine (HLO.out _ HD0.out).mono ?_
        rintro e w1 ⟨rfl, hb1⟩
        have Y01 : Hid (Bx w1 w.heap.size (.slice a1 ss.length c1) (.slice a2 ps.length c2)) := X0.out.keep hb1 X0.out.lt
        have Y11 : Hid (Bx w1 (w.heap.size + 1) (.slice none 0 0) (.slice none 0 0)) := X1.out.keep hb1 X1.out.lt
        have HB1 : Hid (Below w.heap.size w w1) := b0.out.trans (hb1.mono b0.out.size)
        have g01 := Y01.out.c0
        have g11 := Y01.out.c1
        go_wp2_with fail
        refine (HIN.out _).mono ?_
        rintro e w1 ⟨rfl, rfl⟩
        go_wp2_with fail
        refine (HPU.out _ _ _ _ _ _ (HD0.out.below hb1)).mono ?_
        rintro e w3 ⟨y1, y2, y3, y4, rfl, hd3, hb3⟩
        have Y03 : Hid (Bx w3 w.heap.size (.slice a1 ss.length c1) (.slice a2 ps.length c2)) := Y01.out.keep hb3 Y01.out.lt
        have Y13 : Hid (Bx w3 (w.heap.size + 1) (.slice none 0 0) (.slice none 0 0)) := Y11.out.keep hb3 Y11.out.lt
        have HB3 : Hid (Below w.heap.size w w3) := HB1.out.trans (hb3.mono HB1.out.size)
        have g03 := Y03.out.c0
        have g13 := Y03.out.c1
        have Y04 : Hid (Bx (w3.alloc (.cells #[.slice y1 LP.length y2, .slice y3 ps.length y4] 27)) w.heap.size (.slice a1 ss.length c1) (.slice a2 ps.length c2)) := Y03.out.alloc _
        have Y14 : Hid (Bx (w3.alloc (.cells #[.slice y1 LP.length y2, .slice y3 ps.length y4] 27)) (w.heap.size + 1) (.slice none 0 0) (.slice none 0 0)) := Y13.out.alloc _
        have Y24 : Hid (Bx (w3.alloc (.cells #[.slice y1 LP.length y2, .slice y3 ps.length y4] 27)) w3.heap.size (.slice y1 LP.length y2) (.slice y3 ps.length y4)) := Bx.new w3 _ _ _
        have HB4 : Hid (Below w.heap.size w (w3.alloc (.cells #[.slice y1 LP.length y2, .slice y3 ps.length y4] 27))) := HB3.out.alloc HB3.out.size _
        have HD4 : Hid (DOwn (w3.alloc (.cells #[.slice y1 LP.length y2, .slice y3 ps.length y4] 27)) B0 a1 c1 a2 c2 ss ps) := ((HD0.out.below hb1).below hb3).below ((belowRefl w3).alloc (Nat.le_refl _) _)
        have HY4 : Hid (DOwn (w3.alloc (.cells #[.slice y1 LP.length y2, .slice y3 ps.length y4] 27)) (w.heap.size + 1 + 1) y1 y2 y3 y4 LP ps) := (hd3.mono Y11.out.lt).below ((belowRefl w3).alloc (Nat.le_refl _) _)
        have g04 := Y04.out.c0
        have g14 := Y04.out.c1
        have g24 := Y24.out.c0
        have g34 := Y24.out.c1
        clear hd3 hb3 hb1
        have r0 := Y14.out.c0
        have r1 := Y14.out.c1
        have rf := Y14.out.fz
        have V9 : Hid (Bx (((w3.alloc (.cells #[.slice y1 LP.length y2, .slice y3 ps.length y4] 27)).setCell ⟨w.heap.size + 1, 0, none⟩ (.slice y1 LP.length y2)).setCell ⟨w.heap.size + 1, 1, none⟩ (.slice y3 ps.length y4)) (w.heap.size + 1) (.slice y1 LP.length y2) (.slice y3 ps.length y4)) := (Y14.out.set0 _).set1 _
        have q0 := V9.out.c0
        have q1 := V9.out.c1
        go_wp2
        refine bodyPost_ret (v := .tuple #[.agg #[.slice y1 LP.length y2, .slice y3 ps.length y4], .bool true]) (by simp [results, Try.results22, go_sem, q0, q1]) rfl ⟨y1, y2, y3, y4, rfl, ⟨?_, ?_⟩, ?_⟩
        · exact ((HY4.out.s.set (by show w.heap.size + 1 < _; omega) _).set (by show w.heap.size + 1 < _; omega) _).mono (by omega)
        · exact ((HY4.out.p.set (by show w.heap.size + 1 < _; omega) _).set (by show w.heap.size + 1 < _; omega) _).mono (by omega)
        · exact (HB4.out.setCell (by show _ ≤ w.heap.size + 1; omega) _).setCell (by show _ ≤ w.heap.size + 1; omega) _
end Go.Proofs.Ytekjpoenbcnhdaa
