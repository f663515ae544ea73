/- Logs that are drawn: few records, none long. -/
import Derived.Test.YtekjpoenbcnhdaaGreatPa01
import Derived.Test.YtekjpoenbcnhdaaGreatPa18
import Derived.Test.YtekjpoenbcnhdaaGreatPa07
import Derived.Test.YtekjpoenbcnhdaaGreatPa17
import Derived.Test.YtekjpoenbcnhdaaGreatPa19
namespace Go.Proofs.YtekjpoenbcnhdaaGreat
open Go.RowKit
open DM
open FM

theorem recs_len {s : ByteArray} : ∀ c (acc : List ByteArray) (p : Nat) (l : List ByteArray) (q : Nat), recsGo s c acc p = some (l, q) → l.length = acc.length + c
 | 0, acc, p, l, q, h => by
  simp only [recsGo, Option.some.injEq, Prod.mk.injEq] at h
  rw [← h.1]; rfl
 | c + 1, acc, p, l, q, h => by
  cases hr : rec1 s p with
  | none => have := recs_none h hr; cases this
  | some x =>
   obtain ⟨t, p'⟩ := x
   have h2 := recs_len c _ _ _ _ (recs_some h hr)
   rw [h2, List.length_append, List.length_singleton]
   omega
def fsF (F : List UInt8) : Nat := (F[0]?.getD 0).toNat
theorem act_flat {ss : List ByteArray} (h64 : ∀ s ∈ ss, s.size = 64) (h0 : 0 < ss.length) : fb (rdR ss [] 0) = (fsF (flat ss) : Int) ∧ act ss [] = (fsF (flat ss) : Int) % 2 := by
 have e : fb (rdR ss [] 0) = (fsF (flat ss) : Int) := by
  have e0 : ss.getD 0 ByteArray.empty = ss[0] := getD_at h0
  have e1 : ss[0].size = 64 := h64 _ (List.getElem_mem h0)
  have e2 := flat_get ss h64 0 0 (by omega)
  rw [show 0 * 64 + 0 = 0 from rfl, List.getElem?_eq_getElem h0] at e2
  have e3 := rdR_nil ss 0 h0
  rw [show ((0 : Nat) : Int) = 0 from rfl] at e3
  unfold fsF
  rw [e3, e0, e2, fb_pos (by omega)]
  simp only [Option.bind_some]
  rw [List.getElem?_eq_getElem (by rw [FM.len64 e1]; omega)]
  rfl
 exact ⟨e, by unfold act; rw [e]⟩

theorem turn_read {ss : List ByteArray} (hlog : logB ss [] = true) : logB (flS ss (tuW ss [])) [] = true ∧ (∀ b, isA b = true → raO (flS ss (tuW ss [])) [] b = raO ss [] b) ∧ act (flS ss (tuW ss [])) [] = 1 - act ss [] := by
 have hp := logB_parts hlog
 have h64 := (okB_iff.1 hp.1).2.2.2.1
 have hF := flat97 hp.1 hp.2.1
 have hf := fl_wb hp.1 0 0 [UInt8.ofNat ((fb (rdR ss [] 0)).toNat + 1)] (by simp) (by have := hp.2.1; simp; omega)
 have h97 : (flS ss (tuW ss [])).length = 97 := by unfold tuW; rw [hf.2.1, hp.2.1]
 have h64' : ∀ s ∈ flS ss (tuW ss []), s.size = 64 := (okB_iff.1 hf.1).2.2.2.1
 have ef : flat (flS ss (tuW ss [])) = splL (flat ss) 0 [UInt8.ofNat ((fb (rdR ss [] 0)).toNat + 1)] := hf.2.2
 have hr : ∀ b, isA b = true → raF (flat (flS ss (tuW ss []))) b = raF (flat ss) b := fun b hB => by
  have ho := af_off hB
  rw [ef]
  exact raF_out hF hB (by simp) (by simp; omega)
 refine ⟨logB_all hf.1 h97 (fun b hB => by rw [hr b hB]; exact logB_some hlog hB), fun b hB => by rw [raO_flat h64' h97 hB, raO_flat h64 hp.2.1 hB, hr b hB], ?_⟩
 have ha := act_flat h64 (by omega)
 rw [(act_flat h64' (by omega)).2, ha.2, ef]
 have e : fsF (splL (flat ss) 0 [UInt8.ofNat ((fb (rdR ss [] 0)).toNat + 1)]) = (fsF (flat ss) + 1) % 256 := by
  unfold fsF at *
  rw [splL_get _ _ _ (by simp; omega), if_neg (by omega), if_pos (by simp), ha.1]
  simp only [Nat.sub_self, List.getElem?_cons_zero, Option.getD_some, UInt8.toNat_ofNat', Int.toNat_natCast]
 rw [e]
 omega

def LogI (k : Nat) (ss : List ByteArray) : Prop := logB ss [] = true ∧ ∀ a, isA a = true → ∃ l E, raO ss [] a = some (l, E) ∧ l.length ≤ k ∧ E ≤ 91 * k
theorem cnt_len {ss : List ByteArray} (hlog : logB ss [] = true) {a : Int} (hA : isA a = true) {l : List ByteArray} {E : Nat} (h : raO ss [] a = some (l, E)) : cnt ss [] a = (l.length : Int) := by
 have hp := logB_parts hlog
 have h64 := (okB_iff.1 hp.1).2.2.2.1
 rw [raO_flat h64 hp.2.1 hA] at h
 have h2 := recs_len _ _ _ _ _ h
 rw [cnt_flat h64 hp.2.1 hA, h2]
 simp
theorem recL_small {t : ByteArray} (h : t.size ≤ 127) : (recL t).length = t.size + 1 := by
 rw [recL_len, WM.varL_small _ h, List.length_singleton]
 omega
theorem rec_room {ss : List ByteArray} (hlog : logB ss [] = true) {a : Int} (hA : isA a = true) {l : List ByteArray} {E : Nat} (h : raO ss [] a = some (l, E)) {t : ByteArray} (h0 : 0 < t.size) (hl : l.length < 255) (hE : (recL t).length + E ≤ 3008) : recB ss [] a t = true := by
 have hc := cnt_len hlog hA h
 unfold recB
 rw [h, hc, decide_eq_true h0, decide_eq_true (show (l.length : Int) < 255 by omega), decide_eq_true (show (recL t).length + oE (some (l, E)) ≤ 3008 from hE)]
 rfl
theorem LogI.put {k : Nat} {ss : List ByteArray} (h : LogI k ss) (hk : k ≤ 30) {a : Int} (hA : isA a = true) {t : ByteArray} (h0 : 0 < t.size) (h1 : t.size ≤ 90) : recB ss [] a t = true ∧ LogI (k + 1) (putS ss [] a t) := by
 obtain ⟨l, E, hr, hl, hE⟩ := h.2 a hA
 have hs := recL_small (t := t) (by omega)
 have hb := rec_room h.1 hA hr h0 (by omega) (by omega)
 have hp := put_read h.1 hb (by omega)
 refine ⟨hb, hp.2.2, fun b hB => ?_⟩
 by_cases hne : b = a
 ·subst hne
  rw [hr] at hp
  refine ⟨_, _, hp.1, ?_, ?_⟩
  ·rw [List.length_append, List.length_singleton]; show l.length + 1 ≤ k + 1; omega
  ·show E + _ ≤ _; omega
 ·obtain ⟨l2, E2, hr2, hl2, hE2⟩ := h.2 b hB
  exact ⟨l2, E2, by rw [hp.2.1 b hB hne, hr2], by omega, by omega⟩
theorem LogI.mono {k m : Nat} {ss : List ByteArray} (h : LogI k ss) (hk : k ≤ m) : LogI m ss := ⟨h.1, fun a hA => by
 obtain ⟨l, E, hr, hl, hE⟩ := h.2 a hA
 exact ⟨l, E, hr, by omega, by omega⟩⟩
theorem LogI.zr {k : Nat} {ss : List ByteArray} (h : LogI k ss) {a : Int} (hA : isA a = true) : LogI k (zrS ss a) := by
 have hz := zr_read h.1 hA
 refine ⟨hz.2.2, fun b hB => ?_⟩
 by_cases hne : b = a
 ·subst hne
  exact ⟨[], 0, hz.1, by simp, by omega⟩
 ·obtain ⟨l2, E2, hr2, hl2, hE2⟩ := h.2 b hB
  exact ⟨l2, E2, by rw [hz.2.1 b hB hne, hr2], hl2, hE2⟩
theorem LogI.turn {k : Nat} {ss : List ByteArray} (h : LogI k ss) : LogI k (flS ss (tuW ss [])) := by
 have ht := turn_read h.1
 refine ⟨ht.1, fun b hB => ?_⟩
 obtain ⟨l2, E2, hr2, hl2, hE2⟩ := h.2 b hB
 exact ⟨l2, E2, by rw [ht.2.1 b hB, hr2], hl2, hE2⟩
theorem LogI.switch {k : Nat} {ss : List ByteArray} (h : LogI k ss) (hk : k ≤ 30) {t : ByteArray} (h0 : 0 < t.size) (h1 : t.size ≤ 90) : swB ss [] [t] = true ∧ LogI (k + 1) (swS ss [] [t]) := by
 have hA : isA (1 - act ss []) = true := oth_A ss []
 have hp := (h.zr hA).put hk hA h0 h1
 have e : fillO (1 - act ss []) (zrS ss (1 - act ss [])) [t] = (putS (zrS ss (1 - act ss [])) [] (1 - act ss []) t, true) := by rw [fillO, if_pos hp.1, fillO]
 have hy := sw_yes (ts := [t]) h.1 (by rw [e])
 refine ⟨hy.1, ?_⟩
 rw [hy.2, e]
 exact hp.2.turn
theorem flat_zeros : ∀ n, flat (zerosS n) = List.replicate (n * 64) 0
 | 0 => rfl
 | n + 1 => by
  rw [show zerosS (n + 1) = longB 64 0 :: zerosS n from rfl, flat, flat_zeros n, show (longB 64 0).data.toList = List.replicate 64 0 by simp [longB], List.replicate_append_replicate]
  congr 1
  omega
theorem LogI.new : LogI 0 lgS := by
 have e : lgS = zerosS 97 := nwS_yes (by decide)
 have h64 : ∀ s ∈ lgS, s.size = 64 := fun s hs => by
  rw [e] at hs
  rw [(List.mem_replicate.1 hs).2]
  decide
 have h97 : lgS.length = 97 := by rw [e]; exact List.length_replicate
 have hok : okB lgS [] = true := okB_iff.2 ⟨by omega, by omega, by simp, h64, fun p hp => by cases hp⟩
 have hr : ∀ a, isA a = true → raF (flat lgS) a = some ([], 0) := fun a hA => by
  have ho := af_off hA
  have hc : cnF (flat lgS) a = 0 := by
   unfold cnF
   rw [e, flat_zeros, List.getElem?_replicate, if_pos (by omega)]
   rfl
  unfold raF
  rw [hc]
  rfl
 refine ⟨logB_all hok h97 (fun a hA => ⟨_, hr a hA⟩), fun a hA => ⟨[], 0, by rw [raO_flat h64 h97 hA, hr a hA], by simp, by omega⟩⟩
end Go.Proofs.YtekjpoenbcnhdaaGreat

namespace Go.Proofs.YtekjpoenbcnhdaaGreat
open Go.RowKit
open DM
attribute [local go_sem ↓] Go.wp_at_zero Go.wp_at_succ

set_option maxRecDepth 100000 in
set_option maxHeartbeats 8000000 in
theorem sapp38 (ss : List ByteArray) (ps : List Wr) (t : ByteArray) (a1 a2 : Option Addr) (c1 c2 B0 : Nat) (hn : ss.length ≤ 1048576) (hm : ps.length ≤ 1048576) (hs : ∀ s ∈ ss, s.size ≤ 1048576) (hp : ∀ p ∈ ps, p.2.size ≤ 1048576) (htz : t.size ≤ 1048576) (w : World) (hd : DOwn w B0 a1 c1 a2 c2 ss ps) :
  Calls Tryz.prog 27 #[.agg #[.slice a1 ss.length c1, .slice a2 ps.length c2], .string t] w fun e w' => ∃ b1 d1 b2 d2, e = .returned (.tuple #[.agg #[.slice b1 (prS ss ps (act ss ps) t).length d1, .slice b2 ps.length d2], .bool (prB ss ps (act ss ps) t)]) ∧ DOwn w' w.heap.size b1 d1 b2 d2 (prS ss ps (act ss ps) t) ps ∧ Below w.heap.size w w' := by
 have HAC : Hid (∀ W : World, Below w.heap.size w W → Calls Tryz.prog 36 #[.agg #[.slice a1 ss.length c1, .slice a2 ps.length c2]] W fun e w' => e = .returned (.int .i64 (act ss ps)) ∧ Below W.heap.size W w') := fun W h => sac25 ss ps a1 a2 c1 c2 (by omega) (by omega) W (hd.s.srow.below h) (hd.p.prow.below h)
 have HPR : Hid (∀ W : World, Below w.heap.size w W → Calls Tryz.prog 64 #[.agg #[.slice a1 ss.length c1, .slice a2 ps.length c2], .int .i64 (act ss ps), .string t] W fun e w' => ∃ b1 d1 b2 d2, e = .returned (.tuple #[.agg #[.slice b1 (prS ss ps (act ss ps) t).length d1, .slice b2 ps.length d2], .bool (prB ss ps (act ss ps) t)]) ∧ DOwn w' W.heap.size b1 d1 b2 d2 (prS ss ps (act ss ps) t) ps ∧ Below W.heap.size W w') := fun W h => spr36 ss ps (act ss ps) t a1 a2 c1 c2 B0 hn hm hs hp htz W (hd.below h)
 have b0 : Hid (Below w.heap.size w ((w.alloc (.cells #[.slice a1 ss.length c1, .slice a2 ps.length c2] 27)).alloc (.cells #[.slice none 0 0, .slice none 0 0] 27))) := ((belowRefl w).alloc (Nat.le_refl _) _).alloc (by simp) _
 have X0 : Hid (Bx ((w.alloc (.cells #[.slice a1 ss.length c1, .slice a2 ps.length c2] 27)).alloc (.cells #[.slice none 0 0, .slice none 0 0] 27)) w.heap.size (.slice a1 ss.length c1) (.slice a2 ps.length c2)) := (Bx.new w _ _ _).alloc _
 have X1 : Hid (Bx ((w.alloc (.cells #[.slice a1 ss.length c1, .slice a2 ps.length c2] 27)).alloc (.cells #[.slice none 0 0, .slice none 0 0] 27)) (w.heap.size + 1) (.slice none 0 0) (.slice none 0 0)) := by
  have h := Bx.new (w.alloc (.cells #[.slice a1 ss.length c1, .slice a2 ps.length c2] 27)) (.slice none 0 0) (.slice none 0 0) 27
  rw [World.size_alloc] at h
  exact h
 have hne : w.heap.size + 1 ≠ w.heap.size := by omega
 clear hs hp hd
 generalize prS ss ps (act ss ps) t = RS at *
 generalize prB ss ps (act ss ps) t = RB at *
 generalize act ss ps = ac at *
 generalize hW0 : ((w.alloc (.cells #[.slice a1 ss.length c1, .slice a2 ps.length c2] 27)).alloc (.cells #[.slice none 0 0, .slice none 0 0] 27)) = W0 at *
 have hz0 : w.heap.size + 1 + 1 ≤ W0.heap.size := by rw [← hW0]; simp
 have g0 := X0.out.c0
 have g1 := X0.out.c1
 go_enter Tryz.func27, Tryz.ntmps27
 go_wp2
 clear hW0
 go_region_held3 (fun w' => w'.cell? ⟨w.heap.size, 0, none⟩ = some (.slice a1 ss.length c1) ∧ w'.cell? ⟨w.heap.size, 1, none⟩ = some (.slice a2 ps.length c2))
  (first | exact ⟨g0, g1⟩ | exact t5.out | exact t8.out | exact ⟨((Y08.out.setO hne _).setO hne _).c0, ((Y08.out.setO hne _).setO hne _).c1⟩)
  ((first
   | (go_at_call 36
      refine (HAC.out _ b0.out.drew).mono ?_
      rintro e w5 ⟨rfl, hb5⟩
      have Y05 : Hid (Bx w5 w.heap.size (.slice a1 ss.length c1) (.slice a2 ps.length c2)) := X0.out.keep (undrew hb5) X0.out.lt
      have Y15 : Hid (Bx w5 (w.heap.size + 1) (.slice none 0 0) (.slice none 0 0)) := X1.out.keep (undrew hb5) X1.out.lt
      have t5 : Hid (w5.cell? ⟨w.heap.size, 0, none⟩ = some (.slice a1 ss.length c1) ∧ w5.cell? ⟨w.heap.size, 1, none⟩ = some (.slice a2 ps.length c2)) := ⟨Y05.out.c0, Y05.out.c1⟩
      have HB5 : Hid (Below w.heap.size w w5) := b0.out.trans ((undrew hb5).mono b0.out.size))
   | (go_at_call 64
      refine (HPR.out _ HB5.out).mono ?_
      rintro e w8 ⟨y1, y2, y3, y4, rfl, hd8, hb8⟩
      have Y08 : Hid (Bx w8 w.heap.size (.slice a1 ss.length c1) (.slice a2 ps.length c2)) := Y05.out.keep hb8 Y05.out.lt
      have Y18 : Hid (Bx w8 (w.heap.size + 1) (.slice none 0 0) (.slice none 0 0)) := Y15.out.keep hb8 Y15.out.lt
      have t8 : Hid (w8.cell? ⟨w.heap.size, 0, none⟩ = some (.slice a1 ss.length c1) ∧ w8.cell? ⟨w.heap.size, 1, none⟩ = some (.slice a2 ps.length c2)) := ⟨Y08.out.c0, Y08.out.c1⟩
      have HB8 : Hid (Below w.heap.size w w8) := HB5.out.trans (hb8.mono HB5.out.size)
      have HD8 : Hid (DOwn w8 (w.heap.size + 1 + 1) y1 y2 y3 y4 RS ps) := hd8.mono Y15.out.lt
      have r0 := Y18.out.c0
      have r1 := Y18.out.c1
      have rf := Y18.out.fz)))
 all_goals
  have V9 : Hid (Bx ((w8.setCell ⟨w.heap.size + 1, 0, none⟩ (.slice y1 RS.length y2)).setCell ⟨w.heap.size + 1, 1, none⟩ (.slice y3 ps.length y4)) (w.heap.size + 1) (.slice y1 RS.length y2) (.slice y3 ps.length y4)) := (Y18.out.set0 _).set1 _
  have q0 := V9.out.c0
  have q1 := V9.out.c1
  go_wp2
  refine bodyPost_ret (v := .tuple #[.agg #[.slice y1 RS.length y2, .slice y3 ps.length y4], .bool RB]) (by simp [results, Tryz.results27, go_sem, q0, q1]) rfl ⟨y1, y2, y3, y4, rfl, ⟨?_, ?_⟩, ?_⟩
  ·exact ((HD8.out.s.set (by show w.heap.size + 1 < _; omega) _).set (by show w.heap.size + 1 < _; omega) _).mono (by omega)
  ·exact ((HD8.out.p.set (by show w.heap.size + 1 < _; omega) _).set (by show w.heap.size + 1 < _; omega) _).mono (by omega)
  ·exact (HB8.out.setCell (by show _ ≤ w.heap.size + 1; omega) _).setCell (by show _ ≤ w.heap.size + 1; omega) _

set_option maxRecDepth 100000 in
set_option maxHeartbeats 8000000 in
theorem iapp39 (ss : List ByteArray) (ps : List Wr) (t : ByteArray) (a1 a2 : Option Addr) (c1 c2 : Nat) (hn : ss.length ≤ 1048576) (hm : ps.length ≤ 1048576) (hs : ∀ s ∈ ss, s.size ≤ 1048576) (hp : ∀ p ∈ ps, p.2.size ≤ 1048576) (htz : t.size ≤ 1048576) (w : World) (hsr : SRow w a1 ss) (hpr : PRow w a2 ps) :
  Calls Tryz.prog 29 #[.agg #[.slice a1 ss.length c1, .slice a2 ps.length c2], .string t] w fun e w' => ∃ b1 d1 b2 d2, e = .returned (.tuple #[.agg #[.slice b1 (prS ss ps (act ss ps) t).length d1, .slice b2 ps.length d2], .bool (prB ss ps (act ss ps) t)]) ∧ DOwn w' w.heap.size b1 d1 b2 d2 (prS ss ps (act ss ps) t) ps ∧ Below w.heap.size w w' := by
 have HAC : Hid (∀ W : World, Below w.heap.size w W → Calls Tryz.prog 30 #[.agg #[.slice a1 ss.length c1, .slice a2 ps.length c2]] W fun e w' => e = .returned (.int .i64 (act ss ps)) ∧ Below W.heap.size W w') := fun W h => iac26 ss ps a1 a2 c1 c2 (by omega) (by omega) (fun s h => Nat.le_trans (hs s h) (by omega)) (fun p h => Nat.le_trans (hp p h) (by omega)) W (hsr.below h) (hpr.below h)
 have HPR : Hid (∀ W : World, Below w.heap.size w W → Calls Tryz.prog 65 #[.agg #[.slice a1 ss.length c1, .slice a2 ps.length c2], .int .i64 (act ss ps), .string t] W fun e w' => ∃ b1 d1 b2 d2, e = .returned (.tuple #[.agg #[.slice b1 (prS ss ps (act ss ps) t).length d1, .slice b2 ps.length d2], .bool (prB ss ps (act ss ps) t)]) ∧ DOwn w' W.heap.size b1 d1 b2 d2 (prS ss ps (act ss ps) t) ps ∧ Below W.heap.size W w') := fun W h => ipr37 ss ps (act ss ps) t a1 a2 c1 c2 hn hm hs hp htz W (hsr.below h) (hpr.below h)
 have b0 : Hid (Below w.heap.size w ((w.alloc (.cells #[.slice a1 ss.length c1, .slice a2 ps.length c2] 27)).alloc (.cells #[.slice none 0 0, .slice none 0 0] 27))) := ((belowRefl w).alloc (Nat.le_refl _) _).alloc (by simp) _
 have X0 : Hid (Bx ((w.alloc (.cells #[.slice a1 ss.length c1, .slice a2 ps.length c2] 27)).alloc (.cells #[.slice none 0 0, .slice none 0 0] 27)) w.heap.size (.slice a1 ss.length c1) (.slice a2 ps.length c2)) := (Bx.new w _ _ _).alloc _
 have X1 : Hid (Bx ((w.alloc (.cells #[.slice a1 ss.length c1, .slice a2 ps.length c2] 27)).alloc (.cells #[.slice none 0 0, .slice none 0 0] 27)) (w.heap.size + 1) (.slice none 0 0) (.slice none 0 0)) := by
  have h := Bx.new (w.alloc (.cells #[.slice a1 ss.length c1, .slice a2 ps.length c2] 27)) (.slice none 0 0) (.slice none 0 0) 27
  rw [World.size_alloc] at h
  exact h
 have hne : w.heap.size + 1 ≠ w.heap.size := by omega
 clear hs hp hsr hpr
 generalize prS ss ps (act ss ps) t = RS at *
 generalize prB ss ps (act ss ps) t = RB at *
 generalize act ss ps = ac at *
 generalize hW0 : ((w.alloc (.cells #[.slice a1 ss.length c1, .slice a2 ps.length c2] 27)).alloc (.cells #[.slice none 0 0, .slice none 0 0] 27)) = W0 at *
 have hz0 : w.heap.size + 1 + 1 ≤ W0.heap.size := by rw [← hW0]; simp
 have g0 := X0.out.c0
 have g1 := X0.out.c1
 go_enter Tryz.func29, Tryz.ntmps29
 go_wp2
 clear hW0
 go_region_held3 (fun w' => w'.cell? ⟨w.heap.size, 0, none⟩ = some (.slice a1 ss.length c1) ∧ w'.cell? ⟨w.heap.size, 1, none⟩ = some (.slice a2 ps.length c2))
  (first | exact ⟨g0, g1⟩ | exact t5.out | exact t8.out | exact ⟨((Y08.out.setO hne _).setO hne _).c0, ((Y08.out.setO hne _).setO hne _).c1⟩)
  ((first
   | (go_at_call 30
      refine (HAC.out _ b0.out.drew).mono ?_
      rintro e w5 ⟨rfl, hb5⟩
      have Y05 : Hid (Bx w5 w.heap.size (.slice a1 ss.length c1) (.slice a2 ps.length c2)) := X0.out.keep (undrew hb5) X0.out.lt
      have Y15 : Hid (Bx w5 (w.heap.size + 1) (.slice none 0 0) (.slice none 0 0)) := X1.out.keep (undrew hb5) X1.out.lt
      have t5 : Hid (w5.cell? ⟨w.heap.size, 0, none⟩ = some (.slice a1 ss.length c1) ∧ w5.cell? ⟨w.heap.size, 1, none⟩ = some (.slice a2 ps.length c2)) := ⟨Y05.out.c0, Y05.out.c1⟩
      have HB5 : Hid (Below w.heap.size w w5) := b0.out.trans ((undrew hb5).mono b0.out.size))
   | (go_at_call 65
      refine (HPR.out _ HB5.out).mono ?_
      rintro e w8 ⟨y1, y2, y3, y4, rfl, hd8, hb8⟩
      have Y08 : Hid (Bx w8 w.heap.size (.slice a1 ss.length c1) (.slice a2 ps.length c2)) := Y05.out.keep hb8 Y05.out.lt
      have Y18 : Hid (Bx w8 (w.heap.size + 1) (.slice none 0 0) (.slice none 0 0)) := Y15.out.keep hb8 Y15.out.lt
      have t8 : Hid (w8.cell? ⟨w.heap.size, 0, none⟩ = some (.slice a1 ss.length c1) ∧ w8.cell? ⟨w.heap.size, 1, none⟩ = some (.slice a2 ps.length c2)) := ⟨Y08.out.c0, Y08.out.c1⟩
      have HB8 : Hid (Below w.heap.size w w8) := HB5.out.trans (hb8.mono HB5.out.size)
      have HD8 : Hid (DOwn w8 (w.heap.size + 1 + 1) y1 y2 y3 y4 RS ps) := hd8.mono Y15.out.lt
      have r0 := Y18.out.c0
      have r1 := Y18.out.c1
      have rf := Y18.out.fz)))
 all_goals
  have V9 : Hid (Bx ((w8.setCell ⟨w.heap.size + 1, 0, none⟩ (.slice y1 RS.length y2)).setCell ⟨w.heap.size + 1, 1, none⟩ (.slice y3 ps.length y4)) (w.heap.size + 1) (.slice y1 RS.length y2) (.slice y3 ps.length y4)) := (Y18.out.set0 _).set1 _
  have q0 := V9.out.c0
  have q1 := V9.out.c1
  go_wp2
  refine bodyPost_ret (v := .tuple #[.agg #[.slice y1 RS.length y2, .slice y3 ps.length y4], .bool RB]) (by simp [results, Tryz.results29, go_sem, q0, q1]) rfl ⟨y1, y2, y3, y4, rfl, ⟨?_, ?_⟩, ?_⟩
  ·exact ((HD8.out.s.set (by show w.heap.size + 1 < _; omega) _).set (by show w.heap.size + 1 < _; omega) _).mono (by omega)
  ·exact ((HD8.out.p.set (by show w.heap.size + 1 < _; omega) _).set (by show w.heap.size + 1 < _; omega) _).mono (by omega)
  ·exact (HB8.out.setCell (by show _ ≤ w.heap.size + 1; omega) _).setCell (by show _ ≤ w.heap.size + 1; omega) _

end Go.Proofs.YtekjpoenbcnhdaaGreat

namespace Go.Proofs.YtekjpoenbcnhdaaGreat
open Go.RowKit
open DM
attribute [local go_sem ↓] Go.wp_at_zero Go.wp_at_succ

theorem DOwn.keptG {w w' : World} {base g : Nat} {a1 a2 : Option Addr} {c1 c2 : Nat} {ss : List ByteArray} {ps : List Wr} (h : DOwn w base a1 c1 a2 c2 ss ps) (hg : w.grownBy w' (some g)) (hlt : g < base) : DOwn w' base a1 c1 a2 c2 ss ps :=
 ⟨World.ownsRow.kept h.s hg (by
  cases e : (Value.slice a1 ss.length c1).ownBlock with
  | none => exact Or.inl rfl
  | some k => right; intro e2; have := (World.ownsRow.lt h.s k e).1; have := Option.some.inj e2; omega),
 World.ownsRow.kept h.p hg (by
  cases e : (Value.slice a2 ps.length c2).ownBlock with
  | none => exact Or.inl rfl
  | some k => right; intro e2; have := (World.ownsRow.lt h.p k e).1; have := Option.some.inj e2; omega)⟩
theorem Bx.keptG {w w' : World} {b g : Nat} {x y : Value} (h : Bx w b x y) (hg : w.grownBy w' (some g)) (hlt : g < b) : Bx w' b x y := h.keepG hg (fun e => by have := Option.some.inj e; omega)
theorem srow_one (W : World) (s : ByteArray) : SRow (W.alloc (.cells #[.string s] 9)) (some ⟨W.heap.size, 0, none⟩) [s] := fun _ =>
 ⟨W.heap.size, 0, rfl, by simp, fun j hj => by
  obtain rfl : j = 0 := by simpa using hj
  exact World.cell?_alloc_mark W _ 9 (0, 0) 0⟩

structure DS (w0 : World) (g : Nat) (a : Option Addr) (len cap : Nat) (W : World) : Prop where
 cur : CurOk W g a len cap
 gr : w0.grownBy W (some g)
theorem DS.step {w0 : World} {g : Nat} {a : Option Addr} {len cap : Nat} {W W' : World} (h : DS w0 g a len cap W) (hc : CurOk W' g a len cap) (hg : W.grownBy W' (some g)) : DS w0 g a len cap W' := ⟨hc, grown_trans h.gr hg⟩
theorem DS.call {w0 : World} {g : Nat} {a : Option Addr} {len cap : Nat} {W W' : World} (h : DS w0 g a len cap W) (hg : g < w0.heap.size) (hb : Below W.heap.size W W') : DS w0 g a len cap W' := ⟨h.cur.below hb (Nat.lt_of_lt_of_le hg h.gr.size), grown_trans h.gr (grown_below hb)⟩
theorem DS.alloc {w0 : World} {g : Nat} {a : Option Addr} {len cap : Nat} {W : World} (h : DS w0 g a len cap W) (hg : g < w0.heap.size) (o : Obj) : DS w0 g a len cap (W.alloc o) := h.call hg ((belowRefl W).alloc (Nat.le_refl _) o)
theorem DS.drew {w0 : World} {g : Nat} {a : Option Addr} {len cap : Nat} {W : World} (h : DS w0 g a len cap W) (hg : g < w0.heap.size) : DS w0 g a len cap W.drew := h.call hg (belowRefl W).drew
theorem CodeOk.set {W : World} {a : Option Addr} {len g : Nat} (h : CodeOk W a len g) {B : Nat} (p : Addr) (v : Value) (hp : B ≤ p.block) (hcode : ∀ b off, a = some ⟨b, off, none⟩ → 0 < len → b < B) : CodeOk (W.setCell p v) a len g := fun hl => by
 obtain ⟨b, off, ha, hb, hne, hz⟩ := h hl
 have hbB := hcode b off ha hl
 refine ⟨b, off, ha, by simpa [World.setCell] using hb, hne, fun i hi => ?_⟩
 obtain ⟨z, h0, h1, hc⟩ := hz i hi
 exact ⟨z, h0, h1, (World.cell?_setCell_other _ _ _ _ (fun e => by have := congrArg Addr.block e; simp at this; omega)).trans hc⟩
theorem DS.set {w0 : World} {g : Nat} {a : Option Addr} {len cap : Nat} {W : World} (h : DS w0 g a len cap W) (hg : g < w0.heap.size) (hcode : ∀ b off, a = some ⟨b, off, none⟩ → 0 < len → b < w0.heap.size) (p : Addr) (v : Value) (hp : w0.heap.size ≤ p.block) : DS w0 g a len cap (W.setCell p v) := by
 obtain ⟨i, hh, c, k⟩ := h.cur
 have hne : ∀ j, p ≠ ⟨g, j, none⟩ := fun j e => by have := congrArg Addr.block e; simp at this; omega
 refine ⟨⟨i, hh, ⟨(World.cell?_setCell_other _ _ _ _ (hne 0)).trans c.c0, (World.cell?_setCell_other _ _ _ _ (hne 1)).trans c.c1, (World.cell?_setCell_other _ _ _ _ (hne 2)).trans c.c2, fun j => by rw [World.frozen?_setCell]; exact c.free j, c.i0, c.i1⟩, k.set p v hp hcode⟩, ?_⟩
 have hg2 := h.gr
 refine ⟨hg2.os, hg2.tape, hg2.output, by simpa [World.setCell] using hg2.size, fun j hj hne => ?_⟩
 rw [Below.heap_setCell _ _ _ _ (show j ≠ p.block by omega)]
 exact hg2.block j hj hne
end Go.Proofs.YtekjpoenbcnhdaaGreat

namespace Go.Proofs.YtekjpoenbcnhdaaGreat
open Go.RowKit
open DM
attribute [local go_sem ↓] Go.wp_at_zero Go.wp_at_succ

theorem size3 {x n : Nat} (_ : x < n) : ((1 + x : Nat) : Int) = 1 + (x : Int) := by omega
set_option maxRecDepth 100000 in
set_option maxHeartbeats 8000000 in
theorem slogd73 (g len cap : Nat) (a : Option Addr) (hl : len ≤ 1048576) (w : World) (hc : CurOk w g a len cap) (hg : g < w.heap.size) (hcode : ∀ b off, a = some ⟨b, off, none⟩ → 0 < len → b < w.heap.size) :
  Calls Tryz.prog 26 #[.pointer (some ⟨g, 0, none⟩)] w fun e w' => ∃ (cur : List ByteArray) (b1 : Option Addr) (d1 : Nat) (b2 : Option Addr) (d2 : Nat), e = .returned (.agg #[.slice b1 cur.length d1, .slice b2 lgP.length d2]) ∧ DOwn w' w.heap.size b1 d1 b2 d2 cur lgP ∧ LogI 5 cur ∧ CurOk w' g a len cap ∧ w.grownBy w' (some g) := by
 have HCODE : Hid (∀ b off, a = some ⟨b, off, none⟩ → 0 < len → b < w.heap.size) := hcode
 have HBL : Hid (∀ (n : Nat) (W : World), 0 < n → n ≤ 1000000000 → CurOk W g a len cap → Calls Tryz.prog 19 #[.pointer (some ⟨g, 0, none⟩), .int .i64 (n : Int)] W fun e w' => ∃ x : Nat, x < n ∧ e = .returned (.int .i64 (x : Int)) ∧ CurOk w' g a len cap ∧ W.grownBy w' (some g)) := fun n W h0 h1 h => below21 g len cap a n h0 h1 hl W h
 have HON : Hid (∀ (W : World), CurOk W g a len cap → Calls Tryz.prog 24 #[.pointer (some ⟨g, 0, none⟩), .int .i64 5] W fun e w' => ∃ b : Bool, e = .returned (.bool b) ∧ CurOk w' g a len cap ∧ W.grownBy w' (some g)) := fun W h => once19 g len cap a 5 (by omega) (by omega) hl W h
 have HTX : Hid (∀ (x : Nat) (W : World), x < 90 → DS w g a len cap W → Calls Tryz.prog 63 #[.pointer (some ⟨g, 0, none⟩), .int .i64 (1 + (x : Int))] W fun e w' => ∃ s : ByteArray, (0 < s.size ∧ s.size ≤ 90) ∧ e = .returned (.string s) ∧ CurOk w' g a len cap ∧ W.grownBy w' (some g)) := fun x W hx h => by
  have h2 := text22 g len cap a (1 + x) (by omega) hl W h.cur (Nat.lt_of_lt_of_le hg h.gr.size) (fun b off e h0 => Nat.lt_of_lt_of_le (hcode b off e h0) h.gr.size)
  rw [size3 hx] at h2
  refine h2.mono ?_
  rintro e w' ⟨s, hs, h3⟩
  exact ⟨s, by omega, h3⟩
 obtain ⟨P, hP⟩ : ∃ P, P = lgP := ⟨_, rfl⟩
 have hP0 : P = [] := hP
 have HLN : Hid (∀ W : World, Calls Tryz.prog 62 #[] W fun e w' => ∃ f1 f2 f3 f4, e = .returned (.agg #[.slice f1 lgS.length f2, .slice f3 P.length f4]) ∧ DOwn w' W.heap.size f1 f2 f3 f4 lgS P ∧ Below W.heap.size W w') := fun W => by rw [hP]; exact slog16 W
 have HI0 : Hid (LogI 0 lgS) := LogI.new
 have HB : ∀ (k : Nat) (cur : List ByteArray), LogI k cur → cur.length ≤ 1048576 ∧ P.length ≤ 1048576 ∧ (∀ s ∈ cur, s.size ≤ 1048576) ∧ (∀ p ∈ P, p.2.size ≤ 1048576) := fun k cur h => by
  have hp := logB_parts h.1
  refine ⟨by omega, by rw [hP0]; simp, fun s hs => by have := (okB_iff.1 hp.1).2.2.2.1 s hs; omega, fun p hp => by rw [hP0] at hp; cases hp⟩
 have HAP : Hid (∀ (k : Nat) (cur : List ByteArray) (t : ByteArray), k ≤ 30 → LogI k cur → 0 < t.size ∧ t.size ≤ 90 → ∀ (W : World) (B : Nat) (x1 : Option Addr) (x2 : Nat) (x3 : Option Addr) (x4 : Nat), DOwn W B x1 x2 x3 x4 cur P → Calls Tryz.prog 27 #[.agg #[.slice x1 cur.length x2, .slice x3 P.length x4], .string t] W fun e w' => ∃ (nc : List ByteArray) (f1 : Option Addr) (f2 : Nat) (f3 : Option Addr) (f4 : Nat), e = .returned (.tuple #[.agg #[.slice f1 nc.length f2, .slice f3 P.length f4], .bool true]) ∧ DOwn w' W.heap.size f1 f2 f3 f4 nc P ∧ Hid (LogI (k + 1) nc) ∧ Below W.heap.size W w') := fun k cur t hk hI ht W B x1 x2 x3 x4 h => by
  have hb := HB k cur hI
  have h2 := sapp38 cur P t x1 x3 x2 x4 B hb.1 hb.2.1 hb.2.2.1 hb.2.2.2 (by omega) W h
  have hp := hI.put hk (act_01 cur []) ht.1 ht.2
  have e := prS_yes hI.1 hp.1
  rw [hP0] at h2 ⊢
  rw [e.1, e.2] at h2
  refine h2.mono ?_
  rintro e w' ⟨f1, f2, f3, f4, h3, h4, h5⟩
  exact ⟨_, f1, f2, f3, f4, h3, h4, hp.2, h5⟩
 have HSW : Hid (∀ (k : Nat) (cur : List ByteArray) (t : ByteArray) (al : Option Addr) (cl : Nat), k ≤ 30 → LogI k cur → 0 < t.size ∧ t.size ≤ 90 → ∀ (W : World) (B : Nat) (x1 : Option Addr) (x2 : Nat) (x3 : Option Addr) (x4 : Nat), DOwn W B x1 x2 x3 x4 cur P → SRow W al [t] → Calls Tryz.prog 46 #[.agg #[.slice x1 cur.length x2, .slice x3 P.length x4], .slice al 1 cl] W fun e w' => ∃ (nc : List ByteArray) (f1 : Option Addr) (f2 : Nat) (f3 : Option Addr) (f4 : Nat), e = .returned (.tuple #[.agg #[.slice f1 nc.length f2, .slice f3 P.length f4], .bool true]) ∧ DOwn w' W.heap.size f1 f2 f3 f4 nc P ∧ Hid (LogI (k + 1) nc) ∧ Below W.heap.size W w') := fun k cur t al cl hk hI ht W B x1 x2 x3 x4 h hr => by
  have hb := HB k cur hI
  have h2 := ssw41 cur P [t] x1 x3 al x2 x4 cl B hb.1 hb.2.1 hb.2.2.1 hb.2.2.2 (by simp) (fun s hs => by rw [List.mem_singleton.1 hs]; omega) W h hr
  have hp := hI.switch hk ht.1 ht.2
  rw [hP0] at h2 ⊢
  rw [hp.1] at h2
  refine h2.mono ?_
  rintro e w' ⟨f1, f2, f3, f4, h3, h4, h5⟩
  exact ⟨_, f1, f2, f3, f4, h3, h4, hp.2, h5⟩
 have DS0 : Hid (DS w g a len cap w) := ⟨hc, grown_refl w _⟩
 rw [← hP]
 clear hP hP0 HB hc hcode
 have YR0 : Hid (Bx (w.alloc (.cells #[.slice none 0 0, .slice none 0 0] 27)) w.heap.size (.slice none 0 0) (.slice none 0 0)) := Bx.new w _ _ 27
 have DS1 : Hid (DS w g a len cap (w.alloc (.cells #[.slice none 0 0, .slice none 0 0] 27))) := DS0.out.alloc hg _
 have z0 : w.heap.size + 1 ≤ (w.alloc (.cells #[.slice none 0 0, .slice none 0 0] 27)).heap.size := by simp
 go_enter Tryz.func26, Tryz.ntmps26
 go_wp2_with fail
 refine (HLN.out _).mono ?_
 rintro e w1 ⟨z1, z2, z3, z4, rfl, hd1, hb1⟩
 have YR1 : Hid (Bx (w1.alloc (.cells #[.slice z1 lgS.length z2, .slice z3 P.length z4] 27)) w.heap.size (.slice none 0 0) (.slice none 0 0)) := (YR0.out.keep hb1 YR0.out.lt).alloc _
 have YX1 : Hid (Bx (w1.alloc (.cells #[.slice z1 lgS.length z2, .slice z3 P.length z4] 27)) w1.heap.size (.slice z1 lgS.length z2) (.slice z3 P.length z4)) := Bx.new w1 _ _ 27
 have DX1 : Hid (DOwn (w1.alloc (.cells #[.slice z1 lgS.length z2, .slice z3 P.length z4] 27)) (w.heap.size + 1) z1 z2 z3 z4 lgS P) := (hd1.mono z0).below ((belowRefl w1).alloc (Nat.le_refl _) _)
 have hT1 : Hid (DOwn w1 w.heap.size z1 z2 z3 z4 lgS P) := hd1.mono (by omega)
 have DS2 : Hid (DS w g a len cap (w1.alloc (.cells #[.slice z1 lgS.length z2, .slice z3 P.length z4] 27))) := (DS1.out.call hg hb1).alloc hg _
 have hX : w.heap.size + 1 ≤ w1.heap.size := Nat.le_trans z0 hb1.size
 clear hd1 hb1 z0 YR0 DS1 DS0 hT1
 go_wp2
 generalize w1.heap.size = X at *
 go_loopw [4] (fun ti wr => ∃ (k : Nat) (cur : List ByteArray) (x1 : Option Addr) (x2 : Nat) (x3 : Option Addr) (x4 : Nat), k ≤ 5 ∧ ti = .int .i64 k ∧ Hid (LogI k cur) ∧ Hid (Bx wr w.heap.size (.slice none 0 0) (.slice none 0 0)) ∧ Hid (Bx wr X (.slice x1 cur.length x2) (.slice x3 P.length x4)) ∧ Hid (DOwn wr (w.heap.size + 1) x1 x2 x3 x4 cur P) ∧ Hid (DS w g a len cap wr)) (fun ti _ => 6 - (intOf ti).toNat)
 case atStart => exact ⟨0, lgS, z1, z2, z3, z4, by omega, rfl, HI0, YR1, YX1, DX1, DS2⟩
 case round =>
  clear HI0 YR1 YX1 DX1 DS2 HLN
  obtain ⟨k, cur, x1, x2, x3, x4, hk, rfl, HI, YRr, YXr, DXr, DSr⟩ := hrel
  go_wp2_with fail
  refine (HBL.out 6 _ (by omega) (by omega) DSr.out.cur).mono ?_
  rintro e w2 ⟨x, hx, rfl, hc2, hg2⟩
  have YR2 : Hid (Bx w2 w.heap.size (.slice none 0 0) (.slice none 0 0)) := YRr.out.keptG hg2 hg
  have YX2 : Hid (Bx w2 X (.slice x1 cur.length x2) (.slice x3 P.length x4)) := YXr.out.keptG hg2 (by omega)
  have DX2 : Hid (DOwn w2 (w.heap.size + 1) x1 x2 x3 x4 cur P) := DXr.out.keptG hg2 (by omega)
  have DS2 : Hid (DS w g a len cap w2) := DSr.out.step hc2 hg2
  clear hc2 hg2 YRr YXr DXr DSr
  by_cases hkx : k < x
  ·have hkx' : (k : Int) < (x : Int) := by omega
   have hk4 : k ≤ 4 := by omega
   clear hx
   go_wp2_with fail
   refine (HON.out _ DS2.out.cur).mono ?_
   rintro e w3 ⟨b, rfl, hc3, hg3⟩
   have YR3 : Hid (Bx w3 w.heap.size (.slice none 0 0) (.slice none 0 0)) := YR2.out.keptG hg3 hg
   have YX3 : Hid (Bx w3 X (.slice x1 cur.length x2) (.slice x3 P.length x4)) := YX2.out.keptG hg3 (by omega)
   have DX3 : Hid (DOwn w3 (w.heap.size + 1) x1 x2 x3 x4 cur P) := DX2.out.keptG hg3 (by omega)
   have DS3 : Hid (DS w g a len cap w3) := DS2.out.step hc3 hg3
   have q03 := YX3.out.c0
   have q13 := YX3.out.c1
   have qf3 := YX3.out.fz
   clear hc3 hg3 YR2 YX2 DX2 DS2 hkx hkx'
   cases b with
   | true =>
    go_wp2
    go_region_law (go_simp; first
     | (go_at_call 19
        refine (HBL.out 9 _ (by omega) (by omega) (DS3.out.drew hg).cur).mono ?_
        rintro e w5 ⟨x, hx, rfl, hc5, hg5'⟩
        have hg5 : w3.grownBy w5 (some g) := grown_trans (grown_below (belowRefl w3).drew) hg5'
        have YR5 : Hid (Bx w5 w.heap.size (.slice none 0 0) (.slice none 0 0)) := YR3.out.keptG hg5 hg
        have YX5 : Hid (Bx w5 X (.slice x1 cur.length x2) (.slice x3 P.length x4)) := YX3.out.keptG hg5 (by omega)
        have DX5 : Hid (DOwn w5 (w.heap.size + 1) x1 x2 x3 x4 cur P) := DX3.out.keptG hg5 (by omega)
        have DS5 : Hid (DS w g a len cap w5) := DS3.out.step hc5 hg5
        have q05 := YX5.out.c0
        have q15 := YX5.out.c1
        have hw5 : IntKind.i64.wrap (1 + (x : Int)) = 1 + (x : Int) := by rw [IntKind.wrap_i64]; omega)
     | (go_at_call 63
        refine (HTX.out x _ (by omega) DS5.out).mono ?_
        rintro e w6 ⟨s, hs, rfl, hc6, hg6⟩
        have YR6 : Hid (Bx w6 w.heap.size (.slice none 0 0) (.slice none 0 0)) := YR5.out.keptG hg6 hg
        have YX6 : Hid (Bx w6 X (.slice x1 cur.length x2) (.slice x3 P.length x4)) := YX5.out.keptG hg6 (by omega)
        have DX6 : Hid (DOwn w6 (w.heap.size + 1) x1 x2 x3 x4 cur P) := DX5.out.keptG hg6 (by omega)
        have DS6 : Hid (DS w g a len cap w6) := DS5.out.step hc6 hg6
        have q06 := YX6.out.c0
        have q16 := YX6.out.c1
        have q07 := (YX6.out.alloc (.cells #[.string s] 9)).c0
        have q17 := (YX6.out.alloc (.cells #[.string s] 9)).c1)
     | (go_at_call 46
        refine (HSW.out k cur s _ _ (by omega) HI.out hs _ _ _ _ _ _ (DX6.out.below ((belowRefl w6).alloc (Nat.le_refl _) _)) (srow_one w6 s)).mono ?_
        rintro e w8 ⟨nc, u1, u2, u3, u4, rfl, hd8, HI8, hb8⟩
        have YR8 : Hid (Bx w8 w.heap.size (.slice none 0 0) (.slice none 0 0)) := (YR6.out.alloc _).keep hb8 (YR6.out.alloc _).lt
        have YX8 : Hid (Bx w8 X (.slice x1 cur.length x2) (.slice x3 P.length x4)) := (YX6.out.alloc _).keep hb8 (YX6.out.alloc _).lt
        have DS8 : Hid (DS w g a len cap w8) := (DS6.out.alloc hg _).call hg hb8
        have h6s : X + 1 ≤ w6.heap.size := YX6.out.lt
        have DX8 : Hid (DOwn w8 (X + 1) u1 u2 u3 u4 nc P) := hd8.mono (by simp; omega)
        have q08 := YX8.out.c0
        have q18 := YX8.out.c1
        have qf8 := YX8.out.fz))
    all_goals
     have V1 : Hid (Bx ((w8.setCell ⟨X, 0, none⟩ (.slice u1 nc.length u2)).setCell ⟨X, 1, none⟩ (.slice u3 P.length u4)) w.heap.size (.slice none 0 0) (.slice none 0 0)) := (YR8.out.setO (by show X ≠ _; omega) _).setO (by show X ≠ _; omega) _
     have V2 : Hid (Bx ((w8.setCell ⟨X, 0, none⟩ (.slice u1 nc.length u2)).setCell ⟨X, 1, none⟩ (.slice u3 P.length u4)) X (.slice u1 nc.length u2) (.slice u3 P.length u4)) := (YX8.out.set0 _).set1 _
     have VD : Hid (DOwn ((w8.setCell ⟨X, 0, none⟩ (.slice u1 nc.length u2)).setCell ⟨X, 1, none⟩ (.slice u3 P.length u4)) (w.heap.size + 1) u1 u2 u3 u4 nc P) := ⟨((DX8.out.s.set (by show X < _; omega) _).set (by show X < _; omega) _).mono (by omega), ((DX8.out.p.set (by show X < _; omega) _).set (by show X < _; omega) _).mono (by omega)⟩
     have VS : Hid (DS w g a len cap ((w8.setCell ⟨X, 0, none⟩ (.slice u1 nc.length u2)).setCell ⟨X, 1, none⟩ (.slice u3 P.length u4))) := (DS8.out.set hg HCODE.out _ _ (by show w.heap.size ≤ X; omega)).set hg HCODE.out _ _ (by show w.heap.size ≤ X; omega)
     go_wp2
     try simp only [Act.put, tA]
     go_roundw
     case rel => exact ⟨k + 1, nc, u1, u2, u3, u4, by omega, by go_num, HI8, V1, V2, VD, VS⟩
     case measure => simp [intOf]; omega
   | false =>
    go_wp2
    go_region_law (go_simp; first
     | (go_at_call 19
        refine (HBL.out 90 _ (by omega) (by omega) (DS3.out.drew hg).cur).mono ?_
        rintro e w5 ⟨x, hx, rfl, hc5, hg5'⟩
        have hg5 : w3.grownBy w5 (some g) := grown_trans (grown_below (belowRefl w3).drew) hg5'
        have YR5 : Hid (Bx w5 w.heap.size (.slice none 0 0) (.slice none 0 0)) := YR3.out.keptG hg5 hg
        have YX5 : Hid (Bx w5 X (.slice x1 cur.length x2) (.slice x3 P.length x4)) := YX3.out.keptG hg5 (by omega)
        have DX5 : Hid (DOwn w5 (w.heap.size + 1) x1 x2 x3 x4 cur P) := DX3.out.keptG hg5 (by omega)
        have DS5 : Hid (DS w g a len cap w5) := DS3.out.step hc5 hg5
        have q05 := YX5.out.c0
        have q15 := YX5.out.c1
        have hw5 : IntKind.i64.wrap (1 + (x : Int)) = 1 + (x : Int) := by rw [IntKind.wrap_i64]; omega)
     | (go_at_call 63
        refine (HTX.out x _ (by omega) DS5.out).mono ?_
        rintro e w6 ⟨s, hs, rfl, hc6, hg6⟩
        have YR6 : Hid (Bx w6 w.heap.size (.slice none 0 0) (.slice none 0 0)) := YR5.out.keptG hg6 hg
        have YX6 : Hid (Bx w6 X (.slice x1 cur.length x2) (.slice x3 P.length x4)) := YX5.out.keptG hg6 (by omega)
        have DX6 : Hid (DOwn w6 (w.heap.size + 1) x1 x2 x3 x4 cur P) := DX5.out.keptG hg6 (by omega)
        have DS6 : Hid (DS w g a len cap w6) := DS5.out.step hc6 hg6
        have q06 := YX6.out.c0
        have q16 := YX6.out.c1
        have q07 := (YX6.out.alloc (.cells #[.string s] 9)).c0
        have q17 := (YX6.out.alloc (.cells #[.string s] 9)).c1)
     | (go_at_call 27
        refine (HAP.out k cur s (by omega) HI.out hs _ _ _ _ _ _ DX6.out).mono ?_
        rintro e w8 ⟨nc, u1, u2, u3, u4, rfl, hd8, HI8, hb8⟩
        have YR8 : Hid (Bx w8 w.heap.size (.slice none 0 0) (.slice none 0 0)) := YR6.out.keep hb8 YR6.out.lt
        have YX8 : Hid (Bx w8 X (.slice x1 cur.length x2) (.slice x3 P.length x4)) := YX6.out.keep hb8 YX6.out.lt
        have DS8 : Hid (DS w g a len cap w8) := DS6.out.call hg hb8
        have h6s : X + 1 ≤ w6.heap.size := YX6.out.lt
        have DX8 : Hid (DOwn w8 (X + 1) u1 u2 u3 u4 nc P) := hd8.mono (by omega)
        have q08 := YX8.out.c0
        have q18 := YX8.out.c1
        have qf8 := YX8.out.fz))
    all_goals
     have V1 : Hid (Bx ((w8.setCell ⟨X, 0, none⟩ (.slice u1 nc.length u2)).setCell ⟨X, 1, none⟩ (.slice u3 P.length u4)) w.heap.size (.slice none 0 0) (.slice none 0 0)) := (YR8.out.setO (by show X ≠ _; omega) _).setO (by show X ≠ _; omega) _
     have V2 : Hid (Bx ((w8.setCell ⟨X, 0, none⟩ (.slice u1 nc.length u2)).setCell ⟨X, 1, none⟩ (.slice u3 P.length u4)) X (.slice u1 nc.length u2) (.slice u3 P.length u4)) := (YX8.out.set0 _).set1 _
     have VD : Hid (DOwn ((w8.setCell ⟨X, 0, none⟩ (.slice u1 nc.length u2)).setCell ⟨X, 1, none⟩ (.slice u3 P.length u4)) (w.heap.size + 1) u1 u2 u3 u4 nc P) := ⟨((DX8.out.s.set (by show X < _; omega) _).set (by show X < _; omega) _).mono (by omega), ((DX8.out.p.set (by show X < _; omega) _).set (by show X < _; omega) _).mono (by omega)⟩
     have VS : Hid (DS w g a len cap ((w8.setCell ⟨X, 0, none⟩ (.slice u1 nc.length u2)).setCell ⟨X, 1, none⟩ (.slice u3 P.length u4))) := (DS8.out.set hg HCODE.out _ _ (by show w.heap.size ≤ X; omega)).set hg HCODE.out _ _ (by show w.heap.size ≤ X; omega)
     go_wp2
     try simp only [Act.put, tA]
     go_roundw
     case rel => exact ⟨k + 1, nc, u1, u2, u3, u4, by omega, by go_num, HI8, V1, V2, VD, VS⟩
     case measure => simp [intOf]; omega
  ·have hkx' : ¬ (k : Int) < (x : Int) := by omega
   have q0 := YX2.out.c0
   have q1 := YX2.out.c1
   have r0 := YR2.out.c0
   have r1 := YR2.out.c1
   have rf := YR2.out.fz
   have V9 : Hid (Bx ((w2.setCell ⟨w.heap.size, 0, none⟩ (.slice x1 cur.length x2)).setCell ⟨w.heap.size, 1, none⟩ (.slice x3 P.length x4)) w.heap.size (.slice x1 cur.length x2) (.slice x3 P.length x4)) := (YR2.out.set0 _).set1 _
   have v0 := V9.out.c0
   have v1 := V9.out.c1
   have DS9 : Hid (DS w g a len cap ((w2.setCell ⟨w.heap.size, 0, none⟩ (.slice x1 cur.length x2)).setCell ⟨w.heap.size, 1, none⟩ (.slice x3 P.length x4))) := (DS2.out.set hg HCODE.out _ _ (by show w.heap.size ≤ w.heap.size; omega)).set hg HCODE.out _ _ (by show w.heap.size ≤ w.heap.size; omega)
   go_wp2
   refine bodyPost_ret (v := .agg #[.slice x1 cur.length x2, .slice x3 P.length x4]) (by simp [results, Tryz.results26, go_sem, v0, v1]) rfl ⟨cur, x1, x2, x3, x4, rfl, ⟨?_, ?_⟩, HI.out.mono hk, DS9.out.cur, DS9.out.gr⟩
   ·exact ((DX2.out.s.set (by show w.heap.size < _; omega) _).set (by show w.heap.size < _; omega) _).mono (by omega)
   ·exact ((DX2.out.p.set (by show w.heap.size < _; omega) _).set (by show w.heap.size < _; omega) _).mono (by omega)
end Go.Proofs.YtekjpoenbcnhdaaGreat

namespace Go.Proofs.YtekjpoenbcnhdaaGreat
open Go.RowKit
open DM
attribute [local go_sem ↓] Go.wp_at_zero Go.wp_at_succ

set_option maxRecDepth 100000 in
set_option maxHeartbeats 1000000 in
theorem same20 (a1 a2 : Option Addr) (c1 c2 : Nat) (ss : List ByteArray) (hn : ss.length ≤ 100000000) (w : World) (h1 : SRow w a1 ss) (h2 : SRow w a2 ss) :
  Calls Tryz.prog 28 #[.slice a1 ss.length c1, .slice a2 ss.length c2] w fun e w' => e = .returned (.bool true) ∧ Below w.heap.size w w' := by
 have H1 : Hid (SRow w a1 ss) := h1
 have H2 : Hid (SRow w a2 ss) := h2
 clear h1 h2
 go_enter Tryz.func28, Tryz.ntmps28
 go_wp2
 go_loopw [5] (fun t wr => ∃ k : Nat, k ≤ ss.length ∧ t = .int .i64 k ∧ Hid (Below w.heap.size w wr)) (fun t _ => ss.length - (intOf t).toNat)
 case atStart => exact ⟨0, Nat.zero_le _, rfl, Below.refl _ _⟩
 case round =>
  obtain ⟨k, hk, rfl, HB⟩ := hrel
  by_cases hlt : k < ss.length
  ·have hlt' : (k : Int) < (ss.length : Int) := by omega
   have h0 : (0 : Int) ≤ (k : Int) := by omega
   obtain ⟨b1, off1, rfl, hl1, q1⟩ := (H1.out.below HB.out) (by omega)
   obtain ⟨b2, off2, rfl, hl2, q2⟩ := (H2.out.below HB.out) (by omega)
   have r1 := q1 k hlt
   have r2 := q2 k hlt
   clear q1 q2
   go_wp2
   go_quiet (fail)
   go_wp2
   go_roundw
   case rel => exact ⟨k + 1, by omega, by go_num, below_drewN HB.out _⟩
   case measure => simp [intOf]; omega
  ·have hd : ¬ (k : Int) < (ss.length : Int) := by omega
   go_wp2
   go_ret
   exact ⟨rfl, HB.out⟩

set_option maxHeartbeats 400000 in
theorem big10 (len cap : Nat) (a : Option Addr) (w : World) :
  Calls Tryz.prog 4 #[.slice a len cap] w fun e w' => e = .returned (.bool (decide ((1048576 : Int) < (len : Int)))) ∧ w' = w := by
 go_enter Tryz.func4, Tryz.ntmps4
 go_wp2
 go_ret
 exact ⟨rfl, rfl⟩

set_option maxRecDepth 100000 in
set_option maxHeartbeats 2000000 in
theorem ilt32 (ss : List ByteArray) (ps : List Wr) (a1 a2 : Option Addr) (c1 c2 : Nat) (hn : ss.length ≤ 1048576) (hm : ps.length ≤ 1048576) (hs : ∀ s ∈ ss, s.size ≤ 1048576) (hp : ∀ p ∈ ps, p.2.size ≤ 1048576) (hz : ∀ b, (arT ss ps b).size ≤ 20000) (w : World) (hsr : SRow w a1 ss) (hpr : PRow w a2 ps) :
  Calls Tryz.prog 50 #[.agg #[.slice a1 ss.length c1, .slice a2 ps.length c2]] w fun e w' => ∃ v, e = .returned v ∧ SOwn w' w.heap.size v (oL (raO ss ps (act ss ps))) ∧ Below w.heap.size w w' := by
 have HAC : Hid (∀ W : World, Below w.heap.size w W → Calls Tryz.prog 30 #[.agg #[.slice a1 ss.length c1, .slice a2 ps.length c2]] W fun e w' => e = .returned (.int .i64 (act ss ps)) ∧ Below W.heap.size W w') := fun W h => iac26 ss ps a1 a2 c1 c2 (by omega) (by omega) (fun s h => Nat.le_trans (hs s h) (by omega)) (fun p h => Nat.le_trans (hp p h) (by omega)) W (hsr.below h) (hpr.below h)
 have HRA : Hid (∀ W : World, Below w.heap.size w W → Calls Tryz.prog 67 #[.agg #[.slice a1 ss.length c1, .slice a2 ps.length c2], .int .i64 (act ss ps)] W fun e w'' => ∃ v, e = .returned (.tuple #[v, .int .i64 (oE (raO ss ps (act ss ps)) : Nat), .bool (oB (raO ss ps (act ss ps)))]) ∧ SOwn w'' W.heap.size v (oL (raO ss ps (act ss ps))) ∧ Below W.heap.size W w'') := fun W h => ira30 ss ps (act ss ps) a1 a2 c1 c2 hn hm hs hp (hz _) W (hsr.below h) (hpr.below h)
 have b0 : Hid (Below w.heap.size w (w.alloc (.cells #[.slice a1 ss.length c1, .slice a2 ps.length c2] 27))) := (belowRefl w).alloc (Nat.le_refl _) _
 have X0 : Hid (Bx (w.alloc (.cells #[.slice a1 ss.length c1, .slice a2 ps.length c2] 27)) w.heap.size (.slice a1 ss.length c1) (.slice a2 ps.length c2)) := Bx.new w _ _ _
 clear hs hp hz hsr hpr
 generalize oL (raO ss ps (act ss ps)) = RL at *
 generalize oE (raO ss ps (act ss ps)) = RE at *
 generalize oB (raO ss ps (act ss ps)) = RB at *
 generalize act ss ps = ac at *
 generalize hW0 : (w.alloc (.cells #[.slice a1 ss.length c1, .slice a2 ps.length c2] 27)) = W0 at *
 have g0 := X0.out.c0
 have g1 := X0.out.c1
 go_enter Tryz.func50, Tryz.ntmps50
 go_wp2
 clear hW0
 go_region_held3 (fun w' => w'.cell? ⟨w.heap.size, 0, none⟩ = some (.slice a1 ss.length c1) ∧ w'.cell? ⟨w.heap.size, 1, none⟩ = some (.slice a2 ps.length c2))
  (first | exact ⟨g0, g1⟩ | exact t5.out | exact t8.out)
  ((first
   | (go_at_call 30
      refine (HAC.out _ b0.out.drew).mono ?_
      rintro e w5 ⟨rfl, hb5⟩
      have Y05 : Hid (Bx w5 w.heap.size (.slice a1 ss.length c1) (.slice a2 ps.length c2)) := X0.out.keep (undrew hb5) X0.out.lt
      have t5 : Hid (w5.cell? ⟨w.heap.size, 0, none⟩ = some (.slice a1 ss.length c1) ∧ w5.cell? ⟨w.heap.size, 1, none⟩ = some (.slice a2 ps.length c2)) := ⟨Y05.out.c0, Y05.out.c1⟩
      have HB5 : Hid (Below w.heap.size w w5) := b0.out.trans ((undrew hb5).mono b0.out.size))
   | (go_at_call 67
      refine (HRA.out _ HB5.out).mono ?_
      rintro e w8 ⟨v, rfl, ho8, hb8⟩
      have Y08 : Hid (Bx w8 w.heap.size (.slice a1 ss.length c1) (.slice a2 ps.length c2)) := Y05.out.keep hb8 Y05.out.lt
      have t8 : Hid (w8.cell? ⟨w.heap.size, 0, none⟩ = some (.slice a1 ss.length c1) ∧ w8.cell? ⟨w.heap.size, 1, none⟩ = some (.slice a2 ps.length c2)) := ⟨Y08.out.c0, Y08.out.c1⟩
      have HB8 : Hid (Below w.heap.size w w8) := HB5.out.trans (hb8.mono HB5.out.size)
      have HO8 : Hid (SOwn w8 w.heap.size v RL) := ho8.mono HB5.out.size)))
 all_goals
  clear ho8 hb8 hb5
  go_wp2
  go_ret
  exact ⟨_, rfl, HO8.out, HB8.out⟩

theorem below_of_grown {B : Nat} {w w' : World} {g : Nat} (h : w.grownBy w' (some g)) (hB : B ≤ g) (hs : B ≤ w.heap.size) : Below B w w' := ⟨h.os, h.tape, h.output, h.size, fun k hk => h.block k (by omega) (fun e => by have := Option.some.inj e; omega)⟩
theorem CurOk.set {W : World} {g len cap : Nat} {a : Option Addr} (h : CurOk W g a len cap) (p : Addr) (v : Value) (hp : p.block ≠ g) (hcode : ∀ b off, a = some ⟨b, off, none⟩ → 0 < len → b < p.block) : CurOk (W.setCell p v) g a len cap := by
 obtain ⟨i, hh, c, k⟩ := h
 have hne : ∀ j, p ≠ ⟨g, j, none⟩ := fun j e => hp (congrArg Addr.block e)
 exact ⟨i, hh, ⟨(World.cell?_setCell_other _ _ _ _ (hne 0)).trans c.c0, (World.cell?_setCell_other _ _ _ _ (hne 1)).trans c.c1, (World.cell?_setCell_other _ _ _ _ (hne 2)).trans c.c2, fun j => by rw [World.frozen?_setCell]; exact c.free j, c.i0, c.i1⟩, k.set p v (Nat.le_refl _) hcode⟩
structure DT (w : World) (g : Nat) (a : Option Addr) (len cap X : Nat) (x1 : Option Addr) (x2 : Nat) (x3 : Option Addr) (x4 : Nat) (cur : List ByteArray) (P : List Wr) (W : World) : Prop where
 ck : CurOk W g a len cap
 b : Below w.heap.size w W
 bx : Bx W X (.slice x1 cur.length x2) (.slice x3 P.length x4)
 d : DOwn W (g + 1) x1 x2 x3 x4 cur P
 gl : w.heap.size < g ∧ g < X
 code : ∀ b off, a = some ⟨b, off, none⟩ → 0 < len → b < w.heap.size
theorem DT.draw {w : World} {g : Nat} {a : Option Addr} {len cap X : Nat} {x1 : Option Addr} {x2 : Nat} {x3 : Option Addr} {x4 : Nat} {cur : List ByteArray} {P : List Wr} {W W' : World} (h : DT w g a len cap X x1 x2 x3 x4 cur P W) (hc : CurOk W' g a len cap) (hg : W.grownBy W' (some g)) : DT w g a len cap X x1 x2 x3 x4 cur P W' :=
 ⟨hc, h.b.trans (below_of_grown hg (by have := h.gl.1; omega) h.b.size), h.bx.keptG hg h.gl.2, h.d.keptG hg (by omega), h.gl, h.code⟩
theorem DT.drew {w : World} {g : Nat} {a : Option Addr} {len cap X : Nat} {x1 : Option Addr} {x2 : Nat} {x3 : Option Addr} {x4 : Nat} {cur : List ByteArray} {P : List Wr} {W : World} (h : DT w g a len cap X x1 x2 x3 x4 cur P W) (hl : g < W.heap.size) : DT w g a len cap X x1 x2 x3 x4 cur P W.drew := h.draw (h.ck.below (belowRefl W).drew hl) (grown_below (belowRefl W).drew)

end Go.Proofs.YtekjpoenbcnhdaaGreat
