/- InDoubt of both sides. -/
import Derived.Test.YtmaipaeehalabaaPi17
import Derived.Test.YtmaipaeehalabaaPi20
import Derived.Test.YtmaipaeehalabaaPi03
import Derived.Test.YtmaipaeehalabaaPi04
import Derived.Deep.RegionHeld3
import Derived.Deep.Cut
import Derived.Deep.CutRange
namespace Go.Proofs.Ytmaipaeehalabaa
open Go.RowKit
open KM
attribute [local go_sem ↓] Go.wp_at_zero Go.wp_at_succ

set_option maxRecDepth 100000 in
set_option maxHeartbeats 2000000 in
theorem clone31 (t : ByteArray) (ht : t.size ≤ 1048576) (w : World) : Calls Try.prog 31 #[.string t] w fun e w' => e = .returned (.string t) ∧ Below w.heap.size w w' := by
  go_enter Try.func31, Try.ntmps31
  go_wp2_with fail
  refine (Try.stringslite_Clone t _ (by omega)).mono ?_
  rintro e w1 ⟨rfl, hb⟩
  go_wp2
  go_ret
  exact ⟨rfl, hb⟩

theorem nms_next (xs : List Ta) (k : Nat) (hk : k < xs.length) : nms (xs.take (k + 1)) = nms (xs.take k) ++ [xs[k].t.nm] := by
  unfold nms
  rw [List.take_add_one, List.getElem?_eq_getElem hk, List.map_append]
  rfl

set_option maxRecDepth 100000 in
set_option maxHeartbeats 2000000 in
theorem iindoubt (s : St) (n : Nat) (hx : n = s.e.b.qs.length) (hn : n ≤ 10000000) (hf : ∀ x ∈ s.e.b.qs, x.t.nm.size ≤ 1048576) (w : World) (hp : TRows w s.e.b.qa s.e.b.qs) :
    Calls Try.prog 13 #[.agg #[.slice s.e.b.va s.e.b.vs.length s.e.b.vc, .slice s.e.b.pa s.e.b.ps.length s.e.b.pc, .slice s.e.b.qa n s.e.b.qc, .int .i64 s.e.b.cs, .int .i64 s.e.b.nx, .slice s.e.oa s.e.os.length s.e.oc, .slice s.d.sa s.d.ss.length s.d.sc, .slice s.d.pa s.d.ps.length s.d.pc]] w fun e w' => ∃ (a1 : Option Addr) (c1 : Nat), e = .returned (.slice a1 n c1) ∧ GOwn encS 9 w' w.heap.size (.slice a1 n c1) (nms s.e.b.qs) ∧ Below w.heap.size w w' := by
  have BA0 : Hid (Bx (w.alloc (.cells #[.slice s.e.b.va s.e.b.vs.length s.e.b.vc, .slice s.e.b.pa s.e.b.ps.length s.e.b.pc, .slice s.e.b.qa n s.e.b.qc, .int .i64 s.e.b.cs, .int .i64 s.e.b.nx, .slice s.e.oa s.e.os.length s.e.oc, .slice s.d.sa s.d.ss.length s.d.sc, .slice s.d.pa s.d.ps.length s.d.pc] 33)) w.heap.size [.slice s.e.b.va s.e.b.vs.length s.e.b.vc, .slice s.e.b.pa s.e.b.ps.length s.e.b.pc, .slice s.e.b.qa n s.e.b.qc, .int .i64 s.e.b.cs, .int .i64 s.e.b.nx, .slice s.e.oa s.e.os.length s.e.oc, .slice s.d.sa s.d.ss.length s.d.sc, .slice s.d.pa s.d.ps.length s.d.pc]) := Bx.new w [.slice s.e.b.va s.e.b.vs.length s.e.b.vc, .slice s.e.b.pa s.e.b.ps.length s.e.b.pc, .slice s.e.b.qa n s.e.b.qc, .int .i64 s.e.b.cs, .int .i64 s.e.b.nx, .slice s.e.oa s.e.os.length s.e.oc, .slice s.d.sa s.d.ss.length s.d.sc, .slice s.d.pa s.d.ps.length s.d.pc] 33
  have HB0 : Hid (Below w.heap.size w (w.alloc (.cells #[.slice s.e.b.va s.e.b.vs.length s.e.b.vc, .slice s.e.b.pa s.e.b.ps.length s.e.b.pc, .slice s.e.b.qa n s.e.b.qc, .int .i64 s.e.b.cs, .int .i64 s.e.b.nx, .slice s.e.oa s.e.os.length s.e.oc, .slice s.d.sa s.d.ss.length s.d.sc, .slice s.d.pa s.d.ps.length s.d.pc] 33))) := (belowRefl w).alloc (Nat.le_refl _) _
  have HP : Hid (TRows w s.e.b.qa s.e.b.qs) := hp
  have HX : Hid (n = s.e.b.qs.length) := hx
  have HF : Hid (∀ x ∈ s.e.b.qs, x.t.nm.size ≤ 1048576) := hf
  clear hp hx hf
  go_enter Try.func13, Try.ntmps13
  go_upto_region 1 with fail
  generalize (w.alloc (.cells #[.slice s.e.b.va s.e.b.vs.length s.e.b.vc, .slice s.e.b.pa s.e.b.ps.length s.e.b.pc, .slice s.e.b.qa n s.e.b.qc, .int .i64 s.e.b.cs, .int .i64 s.e.b.nx, .slice s.e.oa s.e.os.length s.e.oc, .slice s.d.sa s.d.ss.length s.d.sc, .slice s.d.pa s.d.ps.length s.d.pc] 33)) = w0 at *
  have x2 := BA0.out.c2
  go_wp2
  obtain ⟨xs, hxs⟩ : ∃ xs, xs = s.e.b.qs := ⟨_, rfl⟩
  rw [← hxs] at HP HX HF
  have HXS := hide hxs
  clear hxs
  generalize s.e.b.qa = qa at *
  go_loopw [3, 11] (fun v t wr => ∃ k : Nat, k ≤ n ∧ t = .int .i64 k ∧ Hid (GOwn encS 9 wr w.heap.size v (nms (xs.take k))) ∧ Hid (Below w.heap.size w wr)) (fun _ t _ => n - (intOf t).toNat)
  case atStart => exact ⟨0, Nat.zero_le _, rfl, GOwn.nil _ _, HB0⟩
  case round =>
    clear BA0 HB0 x2
    obtain ⟨k, hk, rfl, HO, HB⟩ := hrel
    by_cases hlt : k < n
    · have hlt' : (k : Int) < (n : Int) := by omega
      have h0 : (0 : Int) ≤ (k : Int) := by omega
      have hkx : k < xs.length := by rw [← HX.out]; exact hlt
      obtain ⟨b, o, rfl, hbl, hc, -⟩ := (HP.out.below HB.out).cls k hkx
      have HNX : Hid (nms (xs.take (k + 1)) = nms (xs.take k) ++ [xs[k].t.nm]) := nms_next xs k hkx
      have HLn : Hid ((nms (xs.take k)).length ≤ 100000000) := by show _ ≤ _; rw [nms_len]; exact Nat.le_trans (List.length_take_le _ _) (by omega)
      have HNm : Hid (xs[k].t.nm.size ≤ 1048576) := HF.out _ (List.getElem_mem _)
      obtain ⟨x, hx⟩ : ∃ x, x = xs[k] := ⟨_, rfl⟩
      rw [← hx] at hc HNX HNm
      clear hx hkx
      have r0 := hc.c0
      have r1 := hc.c1
      have r2 := hc.c2
      have r3 := hc.c3
      have r4 := hc.c4
      have r5 := hc.c5
      have r6 := hc.c6
      have r7 := hc.c7
      clear hc
      obtain ⟨F, hF⟩ : ∃ F, F = nms (xs.take k) := ⟨_, rfl⟩
      rw [← hF] at HO HNX HLn
      clear hF
      have hln := HLn.out
      have HB1 : Hid (Below w.heap.size w (wr.alloc (.cells #[.int .i64 x.t.id, .int .i64 x.t.st, .int .i64 x.t.snap, .int .i64 x.t.cs, .slice x.ra x.t.rs.length x.rc, .slice x.wa x.t.ws.length x.wc, .bool x.t.out, .string x.t.nm] 66))) := HB.out.alloc HB.out.size _
      have BX1 : Hid (Bx (wr.alloc (.cells #[.int .i64 x.t.id, .int .i64 x.t.st, .int .i64 x.t.snap, .int .i64 x.t.cs, .slice x.ra x.t.rs.length x.rc, .slice x.wa x.t.ws.length x.wc, .bool x.t.out, .string x.t.nm] 66)) wr.heap.size [.int .i64 x.t.id, .int .i64 x.t.st, .int .i64 x.t.snap, .int .i64 x.t.cs, .slice x.ra x.t.rs.length x.rc, .slice x.wa x.t.ws.length x.wc, .bool x.t.out, .string x.t.nm]) := Bx.new wr [.int .i64 x.t.id, .int .i64 x.t.st, .int .i64 x.t.snap, .int .i64 x.t.cs, .slice x.ra x.t.rs.length x.rc, .slice x.wa x.t.ws.length x.wc, .bool x.t.out, .string x.t.nm] 66
      have O1 := hide (HO.out.alloc (.cells #[.int .i64 x.t.id, .int .i64 x.t.st, .int .i64 x.t.snap, .int .i64 x.t.cs, .slice x.ra x.t.rs.length x.rc, .slice x.wa x.t.ws.length x.wc, .bool x.t.out, .string x.t.nm] 66))
      go_upto_region 5 with fail
      clear r0 r1 r2 r3 r4 r5 r6 r7 HO HB
      generalize (wr.alloc (.cells #[.int .i64 x.t.id, .int .i64 x.t.st, .int .i64 x.t.snap, .int .i64 x.t.cs, .slice x.ra x.t.rs.length x.rc, .slice x.wa x.t.ws.length x.wc, .bool x.t.out, .string x.t.nm] 66)) = w1 at *
      have x7 := BX1.out.c7
      go_wp2_with fail
      refine (clone31 x.t.nm HNm.out _).mono ?_
      rintro e w2 ⟨rfl, hb2⟩
      have HB2 : Hid (Below w.heap.size w w2) := HB1.out.trans (hb2.mono HB1.out.size)
      have O2 := hide (O1.out.below hb2)
      clear hb2 x7 BX1 HB1 O1
      go_wp2_with (at_builtin; refine wpAppS rfl _ _ rfl x.t.nm rfl O2.out rfl hln HB2.out.size ?_)
      intro v' w3 ho3 hb3
      have O3 : Hid (GOwn encS 9 w3 w.heap.size v' (F ++ [x.t.nm])) := ho3
      have HB3 : Hid (Below w.heap.size w w3) := HB2.out.trans hb3
      clear ho3 hb3
      go_wp2
      go_roundw
      case rel => exact ⟨k + 1, by omega, by go_num, by rw [HNX.out]; exact O3, HB3⟩
      case measure => simp [intOf]; omega
    · have hd : ¬ (k : Int) < (n : Int) := by omega
      have HE : Hid (xs.take k = xs) := List.take_of_length_le (by rw [← HX.out]; omega)
      rw [HE.out] at HO
      have HL : Hid ((nms xs).length = n) := by show _ = _; rw [nms_len, HX.out]
      obtain ⟨a1, c1, rfl, _⟩ := HO.out.row
      rw [HL.out] at HO ⊢
      go_wp2
      go_ret
      exact ⟨a1, c1, rfl, by rw [← HXS.out]; exact HO.out, HB.out⟩

set_option maxRecDepth 100000 in
set_option maxHeartbeats 2000000 in
theorem sindoubt (s : St) (n : Nat) (hx : n = s.e.b.qs.length) (hn : n ≤ 10000000) (w : World) (hp : TRows w s.e.b.qa s.e.b.qs) :
    Calls Try.prog 11 #[.agg #[.slice s.e.b.va s.e.b.vs.length s.e.b.vc, .slice s.e.b.pa s.e.b.ps.length s.e.b.pc, .slice s.e.b.qa n s.e.b.qc, .int .i64 s.e.b.cs, .int .i64 s.e.b.nx, .slice s.e.oa s.e.os.length s.e.oc, .slice s.d.sa s.d.ss.length s.d.sc, .slice s.d.pa s.d.ps.length s.d.pc]] w fun e w' => ∃ (a1 : Option Addr) (c1 : Nat), e = .returned (.slice a1 n c1) ∧ GOwn encS 9 w' w.heap.size (.slice a1 n c1) (nms s.e.b.qs) ∧ Below w.heap.size w w' := by
  have BA0 : Hid (Bx ((w.alloc (.cells #[.slice s.e.b.va s.e.b.vs.length s.e.b.vc, .slice s.e.b.pa s.e.b.ps.length s.e.b.pc, .slice s.e.b.qa n s.e.b.qc, .int .i64 s.e.b.cs, .int .i64 s.e.b.nx, .slice s.e.oa s.e.os.length s.e.oc, .slice s.d.sa s.d.ss.length s.d.sc, .slice s.d.pa s.d.ps.length s.d.pc] 33)).alloc (.cells #[] 9)) w.heap.size [.slice s.e.b.va s.e.b.vs.length s.e.b.vc, .slice s.e.b.pa s.e.b.ps.length s.e.b.pc, .slice s.e.b.qa n s.e.b.qc, .int .i64 s.e.b.cs, .int .i64 s.e.b.nx, .slice s.e.oa s.e.os.length s.e.oc, .slice s.d.sa s.d.ss.length s.d.sc, .slice s.d.pa s.d.ps.length s.d.pc]) := (Bx.new w [.slice s.e.b.va s.e.b.vs.length s.e.b.vc, .slice s.e.b.pa s.e.b.ps.length s.e.b.pc, .slice s.e.b.qa n s.e.b.qc, .int .i64 s.e.b.cs, .int .i64 s.e.b.nx, .slice s.e.oa s.e.os.length s.e.oc, .slice s.d.sa s.d.ss.length s.d.sc, .slice s.d.pa s.d.ps.length s.d.pc] 33).alloc _
  have HB0 : Hid (Below w.heap.size w ((w.alloc (.cells #[.slice s.e.b.va s.e.b.vs.length s.e.b.vc, .slice s.e.b.pa s.e.b.ps.length s.e.b.pc, .slice s.e.b.qa n s.e.b.qc, .int .i64 s.e.b.cs, .int .i64 s.e.b.nx, .slice s.e.oa s.e.os.length s.e.oc, .slice s.d.sa s.d.ss.length s.d.sc, .slice s.d.pa s.d.ps.length s.d.pc] 33)).alloc (.cells #[] 9))) := ((belowRefl w).alloc (Nat.le_refl _) _).alloc (by simp) _
  have HO0 : Hid (GOwn encS 9 ((w.alloc (.cells #[.slice s.e.b.va s.e.b.vs.length s.e.b.vc, .slice s.e.b.pa s.e.b.ps.length s.e.b.pc, .slice s.e.b.qa n s.e.b.qc, .int .i64 s.e.b.cs, .int .i64 s.e.b.nx, .slice s.e.oa s.e.os.length s.e.oc, .slice s.d.sa s.d.ss.length s.d.sc, .slice s.d.pa s.d.ps.length s.d.pc] 33)).alloc (.cells #[] 9)) (w.heap.size + 1) (.slice (some ⟨w.heap.size + 1, 0, none⟩) 0 0) []) := by
    have h := GOwn.empty (E := encS) (e := 9) (w.alloc (.cells #[.slice s.e.b.va s.e.b.vs.length s.e.b.vc, .slice s.e.b.pa s.e.b.ps.length s.e.b.pc, .slice s.e.b.qa n s.e.b.qc, .int .i64 s.e.b.cs, .int .i64 s.e.b.nx, .slice s.e.oa s.e.os.length s.e.oc, .slice s.d.sa s.d.ss.length s.d.sc, .slice s.d.pa s.d.ps.length s.d.pc] 33)) (w.heap.size + 1) (by simp)
    rw [World.size_alloc] at h
    exact h
  have HP : Hid (TRows w s.e.b.qa s.e.b.qs) := hp
  have HX : Hid (n = s.e.b.qs.length) := hx
  clear hp hx
  go_enter Try.func11, Try.ntmps11
  go_upto_region 2 with fail
  generalize ((w.alloc (.cells #[.slice s.e.b.va s.e.b.vs.length s.e.b.vc, .slice s.e.b.pa s.e.b.ps.length s.e.b.pc, .slice s.e.b.qa n s.e.b.qc, .int .i64 s.e.b.cs, .int .i64 s.e.b.nx, .slice s.e.oa s.e.os.length s.e.oc, .slice s.d.sa s.d.ss.length s.d.sc, .slice s.d.pa s.d.ps.length s.d.pc] 33)).alloc (.cells #[] 9)) = w0 at *
  go_wp2
  obtain ⟨xs, hxs⟩ : ∃ xs, xs = s.e.b.qs := ⟨_, rfl⟩
  rw [← hxs] at HP HX
  have HXS := hide hxs
  clear hxs
  go_loopw [3, 4] (fun v t wr => ∃ k : Nat, k ≤ n ∧ t = .int .i64 k ∧ Hid (GOwn encS 9 wr (w.heap.size + 1) v (nms (xs.take k))) ∧ Hid (Below w.heap.size w wr) ∧ Hid (Bx wr w.heap.size [.slice s.e.b.va s.e.b.vs.length s.e.b.vc, .slice s.e.b.pa s.e.b.ps.length s.e.b.pc, .slice s.e.b.qa n s.e.b.qc, .int .i64 s.e.b.cs, .int .i64 s.e.b.nx, .slice s.e.oa s.e.os.length s.e.oc, .slice s.d.sa s.d.ss.length s.d.sc, .slice s.d.pa s.d.ps.length s.d.pc])) (fun _ t _ => n - (intOf t).toNat)
  case atStart => exact ⟨0, Nat.zero_le _, rfl, HO0, HB0, BA0⟩
  case round =>
    clear BA0 HB0 HO0
    obtain ⟨k, hk, rfl, HO, HB, BA⟩ := hrel
    have x2 := BA.out.c2
    by_cases hlt : k < n
    · have hlt' : (k : Int) < (n : Int) := by omega
      have h0 : (0 : Int) ≤ (k : Int) := by omega
      have hkx : k < xs.length := by rw [← HX.out]; exact hlt
      obtain ⟨b, o, hqa, hbl, hc, -⟩ := (HP.out.below HB.out).cls k hkx
      rw [hqa] at x2
      have HQA := hide hqa
      clear hqa
      have HNX : Hid (nms (xs.take (k + 1)) = nms (xs.take k) ++ [xs[k].t.nm]) := nms_next xs k hkx
      have HLn : Hid ((nms (xs.take k)).length ≤ 100000000) := by show _ ≤ _; rw [nms_len]; exact Nat.le_trans (List.length_take_le _ _) (by omega)
      obtain ⟨x, hx⟩ : ∃ x, x = xs[k] := ⟨_, rfl⟩
      rw [← hx] at hc HNX
      clear hx hkx
      have r7 := hc.c7
      clear hc
      obtain ⟨F, hF⟩ : ∃ F, F = nms (xs.take k) := ⟨_, rfl⟩
      rw [← hF] at HO HNX HLn
      clear hF
      have hln := HLn.out
      have hsz := BA.out.lt
      go_wp2_with (at_builtin; refine wpAppS rfl _ _ rfl x.t.nm rfl HO.out rfl hln (Nat.succ_le_of_lt hsz) ?_)
      intro v' w3 ho3 hb3
      have O3 : Hid (GOwn encS 9 w3 (w.heap.size + 1) v' (F ++ [x.t.nm])) := ho3
      have HB3 : Hid (Below w.heap.size w w3) := HB.out.trans (hb3.mono (Nat.le_succ _))
      have BA3 := hide (bx_low BA.out hb3 (Nat.lt_succ_self _))
      clear ho3 hb3
      go_wp2
      go_roundw
      case rel => exact ⟨k + 1, by omega, by go_num, by rw [HNX.out]; exact O3, HB3, BA3⟩
      case measure => simp [intOf]; omega
    · have hd : ¬ (k : Int) < (n : Int) := by omega
      have HE : Hid (xs.take k = xs) := List.take_of_length_le (by rw [← HX.out]; omega)
      rw [HE.out] at HO
      have HL : Hid ((nms xs).length = n) := by show _ = _; rw [nms_len, HX.out]
      obtain ⟨a1, c1, rfl, _⟩ := HO.out.row
      rw [HL.out] at HO ⊢
      go_wp2
      go_ret
      exact ⟨a1, c1, rfl, by rw [← HXS.out]; exact GOwn.mono HO.out (Nat.le_succ _), HB.out⟩

end Go.Proofs.Ytmaipaeehalabaa
