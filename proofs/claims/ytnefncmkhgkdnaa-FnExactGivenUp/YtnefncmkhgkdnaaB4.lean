/- What stays: the place of one by its name, on both sides. -/
import Derived.Test.YtnefncmkhgkdnaaB3
import Derived.Test.YtnefncmkhgkdnaaN8
import Derived.Deep.RegionHeld3
import Derived.Deep.Cut
import Derived.Deep.CutRange
namespace Go.Proofs.Ytnefncmkhgkdnaa
open Go.RowKit
open KM
attribute [local go_sem ↓] Go.wp_at_zero Go.wp_at_succ

/-- the names of a list -/
def nms (xs : List Ta) : List ByteArray := xs.map (·.t.nm)
theorem nms_len (xs : List Ta) : (nms xs).length = xs.length := by simp [nms]
theorem nms_at (xs : List Ta) (k : Nat) (h : k < xs.length) : (nms xs)[k]'(by rw [nms_len]; exact h) = xs[k].t.nm := by simp [nms]
theorem nms_txs (xs : List Ta) : nms xs = (txs xs).map (·.nm) := by simp [nms, txs, Function.comp_def]
/-- where a text stands first, counted from k on -/
def idxN : List ByteArray → ByteArray → Nat → Int
  | [], _, _ => -1
  | x :: l, s, k => if (x.toList == s.toList) = true then (k : Int) else idxN l s (k + 1)
theorem idx_yes {l : List ByteArray} {s : ByteArray} {k : Nat} (hk : k < l.length) (h : (l[k].toList == s.toList) = true) : idxN (l.drop k) s k = (k : Int) := by
  rw [List.drop_eq_getElem_cons hk]
  unfold idxN
  rw [if_pos h]
theorem idx_no {l : List ByteArray} {s : ByteArray} {k : Nat} (hk : k < l.length) (h : (l[k].toList == s.toList) = false) : idxN (l.drop k) s k = idxN (l.drop (k + 1)) s (k + 1) := by
  rw [List.drop_eq_getElem_cons hk]
  conv => lhs; unfold idxN
  rw [if_neg (by rw [h]; simp)]
theorem idx_end {l : List ByteArray} {s : ByteArray} {k : Nat} (hk : l.length ≤ k) : idxN (l.drop k) s k = -1 := by
  rw [List.drop_of_length_le hk]
  rfl
theorem beq_comm_list (a b : ByteArray) : (a.toList == b.toList) = (b.toList == a.toList) := by
  rw [Bool.eq_iff_iff]
  simp only [beq_iff_eq]
  exact eq_comm

set_option maxRecDepth 100000 in
set_option maxHeartbeats 2000000 in
theorem sreadyat (b : Bb) (nm : ByteArray) (hn : b.qs.length ≤ 10000000) (w : World) (hp : BRows w b) :
    Calls Try.prog 37 #[.agg #[.slice b.va b.vs.length b.vc, .slice b.pa b.ps.length b.pc, .slice b.qa b.qs.length b.qc, .int .i64 b.cs, .int .i64 b.nx], .string nm] w fun e w' => e = .returned (.int .i64 (idxN (nms b.qs) nm 0)) ∧ Below w.heap.size w w' := by
  have BA : Hid (Bx (w.alloc (.cells #[.slice b.va b.vs.length b.vc, .slice b.pa b.ps.length b.pc, .slice b.qa b.qs.length b.qc, .int .i64 b.cs, .int .i64 b.nx] 46)) w.heap.size [.slice b.va b.vs.length b.vc, .slice b.pa b.ps.length b.pc, .slice b.qa b.qs.length b.qc, .int .i64 b.cs, .int .i64 b.nx]) := Bx.new w [.slice b.va b.vs.length b.vc, .slice b.pa b.ps.length b.pc, .slice b.qa b.qs.length b.qc, .int .i64 b.cs, .int .i64 b.nx] 46
  have HB : Hid (Below w.heap.size w (w.alloc (.cells #[.slice b.va b.vs.length b.vc, .slice b.pa b.ps.length b.pc, .slice b.qa b.qs.length b.qc, .int .i64 b.cs, .int .i64 b.nx] 46))) := (belowRefl w).alloc (Nat.le_refl _) _
  have HQ : Hid (TRows (w.alloc (.cells #[.slice b.va b.vs.length b.vc, .slice b.pa b.ps.length b.pc, .slice b.qa b.qs.length b.qc, .int .i64 b.cs, .int .i64 b.nx] 46)) b.qa b.qs) := hp.q.below HB.out
  clear hp
  go_enter Try.func37, Try.ntmps37
  go_upto_region 1 with fail
  generalize (w.alloc (.cells #[.slice b.va b.vs.length b.vc, .slice b.pa b.ps.length b.pc, .slice b.qa b.qs.length b.qc, .int .i64 b.cs, .int .i64 b.nx] 46)) = w0 at *
  go_wp2
  go_loopw [5] (fun t wr => ∃ k : Nat, k ≤ b.qs.length ∧ t = .int .i64 k ∧ Hid (idxN ((nms b.qs).drop k) nm k = idxN (nms b.qs) nm 0) ∧ w0 = wr) (fun t _ => b.qs.length - (intOf t).toNat)
  case atStart => exact ⟨0, Nat.zero_le _, rfl, rfl, rfl⟩
  case round =>
    obtain ⟨k, hk, rfl, HI, rfl⟩ := hrel
    have x2 := BA.out.c2
    by_cases hlt : k < b.qs.length
    · have hlt' : (k : Int) < (b.qs.length : Int) := by omega
      have h0 : (0 : Int) ≤ (k : Int) := by omega
      obtain ⟨b0, o, ha, hbl, hc, -⟩ := HQ.out.cls k hlt
      have r7 := hc.c7
      have hkl : k < (nms b.qs).length := by rw [nms_len]; exact hlt
      have HY : Hid ((b.qs[k].t.nm.toList == nm.toList) = true → (k : Int) = idxN (nms b.qs) nm 0) := fun h => by show _ = _; rw [← HI.out]; exact (idx_yes hkl (by rw [nms_at _ _ hlt]; exact h)).symm
      have HN : Hid ((b.qs[k].t.nm.toList == nm.toList) = false → idxN ((nms b.qs).drop (k + 1)) nm (k + 1) = idxN (nms b.qs) nm 0) := fun h => by show _ = _; rw [← HI.out]; exact (idx_no hkl (by rw [nms_at _ _ hlt]; exact h)).symm
      obtain ⟨x, hx⟩ : ∃ x, x = b.qs[k] := ⟨_, rfl⟩
      rw [← hx] at r7 HY HN
      clear hx hc hbl HI
      cases hq : (x.t.nm.toList == nm.toList)
      · have HR := hide (HN.out hq)
        rw [ha] at x2
        clear HY HN
        go_wp2
        go_roundw
        case rel => exact ⟨k + 1, by omega, by go_num, HR, trivial⟩
        case measure => simp [intOf]; omega
      · have HR : Hid ((k : Int) = idxN (nms b.qs) nm 0) := HY.out hq
        rw [ha] at x2
        clear HY HN
        go_wp2
        go_ret
        exact ⟨ret_int HR.out, HB.out⟩
    · have hd : ¬ (k : Int) < (b.qs.length : Int) := by omega
      have HR : Hid ((-1 : Int) = idxN (nms b.qs) nm 0) := by show _ = _; rw [← HI.out]; exact (idx_end (by rw [nms_len]; omega)).symm
      clear HI
      go_wp2
      go_ret
      exact ⟨ret_int HR.out, HB.out⟩

set_option maxRecDepth 100000 in
set_option maxHeartbeats 2000000 in
theorem idxS (ss : List ByteArray) (a : Option Addr) (c n : Nat) (s : ByteArray) (hx : n = ss.length) (hn : n ≤ 100000000) (w : World) (hp : GRow encS w a ss) :
    Calls Try.prog 110 #[.slice a n c, .string s] w fun e w' => e = .returned (.int .i64 (idxN ss s 0)) ∧ Below w.heap.size w w' := by
  have HP : Hid (GRow encS w a ss) := hp
  have HX : Hid (n = ss.length) := hx
  clear hp hx
  go_enter Try.func110, Try.ntmps110
  go_wp2
  go_loopw [8] (fun t wr => ∃ k : Nat, k ≤ n ∧ t = .int .i64 k ∧ Hid (idxN (ss.drop k) s k = idxN ss s 0) ∧ w = wr) (fun t _ => n - (intOf t).toNat)
  case atStart => exact ⟨0, Nat.zero_le _, rfl, rfl, rfl⟩
  case round =>
    obtain ⟨k, hk, rfl, HI, rfl⟩ := hrel
    by_cases hlt : k < n
    · have hlt' : (k : Int) < (n : Int) := by omega
      have h0 : (0 : Int) ≤ (k : Int) := by omega
      have hkl : k < ss.length := by rw [← HX.out]; exact hlt
      obtain ⟨b, off, rfl, hbl, hc⟩ := HP.out (by omega)
      have r0 := sat hc k hkl
      have HY : Hid ((s.toList == ss[k].toList) = true → (k : Int) = idxN ss s 0) := fun h => by show _ = _; rw [← HI.out]; exact (idx_yes hkl (by rw [beq_comm_list]; exact h)).symm
      have HN : Hid ((s.toList == ss[k].toList) = false → idxN (ss.drop (k + 1)) s (k + 1) = idxN ss s 0) := fun h => by show _ = _; rw [← HI.out]; exact (idx_no hkl (by rw [beq_comm_list]; exact h)).symm
      obtain ⟨x, hx⟩ : ∃ x, x = ss[k] := ⟨_, rfl⟩
      rw [← hx] at r0 HY HN
      clear hx hc hbl HI
      cases hq : (s.toList == x.toList)
      · have HR := hide (HN.out hq)
        clear HY HN
        go_wp2
        go_roundw
        case rel => exact ⟨k + 1, by omega, by go_num, HR, trivial⟩
        case measure => simp [intOf]; omega
      · have HR : Hid ((k : Int) = idxN ss s 0) := HY.out hq
        clear HY HN
        go_wp2
        go_ret
        exact ⟨ret_int HR.out, belowRefl w⟩
    · have hd : ¬ (k : Int) < (n : Int) := by omega
      have HR : Hid ((-1 : Int) = idxN ss s 0) := by show _ = _; rw [← HI.out]; exact (idx_end (by rw [← HX.out]; omega)).symm
      clear HI
      go_wp2
      go_ret
      exact ⟨ret_int HR.out, belowRefl w⟩

theorem bx_low {w w' : World} {b base : Nat} {cs : List Value} (h : Bx w b cs) (hb : Below base w w') (hl : b < base) : Bx w' b cs :=
  ⟨Nat.lt_of_lt_of_le h.lt hb.size, fun j hj => (hb.cell (p := ⟨b, j, none⟩) hl).trans (h.at' j hj), fun j => (hb.frozen (p := ⟨b, j, none⟩) hl).trans (h.fz j)⟩
set_option maxRecDepth 100000 in
set_option maxHeartbeats 2000000 in
theorem key107 (x : Ta) (w : World) : Calls Try.prog 107 #[.agg #[.int .i64 x.t.id, .int .i64 x.t.st, .int .i64 x.t.snap, .int .i64 x.t.cs, .slice x.ra x.t.rs.length x.rc, .slice x.wa x.t.ws.length x.wc, .bool x.t.out, .string x.t.nm]] w fun e w' => e = .returned (.string x.t.nm) ∧ Below w.heap.size w w' := by
  have HB : Hid (Below w.heap.size w (w.alloc (.cells #[.int .i64 x.t.id, .int .i64 x.t.st, .int .i64 x.t.snap, .int .i64 x.t.cs, .slice x.ra x.t.rs.length x.rc, .slice x.wa x.t.ws.length x.wc, .bool x.t.out, .string x.t.nm] 27))) := (belowRefl w).alloc (Nat.le_refl _) _
  go_enter Try.func107, Try.ntmps107
  go_wp2
  go_ret
  exact ⟨rfl, HB.out⟩
theorem ent107 (args : Array Value) (w : World) : (callFunc 107 args).run Try.prog w = .ok (.enter 107 args) w := by kernel_rfl

set_option maxRecDepth 100000 in
set_option maxHeartbeats 2000000 in
theorem keysN (xs : List Ta) (a : Option Addr) (c n : Nat) (hx : n = xs.length) (hn : n ≤ 10000000) (w : World) (hp : TRows w a xs) :
    Calls Try.prog 111 #[.agg #[.slice a n c, .func (.func 107) #[] #[]]] w fun e w' => ∃ (a1 : Option Addr) (c1 : Nat), e = .returned (.slice a1 n c1) ∧ GOwn encS 9 w' w.heap.size (.slice a1 n c1) (nms xs) ∧ Below w.heap.size w w' := by
  have BA0 : Hid (Bx (w.alloc (.cells #[.slice a n c, .func (.func 107) #[] #[]] 85)) w.heap.size [.slice a n c, .func (.func 107) #[] #[]]) := Bx.new w [.slice a n c, .func (.func 107) #[] #[]] 85
  have HB0 : Hid (Below w.heap.size w (w.alloc (.cells #[.slice a n c, .func (.func 107) #[] #[]] 85))) := (belowRefl w).alloc (Nat.le_refl _) _
  have HP : Hid (TRows w a xs) := hp
  have HX : Hid (n = xs.length) := hx
  have hlt1 : w.heap.size < (w.alloc (.cells #[.slice a n c, .func (.func 107) #[] #[]] 85)).heap.size := by simp
  clear hp hx
  go_enter Try.func111, Try.ntmps111
  go_upto_region 1 with fail
  generalize (w.alloc (.cells #[.slice a n c, .func (.func 107) #[] #[]] 85)) = w0 at *
  have x0 := BA0.out.c0
  go_wp2
  go_loopw [3, 9] (fun v t wr => ∃ k : Nat, k ≤ n ∧ t = .int .i64 k ∧ Hid (GOwn encS 9 wr (w.heap.size + 1) v (nms (xs.take k))) ∧ Hid (Below w.heap.size w wr) ∧ Hid (Bx wr w.heap.size [.slice a n c, .func (.func 107) #[] #[]])) (fun _ t _ => n - (intOf t).toNat)
  case atStart => exact ⟨0, Nat.zero_le _, rfl, GOwn.nil _ _, HB0, BA0⟩
  case round =>
    clear BA0 HB0 x0 hlt1
    obtain ⟨k, hk, rfl, HO, HB, BA⟩ := hrel
    by_cases hlt : k < n
    · have hlt' : (k : Int) < (n : Int) := by omega
      have h0 : (0 : Int) ≤ (k : Int) := by omega
      have hkx : k < xs.length := by rw [← HX.out]; exact hlt
      obtain ⟨b, o, rfl, hbl, hc, -⟩ := (HP.out.below HB.out).cls k hkx
      have HNX : Hid (nms (xs.take (k + 1)) = nms (xs.take k) ++ [xs[k].t.nm]) := by
        show _ = _
        unfold nms
        rw [List.take_add_one, List.getElem?_eq_getElem hkx, List.map_append]
        rfl
      have HLn : Hid ((nms (xs.take k)).length ≤ 100000000) := by show _ ≤ _; rw [nms_len]; exact Nat.le_trans (List.length_take_le _ _) (by omega)
      obtain ⟨x, hx⟩ : ∃ x, x = xs[k] := ⟨_, rfl⟩
      rw [← hx] at hc HNX
      clear hx hkx
      have r0 := hc.c0
      have r1 := hc.c1
      have r2 := hc.c2
      have r3 := hc.c3
      have r4 := hc.c4
      have r5 := hc.c5
      have r6 := hc.c6
      have r7 := hc.c7
      clear hc
      obtain ⟨F, hF⟩ : ∃ F, F = nms (xs.take k) := ⟨_, rfl⟩
      rw [← hF] at HO HNX HLn
      clear hF
      have hln := HLn.out
      have HB1 : Hid (Below w.heap.size w (wr.alloc (.cells #[.int .i64 x.t.id, .int .i64 x.t.st, .int .i64 x.t.snap, .int .i64 x.t.cs, .slice x.ra x.t.rs.length x.rc, .slice x.wa x.t.ws.length x.wc, .bool x.t.out, .string x.t.nm] 27))) := HB.out.alloc HB.out.size _
      have BX1 : Hid (Bx (wr.alloc (.cells #[.int .i64 x.t.id, .int .i64 x.t.st, .int .i64 x.t.snap, .int .i64 x.t.cs, .slice x.ra x.t.rs.length x.rc, .slice x.wa x.t.ws.length x.wc, .bool x.t.out, .string x.t.nm] 27)) wr.heap.size [.int .i64 x.t.id, .int .i64 x.t.st, .int .i64 x.t.snap, .int .i64 x.t.cs, .slice x.ra x.t.rs.length x.rc, .slice x.wa x.t.ws.length x.wc, .bool x.t.out, .string x.t.nm]) := Bx.new wr [.int .i64 x.t.id, .int .i64 x.t.st, .int .i64 x.t.snap, .int .i64 x.t.cs, .slice x.ra x.t.rs.length x.rc, .slice x.wa x.t.ws.length x.wc, .bool x.t.out, .string x.t.nm] 27
      have BA1 : Hid (Bx (wr.alloc (.cells #[.int .i64 x.t.id, .int .i64 x.t.st, .int .i64 x.t.snap, .int .i64 x.t.cs, .slice x.ra x.t.rs.length x.rc, .slice x.wa x.t.ws.length x.wc, .bool x.t.out, .string x.t.nm] 27)) w.heap.size [.slice (some ⟨b, o, none⟩) n c, .func (.func 107) #[] #[]]) := BA.out.alloc _
      have O1 := hide (HO.out.alloc (.cells #[.int .i64 x.t.id, .int .i64 x.t.st, .int .i64 x.t.snap, .int .i64 x.t.cs, .slice x.ra x.t.rs.length x.rc, .slice x.wa x.t.ws.length x.wc, .bool x.t.out, .string x.t.nm] 27))
      go_upto_region 5 with fail
      clear r0 r1 r2 r3 r4 r5 r6 r7 BA HO HB
      generalize (wr.alloc (.cells #[.int .i64 x.t.id, .int .i64 x.t.st, .int .i64 x.t.snap, .int .i64 x.t.cs, .slice x.ra x.t.rs.length x.rc, .slice x.wa x.t.ws.length x.wc, .bool x.t.out, .string x.t.nm] 27)) = w1 at *
      have y1 := BA1.out.c1
      have x0 := BX1.out.c0
      have x1 := BX1.out.c1
      have x2 := BX1.out.c2
      have x3 := BX1.out.c3
      have x4 := BX1.out.c4
      have x5 := BX1.out.c5
      have x6 := BX1.out.c6
      have x7 := BX1.out.c7
      have hsz := BA1.out.lt
      go_wp2_with (first | (rw [ent107]; fail) | fail)
      refine (key107 x _).mono ?_
      rintro e w2 ⟨rfl, hb2⟩
      have HB2 : Hid (Below w.heap.size w w2) := HB1.out.trans (hb2.mono HB1.out.size)
      have O2 := hide (O1.out.below hb2)
      have BA2 := hide (BA1.out.below hb2)
      have hsz2 := BA2.out.lt
      clear hb2 y1 x0 x1 x2 x3 x4 x5 x6 x7 hsz
      go_wp2_with (at_builtin; refine wpAppS rfl _ _ rfl x.t.nm rfl O2.out rfl hln (Nat.succ_le_of_lt hsz2) ?_)
      intro v' w3 ho3 hb3
      have O3 : Hid (GOwn encS 9 w3 (w.heap.size + 1) v' (F ++ [x.t.nm])) := ho3
      have HB3 : Hid (Below w.heap.size w w3) := HB2.out.trans (hb3.mono (Nat.le_succ _))
      have BA3 := hide (bx_low BA2.out hb3 (Nat.lt_succ_self _))
      clear ho3 hb3
      go_wp2
      go_roundw
      case rel => exact ⟨k + 1, by omega, by go_num, by rw [HNX.out]; exact O3, HB3, BA3⟩
      case measure => simp [intOf]; omega
    · have hd : ¬ (k : Int) < (n : Int) := by omega
      have HE : Hid (xs.take k = xs) := List.take_of_length_le (by rw [← HX.out]; omega)
      rw [HE.out] at HO
      have HL : Hid ((nms xs).length = n) := by show _ = _; rw [nms_len, HX.out]
      obtain ⟨a1, c1, rfl, _⟩ := HO.out.row
      rw [HL.out] at HO ⊢
      go_wp2
      go_ret
      exact ⟨a1, c1, rfl, GOwn.mono HO.out (Nat.le_succ _), HB.out⟩


end Go.Proofs.Ytnefncmkhgkdnaa
