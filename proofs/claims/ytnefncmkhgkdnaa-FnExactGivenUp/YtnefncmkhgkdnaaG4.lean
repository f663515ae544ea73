/- What stays: GivenUp of the program. -/
import Derived.Test.YtnefncmkhgkdnaaG2
import Derived.Test.YtnefncmkhgkdnaaZ2
import Derived.Test.YtnefncmkhgkdnaaB5
import Derived.Laws.EntriesVeiled
import Derived.Deep.RegionHeld3
import Derived.Deep.Cut
import Derived.Deep.CutRange
namespace Go.Proofs.Ytnefncmkhgkdnaa
open Go.RowKit
open KM
open VM
attribute [local go_sem ↓] Go.wp_at_zero Go.wp_at_succ

/-- not of this name -/
def keepN (s : ByteArray) (x : Ta) : Bool := !(x.t.nm.toList == s.toList)
theorem Zs.setX {w : World} {v : Value} {a : Addr} (u : Value) : ∀ {ys : List Ta} {lo hi : Nat}, Zs w v lo hi ys → a.block < lo ∨ hi ≤ a.block → Zs (w.setCell a u) v lo hi ys
  | [], _, _, h, _ => h
  | _ :: _, _, _, ⟨p, q, h1, h2, h3, h4, h5⟩, ha => ⟨p, q, h1, h2, h3.setO (by have := h5.le; omega) u, h4, h5.setX u (by omega)⟩
theorem BLie.setO {w : World} {lo hi : Nat} {c : Bb} (h : BLie w lo hi c) {a : Addr} (ha : a.block < lo ∨ hi ≤ a.block) (u : Value) : BLie (w.setCell a u) lo hi c := by
  obtain ⟨m1, m2, k1, k2, k3, h1, h2, h3⟩ := h.ex
  exact ⟨m1, m2, k1, k2, k3, h1.setO (by omega) u, ⟨h2.own.setO (by omega) u, h2.zs.setX u (by omega)⟩, ⟨h3.own.setO (by omega) u, h3.zs.setX u (by omega)⟩⟩
/-- other ones are ready, out of those that were -/
theorem BLie.requs {w : World} {lo hi base n1 c1 : Nat} {a1 : Option Addr} {c : Bb} (f : Ta → Bool) (h : BLie w lo hi c) (ho : GOwn encT 27 w base (.slice a1 n1 c1) (c.qs.filter f)) (hn : n1 = (c.qs.filter f).length) (hb : hi ≤ base) (hs : base ≤ w.heap.size) :
    BLie w lo w.heap.size ⟨c.vs, c.ps, c.qs.filter f, c.cs, c.nx, c.va, c.vc, c.pa, c.pc, a1, c1⟩ := by
  obtain ⟨m1, m2, k1, k2, k3, h1, h2, h3⟩ := h.ex
  subst hn
  refine ⟨m1, m2, k1, k2, by omega, h1, h2, ⟨Lies.of (GOwn.mono ho (by omega)), ((h3.zs.filter f).av (fun p q _ hq _ g e => ?_)).mono (Nat.le_refl _) (by omega)⟩⟩
  have := (World.ownsRow.lt ho g e).1
  right
  omega

set_option maxRecDepth 100000 in
set_option maxHeartbeats 2000000 in
theorem stays109 (x s : ByteArray) (lb : Nat) (w : World) (hb : Bx w lb [.string s]) :
    Calls Try.prog 109 #[.string x, .pointer (some ⟨lb, 0, none⟩)] w fun e w' => e = .returned (.bool (!(x.toList == s.toList))) ∧ Below w.heap.size w w' := by
  have c0 := hb.c0
  go_enter Try.func109, Try.ntmps109
  go_wp2
  go_ret
  exact ⟨rfl, belowRefl w⟩

set_option maxRecDepth 100000 in
set_option maxHeartbeats 4000000 in
theorem keptN (xs : List Ta) (a : Option Addr) (c n : Nat) (hx : n = xs.length) (hn : n ≤ 10000000) (s : ByteArray) (lb : Nat) (w : World) (hp : TRows w a xs) (hl : Bx w lb [.string s]) :
    Calls Try.prog 108 #[.agg #[.slice a n c, .func (.func 107) #[] #[]], .func (.func 109) #[] #[.pointer (some ⟨lb, 0, none⟩)]] w fun e w' => ∃ (a1 : Option Addr) (c1 n1 : Nat), e = .returned (.slice a1 n1 c1) ∧ n1 = (xs.filter (keepN s)).length ∧ GOwn encT 27 w' (w.heap.size + 1) (.slice a1 n1 c1) (xs.filter (keepN s)) ∧ Below w.heap.size w w' := by
  have BA0 : Hid (Bx (w.alloc (.cells #[.slice a n c, .func (.func 107) #[] #[]] 85)) w.heap.size [.slice a n c, .func (.func 107) #[] #[]]) := Bx.new w [.slice a n c, .func (.func 107) #[] #[]] 85
  have HB0 : Hid (Below w.heap.size w (w.alloc (.cells #[.slice a n c, .func (.func 107) #[] #[]] 85))) := (belowRefl w).alloc (Nat.le_refl _) _
  have HP : Hid (TRows w a xs) := hp
  have HL : Hid (Bx w lb [.string s]) := hl
  have HX : Hid (n = xs.length) := hx
  clear hp hx hl
  go_enter Try.func108, Try.ntmps108
  go_upto_region 1 with fail
  generalize (w.alloc (.cells #[.slice a n c, .func (.func 107) #[] #[]] 85)) = w0 at *
  have x0 := BA0.out.c0
  go_wp2
  go_loopw [5, 11] (fun v t wr => ∃ k : Nat, k ≤ n ∧ t = .int .i64 k ∧ Hid (GOwn encT 27 wr (w.heap.size + 1) v ((xs.take k).filter (keepN s))) ∧ Hid (Below w.heap.size w wr) ∧ Hid (Bx wr w.heap.size [.slice a n c, .func (.func 107) #[] #[]])) (fun _ t _ => n - (intOf t).toNat)
  case atStart => exact ⟨0, Nat.zero_le _, rfl, GOwn.nil _ _, HB0, BA0⟩
  case round =>
    clear BA0 HB0 x0
    obtain ⟨k, hk, rfl, HO, HB, BA⟩ := hrel
    by_cases hlt : k < n
    · have hlt' : (k : Int) < (n : Int) := by omega
      have h0 : (0 : Int) ≤ (k : Int) := by omega
      have hkx : k < xs.length := by rw [← HX.out]; exact hlt
      obtain ⟨b, o, rfl, hbl, hc, -⟩ := (HP.out.below HB.out).cls k hkx
      have HYes : Hid (keepN s xs[k] = true → (xs.take (k + 1)).filter (keepN s) = (xs.take k).filter (keepN s) ++ [xs[k]]) := fun h => by show _ = _; rw [filter_take _ xs k hkx, h]; rfl
      have HNo : Hid (keepN s xs[k] = false → (xs.take (k + 1)).filter (keepN s) = (xs.take k).filter (keepN s)) := fun h => by show _ = _; rw [filter_take _ xs k hkx, h]; simp
      have HLn : Hid (((xs.take k).filter (keepN s)).length ≤ 100000000) := Nat.le_trans (List.length_filter_le _ _) (Nat.le_trans (List.length_take_le _ _) (by omega))
      obtain ⟨x, hx⟩ : ∃ x, x = xs[k] := ⟨_, rfl⟩
      rw [← hx] at hc HYes HNo
      clear hx hkx
      have r0 := hc.c0
      have r1 := hc.c1
      have r2 := hc.c2
      have r3 := hc.c3
      have r4 := hc.c4
      have r5 := hc.c5
      have r6 := hc.c6
      have r7 := hc.c7
      clear hc
      obtain ⟨F, hF⟩ : ∃ F, F = (xs.take k).filter (keepN s) := ⟨_, rfl⟩
      rw [← hF] at HO HYes HNo HLn
      clear hF
      have hln := HLn.out
      have HB1 : Hid (Below w.heap.size w (wr.alloc (.cells #[.int .i64 x.t.id, .int .i64 x.t.st, .int .i64 x.t.snap, .int .i64 x.t.cs, .slice x.ra x.t.rs.length x.rc, .slice x.wa x.t.ws.length x.wc, .bool x.t.out, .string x.t.nm] 27))) := HB.out.alloc HB.out.size _
      have BX1 : Hid (Bx (wr.alloc (.cells #[.int .i64 x.t.id, .int .i64 x.t.st, .int .i64 x.t.snap, .int .i64 x.t.cs, .slice x.ra x.t.rs.length x.rc, .slice x.wa x.t.ws.length x.wc, .bool x.t.out, .string x.t.nm] 27)) wr.heap.size [.int .i64 x.t.id, .int .i64 x.t.st, .int .i64 x.t.snap, .int .i64 x.t.cs, .slice x.ra x.t.rs.length x.rc, .slice x.wa x.t.ws.length x.wc, .bool x.t.out, .string x.t.nm]) := Bx.new wr [.int .i64 x.t.id, .int .i64 x.t.st, .int .i64 x.t.snap, .int .i64 x.t.cs, .slice x.ra x.t.rs.length x.rc, .slice x.wa x.t.ws.length x.wc, .bool x.t.out, .string x.t.nm] 27
      have BA1 : Hid (Bx (wr.alloc (.cells #[.int .i64 x.t.id, .int .i64 x.t.st, .int .i64 x.t.snap, .int .i64 x.t.cs, .slice x.ra x.t.rs.length x.rc, .slice x.wa x.t.ws.length x.wc, .bool x.t.out, .string x.t.nm] 27)) w.heap.size [.slice (some ⟨b, o, none⟩) n c, .func (.func 107) #[] #[]]) := BA.out.alloc _
      have O1 := hide (HO.out.alloc (.cells #[.int .i64 x.t.id, .int .i64 x.t.st, .int .i64 x.t.snap, .int .i64 x.t.cs, .slice x.ra x.t.rs.length x.rc, .slice x.wa x.t.ws.length x.wc, .bool x.t.out, .string x.t.nm] 27))
      go_upto_region 5 with fail
      clear r0 r1 r2 r3 r4 r5 r6 r7 BA HO HB
      generalize (wr.alloc (.cells #[.int .i64 x.t.id, .int .i64 x.t.st, .int .i64 x.t.snap, .int .i64 x.t.cs, .slice x.ra x.t.rs.length x.rc, .slice x.wa x.t.ws.length x.wc, .bool x.t.out, .string x.t.nm] 27)) = w1 at *
      have y1 := BA1.out.c1
      have x0 := BX1.out.c0
      have x1 := BX1.out.c1
      have x2 := BX1.out.c2
      have x3 := BX1.out.c3
      have x4 := BX1.out.c4
      have x5 := BX1.out.c5
      have x6 := BX1.out.c6
      have x7 := BX1.out.c7
      go_wp2_with fail
      refine (key107 x _).mono ?_
      rintro e w2 ⟨rfl, hb2⟩
      have HB2 : Hid (Below w.heap.size w w2) := HB1.out.trans (hb2.mono HB1.out.size)
      have O2 := hide (O1.out.below hb2)
      have BA2 := hide (BA1.out.below hb2)
      have BX2 := hide (BX1.out.below hb2)
      clear hb2 y1 x0 x1 x2 x3 x4 x5 x6 x7 BA1 BX1 O1
      go_wp2_with fail
      refine (stays109 x.t.nm s lb _ (HL.out.below HB2.out)).mono ?_
      rintro e w3 ⟨rfl, hb3⟩
      have HB3 : Hid (Below w.heap.size w w3) := HB2.out.trans (hb3.mono HB2.out.size)
      have O3 := hide (O2.out.below hb3)
      have BA3 := hide (BA2.out.below hb3)
      have BX3 := hide (BX2.out.below hb3)
      have hsz2 := BA3.out.lt
      clear hb3 BA2 BX2 O2
      cases hq : (x.t.nm.toList == s.toList)
      · have HE := hide (HYes.out (by unfold keepN; rw [hq]; rfl))
        clear HYes HNo
        have x0 := BX3.out.c0
        have x1 := BX3.out.c1
        have x2 := BX3.out.c2
        have x3 := BX3.out.c3
        have x4 := BX3.out.c4
        have x5 := BX3.out.c5
        have x6 := BX3.out.c6
        have x7 := BX3.out.c7
        have HBK : Hid ((w3.alloc (.cells #[.int .i64 x.t.id, .int .i64 x.t.st, .int .i64 x.t.snap, .int .i64 x.t.cs, .slice x.ra x.t.rs.length x.rc, .slice x.wa x.t.ws.length x.wc, .bool x.t.out, .string x.t.nm] 27)).heap[w3.heap.size]? = some (.cells (encT.enc x).toArray 27 (0, 0))) := heap_alloc_new w3 _
        have O3a := hide (O3.out.alloc (.cells #[.int .i64 x.t.id, .int .i64 x.t.st, .int .i64 x.t.snap, .int .i64 x.t.cs, .slice x.ra x.t.rs.length x.rc, .slice x.wa x.t.ws.length x.wc, .bool x.t.out, .string x.t.nm] 27))
        go_wp2_with (at_builtin; refine wpAppK (E := encT) 28 27 104 _ Try.underlying28 Try.info27 rfl (by omega) rfl _ _ rfl x tone rfl O3a.out rfl HBK.out hln (by simp; omega) ?_)
        intro g' cap w4 ho4 hg4 hg5 hlt4
        have hb4 : Below (w.heap.size + 1) w3 w4 := ((Below.refl _ _).alloc (Nat.succ_le_of_lt hsz2) _).trans ((Below.refl _ _).grown hg4 (by simp; omega) (fun j hj => (World.ownsRow.lt O3a.out j hj).1))
        have O4 : Hid (GOwn encT 27 w4 (w.heap.size + 1) (.slice (some ⟨g', 0, none⟩) (F.length + 1) cap) (F ++ [x])) := ho4
        have HB4 : Hid (Below w.heap.size w w4) := HB3.out.trans (hb4.mono (Nat.le_succ _))
        have BA4 := hide (bx_low BA3.out hb4 (Nat.lt_succ_self _))
        clear ho4 hb4 hg4 hg5 hlt4 O3a O3 HBK x0 x1 x2 x3 x4 x5 x6 x7
        go_wp2
        go_roundw
        case rel => exact ⟨k + 1, by omega, by go_num, by rw [HE.out]; exact O4, HB4, BA4⟩
        case measure => simp [intOf]; omega
      · have HE := hide (HNo.out (by unfold keepN; rw [hq]; rfl))
        clear HYes HNo
        go_wp2
        go_roundw
        case rel => exact ⟨k + 1, by omega, by go_num, by rw [HE.out]; exact O3, HB3, BA3⟩
        case measure => simp [intOf]; omega
    · have hd : ¬ (k : Int) < (n : Int) := by omega
      have HE : Hid (xs.take k = xs) := List.take_of_length_le (by rw [← HX.out]; omega)
      rw [HE.out] at HO
      obtain ⟨a1, c1, rfl, _⟩ := HO.out.row
      obtain ⟨n1, hn1⟩ : ∃ n1, n1 = (xs.filter (keepN s)).length := ⟨_, rfl⟩
      rw [← hn1] at HO ⊢
      have HN1 : Hid (n1 = (xs.filter (keepN s)).length) := hn1
      clear hn1
      go_wp2
      go_ret
      exact ⟨a1, c1, n1, rfl, HN1.out, HO.out, HB.out⟩

set_option maxRecDepth 100000 in
set_option maxHeartbeats 2000000 in
theorem without71 (xs : List Ta) (a : Option Addr) (c n : Nat) (hx : n = xs.length) (hn : n ≤ 10000000) (s : ByteArray) (w : World) (hp : TRows w a xs) :
    Calls Try.prog 71 #[.agg #[.slice a n c, .func (.func 107) #[] #[]], .string s] w fun e w' => ∃ (a1 : Option Addr) (c1 n1 : Nat), e = .returned (.slice a1 n1 c1) ∧ n1 = (xs.filter (keepN s)).length ∧ GOwn encT 27 w' w.heap.size (.slice a1 n1 c1) (xs.filter (keepN s)) ∧ Below w.heap.size w w' := by
  have HB0 : Hid (Below w.heap.size w ((w.alloc (.cells #[.slice a n c, .func (.func 107) #[] #[]] 85)).alloc (.cells #[.string s] 9))) := ((belowRefl w).alloc (Nat.le_refl _) _).alloc (by simp) _
  have BL : Hid (Bx ((w.alloc (.cells #[.slice a n c, .func (.func 107) #[] #[]] 85)).alloc (.cells #[.string s] 9)) (w.heap.size + 1) [.string s]) := by
    have h := Bx.new (w.alloc (.cells #[.slice a n c, .func (.func 107) #[] #[]] 85)) [.string s] 9
    rw [show (w.alloc (.cells #[.slice a n c, .func (.func 107) #[] #[]] 85)).heap.size = w.heap.size + 1 by simp] at h
    exact h
  have H := hide (keptN xs a c n hx hn s (w.heap.size + 1) ((w.alloc (.cells #[.slice a n c, .func (.func 107) #[] #[]] 85)).alloc (.cells #[.string s] 9)) (hp.below HB0.out) BL.out)
  have hbs : w.heap.size ≤ ((w.alloc (.cells #[.slice a n c, .func (.func 107) #[] #[]] 85)).alloc (.cells #[.string s] 9)).heap.size + 1 := by simp; omega
  obtain ⟨bs, hbe⟩ : ∃ bs, bs = ((w.alloc (.cells #[.slice a n c, .func (.func 107) #[] #[]] 85)).alloc (.cells #[.string s] 9)).heap.size + 1 := ⟨_, rfl⟩
  rw [← hbe] at hbs
  have BS : Hid (((w.alloc (.cells #[.slice a n c, .func (.func 107) #[] #[]] 85)).alloc (.cells #[.string s] 9)).heap.size + 1 = bs) := hbe.symm
  clear hp hx BL hbe
  go_enter Try.func71, Try.ntmps71
  go_wp2_with fail
  refine H.out.mono ?_
  rintro e w1 ⟨a1, c1, n1, rfl, hn1, ho, hb1⟩
  have HB1 : Hid (Below w.heap.size w w1) := HB0.out.trans (hb1.mono HB0.out.size)
  have HN1 : Hid (n1 = (xs.filter (keepN s)).length) := hn1
  have HO1 : Hid (GOwn encT 27 w1 w.heap.size (.slice a1 n1 c1) (xs.filter (keepN s))) := GOwn.mono ho (by rw [BS.out]; exact hbs)
  clear hb1 hn1 H ho
  go_wp2
  go_ret
  exact ⟨a1, c1, n1, rfl, HN1.out, HO1.out, HB1.out⟩

set_option maxRecDepth 100000 in
set_option maxHeartbeats 4000000 in
theorem igiven (b : Bb) (s : ByteArray) (hf : BFit b) (w : World) (hp : BRows w b) :
    Calls Try.prog 36 #[.agg #[.slice b.va b.vs.length b.vc, .slice b.pa b.ps.length b.pc, .slice b.qa b.qs.length b.qc, .int .i64 b.cs, .int .i64 b.nx], .string s] w fun e w' => ∃ d : Bb, e = .returned (.agg #[.slice d.va d.vs.length d.vc, .slice d.pa d.ps.length d.pc, .slice d.qa d.qs.length d.qc, .int .i64 d.cs, .int .i64 d.nx]) ∧ (d.vs = b.vs ∧ txs d.ps = txs b.ps ∧ txs d.qs = (txs b.qs).filter (fun t => !(t.nm.toList == s.toList)) ∧ d.cs = b.cs ∧ d.nx = b.nx) ∧ BLie w' w.heap.size w'.heap.size d ∧ Below w.heap.size w w' := by
  have BA0 : Hid (Bx ((w.alloc (.cells #[.slice b.va b.vs.length b.vc, .slice b.pa b.ps.length b.pc, .slice b.qa b.qs.length b.qc, .int .i64 b.cs, .int .i64 b.nx] 46)).alloc (.cells #[.slice none 0 0, .slice none 0 0, .slice none 0 0, .int .i64 0, .int .i64 0] 46)) w.heap.size [.slice b.va b.vs.length b.vc, .slice b.pa b.ps.length b.pc, .slice b.qa b.qs.length b.qc, .int .i64 b.cs, .int .i64 b.nx]) := (Bx.new w [.slice b.va b.vs.length b.vc, .slice b.pa b.ps.length b.pc, .slice b.qa b.qs.length b.qc, .int .i64 b.cs, .int .i64 b.nx] 46).alloc _
  have BR0 : Hid (Bx ((w.alloc (.cells #[.slice b.va b.vs.length b.vc, .slice b.pa b.ps.length b.pc, .slice b.qa b.qs.length b.qc, .int .i64 b.cs, .int .i64 b.nx] 46)).alloc (.cells #[.slice none 0 0, .slice none 0 0, .slice none 0 0, .int .i64 0, .int .i64 0] 46)) (w.heap.size + 1) [.slice none 0 0, .slice none 0 0, .slice none 0 0, .int .i64 0, .int .i64 0]) := by
    have h := Bx.new (w.alloc (.cells #[.slice b.va b.vs.length b.vc, .slice b.pa b.ps.length b.pc, .slice b.qa b.qs.length b.qc, .int .i64 b.cs, .int .i64 b.nx] 46)) [.slice none 0 0, .slice none 0 0, .slice none 0 0, .int .i64 0, .int .i64 0] 46
    rw [show (w.alloc (.cells #[.slice b.va b.vs.length b.vc, .slice b.pa b.ps.length b.pc, .slice b.qa b.qs.length b.qc, .int .i64 b.cs, .int .i64 b.nx] 46)).heap.size = w.heap.size + 1 by simp] at h
    exact h
  have HB0 : Hid (Below w.heap.size w ((w.alloc (.cells #[.slice b.va b.vs.length b.vc, .slice b.pa b.ps.length b.pc, .slice b.qa b.qs.length b.qc, .int .i64 b.cs, .int .i64 b.nx] 46)).alloc (.cells #[.slice none 0 0, .slice none 0 0, .slice none 0 0, .int .i64 0, .int .i64 0] 46))) := ((belowRefl w).alloc (Nat.le_refl _) _).alloc (by simp) _
  have HS0 : Hid (w.heap.size + 1 + 1 ≤ ((w.alloc (.cells #[.slice b.va b.vs.length b.vc, .slice b.pa b.ps.length b.pc, .slice b.qa b.qs.length b.qc, .int .i64 b.cs, .int .i64 b.nx] 46)).alloc (.cells #[.slice none 0 0, .slice none 0 0, .slice none 0 0, .int .i64 0, .int .i64 0] 46)).heap.size) := by show _ ≤ _; simp
  have HF : Hid (BFit b) := hf
  have CB := hide (copyB b hf ((w.alloc (.cells #[.slice b.va b.vs.length b.vc, .slice b.pa b.ps.length b.pc, .slice b.qa b.qs.length b.qc, .int .i64 b.cs, .int .i64 b.nx] 46)).alloc (.cells #[.slice none 0 0, .slice none 0 0, .slice none 0 0, .int .i64 0, .int .i64 0] 46)) (hp.below HB0.out))
  clear hp hf
  go_enter Try.func36, Try.ntmps36
  go_upto_region 1 with fail
  generalize ((w.alloc (.cells #[.slice b.va b.vs.length b.vc, .slice b.pa b.ps.length b.pc, .slice b.qa b.qs.length b.qc, .int .i64 b.cs, .int .i64 b.nx] 46)).alloc (.cells #[.slice none 0 0, .slice none 0 0, .slice none 0 0, .int .i64 0, .int .i64 0] 46)) = w0 at *
  have x0 := BA0.out.c0
  have x1 := BA0.out.c1
  have x2 := BA0.out.c2
  have x3 := BA0.out.c3
  have x4 := BA0.out.c4
  go_wp2_with fail
  refine CB.out.mono ?_
  rintro e w1 ⟨c, rfl, hs1, hl1, hb⟩
  have HSM : Hid (BSame b c) := hs1
  have HL1 : Hid (BLie w1 w0.heap.size w1.heap.size c) := hl1
  have HB1 : Hid (Below w.heap.size w w1) := HB0.out.trans (hb.mono HB0.out.size)
  have BR1 : Hid (Bx w1 (w.heap.size + 1) [.slice none 0 0, .slice none 0 0, .slice none 0 0, .int .i64 0, .int .i64 0]) := BR0.out.below hb
  have hs01 : w0.heap.size ≤ w1.heap.size := hb.size
  clear x0 x1 x2 x3 x4 hb hs1 hl1 BA0 BR0 HB0 CB
  go_upto_region 2 with fail
  have hba : Below w1.heap.size w1 (w1.alloc (.cells #[.slice c.va c.vs.length c.vc, .slice c.pa c.ps.length c.pc, .slice c.qa c.qs.length c.qc, .int .i64 c.cs, .int .i64 c.nx] 46)) := (belowRefl w1).alloc (Nat.le_refl _) _
  have HB2 : Hid (Below w.heap.size w (w1.alloc (.cells #[.slice c.va c.vs.length c.vc, .slice c.pa c.ps.length c.pc, .slice c.qa c.qs.length c.qc, .int .i64 c.cs, .int .i64 c.nx] 46))) := HB1.out.trans (hba.mono HB1.out.size)
  have BR2 : Hid (Bx (w1.alloc (.cells #[.slice c.va c.vs.length c.vc, .slice c.pa c.ps.length c.pc, .slice c.qa c.qs.length c.qc, .int .i64 c.cs, .int .i64 c.nx] 46)) (w.heap.size + 1) [.slice none 0 0, .slice none 0 0, .slice none 0 0, .int .i64 0, .int .i64 0]) := BR1.out.below hba
  have BO2 : Hid (Bx (w1.alloc (.cells #[.slice c.va c.vs.length c.vc, .slice c.pa c.ps.length c.pc, .slice c.qa c.qs.length c.qc, .int .i64 c.cs, .int .i64 c.nx] 46)) w1.heap.size [.slice c.va c.vs.length c.vc, .slice c.pa c.ps.length c.pc, .slice c.qa c.qs.length c.qc, .int .i64 c.cs, .int .i64 c.nx]) := Bx.new w1 [.slice c.va c.vs.length c.vc, .slice c.pa c.ps.length c.pc, .slice c.qa c.qs.length c.qc, .int .i64 c.cs, .int .i64 c.nx] 46
  have HL2 : Hid (BLie (w1.alloc (.cells #[.slice c.va c.vs.length c.vc, .slice c.pa c.ps.length c.pc, .slice c.qa c.qs.length c.qc, .int .i64 c.cs, .int .i64 c.nx] 46)) w0.heap.size w1.heap.size c) := HL1.out.below hba
  have hs12 : w1.heap.size < (w1.alloc (.cells #[.slice c.va c.vs.length c.vc, .slice c.pa c.ps.length c.pc, .slice c.qa c.qs.length c.qc, .int .i64 c.cs, .int .i64 c.nx] 46)).heap.size := by simp
  clear hba HB1 BR1 HL1
  generalize (w1.alloc (.cells #[.slice c.va c.vs.length c.vc, .slice c.pa c.ps.length c.pc, .slice c.qa c.qs.length c.qc, .int .i64 c.cs, .int .i64 c.nx] 46)) = w2 at *
  have o2 := BO2.out.c2
  go_wp2_with fail
  refine (byname70 c.qa c.qc c.qs.length _).mono ?_
  rintro e w3 ⟨rfl, hb⟩
  have HB3 : Hid (Below w.heap.size w w3) := HB2.out.trans (hb.mono HB2.out.size)
  have BR3 : Hid (Bx w3 (w.heap.size + 1) [.slice none 0 0, .slice none 0 0, .slice none 0 0, .int .i64 0, .int .i64 0]) := BR2.out.below hb
  have BO3 : Hid (Bx w3 w1.heap.size [.slice c.va c.vs.length c.vc, .slice c.pa c.ps.length c.pc, .slice c.qa c.qs.length c.qc, .int .i64 c.cs, .int .i64 c.nx]) := BO2.out.below hb
  have HL3 : Hid (BLie w3 w0.heap.size w1.heap.size c) := HL2.out.below hb
  have hs23 : w2.heap.size ≤ w3.heap.size := hb.size
  clear hb o2 HB2 BR2 BO2 HL2
  go_wp2_with fail
  refine (without71 c.qs c.qa c.qc c.qs.length rfl (by have := (HSM.out.fit HF.out).ql; omega) s _ HL3.out.rows.q).mono ?_
  rintro e w4 ⟨a1, c1, n1, rfl, hn1, ho, hb⟩
  have HN1 : Hid (n1 = (c.qs.filter (keepN s)).length) := hn1
  have HO4 : Hid (GOwn encT 27 w4 w3.heap.size (.slice a1 n1 c1) (c.qs.filter (keepN s))) := ho
  have HB4 : Hid (Below w.heap.size w w4) := HB3.out.trans (hb.mono HB3.out.size)
  have BR4 : Hid (Bx w4 (w.heap.size + 1) [.slice none 0 0, .slice none 0 0, .slice none 0 0, .int .i64 0, .int .i64 0]) := BR3.out.below hb
  have BO4 : Hid (Bx w4 w1.heap.size [.slice c.va c.vs.length c.vc, .slice c.pa c.ps.length c.pc, .slice c.qa c.qs.length c.qc, .int .i64 c.cs, .int .i64 c.nx]) := BO3.out.below hb
  have HL4 : Hid (BLie w4 w0.heap.size w1.heap.size c) := HL3.out.below hb
  have hs34 : w3.heap.size ≤ w4.heap.size := hb.size
  clear hb hn1 ho HB3 BR3 BO3 HL3
  have hs0 := HS0.out
  have o0 := BO4.out.c0
  have fo0 := BO4.out.fz 0
  have z0 := BR4.out.c0
  have fz0 := BR4.out.fz 0
  have o1 := BO4.out.c1
  have fo1 := BO4.out.fz 1
  have z1 := BR4.out.c1
  have fz1 := BR4.out.fz 1
  have o2 := BO4.out.c2
  have fo2 := BO4.out.fz 2
  have z2 := BR4.out.c2
  have fz2 := BR4.out.fz 2
  have o3 := BO4.out.c3
  have fo3 := BO4.out.fz 3
  have z3 := BR4.out.c3
  have fz3 := BR4.out.fz 3
  have o4 := BO4.out.c4
  have fo4 := BO4.out.fz 4
  have z4 := BR4.out.c4
  have fz4 := BR4.out.fz 4
  have HBf : Hid (Below w.heap.size w ((((((w4.setCell ⟨w1.heap.size, 2, none⟩ (.slice a1 n1 c1)).setCell ⟨w.heap.size + 1, 0, none⟩ (.slice c.va c.vs.length c.vc)).setCell ⟨w.heap.size + 1, 1, none⟩ (.slice c.pa c.ps.length c.pc)).setCell ⟨w.heap.size + 1, 2, none⟩ (.slice a1 n1 c1)).setCell ⟨w.heap.size + 1, 3, none⟩ (.int .i64 c.cs)).setCell ⟨w.heap.size + 1, 4, none⟩ (.int .i64 c.nx))) := ((((((HB4.out.setCell (by show _ ≤ w1.heap.size; omega) _).setCell (by show _ ≤ _ + 1; omega) _).setCell (by show _ ≤ _ + 1; omega) _).setCell (by show _ ≤ _ + 1; omega) _).setCell (by show _ ≤ _ + 1; omega) _).setCell (by show _ ≤ _ + 1; omega) _)
  have HLf : Hid (BLie ((((((w4.setCell ⟨w1.heap.size, 2, none⟩ (.slice a1 n1 c1)).setCell ⟨w.heap.size + 1, 0, none⟩ (.slice c.va c.vs.length c.vc)).setCell ⟨w.heap.size + 1, 1, none⟩ (.slice c.pa c.ps.length c.pc)).setCell ⟨w.heap.size + 1, 2, none⟩ (.slice a1 n1 c1)).setCell ⟨w.heap.size + 1, 3, none⟩ (.int .i64 c.cs)).setCell ⟨w.heap.size + 1, 4, none⟩ (.int .i64 c.nx)) w0.heap.size w1.heap.size c) := ((((((HL4.out.setO (a := ⟨w1.heap.size, 2, none⟩) (by show w1.heap.size < w0.heap.size ∨ w1.heap.size ≤ w1.heap.size; omega) _).setO (a := ⟨w.heap.size + 1, 0, none⟩) (by show w.heap.size + 1 < w0.heap.size ∨ w1.heap.size ≤ w.heap.size + 1; omega) _).setO (a := ⟨w.heap.size + 1, 1, none⟩) (by show w.heap.size + 1 < w0.heap.size ∨ w1.heap.size ≤ w.heap.size + 1; omega) _).setO (a := ⟨w.heap.size + 1, 2, none⟩) (by show w.heap.size + 1 < w0.heap.size ∨ w1.heap.size ≤ w.heap.size + 1; omega) _).setO (a := ⟨w.heap.size + 1, 3, none⟩) (by show w.heap.size + 1 < w0.heap.size ∨ w1.heap.size ≤ w.heap.size + 1; omega) _).setO (a := ⟨w.heap.size + 1, 4, none⟩) (by show w.heap.size + 1 < w0.heap.size ∨ w1.heap.size ≤ w.heap.size + 1; omega) _)
  have HOf : Hid (GOwn encT 27 ((((((w4.setCell ⟨w1.heap.size, 2, none⟩ (.slice a1 n1 c1)).setCell ⟨w.heap.size + 1, 0, none⟩ (.slice c.va c.vs.length c.vc)).setCell ⟨w.heap.size + 1, 1, none⟩ (.slice c.pa c.ps.length c.pc)).setCell ⟨w.heap.size + 1, 2, none⟩ (.slice a1 n1 c1)).setCell ⟨w.heap.size + 1, 3, none⟩ (.int .i64 c.cs)).setCell ⟨w.heap.size + 1, 4, none⟩ (.int .i64 c.nx)) w3.heap.size (.slice a1 n1 c1) (c.qs.filter (keepN s))) := ((((((HO4.out.set (a := ⟨w1.heap.size, 2, none⟩) (by show w1.heap.size < w3.heap.size; omega) _).set (a := ⟨w.heap.size + 1, 0, none⟩) (by show w.heap.size + 1 < w3.heap.size; omega) _).set (a := ⟨w.heap.size + 1, 1, none⟩) (by show w.heap.size + 1 < w3.heap.size; omega) _).set (a := ⟨w.heap.size + 1, 2, none⟩) (by show w.heap.size + 1 < w3.heap.size; omega) _).set (a := ⟨w.heap.size + 1, 3, none⟩) (by show w.heap.size + 1 < w3.heap.size; omega) _).set (a := ⟨w.heap.size + 1, 4, none⟩) (by show w.heap.size + 1 < w3.heap.size; omega) _)
  have HZf : Hid (((((((w4.setCell ⟨w1.heap.size, 2, none⟩ (.slice a1 n1 c1)).setCell ⟨w.heap.size + 1, 0, none⟩ (.slice c.va c.vs.length c.vc)).setCell ⟨w.heap.size + 1, 1, none⟩ (.slice c.pa c.ps.length c.pc)).setCell ⟨w.heap.size + 1, 2, none⟩ (.slice a1 n1 c1)).setCell ⟨w.heap.size + 1, 3, none⟩ (.int .i64 c.cs)).setCell ⟨w.heap.size + 1, 4, none⟩ (.int .i64 c.nx)).heap.size = w4.heap.size) := by show _ = _; simp [World.setCell]
  have HLr : Hid (BLie ((((((w4.setCell ⟨w1.heap.size, 2, none⟩ (.slice a1 n1 c1)).setCell ⟨w.heap.size + 1, 0, none⟩ (.slice c.va c.vs.length c.vc)).setCell ⟨w.heap.size + 1, 1, none⟩ (.slice c.pa c.ps.length c.pc)).setCell ⟨w.heap.size + 1, 2, none⟩ (.slice a1 n1 c1)).setCell ⟨w.heap.size + 1, 3, none⟩ (.int .i64 c.cs)).setCell ⟨w.heap.size + 1, 4, none⟩ (.int .i64 c.nx)) w0.heap.size ((((((w4.setCell ⟨w1.heap.size, 2, none⟩ (.slice a1 n1 c1)).setCell ⟨w.heap.size + 1, 0, none⟩ (.slice c.va c.vs.length c.vc)).setCell ⟨w.heap.size + 1, 1, none⟩ (.slice c.pa c.ps.length c.pc)).setCell ⟨w.heap.size + 1, 2, none⟩ (.slice a1 n1 c1)).setCell ⟨w.heap.size + 1, 3, none⟩ (.int .i64 c.cs)).setCell ⟨w.heap.size + 1, 4, none⟩ (.int .i64 c.nx)).heap.size ⟨c.vs, c.ps, c.qs.filter (keepN s), c.cs, c.nx, c.va, c.vc, c.pa, c.pc, a1, c1⟩) := BLie.requs (keepN s) HLf.out HOf.out HN1.out (by omega) (by rw [HZf.out]; exact hs34)
  have HDT : Hid (c.vs = b.vs ∧ txs c.ps = txs b.ps ∧ txs (c.qs.filter (keepN s)) = (txs b.qs).filter (fun t => !(t.nm.toList == s.toList)) ∧ c.cs = b.cs ∧ c.nx = b.nx) :=
    ⟨HSM.out.v, HSM.out.p, by rw [← HSM.out.q]; exact txs_filter (fun t => !(t.nm.toList == s.toList)) c.qs, HSM.out.cs, HSM.out.nx⟩
  go_wp2
  refine bodyPost_ret (v := .agg #[.slice c.va c.vs.length c.vc, .slice c.pa c.ps.length c.pc, .slice a1 n1 c1, .int .i64 c.cs, .int .i64 c.nx]) (by simp [results, Try.results36, go_sem, z0, z1, z2, z3, z4]) rfl ⟨⟨c.vs, c.ps, c.qs.filter (keepN s), c.cs, c.nx, c.va, c.vc, c.pa, c.pc, a1, c1⟩, by show _ = Ending.returned (.agg #[.slice c.va c.vs.length c.vc, .slice c.pa c.ps.length c.pc, .slice a1 (c.qs.filter (keepN s)).length c1, .int .i64 c.cs, .int .i64 c.nx]); rw [← HN1.out], HDT.out, HLr.out.mono (by omega) (Nat.le_refl _), HBf.out⟩


end Go.Proofs.Ytnefncmkhgkdnaa
