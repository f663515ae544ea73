/- Those that may not be let through: the helpers of Judge, and what the program judges. -/
import Derived.Test.YtjeicgibddfifaaPc21
import Derived.Test.YtjeicgibddfifaaPc23
import Derived.Test.YtjeicgibddfifaaPc24
import Derived.Test.YtjeicgibddfifaaPc28
import Derived.Test.YtjeicgibddfifaaPc16
import Derived.Test.YtjeicgibddfifaaPc27
import Derived.Deep.RegionHeld3
import Derived.Deep.Cut
import Derived.Deep.CutRange
import Derived.Laws.EntriesVeiled
import Derived.Lib.AppendZeros
namespace Go.Proofs.Ytjeicgibddfifaa
open Go.RowKit
open KM
attribute [local go_sem ↓] Go.wp_at_zero Go.wp_at_succ

set_option maxRecDepth 100000 in
theorem appRunT {W : World} {base : Nat} {v : Value} {ys : List Ta} (S : Sl) (ty : TypeId) (hown : GOwn encT 51 W base v ys)
  (hS : SlOk W S) (hlen : ys.length + S.xs.length ≤ 100000000) (hB : base ≤ W.heap.size) :
  ∃ v' w', (Builtin.append_ #[23, 23] ty #[v, .slice S.a S.n S.c]).run Try.prog W = .ok v' w' ∧ GOwn encT 51 w' base v' (ys ++ S.xs) ∧ Below base W w' := by
 obtain ⟨i0, hi, hz0, hz1, hz2⟩ := info_parts Try.info51
 have hone : ∀ u ∈ encT.cells S.xs, u.oneCell' = true := fun u hu => by
  unfold Enc.cells at hu
  obtain ⟨y, _, hy⟩ := List.mem_flatMap.1 hu
  exact tone u hy
 have key : ∃ v' w', (Builtin.append_ #[23, 23] ty #[v, .slice S.a S.n S.c]).run Try.prog W = .ok v' w' ∧ w'.ownsRow base 51 8 v' (ys ++ S.xs).length (encT.cells (ys ++ S.xs)) ∧ W.grownBy w' v.ownBlock := by
  rw [encT.cells_app, List.length_append]
  cases ha : S.a with
  | none =>
   obtain ⟨e1, e2⟩ := hS.z ha
   have e3 : S.xs = [] := List.length_eq_zero_iff.1 (by rw [← hS.n]; exact e1)
   rw [e1, e2, e3]
   refine ⟨v, W, run_append_owned_none (P := Try.prog) W base 23 ty 51 i0 8 Try.underlying23 hi v _ _ hown, ?_, ⟨rfl, rfl, rfl, Nat.le_refl _, fun _ _ _ => rfl⟩⟩
   have e : encT.cells ([] : List Ta) = [] := rfl
   rw [e, List.append_nil]
   exact hown
  | some ad =>
   have hc : ∀ j u, (encT.cells S.xs)[j]? = some u → W.cell? (ad.add j) = some u := fun j u hj => by
    have hlt : j < (encT.cells S.xs).length := (List.getElem?_eq_some_iff.1 hj).1
    have hl8 : (encT.cells S.xs).length = S.xs.length * 8 := encT.cells_len S.xs
    rw [hl8] at hlt
    obtain ⟨b, off, e, hbl, hcell⟩ := hS.r (by omega)
    rw [ha] at e
    cases e
    have hj1 : j / 8 < S.xs.length := by omega
    have h9 := hcell (j / 8) hj1 (j % 8) (Nat.mod_lt _ (by decide))
    have h8 := encT.cells_at S.xs (j / 8) hj1 (j % 8) (Nat.mod_lt _ (by decide))
    have e8 : j / 8 * encT.size + j % 8 = j := by show j / 8 * 8 + j % 8 = j; omega
    rw [e8] at h8
    rw [Addr.add_lit, ← hj, h8, ← h9]
    congr 2
    show off + j = off + j / 8 * 8 + j % 8
    omega
   obtain ⟨v', w', hr, q1, q2, _⟩ := run_append_own (P := Try.prog) W base 23 ty 51 i0 _ 8 104 Try.underlying23 hi hz0 hz1 hz2 rfl (by omega) v ys.length (encT.cells ys) hown ad S.n S.c (encT.cells S.xs) (by rw [encT.cells_len, hS.n]; rfl) hc hone (by rw [hS.n]; unfold maxLen; omega) (by rw [hS.n]; omega) hB
   refine ⟨v', w', hr, by rw [← hS.n]; exact q1, q2⟩
 obtain ⟨v', w', hr, q1, q2⟩ := key
 exact ⟨v', w', hr, q1, (Below.refl _ _).grown q2 hB (fun j hj => (World.ownsRow.lt hown j hj).1)⟩
theorem stepRun {ops : Array Oper} {K : Act → World → Prop} {X : Prop} {o : Oper} {a : Act} {Q : Exit → Act → World → Prop} {W : World} (hgd : o.guard = none) (s x : Operand) (T tn : TypeId)
  (ho : o.op = .call { callee := .builtin .append, args := #[s, x], argTypes := #[T, tn] }) (vs vx : Value) (hs : a.eval s = vs) (hx : a.eval x = vx) (v' : Value) (w' : World) (hr : (Builtin.append_ #[T, tn] o.type #[vs, vx]).run Try.prog W = .ok v' w') (h : K (a.put o.dst v') w') :
  if Region.wanted o (yielded ops a.tmps) = true then Oper.wp Try.prog o a W K Q else X := by
 rw [if_pos (by unfold Region.wanted; rw [hgd])]
 exact Lib.wp_append_run W s x T tn ho vs vx hs hx v' w' hr h
theorem own_none {α : Type} {E : Enc α} {e : TypeId} {w : World} {lo n c : Nat} {a : Option Addr} {xs : List α} (h : GOwn E e w lo (.slice a n c) xs) (ha : a = none) : n = 0 ∧ c = 0 := by
 rcases h.2 with ⟨hv, _⟩ | ⟨g, cap, cur, hv, _⟩
 ·cases hv
  exact ⟨rfl, rfl⟩
 ·subst ha
  cases hv
def Nones (c : Bb) : Prop := (c.pa = none → c.ps.length = 0 ∧ c.pc = 0) ∧ (c.qa = none → c.qs.length = 0 ∧ c.qc = 0)
theorem BLie.nones {w : World} {lo hi : Nat} {c : Bb} (h : BLie w lo hi c) : Nones c := by
 obtain ⟨m1, m2, _, _, _, h1, h2, h3⟩ := h.ex
 exact ⟨fun e => own_none h2.own.own e, fun e => own_none h3.own.own e⟩
theorem EnLie.nones {w : World} {lo hi : Nat} {c : En} (h : EnLie w lo hi c) : Nones c.b := by
 obtain ⟨m, _, _, h1, _⟩ := h.ex
 exact h1.nones
def allT (b : Bb) : List Tx := txs b.ps ++ txs b.qs
theorem txs_app (xs ys : List Ta) : txs (xs ++ ys) = txs xs ++ txs ys := by simp [txs]
theorem all_fit {b : Bb} (h : BFit b) : LFw (txs (b.ps ++ b.qs)) := ⟨trivial, fun t ht => by
 rw [txs_app] at ht
 rcases List.mem_append.1 ht with k | k
 ·exact h.p.2 t k
 ·exact h.q.2 t k⟩
theorem all_each {w : World} {b : Bb} (h : BRows w b) : ∀ x ∈ b.ps ++ b.qs, TRow w x.t x.ra x.wa := fun x hx => by
 rcases List.mem_append.1 hx with k | k
 ·exact h.p.each x k
 ·exact h.q.each x k
def fullB (b : Bb) : Bool := decide (12 ≤ b.ps.length) || (decide (100 < b.vs.length) || decide (9999 ≤ b.cs))
def jdB (b : Bb) (t : Tx) : Int := if blockedB t (allT b) = true then 4 else if dangerB t (allT b) = true then 5 else if fullB b = true then 3 else 0
def judgeB (e : En) (i : Int) : Int := if idxZ (ids e.os) i 0 < 0 then 1 else match (txs e.os)[(idxZ (ids e.os) i 0).toNat]? with
 | some t => jdB e.b t
 | none => 0
theorem judge_same {e c : En} (h : EnSame e c) (i : Int) : judgeB c i = judgeB e i := by
 unfold judgeB
 have h1 : ids c.os = ids e.os := by rw [ids_txs, ids_txs, h.o]
 have h2 : ∀ t, jdB c.b t = jdB e.b t := fun t => by
  unfold jdB allT fullB
  rw [h.b.p, h.b.q, h.b.pl, h.b.v, h.b.cs]
 rw [h1, h.o]
 split
 ·rfl
 ·split
  ·exact h2 _
  ·rfl

set_option maxRecDepth 100000 in
set_option maxHeartbeats 2000000 in
theorem sall (b : Bb) (hf : BFit b) (hz : Nones b) (w : World) (hp : BRows w b) :
  Calls Try.prog 31 #[.agg #[.slice b.va b.vs.length b.vc, .slice b.pa b.ps.length b.pc, .slice b.qa b.qs.length b.qc, .int .i64 b.cs, .int .i64 b.nx]] w fun e w' => ∃ (a1 : Option Addr) (c1 n1 : Nat), e = .returned (.slice a1 n1 c1) ∧ n1 = (b.ps ++ b.qs).length ∧ GRow encT w' a1 (b.ps ++ b.qs) ∧ Below w.heap.size w w' := by
 have BA0 : Hid (Bx (w.alloc (.cells #[.slice b.va b.vs.length b.vc, .slice b.pa b.ps.length b.pc, .slice b.qa b.qs.length b.qc, .int .i64 b.cs, .int .i64 b.nx] 25)) w.heap.size [.slice b.va b.vs.length b.vc, .slice b.pa b.ps.length b.pc, .slice b.qa b.qs.length b.qc, .int .i64 b.cs, .int .i64 b.nx]) := Bx.new w [.slice b.va b.vs.length b.vc, .slice b.pa b.ps.length b.pc, .slice b.qa b.qs.length b.qc, .int .i64 b.cs, .int .i64 b.nx] 25
 have HB0 : Hid (Below w.heap.size w (w.alloc (.cells #[.slice b.va b.vs.length b.vc, .slice b.pa b.ps.length b.pc, .slice b.qa b.qs.length b.qc, .int .i64 b.cs, .int .i64 b.nx] 25))) := (belowRefl w).alloc (Nat.le_refl _) _
 have HS0 : Hid (w.heap.size + 1 ≤ (w.alloc (.cells #[.slice b.va b.vs.length b.vc, .slice b.pa b.ps.length b.pc, .slice b.qa b.qs.length b.qc, .int .i64 b.cs, .int .i64 b.nx] 25)).heap.size) := by show _ ≤ _; simp
 have SP : Hid (∀ W, Below w.heap.size w W → SlOk W ⟨b.pa, b.ps.length, b.pc, b.ps⟩) := fun W h => ⟨rfl, (hp.p.below h).row, hz.1⟩
 have SQ : Hid (∀ W, Below w.heap.size w W → SlOk W ⟨b.qa, b.qs.length, b.qc, b.qs⟩) := fun W h => ⟨rfl, (hp.q.below h).row, hz.2⟩
 have HL : Hid (b.ps.length ≤ 1048576 ∧ b.qs.length ≤ 1048576) := ⟨hf.pl, hf.ql⟩
 clear hp hf hz
 go_enter Try.func31, Try.ntmps31
 go_upto_region 1 with fail
 generalize (w.alloc (.cells #[.slice b.va b.vs.length b.vc, .slice b.pa b.ps.length b.pc, .slice b.qa b.qs.length b.qc, .int .i64 b.cs, .int .i64 b.nx] 25)) = w0 at *
 refine wp_region_held_drew (S := fun w' => w'.cell? ⟨w.heap.size, 1, none⟩ = some (.slice b.pa b.ps.length b.pc) ∧ w'.cell? ⟨w.heap.size, 2, none⟩ = some (.slice b.qa b.qs.length b.qc)) (by kernel_rfl) ⟨BA0.out.c1, BA0.out.c2⟩ (fun hHeld => ?_)
 (refine wpAnyH_take (i := 1) (v := ?_) rfl (by kernel_rfl) (by kernel_rfl) (by kernel_rfl) (fun _ _ _ h => h) (Or.inl ⟨by rfl, ?_⟩) (by assumption) ?_; rotate_left; (focus (intro w hSw; (try dsimp only at hSw); go_simp; (try with_reducible rfl); done)); simp only [Act.put, List.getElem_toArray, List.getElem_cons_zero, List.getElem_cons_succ, List.setIfInBounds_toArray, List.set_cons_zero, List.set_cons_succ])
 (refine wpAnyH_take (i := 2) (v := ?_) rfl (by kernel_rfl) (by kernel_rfl) (by kernel_rfl) (fun _ _ _ h => h) (Or.inl ⟨by rfl, ?_⟩) (by assumption) ?_; rotate_left; (focus (intro w hSw; (try dsimp only at hSw); go_simp; (try with_reducible rfl); done)); simp only [Act.put, List.getElem_toArray, List.getElem_cons_zero, List.getElem_cons_succ, List.setIfInBounds_toArray, List.set_cons_zero, List.set_cons_succ])
 (refine wpAnyH_take (i := 4) (v := ?_) rfl (by kernel_rfl) (by kernel_rfl) (by kernel_rfl) (fun _ _ _ h => h) (Or.inl ⟨by rfl, ?_⟩) (by assumption) ?_; rotate_left; (focus (intro w hSw; (try dsimp only at hSw); go_simp; (try with_reducible rfl); done)); simp only [Act.put, List.getElem_toArray, List.getElem_cons_zero, List.getElem_cons_succ, List.setIfInBounds_toArray, List.set_cons_zero, List.set_cons_succ])
 (refine wpAnyH_take (i := 5) (v := ?_) rfl (by kernel_rfl) (by kernel_rfl) (by kernel_rfl) (fun _ _ _ h => h) (Or.inl ⟨by rfl, ?_⟩) (by assumption) ?_; rotate_left; (focus (intro w hSw; (try dsimp only at hSw); go_simp; (try with_reducible rfl); done)); simp only [Act.put, List.getElem_toArray, List.getElem_cons_zero, List.getElem_cons_succ, List.setIfInBounds_toArray, List.set_cons_zero, List.set_cons_succ])
 refine wpAnyH_ready (rs := [0]) (by kernel_rfl) (by simp) ?_
 refine AllReadyH.cons rfl (fun K hK => ?_) AllReadyH.nil
 go_simp
 have hb : Below w0.heap.size w0 (w0.alloc (.cells #[] 51)).drew := ((belowRefl w0).alloc (Nat.le_refl _) _).drew
 have O1 : Hid (GOwn encT 51 (w0.alloc (.cells #[] 51)).drew w0.heap.size (.slice (some ⟨w0.heap.size, 0, none⟩) 0 0) []) := GOwn.empty w0 w0.heap.size (Nat.le_refl _)
 have HB1 : Hid (Below w.heap.size w (w0.alloc (.cells #[] 51)).drew) := HB0.out.trans (hb.mono HB0.out.size)
 have BA1 : Hid (Bx (w0.alloc (.cells #[] 51)).drew w.heap.size [.slice b.va b.vs.length b.vc, .slice b.pa b.ps.length b.pc, .slice b.qa b.qs.length b.qc, .int .i64 b.cs, .int .i64 b.nx]) := BA0.out.below hb
 have SZ1 : Hid (w0.heap.size ≤ (w0.alloc (.cells #[] 51)).drew.heap.size) := hb.size
 clear hb HB0 BA0
 refine hK.out _ _ ⟨BA1.out.c1, BA1.out.c2⟩ (fun hHeld1 => ?_)
 clear hK K
 generalize (w0.alloc (.cells #[] 51)).drew = w1 at *
 refine wpAnyH_ready (rs := [3]) (by kernel_rfl) (by simp) ?_
 refine AllReadyH.cons rfl (fun K hK => ?_) AllReadyH.nil
 obtain ⟨v2, w2, hr, ho2, hb⟩ := appRunT (base := w0.heap.size) ⟨b.pa, b.ps.length, b.pc, b.ps⟩ 23 O1.out (SP.out w1 HB1.out) (by have := HL.out.1; show 0 + b.ps.length ≤ _; omega) SZ1.out
 refine stepRun rfl _ _ 23 23 rfl _ _ rfl rfl v2 w2 hr ?_
 have hs0 := HS0.out
 have O2 : Hid (GOwn encT 51 w2 w0.heap.size v2 b.ps) := by have h := ho2; rw [List.nil_append] at h; exact h
 have HB2 : Hid (Below w.heap.size w w2) := HB1.out.trans (hb.mono (by omega))
 have BA2 : Hid (Bx w2 w.heap.size [.slice b.va b.vs.length b.vc, .slice b.pa b.ps.length b.pc, .slice b.qa b.qs.length b.qc, .int .i64 b.cs, .int .i64 b.nx]) := bx_low BA1.out hb (by omega)
 have SZ2 : Hid (w0.heap.size ≤ w2.heap.size) := Nat.le_trans SZ1.out hb.size
 clear hr ho2 hb HB1 BA1 O1
 refine hK.out _ _ ⟨BA2.out.c1, BA2.out.c2⟩ (fun hHeld2 => ?_)
 clear hK K
 refine wpAnyH_ready (rs := [6]) (by kernel_rfl) (by simp) ?_
 refine AllReadyH.cons rfl (fun K hK => ?_) AllReadyH.nil
 obtain ⟨v3, w3, hr, ho3, hb⟩ := appRunT (base := w0.heap.size) ⟨b.qa, b.qs.length, b.qc, b.qs⟩ 23 O2.out (SQ.out w2 HB2.out) (by have := HL.out.1; have := HL.out.2; show b.ps.length + b.qs.length ≤ _; omega) SZ2.out
 refine stepRun rfl _ _ 23 23 rfl _ _ rfl rfl v3 w3 hr ?_
 have O3 : Hid (GOwn encT 51 w3 w0.heap.size v3 (b.ps ++ b.qs)) := ho3
 have HB3 : Hid (Below w.heap.size w w3) := HB2.out.trans (hb.mono (by omega))
 have BA3 : Hid (Bx w3 w.heap.size [.slice b.va b.vs.length b.vc, .slice b.pa b.ps.length b.pc, .slice b.qa b.qs.length b.qc, .int .i64 b.cs, .int .i64 b.nx]) := bx_low BA2.out hb (by omega)
 clear hr ho3 hb HB2 BA2 O2
 refine hK.out _ _ ⟨BA3.out.c1, BA3.out.c2⟩ (fun hHeld3 => ?_)
 clear hK K
 obtain ⟨a1, c1, rfl, _⟩ := O3.out.row
 have RG : Hid (GRow encT w3 a1 (b.ps ++ b.qs)) := O3.out.grow
 clear O3
 obtain ⟨n1, hn1⟩ : ∃ n1, n1 = (b.ps ++ b.qs).length := ⟨_, rfl⟩
 rw [← hn1]
 have HN := hide hn1
 clear hn1
 (refine wpAnyH_take (i := 7) (v := ?_) rfl (by kernel_rfl) (by kernel_rfl) (by kernel_rfl) (fun _ _ _ h => h) (Or.inl ⟨by rfl, ?_⟩) (by assumption) ?_; rotate_left; (focus (intro w hSw; (try dsimp only at hSw); go_simp; (try with_reducible rfl); done)); simp only [Act.put, List.getElem_toArray, List.getElem_cons_zero, List.getElem_cons_succ, List.setIfInBounds_toArray, List.set_cons_zero, List.set_cons_succ])
 refine wpAnyH_done (by kernel_rfl) ?_ _
 go_wp2
 go_ret
 exact ⟨a1, c1, n1, rfl, HN.out, RG.out, HB3.out⟩

set_option maxRecDepth 100000 in
set_option maxHeartbeats 2000000 in
theorem sfull (b : Bb) (w : World) :
  Calls Try.prog 34 #[.agg #[.slice b.va b.vs.length b.vc, .slice b.pa b.ps.length b.pc, .slice b.qa b.qs.length b.qc, .int .i64 b.cs, .int .i64 b.nx]] w fun e w' => e = .returned (.bool (fullB b)) ∧ Below w.heap.size w w' := by
 have BA0 : Hid (Bx (w.alloc (.cells #[.slice b.va b.vs.length b.vc, .slice b.pa b.ps.length b.pc, .slice b.qa b.qs.length b.qc, .int .i64 b.cs, .int .i64 b.nx] 25)) w.heap.size [.slice b.va b.vs.length b.vc, .slice b.pa b.ps.length b.pc, .slice b.qa b.qs.length b.qc, .int .i64 b.cs, .int .i64 b.nx]) := Bx.new w [.slice b.va b.vs.length b.vc, .slice b.pa b.ps.length b.pc, .slice b.qa b.qs.length b.qc, .int .i64 b.cs, .int .i64 b.nx] 25
 have HB0 : Hid (Below w.heap.size w (w.alloc (.cells #[.slice b.va b.vs.length b.vc, .slice b.pa b.ps.length b.pc, .slice b.qa b.qs.length b.qc, .int .i64 b.cs, .int .i64 b.nx] 25))) := (belowRefl w).alloc (Nat.le_refl _) _
 have d1 : decide ((12 : Int) ≤ (b.ps.length : Int)) = decide (12 ≤ b.ps.length) := by rw [decide_eq_decide]; omega
 have d2 : decide ((100 : Int) < (b.vs.length : Int)) = decide (100 < b.vs.length) := by rw [decide_eq_decide]; omega
 unfold fullB
 generalize decide (12 ≤ b.ps.length) = p1 at *
 generalize decide (100 < b.vs.length) = p2 at *
 go_enter Try.func34, Try.ntmps34
 go_upto_region 1 with fail
 generalize (w.alloc (.cells #[.slice b.va b.vs.length b.vc, .slice b.pa b.ps.length b.pc, .slice b.qa b.qs.length b.qc, .int .i64 b.cs, .int .i64 b.nx] 25)) = w0 at *
 have x0 := BA0.out.c0
 have x1 := BA0.out.c1
 have x3 := BA0.out.c3
 cases p1
 ·cases p2
  ·by_cases h3 : (9999 : Int) ≤ b.cs
   ·go_wp2
    go_ret
    exact ⟨by simp [h3], HB0.out⟩
   ·go_wp2
    go_ret
    exact ⟨by simp [h3], HB0.out⟩
  ·go_wp2
   go_ret
   exact ⟨rfl, HB0.out⟩
 ·go_wp2
  go_ret
  exact ⟨rfl, HB0.out⟩

set_option maxRecDepth 100000 in
set_option maxHeartbeats 2000000 in
theorem ifull (b : Bb) (w : World) :
  Calls Try.prog 59 #[.agg #[.slice b.va b.vs.length b.vc, .slice b.pa b.ps.length b.pc, .slice b.qa b.qs.length b.qc, .int .i64 b.cs, .int .i64 b.nx]] w fun e w' => e = .returned (.bool (fullB b)) ∧ Below w.heap.size w w' := by
 have BA0 : Hid (Bx (w.alloc (.cells #[.slice b.va b.vs.length b.vc, .slice b.pa b.ps.length b.pc, .slice b.qa b.qs.length b.qc, .int .i64 b.cs, .int .i64 b.nx] 25)) w.heap.size [.slice b.va b.vs.length b.vc, .slice b.pa b.ps.length b.pc, .slice b.qa b.qs.length b.qc, .int .i64 b.cs, .int .i64 b.nx]) := Bx.new w [.slice b.va b.vs.length b.vc, .slice b.pa b.ps.length b.pc, .slice b.qa b.qs.length b.qc, .int .i64 b.cs, .int .i64 b.nx] 25
 have HB0 : Hid (Below w.heap.size w (w.alloc (.cells #[.slice b.va b.vs.length b.vc, .slice b.pa b.ps.length b.pc, .slice b.qa b.qs.length b.qc, .int .i64 b.cs, .int .i64 b.nx] 25))) := (belowRefl w).alloc (Nat.le_refl _) _
 have d1 : decide ((12 : Int) ≤ (b.ps.length : Int)) = decide (12 ≤ b.ps.length) := by rw [decide_eq_decide]; omega
 have d2 : decide ((100 : Int) < (b.vs.length : Int)) = decide (100 < b.vs.length) := by rw [decide_eq_decide]; omega
 unfold fullB
 generalize decide (12 ≤ b.ps.length) = p1 at *
 generalize decide (100 < b.vs.length) = p2 at *
 go_enter Try.func59, Try.ntmps59
 go_upto_region 1 with fail
 generalize (w.alloc (.cells #[.slice b.va b.vs.length b.vc, .slice b.pa b.ps.length b.pc, .slice b.qa b.qs.length b.qc, .int .i64 b.cs, .int .i64 b.nx] 25)) = w0 at *
 have x0 := BA0.out.c0
 have x1 := BA0.out.c1
 have x3 := BA0.out.c3
 cases p1
 ·cases p2
  ·by_cases h3 : (9999 : Int) ≤ b.cs
   ·go_wp2
    go_ret
    exact ⟨by simp [h3], HB0.out⟩
   ·go_wp2
    go_ret
    exact ⟨by simp [h3], HB0.out⟩
  ·go_wp2
   go_ret
   exact ⟨rfl, HB0.out⟩
 ·go_wp2
  go_ret
  exact ⟨rfl, HB0.out⟩

set_option maxRecDepth 100000 in
set_option maxHeartbeats 2000000 in
theorem ijudged (b : Bb) (t : Tx) (ra wa : Option Addr) (rc wc : Nat) (hf : BFit b) (ft : TFit t) (hz : Nones b) (w : World) (hp : BRows w b) (ht : TRow w t ra wa) :
  Calls Try.prog 35 #[.agg #[.slice b.va b.vs.length b.vc, .slice b.pa b.ps.length b.pc, .slice b.qa b.qs.length b.qc, .int .i64 b.cs, .int .i64 b.nx], .agg #[.int .i64 t.id, .int .i64 t.st, .int .i64 t.snap, .int .i64 t.cs, .slice ra t.rs.length rc, .slice wa t.ws.length wc, .bool t.out, .string t.nm]] w fun e w' => e = .returned (.int .i64 (jdB b t)) ∧ Below w.heap.size w w' := by
 have BA0 : Hid (Bx (((w.alloc (.cells #[.slice b.va b.vs.length b.vc, .slice b.pa b.ps.length b.pc, .slice b.qa b.qs.length b.qc, .int .i64 b.cs, .int .i64 b.nx] 25)).alloc (.cells #[.int .i64 t.id, .int .i64 t.st, .int .i64 t.snap, .int .i64 t.cs, .slice ra t.rs.length rc, .slice wa t.ws.length wc, .bool t.out, .string t.nm] 51)).alloc (.cells #[.slice b.pa b.ps.length b.pc, .slice b.qa b.qs.length b.qc] 23)) w.heap.size [.slice b.va b.vs.length b.vc, .slice b.pa b.ps.length b.pc, .slice b.qa b.qs.length b.qc, .int .i64 b.cs, .int .i64 b.nx]) := ((Bx.new w [.slice b.va b.vs.length b.vc, .slice b.pa b.ps.length b.pc, .slice b.qa b.qs.length b.qc, .int .i64 b.cs, .int .i64 b.nx] 25).alloc _).alloc _
 have BT0 : Hid (Bx (((w.alloc (.cells #[.slice b.va b.vs.length b.vc, .slice b.pa b.ps.length b.pc, .slice b.qa b.qs.length b.qc, .int .i64 b.cs, .int .i64 b.nx] 25)).alloc (.cells #[.int .i64 t.id, .int .i64 t.st, .int .i64 t.snap, .int .i64 t.cs, .slice ra t.rs.length rc, .slice wa t.ws.length wc, .bool t.out, .string t.nm] 51)).alloc (.cells #[.slice b.pa b.ps.length b.pc, .slice b.qa b.qs.length b.qc] 23)) (w.heap.size + 1) [.int .i64 t.id, .int .i64 t.st, .int .i64 t.snap, .int .i64 t.cs, .slice ra t.rs.length rc, .slice wa t.ws.length wc, .bool t.out, .string t.nm]) := by
  have h := (Bx.new (w.alloc (.cells #[.slice b.va b.vs.length b.vc, .slice b.pa b.ps.length b.pc, .slice b.qa b.qs.length b.qc, .int .i64 b.cs, .int .i64 b.nx] 25)) [.int .i64 t.id, .int .i64 t.st, .int .i64 t.snap, .int .i64 t.cs, .slice ra t.rs.length rc, .slice wa t.ws.length wc, .bool t.out, .string t.nm] 51).alloc (.cells #[.slice b.pa b.ps.length b.pc, .slice b.qa b.qs.length b.qc] 23)
  rw [World.size_alloc] at h
  exact h
 have HB0 : Hid (Below w.heap.size w (((w.alloc (.cells #[.slice b.va b.vs.length b.vc, .slice b.pa b.ps.length b.pc, .slice b.qa b.qs.length b.qc, .int .i64 b.cs, .int .i64 b.nx] 25)).alloc (.cells #[.int .i64 t.id, .int .i64 t.st, .int .i64 t.snap, .int .i64 t.cs, .slice ra t.rs.length rc, .slice wa t.ws.length wc, .bool t.out, .string t.nm] 51)).alloc (.cells #[.slice b.pa b.ps.length b.pc, .slice b.qa b.qs.length b.qc] 23))) := (((belowRefl w).alloc (Nat.le_refl _) _).alloc (by simp) _).alloc (by simp; omega) _
 have BS : Hid (Bx (((w.alloc (.cells #[.slice b.va b.vs.length b.vc, .slice b.pa b.ps.length b.pc, .slice b.qa b.qs.length b.qc, .int .i64 b.cs, .int .i64 b.nx] 25)).alloc (.cells #[.int .i64 t.id, .int .i64 t.st, .int .i64 t.snap, .int .i64 t.cs, .slice ra t.rs.length rc, .slice wa t.ws.length wc, .bool t.out, .string t.nm] 51)).alloc (.cells #[.slice b.pa b.ps.length b.pc, .slice b.qa b.qs.length b.qc] 23)) (w.heap.size + 1 + 1) [.slice b.pa b.ps.length b.pc, .slice b.qa b.qs.length b.qc]) := by
  have h := Bx.new ((w.alloc (.cells #[.slice b.va b.vs.length b.vc, .slice b.pa b.ps.length b.pc, .slice b.qa b.qs.length b.qc, .int .i64 b.cs, .int .i64 b.nx] 25)).alloc (.cells #[.int .i64 t.id, .int .i64 t.st, .int .i64 t.snap, .int .i64 t.cs, .slice ra t.rs.length rc, .slice wa t.ws.length wc, .bool t.out, .string t.nm] 51)) [.slice b.pa b.ps.length b.pc, .slice b.qa b.qs.length b.qc] 23
  rw [World.size_alloc, World.size_alloc] at h
  exact h
 have RS : Hid (GRow encSl (((w.alloc (.cells #[.slice b.va b.vs.length b.vc, .slice b.pa b.ps.length b.pc, .slice b.qa b.qs.length b.qc, .int .i64 b.cs, .int .i64 b.nx] 25)).alloc (.cells #[.int .i64 t.id, .int .i64 t.st, .int .i64 t.snap, .int .i64 t.cs, .slice ra t.rs.length rc, .slice wa t.ws.length wc, .bool t.out, .string t.nm] 51)).alloc (.cells #[.slice b.pa b.ps.length b.pc, .slice b.qa b.qs.length b.qc] 23)) (some ⟨w.heap.size + 1 + 1, 0, none⟩) [⟨b.pa, b.ps.length, b.pc, b.ps⟩, ⟨b.qa, b.qs.length, b.qc, b.qs⟩]) := fun _ => ⟨w.heap.size + 1 + 1, 0, rfl, by simp, fun j hj i hi => by
  obtain rfl : i = 0 := by simpa [encSl] using hi
  have : j = 0 ∨ j = 1 := by simp at hj; omega
  rcases this with rfl | rfl
  ·have h := BS.out.c0
   show _ = some _
   simpa [encSl] using h
  ·have h := BS.out.c1
   show _ = some _
   simpa [encSl] using h⟩
 have ES : Hid (sums [⟨b.pa, b.ps.length, b.pc, b.ps⟩, ⟨b.qa, b.qs.length, b.qc, b.qs⟩] = b.ps ++ b.qs) := by show _ = _; simp [sums]
 have hlen : (b.ps ++ b.qs).length ≤ 10000000 := by rw [List.length_append]; have := hf.pl; have := hf.ql; omega
 have CC := hide (concat43 [⟨b.pa, b.ps.length, b.pc, b.ps⟩, ⟨b.qa, b.qs.length, b.qc, b.qs⟩] (some ⟨w.heap.size + 1 + 1, 0, none⟩) 2 2 rfl (by omega) (by rw [ES.out]; exact hlen) (((w.alloc (.cells #[.slice b.va b.vs.length b.vc, .slice b.pa b.ps.length b.pc, .slice b.qa b.qs.length b.qc, .int .i64 b.cs, .int .i64 b.nx] 25)).alloc (.cells #[.int .i64 t.id, .int .i64 t.st, .int .i64 t.snap, .int .i64 t.cs, .slice ra t.rs.length rc, .slice wa t.ws.length wc, .bool t.out, .string t.nm] 51)).alloc (.cells #[.slice b.pa b.ps.length b.pc, .slice b.qa b.qs.length b.qc] 23)) RS.out (fun s hs => by
  rcases List.mem_cons.1 hs with rfl | hs
  ·exact ⟨rfl, (hp.p.below HB0.out).row, hz.1⟩
  ·obtain rfl := List.mem_singleton.1 hs
   exact ⟨rfl, (hp.q.below HB0.out).row, hz.2⟩))
 rw [ES.out] at CC
 have EA : Hid (txs (b.ps ++ b.qs) = allT b) := txs_app _ _
 have CB : Hid (∀ (W : World) (a1 : Option Addr) (c1 n1 : Nat), n1 = (b.ps ++ b.qs).length → Below w.heap.size w W → GRow encT W a1 (b.ps ++ b.qs) → Calls Try.prog 57 #[.agg #[.int .i64 t.id, .int .i64 t.st, .int .i64 t.snap, .int .i64 t.cs, .slice ra t.rs.length rc, .slice wa t.ws.length wc, .bool t.out, .string t.nm], .slice a1 n1 c1] W fun e w' => e = .returned (.bool (blockedB t (allT b))) ∧ Below W.heap.size W w') := fun W a1 c1 n1 h1 h2 h3 => by
  have h := iblocked t ra wa rc wc (b.ps ++ b.qs) a1 c1 n1 h1 (by omega) ft (all_fit hf) W (ht.below h2) ⟨h3, all_each (hp.below h2)⟩
  rwa [EA.out] at h
 have CD : Hid (∀ (W : World) (a1 : Option Addr) (c1 n1 : Nat), n1 = (b.ps ++ b.qs).length → Below w.heap.size w W → GRow encT W a1 (b.ps ++ b.qs) → Calls Try.prog 58 #[.agg #[.int .i64 t.id, .int .i64 t.st, .int .i64 t.snap, .int .i64 t.cs, .slice ra t.rs.length rc, .slice wa t.ws.length wc, .bool t.out, .string t.nm], .slice a1 n1 c1] W fun e w' => e = .returned (.bool (dangerB t (allT b))) ∧ Below W.heap.size W w') := fun W a1 c1 n1 h1 h2 h3 => by
  have h := idanger t ra wa rc wc (b.ps ++ b.qs) a1 c1 n1 h1 (by omega) ft (all_fit hf) W (ht.below h2) ⟨h3, all_each (hp.below h2)⟩
  rwa [EA.out] at h
 have CU : Hid (∀ W : World, Calls Try.prog 59 #[.agg #[.slice b.va b.vs.length b.vc, .slice b.pa b.ps.length b.pc, .slice b.qa b.qs.length b.qc, .int .i64 b.cs, .int .i64 b.nx]] W fun e w' => e = .returned (.bool (fullB b)) ∧ Below W.heap.size W w') := fun W => ifull b W
 clear hp hf RS BS ES hz hlen ht ft
 unfold jdB
 generalize blockedB t (allT b) = r1 at *
 generalize dangerB t (allT b) = r2 at *
 generalize fullB b = r3 at *
 obtain ⟨zs, hzs⟩ : ∃ zs, zs = b.ps ++ b.qs := ⟨_, rfl⟩
 rw [← hzs] at CC CB CD
 clear hzs EA
 go_enter Try.func35, Try.ntmps35
 go_wp2_with fail
 refine CC.out.mono ?_
 rintro e w2 ⟨a1, c1, n1, rfl, hn1, ho, hb⟩
 have HN1 : Hid (n1 = zs.length) := hn1
 have RZ : Hid (GRow encT w2 a1 zs) := by subst hn1; exact ho.grow
 clear hn1 ho
 have HB2 : Hid (Below w.heap.size w w2) := HB0.out.trans (hb.mono HB0.out.size)
 have BA2 : Hid (Bx w2 w.heap.size [.slice b.va b.vs.length b.vc, .slice b.pa b.ps.length b.pc, .slice b.qa b.qs.length b.qc, .int .i64 b.cs, .int .i64 b.nx]) := BA0.out.below hb
 have BT2 : Hid (Bx w2 (w.heap.size + 1) [.int .i64 t.id, .int .i64 t.st, .int .i64 t.snap, .int .i64 t.cs, .slice ra t.rs.length rc, .slice wa t.ws.length wc, .bool t.out, .string t.nm]) := BT0.out.below hb
 clear hb HB0 BA0 BT0 CC
 have x0 := BT2.out.c0
 have x1 := BT2.out.c1
 have x2 := BT2.out.c2
 have x3 := BT2.out.c3
 have x4 := BT2.out.c4
 have x5 := BT2.out.c5
 have x6 := BT2.out.c6
 have x7 := BT2.out.c7
 go_wp2_with fail
 refine (CB.out _ a1 c1 n1 HN1.out HB2.out RZ.out).mono ?_
 rintro e w3 ⟨rfl, hb⟩
 replace RZ : Hid (GRow encT w3 a1 zs) := RZ.out.below hb
 have HB3 : Hid (Below w.heap.size w w3) := HB2.out.trans (hb.mono HB2.out.size)
 have BA3 : Hid (Bx w3 w.heap.size [.slice b.va b.vs.length b.vc, .slice b.pa b.ps.length b.pc, .slice b.qa b.qs.length b.qc, .int .i64 b.cs, .int .i64 b.nx]) := BA2.out.below hb
 have BT3 : Hid (Bx w3 (w.heap.size + 1) [.int .i64 t.id, .int .i64 t.st, .int .i64 t.snap, .int .i64 t.cs, .slice ra t.rs.length rc, .slice wa t.ws.length wc, .bool t.out, .string t.nm]) := BT2.out.below hb
 clear hb HB2 BA2 BT2
 clear x0 x1 x2 x3 x4 x5 x6 x7
 cases r1
 rotate_left
 ·go_wp2
  go_ret
  exact ⟨rfl, HB3.out⟩
 have x0 := BT3.out.c0
 have x1 := BT3.out.c1
 have x2 := BT3.out.c2
 have x3 := BT3.out.c3
 have x4 := BT3.out.c4
 have x5 := BT3.out.c5
 have x6 := BT3.out.c6
 have x7 := BT3.out.c7
 go_wp2_with fail
 refine (CD.out _ a1 c1 n1 HN1.out HB3.out RZ.out).mono ?_
 rintro e w4 ⟨rfl, hb⟩
 have HB4 : Hid (Below w.heap.size w w4) := HB3.out.trans (hb.mono HB3.out.size)
 have BA4 : Hid (Bx w4 w.heap.size [.slice b.va b.vs.length b.vc, .slice b.pa b.ps.length b.pc, .slice b.qa b.qs.length b.qc, .int .i64 b.cs, .int .i64 b.nx]) := BA3.out.below hb
 clear hb HB3 BA3 BT3 RZ
 clear x0 x1 x2 x3 x4 x5 x6 x7
 cases r2
 rotate_left
 ·go_wp2
  go_ret
  exact ⟨rfl, HB4.out⟩
 have x0 := BA4.out.c0
 have x1 := BA4.out.c1
 have x2 := BA4.out.c2
 have x3 := BA4.out.c3
 have x4 := BA4.out.c4
 go_wp2_with fail
 refine (CU.out _).mono ?_
 rintro e w5 ⟨rfl, hb⟩
 have HB5 : Hid (Below w.heap.size w w5) := HB4.out.trans (hb.mono HB4.out.size)
 clear hb HB4 BA4
 clear x0 x1 x2 x3 x4
 cases r3
 ·go_wp2
  go_ret
  exact ⟨rfl, HB5.out⟩
 ·go_wp2
  go_ret
  exact ⟨rfl, HB5.out⟩

end Go.Proofs.Ytjeicgibddfifaa
