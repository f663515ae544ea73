/- Writes that are drawn. -/
import Derived.Test.YtbajpnbodhhmjaaPq10
import Derived.Test.YtbajpnbodhhmjaaProg
import Derived.WalkKit
import Derived.Test.YtbajpnbodhhmjaaPq01
import Derived.WalkSpells
import Derived.WalkLawsBesides
import Derived.Deep.QuietTactic
import Derived.BigQuiet
import Derived.Deep.RegionHeld3
import Derived.Deep.DrawnRows
import Derived.Deep.AppendLies
import Derived.Test.YtbajpnbodhhmjaaPq02
import Derived.Test.YtbajpnbodhhmjaaPq03
import Derived.Test.YtbajpnbodhhmjaaPq09
import Derived.Lib.SmallJoins
import Derived.Deep.Strs
import Derived.ProofKit
import Derived.OpenShut
import Derived.ShutString
import Derived.ChangeOld
namespace Go.Proofs.Ytbajpnbodhhmjaa
open Go.RowKit
open KM
attribute [local go_sem ↓] Go.wp_at_zero Go.wp_at_succ

set_option maxRecDepth 100000 in
set_option maxHeartbeats 1000000 in
theorem drWrite (g len cap : Nat) (a : Option Addr) (w : World) (hc : CurI w g a len cap) :
    Calls Try.prog 42 #[.pointer (some ⟨g, 0, none⟩)] w fun e w' => ∃ x : Wt, WtD x ∧ e = .returned (.agg #[.string x.1, .string x.2.1, .bool x.2.2]) ∧ Dn w w' g a len cap := by
  have HC : Hid (CurI w g a len cap) := hc
  have hgl : g < w.heap.size := hc.lt
  have hne : w.heap.size ≠ g := Nat.ne_of_gt hc.lt
  clear hc
  go_enter Try.func42, Try.ntmps42
  go_wp2_with fail
  refine (drKey g len cap a _ (HC.out.alloc _)).mono ?_
  rintro e w1 ⟨k, hk, rfl, d1⟩
  have D1 : Hid (Dn w w1 g a len cap) := ((Dn.start HC.out).alloc _).step d1
  have B1 : Hid (Bx w1 w.heap.size [.string ⟨#[]⟩, .string ⟨#[]⟩, .bool false]) := (Bx.new w [.string ⟨#[]⟩, .string ⟨#[]⟩, .bool false] 58).keptD d1 hne
  have HK : Hid (KeyD k) := hk
  have s1 : w.heap.size < w1.heap.size := B1.out.lt
  clear d1 hk
  go_wp2_with fail
  refine (drPickN g len cap a valL 4 w1.heap.size 4 rfl (by omega) (by omega) _ (D1.out.c.alloc _) (by omega) (Bx.new w1 (valL.map Value.string) 9)).mono ?_
  rintro e w2 ⟨v, hv, rfl, d2⟩
  have D2 : Hid (Dn w w2 g a len cap) := (D1.out.alloc _).step d2
  have B2 : Hid (Bx w2 w.heap.size [.string ⟨#[]⟩, .string ⟨#[]⟩, .bool false]) := (B1.out.alloc _).keptD d2 hne
  have HV : Hid (v.size ≤ 3) := valL_ok v hv
  have s2 : w.heap.size < w2.heap.size := B2.out.lt
  clear d2 hv
  have X2 : Hid (Bx (w2.alloc (.cells #[.string k, .string v, .bool false] 58)) w2.heap.size [.string k, .string v, .bool false]) := Bx.new w2 _ 58
  go_wp2_with fail
  refine (drOnce g len cap a 5 (by omega) (by omega) _ (D2.out.c.alloc _)).mono ?_
  rintro e w3 ⟨b, rfl, d3⟩
  have D3 : Hid (Dn w w3 g a len cap) := (D2.out.alloc _).step d3
  have B3 : Hid (Bx w3 w.heap.size [.string ⟨#[]⟩, .string ⟨#[]⟩, .bool false]) := (B2.out.alloc _).keptD d3 hne
  have X3 : Hid (Bx w3 w2.heap.size [.string k, .string v, .bool false]) := X2.out.keptD d3 (by omega)
  clear d3 X2 B1 B2
  have c0 := B3.out.c0
  have c1 := B3.out.c1
  have c2 := B3.out.c2
  have fz := B3.out.fz
  have x0 := X3.out.c0
  have x1 := X3.out.c1
  have x2 := X3.out.c2
  have xf := X3.out.fz
  cases b
  · go_wp2
    have BF := ((B3.out.set 0 (.string k)).set 1 (.string v)).set 2 (.bool false)
    have e0 := BF.c0
    have e1 := BF.c1
    have e2 := BF.c2
    exact bodyPost_ret (v := .agg #[.string k, .string v, .bool false]) (by simp [results, Try.results42, go_sem, e0, e1, e2]) rfl ⟨(k, v, false), wtd_no HK.out HV.out, rfl, ((D3.out.set (Nat.le_refl _) _).set (Nat.le_refl _) _).set (Nat.le_refl _) _⟩
  · have hX : w2.heap.size ≠ w.heap.size := by omega
    go_wp2
    have BF := ((((B3.out.setO (p := ⟨w2.heap.size, 2, none⟩) (by omega) (.bool true)).setO (p := ⟨w2.heap.size, 1, none⟩) (by omega) (.string ⟨#[]⟩)).set 0 (.string k)).set 1 (.string ⟨#[]⟩)).set 2 (.bool true)
    have e0 := BF.c0
    have e1 := BF.c1
    have e2 := BF.c2
    exact bodyPost_ret (v := .agg #[.string k, .string ⟨#[]⟩, .bool true]) (by simp [results, Try.results42, go_sem, e0, e1, e2]) rfl ⟨(k, ⟨#[]⟩, true), wtd_gone HK.out, rfl, ((((D3.out.set (p := ⟨w2.heap.size, 2, none⟩) (by show _ ≤ w2.heap.size; omega) _).set (p := ⟨w2.heap.size, 1, none⟩) (by show _ ≤ w2.heap.size; omega) _).set (Nat.le_refl _) _).set (Nat.le_refl _) _).set (Nat.le_refl _) _⟩

set_option maxRecDepth 100000 in
set_option maxHeartbeats 1000000 in
theorem drWrites (g len cap : Nat) (a : Option Addr) (w : World) (hc : CurI w g a len cap) :
    Calls Try.prog 25 #[.pointer (some ⟨g, 0, none⟩)] w fun e w' => ∃ (xs : List Wt) (a1 : Option Addr) (c1 : Nat), WsD xs ∧ xs.length ≤ 3 ∧ e = .returned (.slice a1 xs.length c1) ∧ GOwn encW 58 w' w.heap.size (.slice a1 xs.length c1) xs ∧ Dn w w' g a len cap := by
  have HC : Hid (CurI w g a len cap) := hc
  have hgl : g < w.heap.size := hc.lt
  clear hc
  go_enter Try.func25, Try.ntmps25
  go_wp2
  go_loopw [3, 4] (fun v t wr => ∃ (k : Nat) (xs : List Wt) (a1 : Option Addr) (c1 : Nat), k ≤ 3 ∧ t = .int .i64 k ∧ v = .slice a1 xs.length c1 ∧ xs.length ≤ k ∧ Hid (WsD xs) ∧ Hid (GOwn encW 58 wr w.heap.size (.slice a1 xs.length c1) xs) ∧ Hid (Dn w wr g a len cap)) (fun _ t _ => 4 - (intOf t).toNat)
  case atStart => exact ⟨0, [], _, _, by omega, rfl, rfl, Nat.le_refl _, wsd_nil, GOwn.empty _ _ (Nat.le_refl _), (Dn.start HC.out).alloc _⟩
  case round =>
    obtain ⟨k, xs, a1, c1, hk, rfl, rfl, hxl, HS, HO, HD⟩ := hrel
    go_wp2_with fail
    refine (drBelow g len cap a 4 (by omega) (by omega) _ HD.out.c).mono ?_
    rintro e w1 ⟨n, hn, rfl, d1⟩
    have D1 : Hid (Dn w w1 g a len cap) := HD.out.step d1
    have O1 : Hid (GOwn encW 58 w1 w.heap.size (.slice a1 xs.length c1) xs) := HO.out.keptD d1 hgl
    clear d1
    by_cases hlt : k < n
    · have hlt' : (k : Int) < (n : Int) := by omega
      go_wp2_with fail
      refine (drWrite g len cap a _ D1.out.c).mono ?_
      rintro e w2 ⟨x, hx, rfl, d2⟩
      have D2 : Hid (Dn w w2 g a len cap) := D1.out.step d2
      have O2 : Hid (GOwn encW 58 w2 w.heap.size (.slice a1 xs.length c1) xs) := O1.out.keptD d2 hgl
      have HX : Hid (WtD x) := hx
      clear d2 hx
      go_wp2_with fail
      refine (sput xs x a1 c1 (by omega) _ O2.out.grow).mono ?_
      rintro e w3 ⟨a2, c2, rfl, ho3, hb3⟩
      have O3 : Hid (GOwn encW 58 w3 w.heap.size (.slice a2 (putS xs x).length c2) (putS xs x)) := ho3.mono D2.out.size
      have D3 : Hid (Dn w w3 g a len cap) := D2.out.below hb3
      have HS2 : Hid (WsD (putS xs x)) := wsd_put HS.out HX.out
      have hl2 : (putS xs x).length ≤ k + 1 := Nat.le_trans (len_put xs x) (by omega)
      clear ho3 hb3
      go_wp2
      go_roundw
      case rel => exact ⟨k + 1, _, a2, c2, by omega, by go_num, rfl, hl2, HS2, O3, D3⟩
      case measure => simp [intOf]; omega
    · have hlt' : ¬ (k : Int) < (n : Int) := by omega
      go_wp2
      go_ret
      exact ⟨xs, a1, c1, HS.out, by omega, rfl, O1.out, D1.out⟩

end Go.Proofs.Ytbajpnbodhhmjaa

namespace Go.Proofs.Ytbajpnbodhhmjaa
open Go.RowKit
open KM
attribute [local go_sem ↓] Go.wp_at_zero Go.wp_at_succ

set_option maxRecDepth 100000 in
set_option maxHeartbeats 1000000 in
theorem drRanges (g len cap : Nat) (a : Option Addr) (w : World) (hc : CurI w g a len cap) :
    Calls Try.prog 24 #[.pointer (some ⟨g, 0, none⟩)] w fun e w' => ∃ (xs : List Rg) (a1 : Option Addr) (c1 : Nat), RsD xs ∧ xs.length ≤ 3 ∧ e = .returned (.slice a1 xs.length c1) ∧ GOwn encR 56 w' w.heap.size (.slice a1 xs.length c1) xs ∧ Dn w w' g a len cap := by
  have HC : Hid (CurI w g a len cap) := hc
  have hgl : g < w.heap.size := hc.lt
  clear hc
  go_enter Try.func24, Try.ntmps24
  go_wp2
  go_loopw [3, 4] (fun v t wr => ∃ (k : Nat) (xs : List Rg), k ≤ 3 ∧ t = .int .i64 k ∧ xs.length ≤ k ∧ Hid (RsD xs) ∧ Hid (GOwn encR 56 wr w.heap.size v xs) ∧ Hid (Dn w wr g a len cap)) (fun _ t _ => 4 - (intOf t).toNat)
  case atStart => exact ⟨0, [], by omega, rfl, Nat.le_refl _, fun x hx => by simp at hx, GOwn.empty _ _ (Nat.le_refl _), (Dn.start HC.out).alloc _⟩
  case round =>
    obtain ⟨k, xs, hk, rfl, hxl, HS, HO, HD⟩ := hrel
    go_wp2_with fail
    refine (drBelow g len cap a 4 (by omega) (by omega) _ HD.out.c).mono ?_
    rintro e w1 ⟨n, hn, rfl, d1⟩
    have D1 : Hid (Dn w w1 g a len cap) := HD.out.step d1
    have O1 := hide (HO.out.keptD d1 hgl)
    clear d1
    by_cases hlt : k < n
    · have hlt' : (k : Int) < (n : Int) := by omega
      go_wp2_with fail
      refine (drRange g len cap a _ D1.out.c).mono ?_
      rintro e w2 ⟨x, hx, rfl, d2⟩
      have D2 : Hid (Dn w w2 g a len cap) := D1.out.step d2
      have O2 := hide (O1.out.keptD d2 hgl)
      have hs2 := D2.out.size
      have HS2 : Hid (RsD (xs ++ [x])) := fun y hy => by
        rcases List.mem_append.1 hy with hy | hy
        · exact HS.out y hy
        · rw [List.mem_singleton.1 hy]; exact hx
      clear d2 hx
      go_wp2_with (at_builtin; refine wpAppR rfl _ _ rfl x rfl O2.out rfl (by omega) hs2 ?_)
      intro v' w3 ho3 hb3
      have O3 : Hid (GOwn encR 56 w3 w.heap.size v' (xs ++ [x])) := ho3
      have D3 : Hid (Dn w w3 g a len cap) := D2.out.belowB hb3
      have hl2 : (xs ++ [x]).length ≤ k + 1 := by simp; omega
      clear ho3 hb3
      go_wp2
      go_roundw
      case rel => exact ⟨k + 1, _, by omega, by go_num, hl2, HS2, O3, D3⟩
      case measure => simp [intOf]; omega
    · have hlt' : ¬ (k : Int) < (n : Int) := by omega
      obtain ⟨a1, c1, rfl, _⟩ := O1.out.row
      go_wp2
      go_ret
      exact ⟨xs, a1, c1, HS.out, by omega, rfl, O1.out, D1.out⟩

end Go.Proofs.Ytbajpnbodhhmjaa

namespace Go.Proofs.Ytbajpnbodhhmjaa
open Go.RowKit
open KM
attribute [local go_sem ↓] Go.wp_at_zero Go.wp_at_succ

set_option maxHeartbeats 400000 in
theorem big10 (len cap : Nat) (a : Option Addr) (w : World) : Calls Try.prog 5 #[.slice a len cap] w fun e w' => e = .returned (.bool (decide ((1048576 : Int) < (len : Int)))) ∧ w' = w := by
  go_enter Try.func5, Try.ntmps5
  go_wp2
  go_ret
  exact ⟨rfl, rfl⟩

end Go.Proofs.Ytbajpnbodhhmjaa

namespace Go.Proofs.Ytbajpnbodhhmjaa
open Go.RowKit
open KM
attribute [local go_sem ↓] Go.wp_at_zero Go.wp_at_succ

theorem tone {y : Ta} : ∀ u ∈ encT.enc y, u.oneCell' = true := by
  intro u hu
  simp only [encT, List.mem_cons, List.not_mem_nil, or_false] at hu
  rcases hu with rfl | rfl | rfl | rfl | rfl | rfl | rfl | rfl <;> rfl
structure TOwn (w : World) (base : Nat) (x : Ta) : Prop where
  r : GOwn encR 56 w base (.slice x.ra x.t.rs.length x.rc) x.t.rs
  w : GOwn encW 58 w base (.slice x.wa x.t.ws.length x.wc) x.t.ws
theorem TOwn.row {w : World} {base : Nat} {x : Ta} (h : TOwn w base x) : TRow w x.t x.ra x.wa := ⟨h.r.grow, h.w.grow⟩
theorem TOwn.below {w w' : World} {base : Nat} {x : Ta} (h : TOwn w base x) (hb : Below w.heap.size w w') : TOwn w' base x := ⟨h.r.below hb, h.w.below hb⟩
theorem TOwn.mono {w : World} {base base' : Nat} {x : Ta} (h : TOwn w base x) (hb : base' ≤ base) : TOwn w base' x := ⟨h.r.mono hb, h.w.mono hb⟩
theorem own_apart {w : World} {b b' e e' s s' n n' : Nat} {v v' : Value} {xs xs' : List Value} (h : w.ownsRow b e s v n xs) (h' : w.ownsRow b' e' s' v' n' xs') (hne : e ≠ e') : ∀ g, v.ownBlock = some g → v'.ownBlock ≠ some g := by
  intro g hg hg'
  rcases h.2 with ⟨rfl, _⟩ | ⟨g1, cap, cur, rfl, _, hh, _⟩
  · cases hg
  · rcases h'.2 with ⟨rfl, _⟩ | ⟨g2, cap', cur', rfl, _, hh', _⟩
    · cases hg'
    · have e1 : g1 = g := by simpa [Value.ownBlock] using hg
      have e2 : g2 = g := by simpa [Value.ownBlock] using hg'
      rw [e1] at hh
      rw [e2, hh] at hh'
      cases hh'
      exact hne rfl
theorem own_grown {α : Type} {E : Enc α} {e : TypeId} {w w' : World} {base : Nat} {v : Value} {xs : List α} {row : Option Nat} (h : GOwn E e w base v xs) (hg : w.grownBy w' row) (hne : ∀ g, v.ownBlock = some g → row ≠ some g) : GOwn E e w' base v xs := by
  obtain ⟨h1, h2⟩ := h
  refine ⟨h1, ?_⟩
  rcases h2 with h2 | ⟨g, cap, cur, hv, hg', hh, r⟩
  · exact Or.inl h2
  · refine Or.inr ⟨g, cap, cur, hv, hg', ?_, r⟩
    have hlt : g < w.heap.size := (Array.getElem?_eq_some_iff.1 hh).1
    rw [hg.block g hlt (fun e => hne g (by rw [hv]; rfl) e.symm)]
    exact hh
theorem TOwn.grown {w w' : World} {base b : Nat} {x : Ta} {v : Value} {xs : List Ta} (h : TOwn w base x) (hv : GOwn encT 34 w b v xs) (hg : w.grownBy w' v.ownBlock) : TOwn w' base x :=
  ⟨own_grown h.r hg (own_apart h.r hv (by decide)), own_grown h.w hg (own_apart h.w hv (by decide))⟩
theorem TOwn.keptD {w w' : World} {base g len cap : Nat} {a : Option Addr} {x : Ta} (h : TOwn w base x) (d : Dn w w' g a len cap) (hlt : g < base) : TOwn w' base x := ⟨h.r.keptD d hlt, h.w.keptD d hlt⟩
structure DoneD (t : Tx) : Prop where
  st : t.st = 3
  rs : RsD t.rs
  rl : t.rs.length ≤ 3
  ws : WsD t.ws
  wl : t.ws.length ≤ 3
  nm : t.nm = ⟨#[]⟩
  s0 : 0 ≤ t.snap
  sc : t.snap < t.cs
theorem DoneD.fit {t : Tx} (h : DoneD t) : TFit t := ⟨Nat.le_trans h.rl (by omega), h.rs.fit, Nat.le_trans h.wl (by omega), h.ws.fit, by rw [h.nm]; exact Nat.zero_le _⟩
structure DonesD (ts : List Tx) (c : Nat) : Prop where
  each : ∀ t ∈ ts, DoneD t ∧ t.cs ≤ (c : Int)
  ids : ∀ i (h : i < ts.length), ts[i].id = 1 + (i : Int)
  asc : ts.Pairwise (fun a b => a.cs < b.cs)
theorem DonesD.nil : DonesD [] 0 := ⟨fun t h => (by cases h), fun i h => absurd h (Nat.not_lt_zero _), List.Pairwise.nil⟩
theorem DonesD.snoc {ts : List Tx} {c d : Nat} {t : Tx} (h : DonesD ts c) (hc : c < d) (ht : DoneD t) (hi : t.id = 1 + (ts.length : Int)) (hcs : t.cs = (d : Int)) : DonesD (ts ++ [t]) d := by
  refine ⟨fun y hy => ?_, fun i hi2 => ?_, ?_⟩
  · rcases List.mem_append.1 hy with h1 | h1
    · have := h.each y h1
      exact ⟨this.1, by omega⟩
    · rw [List.mem_singleton.1 h1]; exact ⟨ht, by omega⟩
  · by_cases hl : i < ts.length
    · rw [List.getElem_append_left hl]; exact h.ids i hl
    · rw [List.length_append, List.length_singleton] at hi2
      have e : i = ts.length := by omega
      subst e
      rw [List.getElem_append_right (Nat.le_refl _)]
      simpa using hi
  · rw [List.pairwise_append]
    refine ⟨h.asc, List.pairwise_singleton _ _, fun a ha b hb => ?_⟩
    rw [List.mem_singleton.1 hb]
    have := (h.each a ha).2
    omega
theorem DonesD.fit {ts : List Tx} {c : Nat} (h : DonesD ts c) (hl : ts.length ≤ 5) : LFit ts := ⟨Nat.le_trans hl (by omega), fun t ht => (h.each t ht).1.fit⟩
structure LOwn (w : World) (base : Nat) (v : Value) (ys : List Ta) : Prop where
  row : GOwn encT 34 w base v ys
  each : ∀ y ∈ ys, TOwn w base y
theorem LOwn.below {w w' : World} {base : Nat} {v : Value} {ys : List Ta} (h : LOwn w base v ys) (hb : Below w.heap.size w w') : LOwn w' base v ys := ⟨h.row.below hb, fun y hy => (h.each y hy).below hb⟩
theorem LOwn.keptD {w w' : World} {base g len cap : Nat} {a : Option Addr} {v : Value} {ys : List Ta} (h : LOwn w base v ys) (d : Dn w w' g a len cap) (hlt : g < base) : LOwn w' base v ys := ⟨h.row.keptD d hlt, fun y hy => (h.each y hy).keptD d hlt⟩
theorem LOwn.mono {w : World} {base base' : Nat} {v : Value} {ys : List Ta} (h : LOwn w base v ys) (hb : base' ≤ base) : LOwn w base' v ys := ⟨h.row.mono hb, fun y hy => (h.each y hy).mono hb⟩
theorem LOwn.rows {w : World} {base c : Nat} {a : Option Addr} {ys : List Ta} (h : LOwn w base (.slice a ys.length c) ys) : TRows w a ys := ⟨h.row.grow, fun y hy => (h.each y hy).row⟩

set_option maxRecDepth 100000 in
set_option maxHeartbeats 4000000 in
theorem drDones (g len cap : Nat) (a : Option Addr) (w : World) (hc : CurI w g a len cap) :
    Calls Try.prog 12 #[.pointer (some ⟨g, 0, none⟩)] w fun e w' => ∃ (ys : List Ta) (cs : Nat) (a1 : Option Addr) (c1 : Nat), DonesD (txs ys) cs ∧ ys.length ≤ 5 ∧ cs ≤ 10 ∧ e = .returned (.slice a1 ys.length c1) ∧ LOwn w' w.heap.size (.slice a1 ys.length c1) ys ∧ Dn w w' g a len cap := by
  have HC : Hid (CurI w g a len cap) := hc
  have hgl : g < w.heap.size := hc.lt
  clear hc
  go_enter Try.func12, Try.ntmps12
  go_wp2
  go_loopw [3, 4, 5] (fun v cv t wr => ∃ (k cs : Nat) (ys : List Ta), k ≤ 5 ∧ t = .int .i64 k ∧ cv = .int .i64 cs ∧ cs ≤ 2 * k ∧ Hid (ys.length = k) ∧ Hid (DonesD (txs ys) cs) ∧ Hid (LOwn wr w.heap.size v ys) ∧ Hid (Dn w wr g a len cap)) (fun _ _ t _ => 6 - (intOf t).toNat)
  case atStart => exact ⟨0, 0, [], by omega, rfl, rfl, Nat.le_refl _, rfl, DonesD.nil, ⟨GOwn.empty _ _ (Nat.le_refl _), fun y hy => (by cases hy)⟩, (Dn.start HC.out).alloc _⟩
  case round =>
    obtain ⟨k, cs, ys, hk, rfl, rfl, hck, HYL, HS, HO, HD⟩ := hrel
    obtain ⟨a0, c0, rfl, _⟩ := HO.out.row.row
    go_wp2_with fail
    refine (drBelow g len cap a 6 (by omega) (by omega) _ HD.out.c).mono ?_
    rintro e w1 ⟨n, hn, rfl, d1⟩
    have D1 : Hid (Dn w w1 g a len cap) := HD.out.step d1
    have O1 := hide (HO.out.keptD d1 hgl)
    clear d1 HO HD
    by_cases hlt : k < n
    · have hlt' : (k : Int) < (n : Int) := by omega
      have hk4 : k ≤ 4 := by omega
      go_wp2_with fail
      refine (drRanges g len cap a _ D1.out.c).mono ?_
      rintro e w2 ⟨rs, ra, rc, hrs, hrl, rfl, hor, d2⟩
      have D2 : Hid (Dn w w2 g a len cap) := D1.out.step d2
      have O2 := hide (O1.out.keptD d2 hgl)
      have R2 := hide (hor.mono D1.out.size)
      have HRS := hide hrs
      clear d2 hor hrs D1 O1
      go_wp2_with fail
      refine (drWrites g len cap a _ D2.out.c).mono ?_
      rintro e w3 ⟨ws, wa, wc, hws, hwl, rfl, how, d3⟩
      have D3 : Hid (Dn w w3 g a len cap) := D2.out.step d3
      have O3 := hide (O2.out.keptD d3 hgl)
      have R3 := hide (R2.out.keptD d3 hgl)
      have W3 := hide (how.mono D2.out.size)
      have HWS := hide hws
      have e0 : IntKind.i64.wrap ((cs : Int) + 1) = (cs : Int) + 1 := by rw [IntKind.wrap_i64]; omega
      clear d3 how hws D2 O2 R2
      go_wp2_with fail
      refine (drBelow g len cap a 2 (by omega) (by omega) _ D3.out.c).mono ?_
      rintro e w3b ⟨y, hy, rfl, d3b⟩
      have D3b : Hid (Dn w w3b g a len cap) := D3.out.step d3b
      have O3b := hide (O3.out.keptD d3b hgl)
      have R3b := hide (R3.out.keptD d3b hgl)
      have W3b := hide (W3.out.keptD d3b hgl)
      clear d3b D3 O3 R3 W3
      obtain ⟨d, hd⟩ : ∃ d, d = cs + 1 + y := ⟨_, rfl⟩
      have HD2 : Hid (d = cs + 1 + y) := hd
      have e1 : IntKind.i64.wrap ((cs : Int) + 1 + (y : Int)) = (d : Int) := by rw [IntKind.wrap_i64]; omega
      have e2 : (cs : Int) + 1 + (y : Int) = (d : Int) := by omega
      have hd0 : 0 < d := by omega
      have hd1 : d ≤ 2 * k + 2 := by omega
      have hcd : cs < d := by omega
      have ew : IntKind.i64.wrap (1 + (k : Int)) = 1 + (k : Int) := by rw [IntKind.wrap_i64]; omega
      clear hd hy
      go_wp2_with fail
      refine (drBelow g len cap a d hd0 (by omega) _ D3b.out.c).mono ?_
      rintro e w4 ⟨x, hx, rfl, d4⟩
      have D4 : Hid (Dn w w4 g a len cap) := D3b.out.step d4
      have O4 := hide (O3b.out.keptD d4 hgl)
      have R4 := hide (R3b.out.keptD d4 hgl)
      have W4 := hide (W3b.out.keptD d4 hgl)
      have hs4 := D4.out.size
      clear d4 D3b O3b R3b W3b e1 e2
      have HT : Hid (DoneD ⟨1 + (k : Int), 3, (x : Int), (d : Int), rs, ws, false, ⟨#[]⟩⟩) := ⟨rfl, HRS.out, hrl, HWS.out, hwl, rfl, (by show (0 : Int) ≤ (x : Int); omega), (by show (x : Int) < (d : Int); omega)⟩
      have HS2 : Hid (DonesD (txs (ys ++ [(⟨⟨1 + (k : Int), 3, (x : Int), (d : Int), rs, ws, false, ⟨#[]⟩⟩, ra, rc, wa, wc⟩ : Ta)])) d) := by
        show DonesD _ _
        unfold txs
        rw [List.map_append]
        exact HS.out.snoc hcd HT.out (by show 1 + (k : Int) = 1 + ((txs ys).length : Int); rw [txs_len, HYL.out]) rfl
      have TN : Hid (TOwn w4 w.heap.size ⟨⟨1 + (k : Int), 3, (x : Int), (d : Int), rs, ws, false, ⟨#[]⟩⟩, ra, rc, wa, wc⟩) := ⟨R4.out, W4.out⟩
      have hb5 : Below w4.heap.size w4 (w4.alloc (.cells #[.int .i64 (1 + (k : Int)), .int .i64 3, .int .i64 (x : Int), .int .i64 (d : Int), .slice ra rs.length rc, .slice wa ws.length wc, .bool false, .string ⟨#[]⟩] 34)) := (belowRefl w4).alloc (Nat.le_refl _) _
      have O5 := hide (O4.out.below hb5)
      have T5 := hide (TN.out.below hb5)
      have D5 := hide (D4.out.below hb5)
      have hs5 : w.heap.size ≤ (w4.alloc (.cells #[.int .i64 (1 + (k : Int)), .int .i64 3, .int .i64 (x : Int), .int .i64 (d : Int), .slice ra rs.length rc, .slice wa ws.length wc, .bool false, .string ⟨#[]⟩] 34)).heap.size := Nat.le_trans hs4 hb5.size
      have HBK : Hid ((w4.alloc (.cells #[.int .i64 (1 + (k : Int)), .int .i64 3, .int .i64 (x : Int), .int .i64 (d : Int), .slice ra rs.length rc, .slice wa ws.length wc, .bool false, .string ⟨#[]⟩] 34)).heap[w4.heap.size]? = some (.cells (encT.enc ⟨⟨1 + (k : Int), 3, (x : Int), (d : Int), rs, ws, false, ⟨#[]⟩⟩, ra, rc, wa, wc⟩).toArray 34 (0, 0))) := heap_alloc_new w4 _
      have hyl : ys.length ≤ 100000000 := by rw [HYL.out]; omega
      clear hb5 TN R4 W4 O4 D4
      go_wp2_with (at_builtin; refine wpAppK (E := encT) 24 34 104 _ Try.underlying24 Try.info34 rfl (by omega) rfl _ _ rfl (base := w.heap.size) (v := .slice a0 ys.length c0) (xs := ys) ⟨⟨1 + (k : Int), 3, (x : Int), (d : Int), rs, ws, false, ⟨#[]⟩⟩, ra, rc, wa, wc⟩ tone rfl O5.out.row rfl HBK.out hyl hs5 ?_)
      intro g2 c2 w6 ho hg _ _
      have TA6 : Hid (∀ z ∈ ys ++ [(⟨⟨1 + (k : Int), 3, (x : Int), (d : Int), rs, ws, false, ⟨#[]⟩⟩, ra, rc, wa, wc⟩ : Ta)], TOwn w6 w.heap.size z) := fun z hz => by
        rcases List.mem_append.1 hz with h | h
        · exact (O5.out.each z h).grown O5.out.row hg
        · rw [List.mem_singleton.1 h]; exact T5.out.grown O5.out.row hg
      have D6 : Hid (Dn w w6 g a len cap) := D5.out.belowB (grown_low hg (fun b hb => (World.ownsRow.lt O5.out.row b hb).1) hs5)
      obtain ⟨zs, hzs⟩ : ∃ zs, zs = ys ++ [(⟨⟨1 + (k : Int), 3, (x : Int), (d : Int), rs, ws, false, ⟨#[]⟩⟩, ra, rc, wa, wc⟩ : Ta)] := ⟨_, rfl⟩
      have hzl : ys.length + 1 = zs.length := by rw [hzs]; simp
      rw [← hzs] at ho TA6 HS2
      rw [hzl] at ho
      have HZ : Hid (ys.length + 1 = zs.length) := hzl
      have HZL : Hid (zs.length = k + 1) := by show _ = _; rw [← hzl, HYL.out]
      have O6 : Hid (LOwn w6 w.heap.size (.slice (some ⟨g2, 0, none⟩) zs.length c2) zs) := ⟨ho, TA6.out⟩
      clear hg ho hzs hzl TA6 O5 T5 D5 HBK hyl hs5
      rw [HZ.out]
      go_wp2
      go_roundw
      case rel => exact ⟨k + 1, d, zs, by omega, by go_num, rfl, by omega, HZL, HS2, O6, D6⟩
      case measure => simp [intOf]; omega
    · have hlt' : ¬ (k : Int) < (n : Int) := by omega
      have hyl : ys.length ≤ 5 := by rw [HYL.out]; omega
      go_wp2
      go_ret
      exact ⟨ys, cs, a0, c0, HS.out, hyl, by omega, rfl, O1.out, D1.out⟩

set_option maxRecDepth 100000 in
set_option maxHeartbeats 1000000 in
theorem dDones (len cap : Nat) (a : Option Addr) (hl : len ≤ 1048576) (w : World) (hr : CodeRow w a len) :
    Calls Try.prog 6 #[.slice a len cap] w fun e w' => ∃ (ys : List Ta) (cs : Nat) (a1 : Option Addr) (c1 : Nat), DonesD (txs ys) cs ∧ ys.length ≤ 5 ∧ cs ≤ 10 ∧ e = .returned (.slice a1 ys.length c1) ∧ LOwn w' w.heap.size (.slice a1 ys.length c1) ys ∧ Below w.heap.size w w' := by
  have HR : Hid (CodeRow w a len) := hr
  clear hr
  go_enter Try.func6, Try.ntmps6
  go_wp2_with fail
  refine (drNew len cap a hl _ HR.out).mono ?_
  rintro e w1 ⟨rfl, hc, hb1⟩
  have HC := hide hc
  have HB1 := hide hb1
  have hs1 := hb1.size
  clear hc hb1
  go_wp2_with fail
  refine (drDones w.heap.size len cap a _ HC.out).mono ?_
  rintro e w2 ⟨ys, cs, a1, c1, hd, hyl, hcs, rfl, ho, d2⟩
  have HD := hide hd
  have HO := hide (ho.mono hs1)
  have HB2 : Hid (Below w.heap.size w w2) := d2.out HB1.out (Nat.le_refl _) hs1
  clear hd ho d2
  go_wp2
  go_ret
  exact ⟨ys, cs, a1, c1, HD.out, hyl, hcs, rfl, HO.out, HB2.out⟩

end Go.Proofs.Ytbajpnbodhhmjaa

namespace Go.Proofs.Ytbajpnbodhhmjaa
open Go.ChangeShapes Go.WideShapes Go.ChangeAt Go.RowKit Go.Deep
open KM

theorem laidOutT : laidOutB Try.prog = true := by kernel_rfl
theorem ownT : ownKnob Try.prog.godebug = none := by kernel_rfl

section
variable {H : Type} {enc : TypeId × Value → H} {W : World} {base : Nat}

end
end Go.Proofs.Ytbajpnbodhhmjaa
