/- What laws.markText, the marks of rows and their test do. -/
import Derived.Test.YtblfljmcbpodbaaH1
import Derived.Lib.ItoaNum
import Derived.Lib.ItoaLen
namespace Go.Proofs.Ytblfljmcbpodbaa
open Go.RowKit
open KM
open VM
attribute [local go_sem ↓] Go.wp_at_zero Go.wp_at_succ

def bv (l : List UInt8) : List Value := l.map fun b => .int .u8 b.toNat
def Own (w : World) (base : Nat) (v : Value) (l : List UInt8) : Prop := w.ownsRow base 5 1 v l.length (bv l)
/-- 'string(v)' of owned bytes -/
theorem Own.str {w : World} {base : Nat} {v : Value} {l : List UInt8} (h : Own w base v l) :
    (convert 22 9 v).run Try.prog w = .ok (.string ⟨l.toArray⟩) w := by
  have h0 := h
  rcases h.2 with ⟨rfl, h1⟩ | ⟨g, cap, cur, rfl, hg, hh, hnc, hcp, hcs, htake⟩
  · obtain rfl : l = [] := List.length_eq_zero_iff.1 h1
    rw [run_convert_bytes_string w 22 9 5 none 0 0 Try.underlying22 Try.underlying5 Try.underlying9]
    rfl
  · refine run_convert_bytes_back (P := Try.prog) w 22 9 5 ⟨g, 0, none⟩ cap l Try.underlying22 Try.underlying5 Try.underlying9 ?_
    intro j hj
    rw [Addr.add_lit, Nat.zero_add, World.ownsRow.cellAt h0 j (by omega)]
    simp [bv, hj]
theorem toNat_ofNat (x : Nat) (h : x < 256) : ((UInt8.ofNat x).toNat : Int) = (x : Int) := by
  simp only [UInt8.toNat_ofNat']; omega
/-- the decimal figures of m, none of 0 -/
def dd (m : Nat) : List UInt8 := if m = 0 then [] else Go.Lib.decDigits m
theorem dd_step (m : Nat) (h : 0 < m) : dd m = dd (m / 10) ++ [UInt8.ofNat (48 + m % 10)] := by
  unfold dd
  rw [if_neg (by omega)]
  by_cases hs : m < 10
  · rw [if_pos (by omega), Go.Lib.decDigits_one hs, show m % 10 = m by omega]; rfl
  · rw [if_neg (by omega), Go.Lib.decDigits, dif_neg hs]
/-- the mark of k -/
def mkB (k : Nat) : ByteArray := ⟨#[109]⟩ ++ ⟨(dd k).toArray⟩
theorem dd_len (m : Nat) (h : m < 18446744073709551616) : (dd m).length ≤ 20 := by
  unfold dd
  split
  · simp
  · rw [Lib.decDigits_length]; exact Lib.nDigits_le20 m h
theorem app_data (b : UInt8) (s : ByteArray) : ((⟨#[b]⟩ : ByteArray) ++ s).data.toList = b :: s.data.toList := by simp
theorem dd_round {m N : Nat} {s : ByteArray} (hm : 0 < m) (h : dd m ++ s.data.toList = dd N) : dd (m / 10) ++ ((⟨#[UInt8.ofNat (48 + m % 10)]⟩ : ByteArray) ++ s).data.toList = dd N := by
  rw [app_data, ← h, dd_step m hm]; simp
theorem round_size {m N : Nat} {s : ByteArray} (hN : N < 18446744073709551616) (h : dd m ++ s.data.toList = dd N) : s.size ≤ 20 := by
  have h1 := dd_len N hN
  have h2 := congrArg List.length h
  simp at h2
  omega
theorem conv1 (wr : World) (b : UInt8) (x : Int) (hx : x = (b.toNat : Int)) : (convert 22 9 (.slice (some ⟨wr.heap.size, 0, none⟩) 1 1)).run Try.prog (wr.alloc (.cells #[.int .u8 x] 5)) = .ok (.string ⟨#[b]⟩) (wr.alloc (.cells #[.int .u8 x] 5)) := by
  subst hx
  have h : Own (wr.alloc (.cells #[.int .u8 (b.toNat : Int)] 5)) wr.heap.size (.slice (some ⟨wr.heap.size, 0, none⟩) 1 1) [b] :=
    World.ownsRow_lit (size := 1) wr #[.int .u8 (b.toNat : Int)] 1 (Nat.le_refl _) (by unfold maxLen; omega) rfl
  exact h.str
theorem ret_str {a b : ByteArray} (h : a.data.toList = b.data.toList) : Ending.returned (.string a) = .returned (.string b) := by
  have : a = b := by
    apply ByteArray.ext
    exact Array.toList_inj.1 h
  rw [this]
set_option maxRecDepth 100000 in
set_option maxHeartbeats 1000000 in
theorem mark87 (N : Nat) (h0 : 0 < N) (h1 : N ≤ 1000000000) (w : World) : Calls Try.prog 89 #[.int .i64 N] w fun e w' => e = .returned (.string (mkB N)) ∧ Below w.heap.size w w' := by
  have hd : decide ((N : Int) ≤ 0) = false := by simp; omega
  go_enter Try.func89, Try.ntmps89
  go_wp2
  go_loopw [0, 3] (fun t v wr => ∃ (m : Nat) (s : ByteArray), m ≤ N ∧ t = .int .i64 m ∧ v = .string s ∧ Hid (dd m ++ s.data.toList = dd N) ∧ Below w.heap.size w wr) (fun t _ _ => (intOf t).toNat)
  case atStart => exact ⟨N, ⟨#[]⟩, Nat.le_refl _, rfl, rfl, by show _ = _; simp, Below.refl _ _⟩
  case round =>
    obtain ⟨m, s, hm, rfl, rfl, HE, hb⟩ := hrel
    have hsz := round_size (by omega) HE.out
    by_cases hpos : 0 < m
    · have hpos' : (0 : Int) < (m : Int) := by omega
      have HE2 : Hid _ := dd_round hpos HE.out
      have hcv := conv1 wr (UInt8.ofNat (48 + m % 10)) (48 + (m : Int) % 10) (by rw [toNat_ofNat _ (by omega)]; omega)
      have hsz2 : (⟨#[UInt8.ofNat (48 + m % 10)]⟩ : ByteArray).size ≤ 1 := Nat.le_refl _
      go_wp2
      go_roundw
      case rel => exact ⟨m / 10, _, by omega, by go_num, rfl, by first | exact HE2 | (have := HE2.out; simpa [Hid] using this), hb.alloc hb.size _⟩
      case measure => simp [intOf]; omega
    · have hne : ¬ (0 : Int) < (m : Int) := by omega
      have HS : Hid (s.data.toList = dd N) := by
        have h := HE.out
        rw [show m = 0 by omega] at h
        exact h
      go_wp2
      go_ret
      refine ⟨ret_str ?_, hb⟩
      rw [app_data, HS.out, mkB, app_data]
theorem own_form {w : World} {base e size n c : Nat} {a : Option Addr} {xs : List Value} (h : w.ownsRow base e size (.slice a n c) n xs) (hn : 0 < n) : ∃ g, a = some ⟨g, 0, none⟩ ∧ base ≤ g ∧ g < w.heap.size := by
  obtain ⟨g, cap, hv, h1, h2⟩ := h.form hn
  cases hv
  exact ⟨g, rfl, h1, h2⟩
theorem gown_ext {α : Type} {E : Enc α} {e : TypeId} {w : World} {base n c : Nat} {a : Option Addr} {xs : List Value} {ls : List α} (hn : ls.length = n) (h : w.ownsRow base e E.size (.slice a n c) n xs) (hx : ∀ j, j < n * E.size → xs[j]? = (E.cells ls)[j]?) : GOwn E e w base (.slice a n c) ls := by
  have e' : xs = E.cells ls := by
    apply List.ext_getElem?
    intro j
    by_cases hj : j < n * E.size
    · exact hx j hj
    · rw [List.getElem?_eq_none (by have := h.1; omega), List.getElem?_eq_none (by rw [E.cells_len, hn]; omega)]
  subst hn
  rw [e'] at h
  exact h
theorem bne_text (t : ByteArray) : (!(t.toList == t.toList)) = false := by simp

/-- the marks of a row -/
def mkP (k n : Nat) : List Rg := (List.range n).map fun j => (mkB (k + 2 * j), mkB ((k + 2 * j) + 1))
theorem mkP_len (k n : Nat) : (mkP k n).length = n := by simp [mkP]
theorem mkP_at (k n j : Nat) (h : j < n) : (mkP k n)[j]'(by rw [mkP_len]; exact h) = (mkB (k + 2 * j), mkB ((k + 2 * j) + 1)) := by simp [mkP]

set_option maxRecDepth 100000 in
set_option maxHeartbeats 4000000 in
theorem markP (n k0 : Nat) (a : Option Addr) (c base : Nat) (xs0 : List Value) (hn : n ≤ 100000000) (hk0 : 0 < k0) (hk1 : k0 ≤ 100000000) (w : World) (h : w.ownsRow base 41 2 (.slice a n c) n xs0) :
    Calls Try.prog 41 #[.slice a n c, .int .i64 k0] w fun e w' => e = .returned (.int .i64 ((k0 + 2 * n : Nat) : Int)) ∧ GOwn encR 41 w' base (.slice a n c) (mkP k0 n) ∧ w.grownBy w' (Value.slice a n c).ownBlock := by
  have H : Hid (w.ownsRow base 41 2 (.slice a n c) n xs0) := h
  clear h
  go_enter Try.func41, Try.ntmps41
  go_wp2
  go_loopw [1, 5] (fun tk t wr => ∃ (k : Nat) (xs : List Value), k ≤ n ∧ t = .int .i64 k ∧ tk = .int .i64 ((k0 + 2 * k : Nat) : Int) ∧ Hid (wr.ownsRow base 41 2 (.slice a n c) n xs) ∧ Hid (∀ j, j < k * 2 → xs[j]? = (encR.cells (mkP k0 n))[j]?) ∧ Hid (w.grownBy wr (Value.slice a n c).ownBlock)) (fun _ t _ => n - (intOf t).toNat)
  case atStart => exact ⟨0, xs0, Nat.zero_le _, rfl, rfl, H, (fun j hj => by omega), grown_refl _ _⟩
  case round =>
    obtain ⟨k, xs, hk, rfl, rfl, HX, HA, HG⟩ := hrel
    by_cases hlt : k < n
    · have hlt' : (k : Int) < (n : Int) := by omega
      have h0 : (0 : Int) ≤ (k : Int) := by omega
      obtain ⟨g, rfl, hbg, hgl⟩ := own_form HX.out (by omega)
      have hlen := HX.out.1
      obtain ⟨q, hq⟩ : ∃ q, q = k0 + 2 * k := ⟨_, rfl⟩
      have HQ : Hid (q = k0 + 2 * k) := hq
      rw [← hq]
      have hq0 : 0 < q := by omega
      have hq1 : q ≤ 900000000 := by omega
      clear hq
      have W0 := hide HX.out
      have G0 : Hid (wr.grownBy wr (some g)) := grown_refl _ _
      go_wp2_with fail
      refine (mark87 q (by omega) (by omega) _).mono ?_
      rintro e w1 ⟨rfl, hbm⟩
      have V0 := hide (ownsBelow W0.out hbm)
      have F0 : Hid (wr.grownBy w1 (some g)) := grown_trans G0.out (grown_below _ hbm)
      have hgl0 : g < w1.heap.size := Nat.lt_of_lt_of_le hgl F0.out.size
      clear hbm
      have len0 : k * 2 < (xs).length := by omega
      have q0 : (w1).cell? ⟨g, k * 2, none⟩ = some ((xs)[k * 2]'len0) := by rw [World.ownsRow.cellAt V0.out (k * 2) (by omega)]; simp
      have f0 : (w1).frozen? ⟨g, k * 2, none⟩ = false := World.ownsRow.frozenAt V0.out (k * 2)
      have st0 := World.ownsRow.stored V0.out (k * 2) (.string (mkB q))
      have W1 := hide st0.1
      have G1 : Hid (wr.grownBy ((w1).setCell ⟨g, k * 2, none⟩ (.string (mkB q))) (some g)) := grown_trans F0.out st0.2
      clear st0
      have E1 : Hid ((q : Int) + 1 = ((q + 1 : Nat) : Int)) := by show _ = _; omega
      go_wp2_with fail
      rw [E1.out]
      refine (mark87 (q + 1) (by omega) (by omega) _).mono ?_
      rintro e w2 ⟨rfl, hbm⟩
      have V1 := hide (ownsBelow W1.out hbm)
      have F1 : Hid (wr.grownBy w2 (some g)) := grown_trans G1.out (grown_below _ hbm)
      have hgl1 : g < w2.heap.size := Nat.lt_of_lt_of_le hgl F1.out.size
      clear hbm
      have len1 : k * 2 + 1 < ((xs).set (k * 2) (.string (mkB q))).length := by simp only [List.length_set]; omega
      have q1 : (w2).cell? ⟨g, k * 2 + 1, none⟩ = some (((xs).set (k * 2) (.string (mkB q)))[k * 2 + 1]'len1) := by rw [World.ownsRow.cellAt V1.out (k * 2 + 1) (by omega)]; simp
      have f1 : (w2).frozen? ⟨g, k * 2 + 1, none⟩ = false := World.ownsRow.frozenAt V1.out (k * 2 + 1)
      have st1 := World.ownsRow.stored V1.out (k * 2 + 1) (.string (mkB (q + 1)))
      have W2 := hide st1.1
      have G2 : Hid (wr.grownBy ((w2).setCell ⟨g, k * 2 + 1, none⟩ (.string (mkB (q + 1)))) (some g)) := grown_trans F1.out st1.2
      clear st1
      have HA2 : Hid (∀ j, j < (k + 1) * 2 → (((xs).set (k * 2) (.string (mkB q))).set (k * 2 + 1) (.string (mkB (q + 1))))[j]? = (encR.cells (mkP k0 n))[j]?) := fun j hj => by
        have ea := mkP_at k0 n k hlt
        rw [← HQ.out] at ea
        by_cases e0 : j = k * 2
        · subst e0
          rw [List.getElem?_set_ne (by omega), List.getElem?_set_self len0]
          have := encR.cells_at (mkP k0 n) k (by rw [mkP_len]; exact hlt) 0 (by decide)
          rw [ea] at this
          simp only [encR, Nat.add_zero] at this ⊢
          rw [this]; rfl
        by_cases e1 : j = k * 2 + 1
        · subst e1
          rw [List.getElem?_set_self len1]
          have := encR.cells_at (mkP k0 n) k (by rw [mkP_len]; exact hlt) 1 (by decide)
          rw [ea] at this
          simp only [encR] at this ⊢
          rw [this]; rfl
        rw [List.getElem?_set_ne (by omega), List.getElem?_set_ne (by omega)]
        exact HA.out j (by omega)
      have HN2 : Hid (((q + 2 : Nat) : Int) = ((k0 + 2 * (k + 1) : Nat) : Int)) := by show _ = _; have := HQ.out; omega
      have en : (q : Int) + 1 + 1 = ((q + 2 : Nat) : Int) := by omega
      go_wp2
      go_roundw
      case rel => exact ⟨k + 1, _, by omega, by go_num, by rw [← HN2.out]; go_num, W2, HA2, grown_trans HG.out G2.out⟩
      case measure => simp [intOf]; omega
    · have hd : ¬ (k : Int) < (n : Int) := by omega
      have e : k = n := by omega
      have HE : Hid (GOwn encR 41 wr base (.slice a n c) (mkP k0 n)) := gown_ext (mkP_len _ _) HX.out (fun j hj => HA.out j (by have : encR.size = 2 := rfl; rw [this] at hj; omega))
      subst e
      go_wp2
      go_ret
      exact ⟨ret_int rfl, HE.out, HG.out⟩

set_option maxRecDepth 100000 in
set_option maxHeartbeats 4000000 in
theorem heldP (n k0 : Nat) (a : Option Addr) (c : Nat) (hn : n ≤ 100000000) (hk0 : 0 < k0) (hk1 : k0 ≤ 100000000) (w : World) (h : GRow encR w a (mkP k0 n)) :
    Calls Try.prog 42 #[.slice a n c, .int .i64 k0] w fun e w' => e = .returned (.int .i64 ((k0 + 2 * n : Nat) : Int)) ∧ Below w.heap.size w w' := by
  have H : Hid (GRow encR w a (mkP k0 n)) := h
  clear h
  go_enter Try.func42, Try.ntmps42
  go_wp2
  go_loopw [1, 5] (fun tk t wr => ∃ k : Nat, k ≤ n ∧ t = .int .i64 k ∧ tk = .int .i64 ((k0 + 2 * k : Nat) : Int) ∧ Hid (Below w.heap.size w wr)) (fun _ t _ => n - (intOf t).toNat)
  case atStart => exact ⟨0, Nat.zero_le _, rfl, rfl, Below.refl _ _⟩
  case round =>
    obtain ⟨k, hk, rfl, rfl, HB⟩ := hrel
    by_cases hlt : k < n
    · have hlt' : (k : Int) < (n : Int) := by omega
      have h0 : (0 : Int) ≤ (k : Int) := by omega
      obtain ⟨b, off, rfl, hgl, hc⟩ := (H.out.below HB.out) (by rw [mkP_len]; omega)
      have HC := hide (rat hc k (by rw [mkP_len]; exact hlt))
      rw [mkP_at k0 n k hlt] at HC
      clear hc
      obtain ⟨q, hq⟩ : ∃ q, q = k0 + 2 * k := ⟨_, rfl⟩
      have HQ : Hid (q = k0 + 2 * k) := hq
      rw [← hq] at HC ⊢
      have hq0 : 0 < q := by omega
      have hq1 : q ≤ 900000000 := by omega
      clear hq
      have HN2 : Hid (((q + 2 : Nat) : Int) = ((k0 + 2 * (k + 1) : Nat) : Int)) := by show _ = _; have := HQ.out; omega
      have eq0 : IntKind.i64.wrap (q : Int) = (q : Int) := by rw [IntKind.wrap_i64]; omega
      go_wp2
      have r0 := HC.out.1
      have tn0 := bne_text (mkB q)
      refine wp_region_held_drew (S := fun w' => w'.cell? ⟨b, off + k * 2, none⟩ = some (.string (mkB q))) (by kernel_rfl) r0 (fun hHeld => ?_)
      (refine wpAnyH_take (i := 0) (v := ?_) rfl (by kernel_rfl) (by kernel_rfl) (by kernel_rfl) (fun _ _ _ h => h) (Or.inl ⟨by rfl, ?_⟩) (by assumption) ?_; rotate_left; (focus (intro w hSw; (try dsimp only at hSw); go_simp; (try with_reducible rfl); done)); simp only [Act.put, List.getElem_toArray, List.getElem_cons_zero, List.setIfInBounds_toArray, List.set_cons_zero, List.set_cons_succ])
      (refine wpAnyH_take (i := 1) (v := ?_) rfl (by kernel_rfl) (by kernel_rfl) (by kernel_rfl) (fun _ _ _ h => h) (Or.inl ⟨by rfl, ?_⟩) (by assumption) ?_; rotate_left; (focus (intro w hSw; (try dsimp only at hSw); go_simp; (try with_reducible rfl); done)); simp only [Act.put, List.getElem_toArray, List.getElem_cons_zero, List.getElem_cons_succ, List.setIfInBounds_toArray, List.set_cons_zero, List.set_cons_succ])
      (refine wpAnyH_take (i := 2) (v := ?_) rfl (by kernel_rfl) (by kernel_rfl) (by kernel_rfl) (fun _ _ _ h => h) (Or.inl ⟨by rfl, ?_⟩) (by assumption) ?_; rotate_left; (focus (intro w hSw; (try dsimp only at hSw); go_simp; (try with_reducible rfl); done)); simp only [Act.put, List.getElem_toArray, List.getElem_cons_zero, List.getElem_cons_succ, List.setIfInBounds_toArray, List.set_cons_zero, List.set_cons_succ])
      (refine wpAnyH_take (i := 3) (v := ?_) rfl (by kernel_rfl) (by kernel_rfl) (by kernel_rfl) (fun _ _ _ h => h) (Or.inl ⟨by rfl, ?_⟩) (by assumption) ?_; rotate_left; (focus (intro w hSw; (try dsimp only at hSw); go_simp; (try with_reducible rfl); done)); simp only [Act.put, List.getElem_toArray, List.getElem_cons_zero, List.getElem_cons_succ, List.setIfInBounds_toArray, List.set_cons_zero, List.set_cons_succ])
      (refine wpAnyH_take (i := 4) (v := ?_) rfl (by kernel_rfl) (by kernel_rfl) (by kernel_rfl) (fun _ _ _ h => h) (Or.inl ⟨by rfl, ?_⟩) (by assumption) ?_; rotate_left; (focus (intro w hSw; (try dsimp only at hSw); go_simp; (try with_reducible rfl); done)); simp only [Act.put, List.getElem_toArray, List.getElem_cons_zero, List.getElem_cons_succ, List.setIfInBounds_toArray, List.set_cons_zero, List.set_cons_succ])
      (refine wpAnyH_take (i := 5) (v := ?_) rfl (by kernel_rfl) (by kernel_rfl) (by kernel_rfl) (fun _ _ _ h => h) (Or.inl ⟨by rfl, ?_⟩) (by assumption) ?_; rotate_left; (focus (intro w hSw; (try dsimp only at hSw); go_simp; (try with_reducible rfl); done)); simp only [Act.put, List.getElem_toArray, List.getElem_cons_zero, List.getElem_cons_succ, List.setIfInBounds_toArray, List.set_cons_zero, List.set_cons_succ])
      refine wpAnyH_ready (rs := [6]) (by kernel_rfl) (by simp) ?_
      refine AllReadyH.cons rfl (fun K hK => ?_) AllReadyH.nil
      go_simp
      go_wp2_with fail
      refine (mark87 q (by omega) (by omega) _).mono ?_
      rintro e w1 ⟨rfl, hbm⟩
      have hbA1 : Below wr.heap.size wr w1 := undrew hbm
      clear hbm
      have s0 := (hbA1.cell (p := ⟨b, off + k * 2, none⟩) hgl).trans HC.out.1
      go_wp2_with fail
      refine hK.out _ _ s0 (fun hHeld2 => ?_)
      clear hK K
      (refine wpAnyH_take (i := 7) (v := ?_) rfl (by kernel_rfl) (by kernel_rfl) (by kernel_rfl) (fun _ _ _ h => h) (Or.inl ⟨by rfl, ?_⟩) (by assumption) ?_; rotate_left; (focus (intro w hSw; (try dsimp only at hSw); go_simp; (try with_reducible rfl); done)); simp only [Act.put, List.getElem_toArray, List.getElem_cons_zero, List.getElem_cons_succ, List.setIfInBounds_toArray, List.set_cons_zero, List.set_cons_succ])
      refine wpAnyH_done (by kernel_rfl) ?_ _
      go_wp2
      have r1 := (hbA1.cell (p := ⟨b, off + k * 2 + 1, none⟩) hgl).trans HC.out.2
      have E1 : Hid ((q : Int) + 1 = ((q + 1 : Nat) : Int)) := by show _ = _; omega
      have e1 : IntKind.i64.wrap ((q : Int) + 1) = (q : Int) + 1 := by rw [IntKind.wrap_i64]; omega
      have tn1 := bne_text (mkB (q + 1))
      refine wp_region_held_drew (S := fun w' => w'.cell? ⟨b, off + k * 2 + 1, none⟩ = some (.string (mkB (q + 1)))) (by kernel_rfl) r1 (fun hHeld => ?_)
      (refine wpAnyH_take (i := 0) (v := ?_) rfl (by kernel_rfl) (by kernel_rfl) (by kernel_rfl) (fun _ _ _ h => h) (Or.inl ⟨by rfl, ?_⟩) (by assumption) ?_; rotate_left; (focus (intro w hSw; (try dsimp only at hSw); go_simp; (try with_reducible rfl); done)); simp only [Act.put, List.getElem_toArray, List.getElem_cons_zero, List.setIfInBounds_toArray, List.set_cons_zero, List.set_cons_succ])
      (refine wpAnyH_take (i := 1) (v := ?_) rfl (by kernel_rfl) (by kernel_rfl) (by kernel_rfl) (fun _ _ _ h => h) (Or.inl ⟨by rfl, ?_⟩) (by assumption) ?_; rotate_left; (focus (intro w hSw; (try dsimp only at hSw); go_simp; (try with_reducible rfl); done)); simp only [Act.put, List.getElem_toArray, List.getElem_cons_zero, List.getElem_cons_succ, List.setIfInBounds_toArray, List.set_cons_zero, List.set_cons_succ])
      (refine wpAnyH_take (i := 2) (v := ?_) rfl (by kernel_rfl) (by kernel_rfl) (by kernel_rfl) (fun _ _ _ h => h) (Or.inl ⟨by rfl, ?_⟩) (by assumption) ?_; rotate_left; (focus (intro w hSw; (try dsimp only at hSw); go_simp; (try with_reducible rfl); done)); simp only [Act.put, List.getElem_toArray, List.getElem_cons_zero, List.getElem_cons_succ, List.setIfInBounds_toArray, List.set_cons_zero, List.set_cons_succ])
      (refine wpAnyH_take (i := 3) (v := ?_) rfl (by kernel_rfl) (by kernel_rfl) (by kernel_rfl) (fun _ _ _ h => h) (Or.inl ⟨by rfl, ?_⟩) (by assumption) ?_; rotate_left; (focus (intro w hSw; (try dsimp only at hSw); go_simp; (try with_reducible rfl); done)); simp only [Act.put, List.getElem_toArray, List.getElem_cons_zero, List.getElem_cons_succ, List.setIfInBounds_toArray, List.set_cons_zero, List.set_cons_succ])
      (refine wpAnyH_take (i := 4) (v := ?_) rfl (by kernel_rfl) (by kernel_rfl) (by kernel_rfl) (fun _ _ _ h => h) (Or.inl ⟨by rfl, ?_⟩) (by assumption) ?_; rotate_left; (focus (intro w hSw; (try dsimp only at hSw); go_simp; (try with_reducible rfl); done)); simp only [Act.put, List.getElem_toArray, List.getElem_cons_zero, List.getElem_cons_succ, List.setIfInBounds_toArray, List.set_cons_zero, List.set_cons_succ])
      (refine wpAnyH_take (i := 5) (v := ?_) rfl (by kernel_rfl) (by kernel_rfl) (by kernel_rfl) (fun _ _ _ h => h) (Or.inl ⟨by rfl, ?_⟩) (by assumption) ?_; rotate_left; (focus (intro w hSw; (try dsimp only at hSw); go_simp; (try with_reducible rfl); done)); simp only [Act.put, List.getElem_toArray, List.getElem_cons_zero, List.getElem_cons_succ, List.setIfInBounds_toArray, List.set_cons_zero, List.set_cons_succ])
      refine wpAnyH_ready (rs := [6]) (by kernel_rfl) (by simp) ?_
      refine AllReadyH.cons rfl (fun K hK => ?_) AllReadyH.nil
      go_simp
      go_wp2_with fail
      rw [E1.out]
      refine (mark87 (q + 1) (by omega) (by omega) _).mono ?_
      rintro e w2 ⟨rfl, hbm⟩
      have hbA2 : Below wr.heap.size wr w2 := hbA1.trans ((undrew hbm).mono hbA1.size)
      clear hbm
      have s1 := (hbA2.cell (p := ⟨b, off + k * 2 + 1, none⟩) hgl).trans HC.out.2
      go_wp2_with fail
      refine hK.out _ _ s1 (fun hHeld2 => ?_)
      clear hK K
      (refine wpAnyH_take (i := 7) (v := ?_) rfl (by kernel_rfl) (by kernel_rfl) (by kernel_rfl) (fun _ _ _ h => h) (Or.inl ⟨by rfl, ?_⟩) (by assumption) ?_; rotate_left; (focus (intro w hSw; (try dsimp only at hSw); go_simp; (try with_reducible rfl); done)); simp only [Act.put, List.getElem_toArray, List.getElem_cons_zero, List.getElem_cons_succ, List.setIfInBounds_toArray, List.set_cons_zero, List.set_cons_succ])
      refine wpAnyH_done (by kernel_rfl) ?_ _
      go_wp2
      go_roundw
      case rel => exact ⟨k + 1, by omega, by go_num, by rw [← HN2.out]; go_num, HB.out.trans (hbA2.mono HB.out.size)⟩
      case measure => simp [intOf]; omega
    · have hd : ¬ (k : Int) < (n : Int) := by omega
      go_wp2
      go_ret
      refine ⟨?_, HB.out⟩
      rw [show k = n by omega]
      rfl
end Go.Proofs.Ytblfljmcbpodbaa
