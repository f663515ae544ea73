/- The law FnNumbers, walked: what is written is read back. -/
import Derived.Test.YtbncdnfjminpiaaDoorI1
import Derived.Test.YtbncdnfjminpiaaDoorI3
import Derived.Test.YtbncdnfjminpiaaDoorDr4
namespace Go.Proofs.YtbncdnfjminpiaaDoor
open Go.RowKit

theorem ba_eq {a b : ByteArray} (h : a.data.toList = b.data.toList) : a = b := by
  apply ByteArray.ext
  exact Array.toList_inj.1 h

/-- VarText, its text under a name -/
theorem var6 (N : Nat) (hN : N ≤ 1000000000) (w : World) : Calls Tryd.prog 6 #[.int .i64 N] w fun e w' => ∃ s : ByteArray, Hid (s.data.toList = WM.varL N) ∧ s.size ≤ 5 ∧ e = .returned (.tuple #[.string s, .bool true]) ∧ Below w.heap.size w w' :=
  (ivar_yes N hN w).mono fun _ _ ⟨h1, h2⟩ => ⟨⟨(WM.varL N).toArray⟩, by show _ = _; rfl, by rw [size_mk]; exact WM.varL_len5 N (by omega), h1, h2⟩

/-- ReadVar behind one byte -/
theorem read7 (N : Nat) (hN : N ≤ 1000000000) (s : ByteArray) (hs : s.data.toList = WM.varL N) (w : World) :
    Calls Tryd.prog 7 #[.string (⟨#[120]⟩ ++ s ++ ⟨#[121]⟩), .int .i64 1] w fun e w' => e = .returned (.tuple #[.int .i64 N, .int .i64 ((1 + s.size : Nat) : Int), .bool true]) ∧ w = w' := by
  have h5 := WM.varL_len5 N (by omega)
  have hl : s.size = (WM.varL N).length := by rw [← hs]; simp
  have hd : (⟨#[120]⟩ ++ s ++ ⟨#[121]⟩ : ByteArray).data.toList = 120 :: (WM.varL N ++ [121]) := by rw [← hs]; simp
  have hz : (⟨#[120]⟩ ++ s ++ ⟨#[121]⟩ : ByteArray).size = (WM.varL N).length + 2 := by
    have := congrArg List.length hd
    rw [Array.length_toList, List.length_cons, List.length_append] at this
    exact this
  have c := irv_some (⟨#[120]⟩ ++ s ++ ⟨#[121]⟩) 1 (by omega) (by omega) N (WM.varL N).length (by rw [hd]; exact WM.rv_var N hN [121]) w
  rw [← hl] at c
  exact c

/-- ReadDecimal of a numeral -/
theorem dec8 (N : Nat) (hN : N ≤ 1000000000) (w : World) (ht : Tab w) :
    Calls Tryd.prog 8 #[.string ⟨(Lib.itoa (N : Int)).toArray⟩] w fun e w' => e = .returned (.tuple #[.int .i64 N, .bool true]) ∧ Below w.heap.size w w' := by
  have hd := WM.dd_figs N N (Nat.le_refl _)
  have hl := WM.dec_len N hN
  have hdat : (⟨(Lib.itoa (N : Int)).toArray⟩ : ByteArray).data.toList = Lib.decDigits N := by rw [Lib.itoa_nonneg]
  have hsz : (⟨(Lib.itoa (N : Int)).toArray⟩ : ByteArray).size ≤ 10 := by rw [size_mk, Lib.itoa_nonneg]; exact hl
  have hb : rdB (Lib.decDigits N) = true := by
    rw [rdB_eq hl hd.1 (by rw [hd.2]; exact hN), hd.2]; simp
  refine (ird ⟨(Lib.itoa (N : Int)).toArray⟩ (by omega) w ht).mono ?_
  rintro e w' ⟨rfl, hb'⟩
  exact ⟨by rw [hdat, rdV_yes hb, hd.2], hb'⟩

/-- ShortText, its text under a name -/
theorem short11 (t : ByteArray) (ht : t.size ≤ 300) (w : World) : Calls Tryd.prog 11 #[.string t] w fun e w' => ∃ s : ByteArray, Hid (s.data.toList = WM.varL t.size ++ t.data.toList) ∧ s.size ≤ 400 ∧ e = .returned (.tuple #[.string s, .bool true]) ∧ Below w.heap.size w w' :=
  (ishort_yes t (by omega) w).mono fun _ _ ⟨h1, h2⟩ => ⟨_, by show _ = _; simp, by
    have h5 := WM.varL_len5 t.size (by omega)
    have hd : ((⟨(WM.varL t.size).toArray⟩ : ByteArray) ++ t).data.toList = WM.varL t.size ++ t.data.toList := by simp
    have := congrArg List.length hd
    rw [Array.length_toList, List.length_append, Array.length_toList] at this
    have h6 : ((⟨(WM.varL t.size).toArray⟩ : ByteArray) ++ t).size = (WM.varL t.size).length + t.size := this
    omega, h1, h2⟩

theorem read12 (t s : ByteArray) (ht : t.size ≤ 300) (hs : s.data.toList = WM.varL t.size ++ t.data.toList) (w : World) :
    Calls Tryd.prog 12 #[.string s, .int .i64 0] w fun e w' => e = .returned (.tuple #[.string t, .int .i64 (s.size : Int), .bool true]) ∧ Below w.heap.size w w' := by
  have h5 := WM.varL_len5 t.size (by omega)
  have hz : s.size = (WM.varL t.size).length + t.size := by
    have := congrArg List.length hs
    rw [Array.length_toList, List.length_append, Array.length_toList] at this
    exact this
  have hx : s.extract (0 + (WM.varL t.size).length) (0 + (WM.varL t.size).length + t.size) = t := by
    apply ba_eq
    rw [Lib.extract_data, hs, Nat.zero_add, List.drop_left, Nat.add_sub_cancel_left]
    exact List.take_of_length_le (by rw [Array.length_toList]; exact Nat.le_refl _)
  have c := ish_ok s 0 (by omega) (by omega) t.size (WM.varL t.size).length (by show WM.rv _ = _; rw [List.drop_zero, hs]; exact WM.rv_var t.size (by omega) _) (by omega) (by omega) w
  rw [hx, show 0 + (WM.varL t.size).length + t.size = s.size by omega] at c
  exact c

theorem hex13 (t : ByteArray) (ht : t.size ≤ 300) (w : World) : Calls Tryd.prog 13 #[.string t] w fun e w' => ∃ s : ByteArray, Hid (s.data.toList = WM.hexL t.data.toList) ∧ e = .returned (.tuple #[.string s, .bool true]) ∧ Below w.heap.size w w' :=
  (ihex_yes t (by omega) w).mono fun _ _ ⟨h1, h2⟩ => ⟨⟨(WM.hexL t.data.toList).toArray⟩, by show _ = _; rfl, h1, h2⟩

theorem unhex14 (t s : ByteArray) (ht : t.size ≤ 300) (hs : s.data.toList = WM.hexL t.data.toList) (w : World) :
    Calls Tryd.prog 14 #[.string s] w fun e w' => e = .returned (.tuple #[.string t, .bool true]) ∧ Below w.heap.size w w' := by
  have hz : s.size = 2 * t.size := by
    have := congrArg List.length hs
    rw [Array.length_toList, WM.hexL_len, Array.length_toList] at this
    exact this
  refine (iun s t.size hz (by omega) w).mono ?_
  rintro e w' ⟨rfl, hb⟩
  refine ⟨?_, hb⟩
  rw [unV_yes (by rw [hs]; exact WM.hex_figs _), hs, WM.unhex_hex]

set_option maxRecDepth 100000 in
set_option maxHeartbeats 4000000 in
theorem law3 (len cap : Nat) (a : Option Addr) (w : World) (hl : len ≤ 9223372036854775807) (hr : CodeRow w a len) (ht : Tab w) : Calls Tryd.prog 3 #[.slice a len cap] w fun e w' => e = .returned (.bool true) ∧ Below w.heap.size w w' := by
  have T : Hid (Tab w) := ht
  have R : Hid (CodeRow w a len) := hr
  clear ht hr
  by_cases hbig : 1048576 < len
  · go_enter Tryd.func3, Tryd.ntmps3
    go_wp2
    go_ret
    exact ⟨rfl, Below.refl _ _⟩
  have hm : len ≤ 1048576 := by omega
  go_enter Tryd.func3, Tryd.ntmps3
  go_wp2_with (go_at_call 4; go_in)
  refine (drawVar5 len cap a hm _ R.out).mono ?_
  rintro e w1 ⟨z, z0, z1, rfl, hb1⟩
  have B1 : Hid (Below w.heap.size w w1) := hb1
  have T1 : Hid (Tab w1) := T.out.below hb1
  have R1 : Hid (CodeRow w1 a len) := R.out.below hb1
  have hs1 := hb1.size
  clear hb1
  have hz : (∃ N : Nat, N ≤ 1000000000 ∧ z = (N : Int)) ∨ (z < 0 ∨ 1000000000 < z) := by
    by_cases h0 : z < 0 ∨ 1000000000 < z
    · exact Or.inr h0
    · exact Or.inl ⟨z.toNat, by omega, by omega⟩
  clear z0 z1
  rcases hz with ⟨N, hN, rfl⟩ | hz | hz
  case' inl =>
    have hn0 : (0 : Int) ≤ (N : Int) := by omega
    have hn1 : (N : Int) ≤ 1000000000 := by omega
    go_wp2_with fail
  case' inr.inl =>
    go_wp2_with fail
    obtain ⟨N, hN0⟩ : ∃ N : Nat, (12345 : Int) = (N : Int) := ⟨12345, rfl⟩
    have hN : N ≤ 1000000000 := by omega
    rw [hN0]
    clear hN0
  case' inr.inr =>
    have hz0 : 0 ≤ z := by omega
    go_wp2_with fail
    obtain ⟨N, hN0⟩ : ∃ N : Nat, (12345 : Int) = (N : Int) := ⟨12345, rfl⟩
    have hN : N ≤ 1000000000 := by omega
    rw [hN0]
    clear hN0
  all_goals
    refine (var6 N hN _).mono ?_
    rintro e w2 ⟨s, HS, hs5', rfl, hb2⟩
    have B2 : Hid (Below w.heap.size w w2) := B1.out.trans (hb2.mono hs1)
    have T2 : Hid (Tab w2) := T1.out.below hb2
    have R2 : Hid (CodeRow w2 a len) := R1.out.below hb2
    have hs2 : w.heap.size ≤ w2.heap.size := B2.out.size
    clear hb2
    go_wp2_with fail
    refine (read7 N hN s HS.out _).mono ?_
    rintro e w' ⟨rfl, rfl⟩
    go_wp2_with fail
    refine (idec (N : Int) (by omega) (by omega) _ T2.out).mono ?_
    rintro e w3 ⟨rfl, hb3⟩
    have B3 : Hid (Below w.heap.size w w3) := B2.out.trans (hb3.mono hs2)
    have T3 : Hid (Tab w3) := T2.out.below hb3
    have R3 : Hid (CodeRow w3 a len) := R2.out.below hb3
    have hs3 : w.heap.size ≤ w3.heap.size := B3.out.size
    clear hb3
    go_wp2_with fail
    refine (dec8 N hN _ T3.out).mono ?_
    rintro e w4 ⟨rfl, hb4⟩
    have B4 : Hid (Below w.heap.size w w4) := B3.out.trans (hb4.mono hs3)
    have R4 : Hid (CodeRow w4 a len) := R3.out.below hb4
    have hs4 : w.heap.size ≤ w4.heap.size := B4.out.size
    clear hb4
    go_wp2_with fail
    refine (drawHex10 len cap a hm _ R4.out).mono ?_
    rintro e w5 ⟨t, htb, rfl, hb5⟩
    have B5 : Hid (Below w.heap.size w w5) := B4.out.trans (hb5.mono hs4)
    have hs5 : w.heap.size ≤ w5.heap.size := B5.out.size
    clear hb5
    by_cases h3 : 300 < t.size
    · have h3' : (300 : Int) < (t.size : Int) := by omega
      go_wp2_with fail
      obtain ⟨t', hte⟩ : ∃ t' : ByteArray, (⟨#[97, 98, 99]⟩ : ByteArray) = t' := ⟨_, rfl⟩
      have ht' : t'.size ≤ 300 := by rw [← hte]; decide
      rw [hte]
      clear hte
      refine (short11 t' ht' _).mono ?_
      rintro e w6 ⟨sa, HA, hsa, rfl, hb6⟩
      have B6 : Hid (Below w.heap.size w w6) := B5.out.trans (hb6.mono hs5)
      have hs6 : w.heap.size ≤ w6.heap.size := B6.out.size
      clear hb6
      go_wp2_with fail
      refine (read12 t' sa ht' HA.out _).mono ?_
      rintro e w7 ⟨rfl, hb7⟩
      have B7 : Hid (Below w.heap.size w w7) := B6.out.trans (hb7.mono hs6)
      have hs7 : w.heap.size ≤ w7.heap.size := B7.out.size
      clear hb7
      go_wp2_with fail
      refine (hex13 t' ht' _).mono ?_
      rintro e w8 ⟨sh, HH, rfl, hb8⟩
      have B8 : Hid (Below w.heap.size w w8) := B7.out.trans (hb8.mono hs7)
      have hs8 : w.heap.size ≤ w8.heap.size := B8.out.size
      clear hb8
      go_wp2_with fail
      refine (unhex14 t' sh ht' HH.out _).mono ?_
      rintro e w9 ⟨rfl, hb9⟩
      have B9 : Hid (Below w.heap.size w w9) := B8.out.trans (hb9.mono hs8)
      clear hb9
      go_wp2
      go_ret
      exact ⟨rfl, B9.out⟩
    · have h3' : ¬ (300 : Int) < (t.size : Int) := by omega
      go_wp2_with fail
      obtain ⟨t', hte⟩ : ∃ t' : ByteArray, t = t' := ⟨_, rfl⟩
      have ht' : t'.size ≤ 300 := by rw [← hte]; omega
      rw [hte]
      clear hte
      refine (short11 t' ht' _).mono ?_
      rintro e w6 ⟨sa, HA, hsa, rfl, hb6⟩
      have B6 : Hid (Below w.heap.size w w6) := B5.out.trans (hb6.mono hs5)
      have hs6 : w.heap.size ≤ w6.heap.size := B6.out.size
      clear hb6
      go_wp2_with fail
      refine (read12 t' sa ht' HA.out _).mono ?_
      rintro e w7 ⟨rfl, hb7⟩
      have B7 : Hid (Below w.heap.size w w7) := B6.out.trans (hb7.mono hs6)
      have hs7 : w.heap.size ≤ w7.heap.size := B7.out.size
      clear hb7
      go_wp2_with fail
      refine (hex13 t' ht' _).mono ?_
      rintro e w8 ⟨sh, HH, rfl, hb8⟩
      have B8 : Hid (Below w.heap.size w w8) := B7.out.trans (hb8.mono hs7)
      have hs8 : w.heap.size ≤ w8.heap.size := B8.out.size
      clear hb8
      go_wp2_with fail
      refine (unhex14 t' sh ht' HH.out _).mono ?_
      rintro e w9 ⟨rfl, hb9⟩
      have B9 : Hid (Below w.heap.size w w9) := B8.out.trans (hb9.mono hs8)
      clear hb9
      go_wp2
      go_ret
      exact ⟨rfl, B9.out⟩
end Go.Proofs.YtbncdnfjminpiaaDoor
