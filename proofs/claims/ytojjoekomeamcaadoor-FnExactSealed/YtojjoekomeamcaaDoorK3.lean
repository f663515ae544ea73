/- The four exact laws of the sums, walked. -/
import Derived.Test.YtojjoekomeamcaaDoorK2
import Derived.OpenShut
namespace Go.Proofs.YtojjoekomeamcaaDoor
open Go.RowKit

set_option maxHeartbeats 400000 in
theorem law4 (x : Int) (s : ByteArray) (hx : (Lit.int .u32 x).wf = true) (hs : s.size ≤ maxLen) (w : World) (ht : Tab w) : Calls Tryd.prog 4 #[.int .u32 x, .string s] w fun e w' => e = .returned (.bool true) ∧ Below w.heap.size w w' := by
  unfold maxLen at hs
  have hb := bounds_u32 hx
  obtain ⟨n, rfl⟩ := Int.eq_ofNat_of_zero_le hb.1
  have hn : n < 4294967296 := by omega
  clear hx hb
  have T : Hid (Tab w) := ht
  clear ht
  by_cases hbig : 1048576 < s.size
  · go_enter Tryd.func4, Tryd.ntmps4
    go_wp2
    go_ret
    exact ⟨rfl, Below.refl _ _⟩
  have hm : s.size ≤ 1048576 := by omega
  have c := ssum15 n s hn hm w
  have c2 := isum13 n s hn hm w T.out
  generalize SM.sum n s.data.toList = z at *
  go_enter Tryd.func4, Tryd.ntmps4
  go_wp2_with fail
  refine c.mono ?_
  rintro e w' ⟨rfl, rfl⟩
  clear c
  go_wp2_with fail
  refine c2.mono ?_
  rintro e w' ⟨rfl, rfl⟩
  clear c2
  go_wp2
  go_ret
  exact ⟨rfl, Below.refl _ _⟩

set_option maxHeartbeats 400000 in
theorem law5 (s : ByteArray) (hs : s.size ≤ maxLen) (w : World) (ht : Tab w) : Calls Tryd.prog 5 #[.string s] w fun e w' => e = .returned (.bool true) ∧ Below w.heap.size w w' := by
  unfold maxLen at hs
  have T : Hid (Tab w) := ht
  clear ht
  by_cases hbig : 1048576 < s.size
  · go_enter Tryd.func5, Tryd.ntmps5
    go_wp2
    go_ret
    exact ⟨rfl, Below.refl _ _⟩
  have hm : s.size ≤ 1048576 := by omega
  have c := ssum16 s hm w
  have c2 := isum14 s hm w T.out
  generalize SM.sum 4294967295 s.data.toList = z at *
  go_enter Tryd.func5, Tryd.ntmps5
  go_wp2_with fail
  refine c.mono ?_
  rintro e w' ⟨rfl, rfl⟩
  clear c
  go_wp2_with fail
  refine c2.mono ?_
  rintro e w' ⟨rfl, rfl⟩
  clear c2
  go_wp2
  go_ret
  exact ⟨rfl, Below.refl _ _⟩

set_option maxHeartbeats 400000 in
theorem law6 (s : ByteArray) (hs : s.size ≤ maxLen) (w : World) (ht : Tab w) : Calls Tryd.prog 6 #[.string s] w fun e w' => e = .returned (.bool true) ∧ Below w.heap.size w w' := by
  unfold maxLen at hs
  have T : Hid (Tab w) := ht
  clear ht
  by_cases hbig : 1048576 < s.size
  · go_enter Tryd.func6, Tryd.ntmps6
    go_wp2
    go_ret
    exact ⟨rfl, Below.refl _ _⟩
  have hm : s.size ≤ 1048576 := by omega
  by_cases h2 : 20000 < s.size
  · have c := sseal_no s h2 hm
    have c2 := iseal_no s h2 hm
    go_enter Tryd.func6, Tryd.ntmps6
    go_wp2_with fail
    refine (c _).mono ?_
    rintro e w' ⟨rfl, rfl⟩
    clear c
    go_wp2_with fail
    refine (c2 _).mono ?_
    rintro e w' ⟨rfl, rfl⟩
    clear c2
    go_wp2
    go_ret
    exact ⟨rfl, Below.refl _ _⟩
  · have c := sseal_yes s (by omega) w
    have c2 := iseal_yes s (by omega)
    generalize sealB s = z at *
    go_enter Tryd.func6, Tryd.ntmps6
    go_wp2_with fail
    refine c.mono ?_
    rintro e w1 ⟨rfl, hb1⟩
    clear c
    go_wp2_with fail
    refine (c2 _ (T.out.below hb1)).mono ?_
    rintro e w2 ⟨rfl, hb2⟩
    clear c2
    go_wp2
    go_ret
    exact ⟨rfl, hb1.trans (hb2.mono hb1.size)⟩

theorem beq_swap (a b : List UInt8) : (a == b) = (b == a) := by
  rw [Bool.eq_iff_iff, beq_iff_eq, beq_iff_eq]; exact eq_comm

set_option maxHeartbeats 400000 in
theorem law7 (s : ByteArray) (hs : s.size ≤ maxLen) (w : World) (ht : Tab w) : Calls Tryd.prog 7 #[.string s] w fun e w' => e = .returned (.bool true) ∧ Below w.heap.size w w' := by
  unfold maxLen at hs
  have T : Hid (Tab w) := ht
  clear ht
  by_cases hbig : 1048576 < s.size
  · go_enter Tryd.func7, Tryd.ntmps7
    go_wp2
    go_ret
    exact ⟨rfl, Below.refl _ _⟩
  have hm : s.size ≤ 1048576 := by omega
  by_cases h2 : s.size < 4 ∨ 20004 < s.size
  · have c := suns_no s h2 hm
    have c2 := iuns_no s h2 hm
    clear h2
    go_enter Tryd.func7, Tryd.ntmps7
    go_wp2_with fail
    refine (c _).mono ?_
    rintro e w1 ⟨rfl, hb1⟩
    clear c
    go_wp2_with fail
    refine (c2 _).mono ?_
    rintro e w' ⟨rfl, rfl⟩
    clear c2
    go_wp2
    go_ret
    exact ⟨rfl, hb1⟩
  obtain ⟨n, hn⟩ : ∃ n, s.size = n + 4 := ⟨s.size - 4, by omega⟩
  have h20 : n ≤ 20000 := by omega
  have N : Hid (s.size = n + 4) := hn
  clear hn h2
  cases hq : ((⟨(SM.four (SM.sum 4294967295 (s.extract 0 n).data.toList)).toArray⟩ : ByteArray).toList == (s.extract n (n + 4)).toList) with
  | true =>
    have c := suns_yes s n N.out h20 (by rw [beq_swap]; exact hq) w
    have c2 := iuns_yes s n N.out h20 hq
    clear hq
    go_enter Tryd.func7, Tryd.ntmps7
    go_wp2_with fail
    refine c.mono ?_
    rintro e w1 ⟨rfl, hb1⟩
    clear c
    go_wp2_with fail
    refine (c2 _ (T.out.below hb1)).mono ?_
    rintro e w2 ⟨rfl, hb2⟩
    clear c2
    go_wp2
    go_ret
    exact ⟨rfl, hb1.trans (hb2.mono hb1.size)⟩
  | false =>
    have c := suns_bad s n N.out h20 (by rw [beq_swap]; exact hq) w
    have c2 := iuns_bad s n N.out h20 hq
    clear hq
    go_enter Tryd.func7, Tryd.ntmps7
    go_wp2_with fail
    refine c.mono ?_
    rintro e w1 ⟨rfl, hb1⟩
    clear c
    go_wp2_with fail
    refine (c2 _ (T.out.below hb1)).mono ?_
    rintro e w2 ⟨rfl, hb2⟩
    clear c2
    go_wp2
    go_ret
    exact ⟨rfl, hb1.trans (hb2.mono hb1.size)⟩
end Go.Proofs.YtojjoekomeamcaaDoor
