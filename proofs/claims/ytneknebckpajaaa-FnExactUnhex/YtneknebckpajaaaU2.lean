/- What impl.Unhex returns; the law FnExactUnhex, walked. -/
import Derived.Test.YtneknebckpajaaaU1
namespace Go.Proofs.Ytneknebckpajaaa
open Go.RowKit
attribute [local go_sem ↓] Go.wp_at_zero Go.wp_at_succ

theorem Own.shape {w : World} {base : Nat} {v : Value} {l : List UInt8} (h : Own w base v l) (hl : 0 < l.length) :
    ∃ g cap, v = .slice (some ⟨g, 0, none⟩) l.length cap ∧ g < w.heap.size ∧ ∀ j (hj : j < l.length), w.cell? ⟨g, j, none⟩ = some (.int .u8 (l[j].toNat : Int)) := by
  have h0 := h
  rcases h.2 with ⟨rfl, h1⟩ | ⟨g, cap, cur, rfl, hg, hh, hnc, hcp, hcs, htake⟩
  · omega
  · refine ⟨g, cap, rfl, (World.ownsRow.lt h0 g rfl).2, fun j hj => ?_⟩
    rw [World.ownsRow.cellAt h0 j (by omega)]
    simp [bv, hj]

theorem Own.shape0 {w : World} {base : Nat} {v : Value} {l : List UInt8} (h : Own w base v l) (hl : l.length = 0) :
    ∃ ao cap, v = .slice ao 0 cap := by
  rcases h.2 with ⟨rfl, h1⟩ | ⟨g, cap, cur, rfl, hg, hh, hnc, hcp, hcs, htake⟩
  · exact ⟨none, 0, rfl⟩
  · exact ⟨_, cap, by rw [hl]⟩

theorem fvs_at (s : ByteArray) (j : Nat) (hj : j < s.size) : (WM.fvs s.data.toList)[j]'(by rw [WM.fvs_len]; simpa using hj) = UInt8.ofNat (WM.fv s[j]) := by
  simp only [WM.fvs, List.getElem_map]; rfl

theorem figs_take_at (s : ByteArray) (base j : Nat) (hj : j < s.size) (hf : WM.figsB base s.data.toList = true) : WM.fv s[j] < base := by
  have h2 := WM.figsB_take hf (j + 1)
  rw [take_snoc s j hj, WM.figsB_snoc] at h2
  simp at h2
  exact h2.2

/-- figureValues of a text that is not empty, all of figures -/
theorem fv32_yes (s : ByteArray) (base : Nat) (hbase : base ≤ 16) (hs : s.size ≤ 40000) (h0 : 0 < s.size) (hf : WM.figsB base s.data.toList = true) (w : World) :
    Calls Try.prog 32 #[.string s, .int .i64 base] w fun e w' => Below w.heap.size w w' ∧ ∃ g cap, e = .returned (.tuple #[.slice (some ⟨g, 0, none⟩) s.size cap, .bool true]) ∧ g < w'.heap.size ∧
      ∀ j (hj : j < s.size), w'.cell? ⟨g, j, none⟩ = some (.int .u8 (WM.fv s[j] : Int)) :=
  (fv32 s base hbase hs w).mono fun e w' ⟨hb, h⟩ => ⟨hb, by
    rcases h with ⟨_, v, he, hown⟩ | ⟨hn, _⟩
    · have hl : (WM.fvs s.data.toList).length = s.size := by rw [WM.fvs_len]; rfl
      obtain ⟨g, cap, rfl, hg, hc⟩ := hown.shape (by omega)
      refine ⟨g, cap, by rw [he, hl], hg, fun j hj => ?_⟩
      rw [hc j (by omega), fvs_at s j hj]
      have hv : WM.fv s[j] < base := by
        have := figs_take_at s base j hj hf
        exact this
      rw [toNat_ofNat _ (by omega)]
    · rw [hf] at hn; cases hn⟩

theorem fv32_none (s : ByteArray) (base : Nat) (hbase : base ≤ 16) (hs : s.size ≤ 40000) (h0 : s.size = 0) (w : World) :
    Calls Try.prog 32 #[.string s, .int .i64 base] w fun e w' => Below w.heap.size w w' ∧ ∃ ao cap, e = .returned (.tuple #[.slice ao 0 cap, .bool true]) :=
  (fv32 s base hbase hs w).mono fun e w' ⟨hb, h⟩ => ⟨hb, by
    have hl : (WM.fvs s.data.toList).length = s.size := by rw [WM.fvs_len]; rfl
    have hnil : s.data.toList = [] := List.length_eq_zero_iff.1 (by rw [Array.length_toList]; exact h0)
    rcases h with ⟨_, v, he, hown⟩ | ⟨hn, _⟩
    · obtain ⟨ao, cap, rfl⟩ := hown.shape0 (by omega)
      exact ⟨ao, cap, he⟩
    · rw [hnil] at hn; cases hn⟩

theorem fv32_no (s : ByteArray) (base : Nat) (hbase : base ≤ 16) (hs : s.size ≤ 40000) (hf : WM.figsB base s.data.toList = false) (w : World) :
    Calls Try.prog 32 #[.string s, .int .i64 base] w fun e w' => e = .returned (.tuple #[.slice none 0 0, .bool false]) ∧ Below w.heap.size w w' :=
  (fv32 s base hbase hs w).mono fun e w' ⟨hb, h⟩ => ⟨by
    rcases h with ⟨hn, _⟩ | ⟨_, he⟩
    · rw [hf] at hn; cases hn
    · exact he, hb⟩

set_option maxHeartbeats 400000 in
theorem iun_bad (s : ByteArray) (n : Nat) (hn : s.size = 2 * n) (hs : s.size ≤ 40000) (hf : Hid (WM.figsB 16 s.data.toList = false)) (w : World) :
    Calls Try.prog 21 #[.string s] w fun e w' => e = .returned (unV s) ∧ Below w.heap.size w w' := by
  have d2 : ((s.size : Int) % 2 != 0) = false := by rw [bne_eq_false_iff_eq]; omega
  clear hn
  have d1 : decide ((40000 : Int) < (s.size : Int)) = false := by simp; omega
  go_enter Try.func21, Try.ntmps21
  go_wp2_with (go_at_call 32; refine (fv32_no s 16 (Nat.le_refl _) hs hf.out _).mono ?_; rintro e w' ⟨rfl, hb⟩)
  go_ret2
  exact ⟨by rw [unV_no hf.out]; rfl, hb⟩

set_option maxRecDepth 100000 in
set_option maxHeartbeats 1000000 in
theorem iun_yes (s : ByteArray) (n : Nat) (hn : s.size = 2 * n) (h0 : 0 < n) (hs : s.size ≤ 40000) (hf : Hid (WM.figsB 16 s.data.toList = true)) (w : World) :
    Calls Try.prog 21 #[.string s] w fun e w' => e = .returned (unV s) ∧ Below w.heap.size w w' := by
  obtain ⟨i0, hi, hz0, hz1, hz2⟩ := info_parts Try.info5
  have d2 : ((s.size : Int) % 2 != 0) = false := by rw [bne_eq_false_iff_eq]; omega
  have hn2 : 2 * n ≤ s.size := by omega
  have hn3 : s.size ≤ 2 * n := by omega
  clear hn
  have d1 : decide ((40000 : Int) < (s.size : Int)) = false := by simp; omega
  go_enter Try.func21, Try.ntmps21
  go_wp2_with (first | (go_at_call 32; refine (fv32_yes s 16 (Nat.le_refl _) hs (by omega) hf.out _).mono ?_; rintro e w1 ⟨hb1, g, cap, rfl, hg, hc⟩; have HC : Hid _ := hc; clear hc) | (at_make; refine wpList_make_own _ rfl _ _ 39 rfl w1.heap.size 5 i0 (.int .u8 0) 1 Try.underlying39 hi hz0 hz1 .i64 .i64 _ n rfl rfl (by omega) (by rw [hz2]; omega) (by unfold maxLen; omega) (Nat.le_refl _) ?_))
  intro w2 hown0 hgrow0
  have hown1 := Own.made hown0
  have hb2 : Below w1.heap.size w1 w2 := (Below.refl _ w1).grown hgrow0 (Nat.le_refl _) (fun j hj => by cases hj)
  clear hown0 hgrow0 hi hz0 hz1 hz2
  go_wp2
  go_loopw [6, 7] (fun v t wr => ∃ m : Nat, m ≤ n ∧ t = .int .i64 ((2 * m : Nat) : Int) ∧ Own wr w1.heap.size v (WM.unhexL (s.data.toList.take (2 * m))) ∧ Below w1.heap.size w1 wr) (fun _ t _ => s.size - (intOf t).toNat)
  case atStart =>
    exact ⟨0, Nat.zero_le _, rfl, hown1, hb2⟩
  case round =>
    obtain ⟨m, hm, rfl, hown, hb⟩ := hrel
    clear hown1 hb2
    have hlen : (WM.unhexL (s.data.toList.take (2 * m))).length ≤ 20000 := by rw [un_len s m (by omega)]; omega
    by_cases hlt : m < n
    · have l1 : 2 * m < s.size := by omega
      have l2 : 2 * m + 1 < s.size := by omega
      have l1' : 2 * (m : Int) < (s.size : Int) := by omega
      have l2' : 2 * (m : Int) + 1 < (s.size : Int) := by omega
      have ha := figs_take_at s 16 (2 * m) l1 hf.out
      have hc := figs_take_at s 16 (2 * m + 1) l2 hf.out
      have c1 : wr.cell? ⟨g, 2 * m, none⟩ = some (.int .u8 (WM.fv s[2 * m] : Int)) := (hb.cell (p := ⟨g, 2 * m, none⟩) hg).trans (HC.out _ l1)
      have c2 : wr.cell? ⟨g, 2 * m + 1, none⟩ = some (.int .u8 (WM.fv s[2 * m + 1] : Int)) := (hb.cell (p := ⟨g, 2 * m + 1, none⟩) hg).trans (HC.out _ l2)
      have e0 : IntKind.i64.wrap (2 * (m : Int) + 1) = 2 * (m : Int) + 1 := by rw [IntKind.wrap_i64]; omega
      have e1 : IntKind.u8.wrap ((WM.fv s[2 * m] : Int) * 16) = (WM.fv s[2 * m] : Int) * 16 := by rw [IntKind.wrap_u8]; omega
      have e2 : IntKind.u8.wrap ((WM.fv s[2 * m] : Int) * 16 + (WM.fv s[2 * m + 1] : Int)) = (WM.fv s[2 * m] : Int) * 16 + (WM.fv s[2 * m + 1] : Int) := by rw [IntKind.wrap_u8]; omega
      have p1 : (0 : Int) ≤ 2 * (m : Int) := by omega
      have p2 : (0 : Int) ≤ 2 * (m : Int) + 1 := by omega
      have t1 : (2 * (m : Int)).toNat = 2 * m := by omega
      have t2 : (2 * (m : Int) + 1).toNat = 2 * m + 1 := by omega
      have g1 := World.new_ne wr _ c1
      have g2 := World.new_ne wr _ c2
      go_wp2
      go_region_held3 (fun w' => w'.cell? ⟨g, 2 * m, none⟩ = some (.int .u8 (WM.fv s[2 * m] : Int)) ∧ w'.cell? ⟨g, 2 * m + 1, none⟩ = some (.int .u8 (WM.fv s[2 * m + 1] : Int))) (first | go_keep | exact ⟨(hb3.cell (p := ⟨g, 2 * m, none⟩) hg).trans (HC.out _ l1), (hb3.cell (p := ⟨g, 2 * m + 1, none⟩) hg).trans (HC.out _ l2)⟩) ((refine stepApp (by rfl) _ _ (by rfl) w1 [UInt8.ofNat (WM.fv s[2 * m] * 16 + WM.fv s[2 * m + 1])] (by rfl) (by exact (Own.alloc hown _).drew) (by rfl) (by exact heap_alloc_new wr _) (by exact ofNatCell _ _ (by omega) (by omega)) (by simp) (by simp; omega) (by exact (hb.alloc hb.size _).drew) (Nat.le_refl _) ?_; intro v' w3 hown3 hb3))
      all_goals
        have hown4 : Own w3 w1.heap.size v' (WM.unhexL (s.data.toList.take (2 * m + 2))) := by rw [un_more s m l2]; simpa using hown3
        clear hown3 hown hb e0 e1 e2 c1 c2 g1 g2 t1 t2
        go_wp2
        go_roundw
        case rel => exact ⟨m + 1, by omega, by go_num, hown4, hb3⟩
        case measure => simp [intOf]; omega
    · have hd : decide (2 * (m : Int) < (s.size : Int)) = false := by simp; omega
      have HT : Hid (s.data.toList.take (2 * m) = s.data.toList) := List.take_of_length_le (by simp only [Array.length_toList]; show s.size ≤ 2 * m; omega)
      have hst := hown.str
      go_wp2
      go_ret2
      refine ⟨?_, hb1.trans (hb.mono hb1.size)⟩
      rw [HT.out, unV_yes hf.out]
      rfl
end Go.Proofs.Ytneknebckpajaaa
