/- What impl.Hex returns; the law FnExactHex, walked. -/
import Derived.Test.YtjieojfcmigcdaaWoH1
namespace Go.Proofs.Ytjieojfcmigcdaa
open Go.RowKit
attribute [local go_sem ↓] Go.wp_at_zero Go.wp_at_succ

theorem figs_at : ∀ x : Fin 16, (#[48, 49, 50, 51, 52, 53, 54, 55, 56, 57, 97, 98, 99, 100, 101, 102] : Array UInt8)[x.val]'(by simp) = WM.fig x.val := by decide +kernel

/-- 'figures[x]' -/
theorem run_fig (x : Int) (h0 : 0 ≤ x) (h1 : x < 16) (kd : IntKind) (W : World) :
    (Instr.index 9 (.string ⟨#[48, 49, 50, 51, 52, 53, 54, 55, 56, 57, 97, 98, 99, 100, 101, 102]⟩) (.int kd x)).run Try.prog W = .ok (.int .u8 ((WM.fig x.toNat).toNat : Int)) W := by
  have h2 : 0 ≤ x ∧ x < ((⟨#[48, 49, 50, 51, 52, 53, 54, 55, 56, 57, 97, 98, 99, 100, 101, 102]⟩ : ByteArray).size : Int) := ⟨h0, h1⟩
  rw [run_index_string W 9 _ kd x Try.underlying9, dif_pos h2]
  have := figs_at ⟨x.toNat, by omega⟩
  rw [← this]
  rfl

theorem Own.made {w' : World} {base : Nat} {v : Value} (h : w'.ownsRow base 5 1 v 0 []) : Own w' base v [] := h

set_option maxRecDepth 100000 in
set_option maxHeartbeats 400000 in
theorem ihex_yes (s : ByteArray) (h : s.size ≤ 20000) (w : World) :
    Calls Try.prog 16 #[.string s] w fun e w' => e = .returned (.tuple #[.string ⟨(WM.hexL s.data.toList).toArray⟩, .bool true]) ∧ Below w.heap.size w w' := by
  obtain ⟨i0, hi, hz0, hz1, hz2⟩ := info_parts Try.info5
  have hd0 : decide ((20000 : Int) < (s.size : Int)) = false := by simp; omega
  go_enter Try.func16, Try.ntmps16
  go_wp2_with (at_make; refine wpList_make_own _ rfl _ _ 37 rfl w.heap.size 5 i0 (.int .u8 0) 1 Try.underlying37 hi hz0 hz1 .i64 .i64 _ (2 * s.size) rfl rfl (by omega) (by rw [hz2]; omega) (by unfold maxLen; omega) (Nat.le_refl _) ?_)
  intro w1 hown0 hgrow0
  have hown1 := Own.made hown0
  have hb1 : Below w.heap.size w w1 := (Below.refl _ w).grown hgrow0 (Nat.le_refl _) (fun j hj => by cases hj)
  clear hown0 hgrow0 hi hz0 hz1 hz2
  go_wp2
  go_loopw [4, 5] (fun v t wr => ∃ k : Nat, k ≤ s.size ∧ t = .int .i64 k ∧ Own wr w.heap.size v (WM.hexL (s.data.toList.take k)) ∧ Below w.heap.size w wr) (fun _ t _ => s.size - (intOf t).toNat)
  case atStart =>
    exact ⟨0, Nat.zero_le _, rfl, hown1, hb1⟩
  case round =>
    obtain ⟨k, hk, rfl, hown, hb⟩ := hrel
    clear hown1 hb1
    have hlen : (WM.hexL (s.data.toList.take k)).length ≤ 40000 := by rw [WM.hexL_len, List.length_take]; omega
    by_cases hlt : k < s.size
    · have hlt' : (k : Int) < (s.size : Int) := by omega
      have h0 : (0 : Int) ≤ (k : Int) := by omega
      have h255 : (s[k].toNat : Int) ≤ 255 := by have := s[k].toNat_lt; omega
      have e2 : (s[k].toNat : Int).tdiv 16 = (s[k].toNat : Int) / 16 := Int.tdiv_eq_ediv_of_nonneg (by omega)
      have e3 : IntKind.u8.wrap ((s[k].toNat : Int) / 16) = (s[k].toNat : Int) / 16 := by rw [IntKind.wrap_u8]; omega
      have e4 : (s[k].toNat : Int).tmod 16 = (s[k].toNat : Int) % 16 := Int.tmod_eq_emod_of_nonneg (by omega)
      have f1 := run_fig ((s[k].toNat : Int) / 16) (by omega) (by omega) .u8
      have f2 := run_fig ((s[k].toNat : Int) % 16) (by omega) (by omega) .u8
      go_wp2
      go_region_held3 (fun _ => True) (trivial) ((refine stepApp (by rfl) _ _ (by rfl) w [WM.fig ((s[k].toNat : Int) / 16).toNat, WM.fig ((s[k].toNat : Int) % 16).toNat] (by rfl) (by exact (Own.alloc hown _).drew) (by rfl) (by exact heap_alloc_new wr _) (by exact byteCells2 _ _ _ _ rfl rfl) (by simp) (by simp; omega) (by exact (hb.alloc hb.size _).drew) (Nat.le_refl _) ?_; intro v' w1 hown1 hb1))
      all_goals
        have hown2 : Own w1 w.heap.size v' (WM.hexL (s.data.toList.take (k + 1))) := by rw [hex_more s k hlt]; exact hown1
        clear hown1 hown hb f1 f2
        go_wp2
        go_roundw
        case rel => exact ⟨k + 1, by omega, by go_num, hown2, hb1⟩
        case measure => simp [intOf]; omega
    · have hd : decide ((k : Int) < (s.size : Int)) = false := by simp; omega
      have hst := hown.str
      go_wp2
      go_ret2
      refine ⟨?_, hb⟩
      rw [List.take_of_length_le (by simp only [Array.length_toList]; show s.size ≤ k; omega)]
      rfl

end Go.Proofs.Ytjieojfcmigcdaa
