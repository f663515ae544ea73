/- What spec.l01Figure returns, and small facts on figures and owned bytes. -/
import Derived.Test.YtneknebckpajaaaDoorBase
import Derived.Lib.Strings
namespace Go.Proofs.YtneknebckpajaaaDoor
open Go.RowKit

theorem Own.alloc {w : World} {base : Nat} {v : Value} {l : List UInt8} (h : Own w base v l) (o : Obj) : Own (w.alloc o) base v l := World.ownsRow.alloc h o
theorem Own.drew {w : World} {base : Nat} {v : Value} {l : List UInt8} (h : Own w base v l) : Own w.drew base v l := h

theorem take_snoc (s : ByteArray) (k : Nat) (h : k < s.size) : s.data.toList.take (k + 1) = s.data.toList.take k ++ [s[k]] := by
  rw [List.take_succ_eq_append_getElem (by simpa using h)]; rfl

theorem hex_more (s : ByteArray) (k : Nat) (h : k < s.size) : WM.hexL (s.data.toList.take (k + 1)) = WM.hexL (s.data.toList.take k) ++ [WM.fig ((s[k].toNat : Int) / 16).toNat, WM.fig ((s[k].toNat : Int) % 16).toNat] := by
  rw [take_snoc s k h, WM.hexL_snoc]
  rw [show ((s[k].toNat : Int) / 16).toNat = s[k].toNat / 16 by omega, show ((s[k].toNat : Int) % 16).toNat = s[k].toNat % 16 by omega]

set_option maxHeartbeats 400000 in
theorem fig9 (x : Int) (h0 : 0 ≤ x) (h1 : x < 16) (w : World) :
    Calls Tryd.prog 9 #[.int .i64 x] w fun e w' => e = .returned (.int .u8 ((WM.fig x.toNat).toNat : Int)) ∧ w = w' := by
  have hf := WM.fig_toNat x.toNat (by omega)
  have HF : Hid _ := hf
  clear hf
  by_cases h : x < 10
  · go_enter Tryd.func9, Tryd.ntmps9
    go_wp2
    go_ret
    refine ⟨?_, rfl⟩
    rw [HF.out, if_pos (by omega)]
    show Ending.returned (.int .u8 (48 + x)) = _
    congr 2
    omega
  · go_enter Tryd.func9, Tryd.ntmps9
    go_wp2
    go_ret
    refine ⟨?_, rfl⟩
    rw [HF.out, if_neg (by omega)]
    show Ending.returned (.int .u8 (97 + x - 10)) = _
    congr 2
    omega

theorem figs_at : ∀ x : Fin 16, (#[48, 49, 50, 51, 52, 53, 54, 55, 56, 57, 97, 98, 99, 100, 101, 102] : Array UInt8)[x.val]'(by simp) = WM.fig x.val := by decide +kernel

/-- 'figures[x]' -/
theorem run_fig (x : Int) (h0 : 0 ≤ x) (h1 : x < 16) (kd : IntKind) (W : World) :
    (Instr.index 9 (.string ⟨#[48, 49, 50, 51, 52, 53, 54, 55, 56, 57, 97, 98, 99, 100, 101, 102]⟩) (.int kd x)).run Tryd.prog W = .ok (.int .u8 ((WM.fig x.toNat).toNat : Int)) W := by
  have h2 : 0 ≤ x ∧ x < ((⟨#[48, 49, 50, 51, 52, 53, 54, 55, 56, 57, 97, 98, 99, 100, 101, 102]⟩ : ByteArray).size : Int) := ⟨h0, h1⟩
  rw [run_index_string W 9 _ kd x Tryd.underlying9, dif_pos h2]
  have := figs_at ⟨x.toNat, by omega⟩
  rw [← this]
  rfl

theorem Own.made {w' : World} {base : Nat} {v : Value} (h : w'.ownsRow base 5 1 v 0 []) : Own w' base v [] := h

end Go.Proofs.YtneknebckpajaaaDoor
