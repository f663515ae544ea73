/- Slices of strings that a call owns; what laws.markText, eqStringS, markStringS and heldStringS do. -/
import Derived.Test.YtneknebckpajaaaH1
import Derived.Deep.QuietTactic
import Derived.BigQuiet
import Derived.Lib.ItoaLen
namespace Go.Proofs.Ytneknebckpajaaa
open Go.RowKit
attribute [local go_sem ↓] Go.wp_at_zero Go.wp_at_succ

theorem Try.info9 : (Try.prog.info? 9).map (fun i => (i.zero, i.size, i.bytes)) = some (some (.string ByteArray.empty), 1, 16) := by kernel_rfl

/-- the slice v owns the strings ss -/
def SOwn (w : World) (base : Nat) (v : Value) (ss : List ByteArray) : Prop := w.ownsRow base 9 1 v ss.length (ss.map Value.string)

theorem SOwn.nil (w : World) (base : Nat) : SOwn w base (.slice none 0 0) [] := World.ownsRow_nil _ _ _ _
theorem SOwn.empty (w : World) (base : Nat) (hb : base ≤ w.heap.size) : SOwn (w.alloc (.cells #[] 9)) base (.slice (some ⟨w.heap.size, 0, none⟩) 0 0) [] :=
  World.ownsRow_lit (size := 1) w #[] 0 hb (by unfold maxLen; omega) rfl
theorem SOwn.alloc {w : World} {base : Nat} {v : Value} {l : List ByteArray} (h : SOwn w base v l) (o : Obj) : SOwn (w.alloc o) base v l := World.ownsRow.alloc h o

theorem SOwn.form {w : World} {base : Nat} {v : Value} {l : List ByteArray} (h : SOwn w base v l) : ∃ ao cap, v = .slice ao l.length cap := by
  rcases h.2 with ⟨rfl, h1⟩ | ⟨g, cap, cur, rfl, _⟩
  · exact ⟨none, 0, by rw [h1]⟩
  · exact ⟨_, cap, rfl⟩

theorem SOwn.shape {w : World} {base : Nat} {v : Value} {l : List ByteArray} (h : SOwn w base v l) (hl : 0 < l.length) :
    ∃ g cap, v = .slice (some ⟨g, 0, none⟩) l.length cap ∧ base ≤ g ∧ g < w.heap.size ∧ (∀ j (hj : j < l.length), w.cell? ⟨g, j, none⟩ = some (.string l[j])) ∧ ∀ j, w.frozen? ⟨g, j, none⟩ = false := by
  have h0 := h
  rcases h.2 with ⟨rfl, h1⟩ | ⟨g, cap, cur, rfl, hg, hh, hnc, hcp, hcs, htake⟩
  · omega
  · refine ⟨g, cap, rfl, hg, (World.ownsRow.lt h0 g rfl).2, fun j hj => ?_, fun j => World.ownsRow.frozenAt h0 j⟩
    rw [World.ownsRow.cellAt h0 j (by omega)]
    simp [hj]

theorem wpSApp {ops : Array Oper} {rest : List Oper} {o : Oper} {a : Act} {Q : Exit → Act → World → Prop} (hgd : o.guard = none) (s x : Operand)
    (ho : o.op = .call { callee := .builtin .append, args := #[s, x], argTypes := #[32, 32] }) {W : World} (w0 : World) {base g : Nat} {v : Value} {pre : List ByteArray} (t : ByteArray)
    (hs : a.eval s = v) (hown : SOwn W base v pre) (hx : a.eval x = .slice (some ⟨g, 0, none⟩) 1 1) (hblk : W.heap[g]? = some (.cells #[.string t] 9 (0, 0)))
    (hlen : pre.length ≤ 1000000) (hb : Below base w0 W) (hB : base ≤ w0.heap.size)
    (h : ∀ v' w', SOwn w' base v' (pre ++ [t]) → Below base w0 w' → wpList Try.prog ops Q rest (a.put o.dst v') w') :
    wpList Try.prog ops Q (o :: rest) a W := by
  obtain ⟨i0, hi, hz0, hz1, hz2⟩ := info_parts Try.info9
  have hsz := hb.size
  refine wpList_append_own _ hgd s x 32 ho base 9 i0 (.string ByteArray.empty) 1 16 Try.underlying32 hi hz0 hz1 hz2 rfl (by decide) v pre.length (pre.map Value.string) hs hown ⟨g, 0, none⟩ 1 1 [.string t] hx rfl ?_ ?_ (by unfold maxLen; omega) (by omega) (by omega) ?_
  · intro j u hj
    rw [Addr.add_lit, Nat.zero_add, World.cell?, hblk]
    simpa using hj
  · intro u hu
    simp only [List.mem_singleton] at hu
    subst hu
    rfl
  · intro v' w' h1 h2 _
    refine h _ w' ?_ (hb.grown h2 (by omega) (fun j hj => (World.ownsRow.lt hown j hj).1))
    unfold SOwn
    simpa using h1

/-! markText -/
/-- the mark of k -/
def mkB (k : Nat) : ByteArray := ⟨#[109]⟩ ++ ⟨(WM.dd k).toArray⟩

theorem dd_len (m : Nat) (h : m < 18446744073709551616) : (WM.dd m).length ≤ 20 := by
  unfold WM.dd
  split
  · simp
  · rw [Lib.decDigits_length]; exact Lib.nDigits_le20 m h
theorem app_data (b : UInt8) (s : ByteArray) : ((⟨#[b]⟩ : ByteArray) ++ s).data.toList = b :: s.data.toList := by simp
theorem dd_round {m N : Nat} {s : ByteArray} (hm : 0 < m) (h : WM.dd m ++ s.data.toList = WM.dd N) : WM.dd (m / 10) ++ ((⟨#[UInt8.ofNat (48 + m % 10)]⟩ : ByteArray) ++ s).data.toList = WM.dd N := by
  rw [app_data, ← h, WM.dd_step m hm]; simp
theorem round_size {m N : Nat} {s : ByteArray} (hN : N < 18446744073709551616) (h : WM.dd m ++ s.data.toList = WM.dd N) : s.size ≤ 20 := by
  have h1 := dd_len N hN
  have h2 := congrArg List.length h
  simp at h2
  omega
theorem conv1 (wr : World) (b : UInt8) (x : Int) (hx : x = (b.toNat : Int)) : (convert 39 9 (.slice (some ⟨wr.heap.size, 0, none⟩) 1 1)).run Try.prog (wr.alloc (.cells #[.int .u8 x] 5)) = .ok (.string ⟨#[b]⟩) (wr.alloc (.cells #[.int .u8 x] 5)) := by
  subst hx
  have h : Own (wr.alloc (.cells #[.int .u8 (b.toNat : Int)] 5)) wr.heap.size (.slice (some ⟨wr.heap.size, 0, none⟩) 1 1) [b] :=
    World.ownsRow_lit (size := 1) wr #[.int .u8 (b.toNat : Int)] 1 (Nat.le_refl _) (by unfold maxLen; omega) rfl
  exact h.str
theorem ret_str {a b : ByteArray} (h : a.data.toList = b.data.toList) : Ending.returned (.string a) = .returned (.string b) := by
  have : a = b := by
    apply ByteArray.ext
    exact Array.toList_inj.1 h
  rw [this]

set_option maxRecDepth 100000 in
set_option maxHeartbeats 1000000 in
theorem mark34 (N : Nat) (h0 : 0 < N) (h1 : N ≤ 1000000) (w : World) : Calls Try.prog 34 #[.int .i64 N] w fun e w' => e = .returned (.string (mkB N)) ∧ Below w.heap.size w w' := by
  have hd : decide ((N : Int) ≤ 0) = false := by simp; omega
  go_enter Try.func34, Try.ntmps34
  go_wp2
  go_loopw [0, 3] (fun t v wr => ∃ (m : Nat) (s : ByteArray), m ≤ N ∧ t = .int .i64 m ∧ v = .string s ∧ Hid (WM.dd m ++ s.data.toList = WM.dd N) ∧ Below w.heap.size w wr) (fun t _ _ => (intOf t).toNat)
  case atStart => exact ⟨N, ⟨#[]⟩, Nat.le_refl _, rfl, rfl, by show _ = _; simp, Below.refl _ _⟩
  case round =>
    obtain ⟨m, s, hm, rfl, rfl, HE, hb⟩ := hrel
    have hsz := round_size (by omega) HE.out
    by_cases hpos : 0 < m
    · have hpos' : (0 : Int) < (m : Int) := by omega
      have HE2 : Hid _ := dd_round hpos HE.out
      have hcv := conv1 wr (UInt8.ofNat (48 + m % 10)) (48 + (m : Int) % 10) (by rw [toNat_ofNat _ (by omega)]; omega)
      have hsz2 : (⟨#[UInt8.ofNat (48 + m % 10)]⟩ : ByteArray).size ≤ 1 := Nat.le_refl _
      go_wp2
      go_roundw
      case rel => exact ⟨m / 10, _, by omega, by go_num, rfl, by first | exact HE2 | (have := HE2.out; simpa [Hid] using this), hb.alloc hb.size _⟩
      case measure => simp [intOf]; omega
    · have hne : ¬ (0 : Int) < (m : Int) := by omega
      have HS : Hid (s.data.toList = WM.dd N) := by
        have h := HE.out
        rw [show m = 0 by omega] at h
        exact h
      go_wp2
      go_ret
      refine ⟨ret_str ?_, hb⟩
      rw [app_data, HS.out, mkB, app_data]
end Go.Proofs.Ytneknebckpajaaa
