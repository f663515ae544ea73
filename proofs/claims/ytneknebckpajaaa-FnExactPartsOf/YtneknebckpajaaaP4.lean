/- What impl.PartsOf returns. -/
import Derived.Test.YtneknebckpajaaaP3
namespace Go.Proofs.Ytneknebckpajaaa
open Go.RowKit

theorem SOwn.below {w w' : World} {base : Nat} {v : Value} {l : List ByteArray} (h : SOwn w base v l) (hb : Below w.heap.size w w') : SOwn w' base v l := by
  obtain ⟨h1, h2⟩ := h
  refine ⟨h1, ?_⟩
  rcases h2 with h2 | ⟨g, cap, cur, hv, hg, hh, r⟩
  · exact Or.inl h2
  · refine Or.inr ⟨g, cap, cur, hv, hg, ?_, r⟩
    have hlt : g < w.heap.size := by
      by_cases hz : g < w.heap.size
      · exact hz
      · rw [Array.getElem?_eq_none (by omega)] at hh
        cases hh
    rw [hb.block g hlt]; exact hh

/-- may the line be read? -/
def okS (s : ByteArray) : Bool := decide (s.size ≤ 600) && plainB s.data.toList && decide ((pts s).length ≤ 10)
/-- its parts -/
def PP (s : ByteArray) : List ByteArray := if okS s = true then pts s else []
theorem okS_long {s : ByteArray} (h : 600 < s.size) : okS s = false := by
  have : decide (s.size ≤ 600) = false := by simp; omega
  simp only [okS, this, Bool.false_and]
theorem okS_plain {s : ByteArray} (h : plainB s.data.toList = false) : okS s = false := by
  simp only [okS, h, Bool.and_false, Bool.false_and]
theorem okS_many {s : ByteArray} (h : 10 < (pts s).length) : okS s = false := by
  have : decide ((pts s).length ≤ 10) = false := by simp; omega
  simp only [okS, this, Bool.and_false]
theorem okS_yes {s : ByteArray} (h1 : s.size ≤ 600) (h2 : plainB s.data.toList = true) (h3 : (pts s).length ≤ 10) : okS s = true := by
  simp [okS, h1, h2, h3]
theorem PP_no {s : ByteArray} (h : okS s = false) : PP s = [] := if_neg (by simp [h])
theorem PP_yes {s : ByteArray} (h : okS s = true) : PP s = pts s := if_pos h

/-- what PartsOf leaves -/
def PPost (s : ByteArray) (w : World) (e : Ending) (w' : World) : Prop :=
  Below w.heap.size w w' ∧ ∃ v, e = .returned (.tuple #[v, .bool (okS s)]) ∧ SOwn w' w.heap.size v (PP s)

theorem PPost.no {s : ByteArray} {w w' : World} {v : Value} (h : okS s = false) (hb : Below w.heap.size w w') (ho : SOwn w' w.heap.size v []) : PPost s w (.returned (.tuple #[v, .bool false])) w' :=
  ⟨hb, v, by rw [h], by rw [PP_no h]; exact ho⟩
theorem PPost.yes {s : ByteArray} {w w' : World} {v : Value} (h : okS s = true) (hb : Below w.heap.size w w') (ho : SOwn w' w.heap.size v (pts s)) : PPost s w (.returned (.tuple #[v, .bool true])) w' :=
  ⟨hb, v, by rw [h], by rw [PP_yes h]; exact ho⟩

set_option maxHeartbeats 400000 in
theorem ipt_long (s : ByteArray) (h : 600 < s.size) (w : World) : Calls Try.prog 23 #[.string s] w (PPost s w) := by
  have HN : Hid (okS s = false) := okS_long h
  go_enter Try.func23, Try.ntmps23
  go_wp2_with (go_at_call 33; refine (plain33_long s h _).mono ?_; rintro e w' ⟨rfl, rfl⟩)
  go_ret2
  exact PPost.no HN.out (Below.refl _ _) (SOwn.nil _ _)

theorem plain33_v (s : ByteArray) (h : s.size ≤ 600) (b : Bool) (hb : plainB s.data.toList = b) (w : World) :
    Calls Try.prog 33 #[.string s] w fun e w' => e = .returned (.bool b) ∧ w = w' := by rw [← hb]; exact plain33 s h w

set_option maxHeartbeats 400000 in
theorem ipt_bad (s : ByteArray) (h : s.size ≤ 600) (hp : plainB s.data.toList = false) (w : World) : Calls Try.prog 23 #[.string s] w (PPost s w) := by
  have HN : Hid (okS s = false) := okS_plain hp
  have HP : Hid (plainB s.data.toList = false) := hp
  clear hp
  go_enter Try.func23, Try.ntmps23
  go_wp2_with (go_at_call 33; refine (plain33_v s h false HP.out _).mono ?_; rintro e w' ⟨rfl, rfl⟩)
  go_ret2
  exact PPost.no HN.out (Below.refl _ _) (SOwn.nil _ _)

set_option maxRecDepth 100000 in
set_option maxHeartbeats 2000000 in
theorem ipt_yes (s : ByteArray) (h : s.size ≤ 600) (hp : plainB s.data.toList = true) (w : World) : Calls Try.prog 23 #[.string s] w (PPost s w) := by
  have HP : Hid (plainB s.data.toList = true) := hp
  clear hp
  go_enter Try.func23, Try.ntmps23
  go_wp2_with (go_at_call 33; refine (plain33_v s h true HP.out _).mono ?_; rintro e w' ⟨rfl, rfl⟩)
  go_loopw [4, 5, 6] (fun v tf ti wr => ∃ (k fr : Nat) (pre : List ByteArray), k ≤ s.size + 1 ∧ fr ≤ k ∧ ti = .int .i64 (k : Int) ∧ tf = .int .i64 (fr : Int) ∧ SOwn wr w.heap.size v pre ∧ pre.length ≤ k ∧ Hid (pre ++ ptsF s (s.size + 1 - k) k fr = pts s) ∧ Below w.heap.size w wr) (fun _ _ ti _ => s.size + 1 - (intOf ti).toNat)
  case atStart => exact ⟨0, 0, [], by omega, by omega, rfl, rfl, SOwn.nil _ _, by simp, rfl, Below.refl _ _⟩
  case round =>
    obtain ⟨k, fr, pre, hk, hfr, rfl, rfl, hown, hpl, HE, hb⟩ := hrel
    by_cases hle : k ≤ s.size
    · have hle' : (k : Int) ≤ (s.size : Int) := by omega
      by_cases hlt : k < s.size
      · have hlt' : (k : Int) < (s.size : Int) := by omega
        have h0 : (0 : Int) ≤ (k : Int) := by omega
        by_cases hx : s[k].toNat = 32
        · have hx' : ((s[k].toNat : Int) != 32) = false := by rw [bne_eq_false_iff_eq]; omega
          have HE2 : Hid _ := pts_cut hlt hx HE.out
          clear hx
          by_cases hfk : fr < k
          · have hfk' : (fr : Int) < (k : Int) := by omega
            have hf0 : (0 : Int) ≤ (fr : Int) := by omega
            have HE3 : Hid ((pre ++ [s.extract fr k]) ++ ptsF s (s.size + 1 - (k + 1)) (k + 1) (k + 1) = pts s) := by have := HE2.out; rw [pt_yes hfk] at this; exact this
            have HZ : Hid ((s.extract fr k).size ≤ 281474976710656) := by show _ ≤ _; rw [size_piece s _ _ (by omega) hle]; omega
            go_wp2_with (first | (go_at_call 29; refine (clone29 _ HZ.out _).mono ?_; rintro e w2 ⟨rfl, hb2⟩; have hown2 := hown.below hb2; have hb3 := hb.trans (hb2.mono hb.size)) | (at_builtin; refine wpSApp rfl _ _ rfl w (s.extract fr k) rfl (hown2.alloc _) rfl (heap_alloc_new _ _) (by omega) (hb3.alloc hb3.size _) (Nat.le_refl _) ?_))
            intro v' w3 hown3 hb4
            clear hown2 hb3 hown hb
            go_wp2
            go_roundw
            case rel => exact ⟨k + 1, k + 1, _, by omega, by omega, by go_num, by go_num, hown3, by simp; omega, HE3, hb4⟩
            case measure => simp [intOf]; omega
          · have hfk' : ¬ (fr : Int) < (k : Int) := by omega
            have HE3 : Hid (pre ++ ptsF s (s.size + 1 - (k + 1)) (k + 1) (k + 1) = pts s) := by have := HE2.out; rw [pt_no hfk, List.append_nil] at this; exact this
            go_wp2
            go_roundw
            case rel => exact ⟨k + 1, k + 1, pre, by omega, by omega, by go_num, by go_num, hown, by omega, HE3, hb⟩
            case measure => simp [intOf]; omega
        · have hx' : ((s[k].toNat : Int) != 32) = true := by rw [bne_iff_ne]; omega
          have HE2 : Hid _ := pts_go hlt hx HE.out
          clear hx
          go_wp2
          go_roundw
          case rel => exact ⟨k + 1, fr, pre, by omega, by omega, by go_num, rfl, hown, by omega, HE2, hb⟩
          case measure => simp [intOf]; omega
      · have hlt' : decide ((k : Int) < (s.size : Int)) = false := by simp; omega
        have HE2 : Hid _ := pts_end hlt hle HE.out
        by_cases hfk : fr < k
        · have hfk' : (fr : Int) < (k : Int) := by omega
          have hf0 : (0 : Int) ≤ (fr : Int) := by omega
          have HE3 : Hid ((pre ++ [s.extract fr k]) ++ ptsF s (s.size + 1 - (k + 1)) (k + 1) (k + 1) = pts s) := by have := HE2.out; rw [pt_yes hfk] at this; exact this
          have HZ : Hid ((s.extract fr k).size ≤ 281474976710656) := by show _ ≤ _; rw [size_piece s _ _ (by omega) hle]; omega
          go_wp2_with (first | (go_at_call 29; refine (clone29 _ HZ.out _).mono ?_; rintro e w2 ⟨rfl, hb2⟩; have hown2 := hown.below hb2; have hb3 := hb.trans (hb2.mono hb.size)) | (at_builtin; refine wpSApp rfl _ _ rfl w (s.extract fr k) rfl (hown2.alloc _) rfl (heap_alloc_new _ _) (by omega) (hb3.alloc hb3.size _) (Nat.le_refl _) ?_))
          intro v' w3 hown3 hb4
          clear hown2 hb3 hown hb
          go_wp2
          go_roundw
          case rel => exact ⟨k + 1, k + 1, _, by omega, by omega, by go_num, by go_num, hown3, by simp; omega, HE3, hb4⟩
          case measure => simp [intOf]; omega
        · have hfk' : ¬ (fr : Int) < (k : Int) := by omega
          have HE3 : Hid (pre ++ ptsF s (s.size + 1 - (k + 1)) (k + 1) (k + 1) = pts s) := by have := HE2.out; rw [pt_no hfk, List.append_nil] at this; exact this
          go_wp2
          go_roundw
          case rel => exact ⟨k + 1, k + 1, pre, by omega, by omega, by go_num, by go_num, hown, by omega, HE3, hb⟩
          case measure => simp [intOf]; omega
    · have hle' : decide ((k : Int) ≤ (s.size : Int)) = false := by simp; omega
      have HD : Hid (pre = pts s) := pts_out hle HE.out
      obtain ⟨ao, cap, rfl⟩ := hown.form
      by_cases hm : 10 < pre.length
      · have hm' : (10 : Int) < (pre.length : Int) := by omega
        have HN : Hid (okS s = false) := okS_many (by rw [← HD.out]; exact hm)
        go_wp2
        go_ret2
        exact PPost.no HN.out hb (SOwn.nil _ _)
      · have hm' : ¬ (10 : Int) < (pre.length : Int) := by omega
        have HY : Hid (okS s = true) := okS_yes h HP.out (by rw [← HD.out]; omega)
        go_wp2
        go_ret2
        exact PPost.yes HY.out hb (by rw [← HD.out]; exact hown)
end Go.Proofs.Ytneknebckpajaaa
