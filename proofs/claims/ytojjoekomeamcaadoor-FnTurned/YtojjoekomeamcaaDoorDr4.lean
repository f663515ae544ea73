/- What DrawSumOf and DrawPlaces do. -/
import Derived.Test.YtojjoekomeamcaaDoorDr3
namespace Go.Proofs.YtojjoekomeamcaaDoor
open Go.RowKit
attribute [local go_sem ↓] Go.wp_at_zero Go.wp_at_succ

theorem Tryd.info3 : (Tryd.prog.info? 3).map (fun i => (i.zero, i.size, i.bytes)) = some (some (.int .i64 0), 1, 8) := by kernel_rfl

def iv (l : List Nat) : List Value := l.map fun (n : Nat) => Value.int .i64 (n : Int)
/-- the slice v owns the ints l -/
def IOwn (w : World) (base : Nat) (v : Value) (l : List Nat) : Prop := w.ownsRow base 3 1 v l.length (iv l)

theorem IOwn.empty (w : World) (base : Nat) (hb : base ≤ w.heap.size) : IOwn (w.alloc (.cells #[] 3)) base (.slice (some ⟨w.heap.size, 0, none⟩) 0 0) [] :=
  World.ownsRow_lit (size := 1) w #[] 0 hb (by unfold maxLen; omega) rfl
theorem IOwn.kept {w w' : World} {base g : Nat} {v : Value} {l : List Nat} (h : IOwn w base v l) (hg : w.grownBy w' (some g)) (hlt : g < base) : IOwn w' base v l :=
  World.ownsRow.kept h hg (by
    cases e : v.ownBlock with
    | none => exact Or.inl rfl
    | some k => right; intro e2; have := (World.ownsRow.lt h k e).1; have := Option.some.inj e2; omega)
theorem IOwn.mono {w : World} {base base' : Nat} {v : Value} {l : List Nat} (h : IOwn w base v l) (hb : base' ≤ base) : IOwn w base' v l := by
  refine ⟨h.1, ?_⟩
  rcases h.2 with h1 | ⟨g, cap, cur, h1, h2, h3⟩
  · exact Or.inl h1
  · exact Or.inr ⟨g, cap, cur, h1, Nat.le_trans hb h2, h3⟩
theorem IOwn.shape {w : World} {base : Nat} {v : Value} {l : List Nat} (h : IOwn w base v l) (hl : 0 < l.length) :
    ∃ g cap, v = .slice (some ⟨g, 0, none⟩) l.length cap ∧ base ≤ g ∧ g < w.heap.size ∧ (∀ j (hj : j < l.length), w.cell? ⟨g, j, none⟩ = some (.int .i64 (l[j] : Int))) := by
  have h0 := h
  rcases h.2 with ⟨rfl, h1⟩ | ⟨g, cap, cur, rfl, hg, hh, hnc, hcp, hcs, htake⟩
  · omega
  · refine ⟨g, cap, rfl, hg, (World.ownsRow.lt h0 g rfl).2, fun j hj => ?_⟩
    rw [World.ownsRow.cellAt h0 j (by omega)]
    simp [iv, hj]

theorem wpIApp {ops : Array Oper} {rest : List Oper} {o : Oper} {a : Act} {Q : Exit → Act → World → Prop} (hgd : o.guard = none) (s x : Operand)
    (ho : o.op = .call { callee := .builtin .append, args := #[s, x], argTypes := #[25, 25] }) {wr : World} {cs : Array Value} (w0 : World) {base : Nat} {v : Value} {pre : List Nat} (n : Nat)
    (hs : a.eval s = v) (hown : IOwn wr base v pre) (hx : a.eval x = .slice (some ⟨wr.heap.size, 0, none⟩) 1 1) (hcs : cs = #[.int .i64 (n : Int)])
    (hlen : pre.length ≤ 1000000) (hb : Below base w0 wr) (hB : base ≤ w0.heap.size)
    (h : ∀ v' w', IOwn w' base v' (pre ++ [n]) → Below base w0 w' → wpList Tryd.prog ops Q rest (a.put o.dst v') w') :
    wpList Tryd.prog ops Q (o :: rest) a (wr.alloc (.cells cs 3)) := by
  obtain ⟨i0, hi, hz0, hz1, hz2⟩ := info_parts Tryd.info3
  have hsz := hb.size
  subst hcs
  refine wpList_append_own _ hgd s x 25 ho base 3 i0 (.int .i64 0) 1 8 Tryd.underlying25 hi hz0 hz1 hz2 rfl (by decide) v pre.length (iv pre) hs (World.ownsRow.alloc hown _) ⟨wr.heap.size, 0, none⟩ 1 1 [.int .i64 (n : Int)] hx rfl ?_ ?_ (by unfold maxLen; omega) (by omega) (by simp; omega) ?_
  · intro j u hj
    have hc : (wr.alloc (.cells #[.int .i64 (n : Int)] 3)).cell? ⟨wr.heap.size, j, none⟩ = #[Value.int .i64 (n : Int)][j]? := World.cell?_alloc_mark wr _ 3 (0, 0) j
    rw [Addr.add_lit, Nat.zero_add, hc, ← hj]
    simp
  · intro u hu
    simp only [List.mem_singleton] at hu
    subst hu
    rfl
  · intro v' w' h1 h2 _
    refine h v' w' ?_ ((hb.alloc (by omega) _).grown h2 (by simp; omega) (fun j hj => (World.ownsRow.lt hown j hj).1))
    unfold IOwn
    simpa [iv] using h1

set_option maxRecDepth 100000 in
set_option maxHeartbeats 1000000 in
theorem drawSum9 (len cap : Nat) (a : Option Addr) (hl : len ≤ 1048576) (w : World) (hr : CodeRow w a len) :
    Calls Tryd.prog 9 #[.slice a len cap] w fun e w' => ∃ s : ByteArray, s.size < 40 ∧ e = .returned (.string s) ∧ Below w.heap.size w w' := by
  have HR : Hid (CodeRow w a len) := hr
  clear hr
  go_enter Tryd.func9, Tryd.ntmps9
  go_wp2_with fail
  refine (new16 len cap a hl _ HR.out).mono ?_
  rintro e w1 ⟨rfl, hc1, hb1, hs1⟩
  have HC1 : Hid (CurOk w1 w.heap.size a len cap) := hc1
  have HB1 : Hid (Below w.heap.size w w1) := hb1
  clear hc1 hb1
  go_wp2_with fail
  refine (below21 w.heap.size len cap a 40 (by omega) (by omega) hl _ HC1.out).mono ?_
  rintro e w2 ⟨x, hx, rfl, hc2, hg2⟩
  have HB2 : Hid (Below w.heap.size w w2) := HB1.out.grown hg2 (by omega) (fun j hj => by cases hj; exact Nat.le_refl _)
  have HC2 : Hid (CurOk w2 w.heap.size a len cap) := hc2
  have hs2 : w.heap.size < w2.heap.size := Nat.lt_of_lt_of_le hs1 hg2.size
  clear hc2 hg2
  go_wp2_with fail
  refine (text22 w.heap.size len cap a x (by omega) hl _ HC2.out hs2 ?_).mono ?_
  · intro b off hab hlen
    obtain ⟨b', off', ha', hb', _⟩ := HR.out hlen
    rw [hab] at ha'
    cases ha'
    omega
  · rintro e w4 ⟨s, hsz, rfl, hc4, hg4⟩
    have HS : Hid (s.size = x) := hsz
    have HB4 : Hid (Below w.heap.size w w4) := HB2.out.grown hg4 (by omega) (fun j hj => by cases hj; exact Nat.le_refl _)
    clear hsz hc4 hg4
    go_wp2
    go_ret
    exact ⟨s, by rw [HS.out]; omega, rfl, HB4.out⟩

set_option maxRecDepth 100000 in
set_option maxHeartbeats 1000000 in
theorem drawPlaces10 (len cap : Nat) (a : Option Addr) (hl : len ≤ 1048576) (w : World) (hr : CodeRow w a len) :
    Calls Tryd.prog 10 #[.slice a len cap] w fun e w' => ∃ (v : Value) (l : List Nat), l.length = 12 ∧ (∀ n ∈ l, n < 10000) ∧ e = .returned v ∧ IOwn w' w.heap.size v l ∧ Below w.heap.size w w' := by
  have HR : Hid (CodeRow w a len) := hr
  clear hr
  go_enter Tryd.func10, Tryd.ntmps10
  go_wp2_with fail
  refine (new16 len cap a hl _ HR.out).mono ?_
  rintro e w1 ⟨rfl, hc1, hb1, hs1⟩
  have HC1 : Hid (CurOk w1 w.heap.size a len cap) := hc1
  have HB1 : Hid (Below w.heap.size w w1) := hb1
  clear hc1 hb1
  go_wp2_with fail
  refine (byteOk w.heap.size len cap a hl _ HC1.out).mono ?_
  rintro e w2 ⟨x, hx, rfl, hc2, hg2⟩
  have HB2 : Hid (Below w.heap.size w w2) := HB1.out.grown hg2 (by omega) (fun j hj => by cases hj; exact Nat.le_refl _)
  have HC2 : Hid (CurOk w2 w.heap.size a len cap) := hc2
  have hs2 : w.heap.size < w2.heap.size := Nat.lt_of_lt_of_le hs1 hg2.size
  have HK : Hid (∀ b off, a = some ⟨b, off, none⟩ → 0 < len → b < w.heap.size) := by
    intro b off hab hlen
    obtain ⟨b', off', ha', hb', _⟩ := HR.out hlen
    rw [hab] at ha'
    cases ha'
    omega
  clear hc2 hg2
  go_wp2
  go_loopw [4, 5] (fun v t wr => ∃ (k : Nat) (pre : List Nat), k ≤ 12 ∧ t = .int .i64 (k : Int) ∧ Hid (pre.length = k) ∧ Hid (∀ n ∈ pre, n < 10000) ∧ Hid (IOwn wr w2.heap.size v pre) ∧ Hid (CurOk wr w.heap.size a len cap) ∧ Hid (Below w.heap.size w wr) ∧ Hid (w2.heap.size ≤ wr.heap.size)) (fun _ t _ => 12 - (intOf t).toNat)
  case atStart => exact ⟨0, [], Nat.zero_le _, rfl, rfl, (fun n hn => by cases hn), IOwn.empty _ _ (Nat.le_refl _), HC2.out.alloc hs2 _, HB2.out.alloc (by omega) _, (by show _ ≤ _; simp)⟩
  case round =>
    obtain ⟨k, pre, hk, rfl, HL, HA, HO, HC3, HB3, HS3⟩ := hrel
    by_cases hlt : k < 12
    · have hlt' : (k : Int) < 12 := by omega
      go_wp2_with fail
      refine (below21 w.heap.size len cap a 10000 (by omega) (by omega) hl _ HC3.out).mono ?_
      rintro e w4 ⟨y, hy, rfl, hc4, hg4⟩
      have HC4 : Hid (CurOk w4 w.heap.size a len cap) := hc4
      have hb3s := HB3.out.size
      have HB4 : Hid (Below w.heap.size w w4) := HB3.out.grown hg4 hb3s (fun j hj => by cases hj; exact Nat.le_refl _)
      have hown4 := HO.out.kept hg4 hs2
      have hsz4 : w2.heap.size ≤ w4.heap.size := Nat.le_trans HS3.out hg4.size
      have hlen : pre.length ≤ 1000000 := by rw [HL.out]; omega
      clear hc4 hg4
      go_wp2_with (at_builtin; refine wpIApp rfl _ _ rfl w4 y rfl hown4 rfl rfl hlen (Below.refl _ _) hsz4 ?_)
      intro v' w5 hown5 hb5
      have HO5 : Hid (IOwn w5 w2.heap.size v' (pre ++ [y])) := hown5
      have HC5 : Hid (CurOk w5 w.heap.size a len cap) := HC4.out.belowB hb5 hs2 (fun b off h1 h2 => Nat.lt_trans (HK.out b off h1 h2) hs2)
      have HB5 : Hid (Below w.heap.size w w5) := HB4.out.trans (hb5.mono (by omega))
      have HL5 : Hid ((pre ++ [y]).length = k + 1) := by show _ = _; rw [List.length_append, HL.out]; rfl
      have HA5 : Hid (∀ n ∈ pre ++ [y], n < 10000) := by
        intro n hn
        rcases List.mem_append.1 hn with h | h
        · exact HA.out n h
        · rw [List.mem_singleton.1 h]; exact hy
      have HS5 : Hid (w2.heap.size ≤ w5.heap.size) := Nat.le_trans hsz4 hb5.size
      clear hown4 hown5 hb5 hb3s hsz4 hlen
      go_wp2
      go_roundw
      case rel => exact ⟨k + 1, _, by omega, by go_num, HL5, HA5, HO5, HC5, HB5, HS5⟩
      case measure => simp [intOf]; omega
    · have hlt' : ¬ (k : Int) < 12 := by omega
      go_wp2
      go_ret
      refine ⟨_, pre, by rw [HL.out]; omega, HA.out, rfl, ?_, HB3.out⟩
      exact HO.out.mono (by omega)
end Go.Proofs.YtojjoekomeamcaaDoor
