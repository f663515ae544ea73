/- What the drawn laws of disks want besides: a cursor and a disk that stay, sameTexts, big. -/
import Derived.Test.YtnfkecefkkdedaaDr
import Derived.Test.YtnfkecefkkdedaaF4
namespace Go.Proofs.Ytnfkecefkkdedaa
open Go.RowKit
open DM
attribute [local go_sem ↓] Go.wp_at_zero Go.wp_at_succ

theorem flush_get : ∀ (ss : List ByteArray) (ps : List Wr) (j : Nat), (∀ p ∈ ps, p.1.toNat ≠ j) → (flush ss ps)[j]? = ss[j]?
  | _, [], _, _ => rfl
  | ss, p :: ps, j, h => by
    rw [flush, flush_get _ ps j (fun r hr => h r (List.mem_cons_of_mem _ hr)), List.getElem?_set_ne (h p (List.mem_cons_self ..))]
theorem okB_flush {ss : List ByteArray} {ps : List Wr} (h : okB ss ps = true) : okB (flS ss ps) (flP ss ps) = true := by
  have hO := okB_iff.1 h
  rw [flS_yes h, flP_yes h, okB_iff]
  refine ⟨by rw [flush_len]; exact hO.1, by rw [flush_len]; exact hO.2.1, Nat.zero_le _, flush_64 ss ps hO.2.2.2.1 (fun p hp => (hO.2.2.2.2 p hp).2.2), fun p hp => by cases hp⟩
theorem flS_length {ss : List ByteArray} {ps : List Wr} (h : okB ss ps = true) : (flS ss ps).length = ss.length := by rw [flS_yes h, flush_len]
theorem rdR_nil (ss : List ByteArray) (j : Nat) (hj : j < ss.length) : rdR ss [] (j : Int) = ss.getD j ByteArray.empty := by
  rw [show rdR ss [] (j : Int) = rd ss [] (j : Int) from if_pos (hasB_iff.2 ⟨by omega, by omega⟩)]
  rfl
theorem DOwn.keptG {w w' : World} {base g : Nat} {a1 a2 : Option Addr} {c1 c2 : Nat} {ss : List ByteArray} {ps : List Wr} (h : DOwn w base a1 c1 a2 c2 ss ps) (hg : w.grownBy w' (some g)) (hlt : g < base) : DOwn w' base a1 c1 a2 c2 ss ps :=
  ⟨World.ownsRow.kept h.s hg (by
    cases e : (Value.slice a1 ss.length c1).ownBlock with
    | none => exact Or.inl rfl
    | some k => right; intro e2; have := (World.ownsRow.lt h.s k e).1; have := Option.some.inj e2; omega),
   World.ownsRow.kept h.p hg (by
    cases e : (Value.slice a2 ps.length c2).ownBlock with
    | none => exact Or.inl rfl
    | some k => right; intro e2; have := (World.ownsRow.lt h.p k e).1; have := Option.some.inj e2; omega)⟩
theorem Bx.keptG {w w' : World} {b g : Nat} {x y : Value} (h : Bx w b x y) (hg : w.grownBy w' (some g)) (hlt : g < b) : Bx w' b x y := h.keepG hg (fun e => by have := Option.some.inj e; omega)
theorem srow_one (W : World) (s : ByteArray) : SRow (W.alloc (.cells #[.string s] 9)) (some ⟨W.heap.size, 0, none⟩) [s] := fun _ =>
  ⟨W.heap.size, 0, rfl, by simp, fun j hj => by
    obtain rfl : j = 0 := by simpa using hj
    exact World.cell?_alloc_mark W _ 9 (0, 0) 0⟩

/-- a cursor, and that it alone was written since -/
structure DS (w0 : World) (g : Nat) (a : Option Addr) (len cap : Nat) (W : World) : Prop where
  cur : CurOk W g a len cap
  gr : w0.grownBy W (some g)
theorem DS.step {w0 : World} {g : Nat} {a : Option Addr} {len cap : Nat} {W W' : World} (h : DS w0 g a len cap W) (hc : CurOk W' g a len cap) (hg : W.grownBy W' (some g)) : DS w0 g a len cap W' := ⟨hc, grown_trans h.gr hg⟩
theorem DS.call {w0 : World} {g : Nat} {a : Option Addr} {len cap : Nat} {W W' : World} (h : DS w0 g a len cap W) (hg : g < w0.heap.size) (hb : Below W.heap.size W W') : DS w0 g a len cap W' := ⟨h.cur.below hb (Nat.lt_of_lt_of_le hg h.gr.size), grown_trans h.gr (grown_below hb)⟩
theorem DS.alloc {w0 : World} {g : Nat} {a : Option Addr} {len cap : Nat} {W : World} (h : DS w0 g a len cap W) (hg : g < w0.heap.size) (o : Obj) : DS w0 g a len cap (W.alloc o) := h.call hg ((belowRefl W).alloc (Nat.le_refl _) o)
theorem DS.drew {w0 : World} {g : Nat} {a : Option Addr} {len cap : Nat} {W : World} (h : DS w0 g a len cap W) (hg : g < w0.heap.size) : DS w0 g a len cap W.drew := h.call hg (belowRefl W).drew
theorem CodeOk.set {W : World} {a : Option Addr} {len g : Nat} (h : CodeOk W a len g) {B : Nat} (p : Addr) (v : Value) (hp : B ≤ p.block) (hcode : ∀ b off, a = some ⟨b, off, none⟩ → 0 < len → b < B) : CodeOk (W.setCell p v) a len g := fun hl => by
  obtain ⟨b, off, ha, hb, hne, hz⟩ := h hl
  have hbB := hcode b off ha hl
  refine ⟨b, off, ha, by simpa [World.setCell] using hb, hne, fun i hi => ?_⟩
  obtain ⟨z, h0, h1, hc⟩ := hz i hi
  exact ⟨z, h0, h1, (World.cell?_setCell_other _ _ _ _ (fun e => by have := congrArg Addr.block e; simp at this; omega)).trans hc⟩
theorem DS.set {w0 : World} {g : Nat} {a : Option Addr} {len cap : Nat} {W : World} (h : DS w0 g a len cap W) (hg : g < w0.heap.size) (hcode : ∀ b off, a = some ⟨b, off, none⟩ → 0 < len → b < w0.heap.size) (p : Addr) (v : Value) (hp : w0.heap.size ≤ p.block) : DS w0 g a len cap (W.setCell p v) := by
  obtain ⟨i, hh, c, k⟩ := h.cur
  have hne : ∀ j, p ≠ ⟨g, j, none⟩ := fun j e => by have := congrArg Addr.block e; simp at this; omega
  refine ⟨⟨i, hh, ⟨(World.cell?_setCell_other _ _ _ _ (hne 0)).trans c.c0, (World.cell?_setCell_other _ _ _ _ (hne 1)).trans c.c1, (World.cell?_setCell_other _ _ _ _ (hne 2)).trans c.c2, fun j => by rw [World.frozen?_setCell]; exact c.free j, c.i0, c.i1⟩, k.set p v hp hcode⟩, ?_⟩
  have hg2 := h.gr
  refine ⟨hg2.os, hg2.tape, hg2.output, by simpa [World.setCell] using hg2.size, fun j hj hne => ?_⟩
  rw [Below.heap_setCell _ _ _ _ (show j ≠ p.block by omega)]
  exact hg2.block j hj hne
theorem size3 {x n : Nat} (_ : x < n) : ((1 + x : Nat) : Int) = 1 + (x : Int) := by omega
set_option maxRecDepth 100000 in
set_option maxHeartbeats 1000000 in
theorem same20 (a1 a2 : Option Addr) (c1 c2 : Nat) (ss : List ByteArray) (hn : ss.length ≤ 100000000) (w : World) (h1 : SRow w a1 ss) (h2 : SRow w a2 ss) :
    Calls Try.prog 20 #[.slice a1 ss.length c1, .slice a2 ss.length c2] w fun e w' => e = .returned (.bool true) ∧ Below w.heap.size w w' := by
  have H1 : Hid (SRow w a1 ss) := h1
  have H2 : Hid (SRow w a2 ss) := h2
  clear h1 h2
  go_enter Try.func20, Try.ntmps20
  go_wp2
  go_loopw [5] (fun t wr => ∃ k : Nat, k ≤ ss.length ∧ t = .int .i64 k ∧ Hid (Below w.heap.size w wr)) (fun t _ => ss.length - (intOf t).toNat)
  case atStart => exact ⟨0, Nat.zero_le _, rfl, Below.refl _ _⟩
  case round =>
    obtain ⟨k, hk, rfl, HB⟩ := hrel
    by_cases hlt : k < ss.length
    · have hlt' : (k : Int) < (ss.length : Int) := by omega
      have h0 : (0 : Int) ≤ (k : Int) := by omega
      obtain ⟨b1, off1, rfl, hl1, q1⟩ := (H1.out.below HB.out) (by omega)
      obtain ⟨b2, off2, rfl, hl2, q2⟩ := (H2.out.below HB.out) (by omega)
      have r1 := q1 k hlt
      have r2 := q2 k hlt
      clear q1 q2
      go_wp2
      go_quiet (fail)
      go_wp2
      go_roundw
      case rel => exact ⟨k + 1, by omega, by go_num, below_drewN HB.out _⟩
      case measure => simp [intOf]; omega
    · have hd : ¬ (k : Int) < (ss.length : Int) := by omega
      go_wp2
      go_ret
      exact ⟨rfl, HB.out⟩


set_option maxHeartbeats 400000 in
theorem big10 (len cap : Nat) (a : Option Addr) (w : World) :
    Calls Try.prog 10 #[.slice a len cap] w fun e w' => e = .returned (.bool (decide ((1048576 : Int) < (len : Int)))) ∧ w' = w := by
  go_enter Try.func10, Try.ntmps10
  go_wp2
  go_ret
  exact ⟨rfl, rfl⟩

theorem below_of_grown {B : Nat} {w w' : World} {g : Nat} (h : w.grownBy w' (some g)) (hB : B ≤ g) (hs : B ≤ w.heap.size) : Below B w w' := ⟨h.os, h.tape, h.output, h.size, fun k hk => h.block k (by omega) (fun e => by have := Option.some.inj e; omega)⟩
theorem CurOk.set {W : World} {g len cap : Nat} {a : Option Addr} (h : CurOk W g a len cap) (p : Addr) (v : Value) (hp : p.block ≠ g) (hcode : ∀ b off, a = some ⟨b, off, none⟩ → 0 < len → b < p.block) : CurOk (W.setCell p v) g a len cap := by
  obtain ⟨i, hh, c, k⟩ := h
  have hne : ∀ j, p ≠ ⟨g, j, none⟩ := fun j e => hp (congrArg Addr.block e)
  exact ⟨i, hh, ⟨(World.cell?_setCell_other _ _ _ _ (hne 0)).trans c.c0, (World.cell?_setCell_other _ _ _ _ (hne 1)).trans c.c1, (World.cell?_setCell_other _ _ _ _ (hne 2)).trans c.c2, fun j => by rw [World.frozen?_setCell]; exact c.free j, c.i0, c.i1⟩, k.set p v (Nat.le_refl _) hcode⟩
end Go.Proofs.Ytnfkecefkkdedaa
