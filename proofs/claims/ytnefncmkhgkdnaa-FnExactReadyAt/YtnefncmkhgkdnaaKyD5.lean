/- What l01Long, l05Any, DrawWriteOk, DrawWritesOk and DrawPutWrite make. -/
import Derived.Test.YtnefncmkhgkdnaaKyD3
namespace Go.Proofs.Ytnefncmkhgkdnaa
open Go.RowKit
open KM
attribute [local go_sem ↓] Go.wp_at_zero Go.wp_at_succ

theorem Try.info5 : (Try.prog.info? 5).map (fun i => (i.zero, i.size, i.bytes)) = some (some (.int .u8 0), 1, 1) := by kernel_rfl
/-- the bytes l as cells -/
def bv (l : List UInt8) : List Value := l.map fun b => Value.int .u8 (b.toNat : Int)
theorem bv_len (l : List UInt8) : (bv l).length = l.length := by simp [bv]
/-- the slice v owns the bytes l -/
def Own (w : World) (base : Nat) (v : Value) (l : List UInt8) : Prop := w.ownsRow base 5 1 v l.length (bv l)
/-- 'string(v)' of owned bytes -/
theorem Own.str {w : World} {base : Nat} {v : Value} {l : List UInt8} (h : Own w base v l) :
    (convert 22 9 v).run Try.prog w = .ok (.string ⟨l.toArray⟩) w := by
  have h0 := h
  rcases h.2 with ⟨rfl, h1⟩ | ⟨g, cap, cur, rfl, hg, hh, hnc, hcp, hcs, htake⟩
  · obtain rfl : l = [] := List.length_eq_zero_iff.1 h1
    rw [run_convert_bytes_string w 22 9 5 none 0 0 Try.underlying22 Try.underlying5 Try.underlying9]
    rfl
  · refine run_convert_bytes_back (P := Try.prog) w 22 9 5 ⟨g, 0, none⟩ cap l Try.underlying22 Try.underlying5 Try.underlying9 ?_
    intro j hj
    rw [Addr.add_lit, Nat.zero_add, World.ownsRow.cellAt h0 j (by omega)]
    simp [bv, hj]
/-- n bytes x -/
def longB (n : Nat) (x : UInt8) : ByteArray := ⟨(List.replicate n x).toArray⟩

set_option maxRecDepth 100000 in
set_option maxHeartbeats 1000000 in
theorem long71 (n : Nat) (x : UInt8) (hn : n ≤ 30000) (w : World) :
    Calls Try.prog 125 #[.int .i64 (n : Int), .int .u8 (x.toNat : Int)] w fun e w' => e = .returned (.string (longB n x)) ∧ Below w.heap.size w w' := by
  have hmk := mkRow 22 5 1 1 _ Try.underlying22 Try.info5 n (by omega) (by omega)
  go_enter Try.func125, Try.ntmps125
  go_wp2
  clear hmk
  have HO : Hid ((w.alloc (.cells (madeCells #[Value.int .u8 0] n) 5)).ownsRow w.heap.size 5 1 (.slice (some ⟨w.heap.size, 0, none⟩) n n) n (madeCells #[Value.int .u8 0] n).toList) :=
    World.ownsRow_lit w _ _ (Nat.le_refl _) (by unfold maxLen; omega) (by rw [size_madeCells, Nat.mul_one])
  go_loopw [6] (fun t wr => ∃ (k : Nat) (xs : List Value), k ≤ n ∧ t = .int .i64 k ∧ Hid (wr.ownsRow w.heap.size 5 1 (.slice (some ⟨w.heap.size, 0, none⟩) n n) n xs) ∧ Hid (∀ j, j < k → xs[j]? = some (.int .u8 (x.toNat : Int))) ∧ Hid (Below w.heap.size w wr)) (fun t _ => n - (intOf t).toNat)
  case atStart => exact ⟨0, _, Nat.zero_le _, rfl, HO, fun j hj => by omega, (belowRefl w).alloc (Nat.le_refl _) _⟩
  case round =>
    obtain ⟨k, xs, hk, rfl, HX, HA, HB⟩ := hrel
    by_cases hlt : k < n
    · have hlt' : (k : Int) < (n : Int) := by omega
      have h0 : (0 : Int) ≤ (k : Int) := by omega
      have hlen := HX.out.1
      have hq : wr.cell? ⟨w.heap.size, k, none⟩ = some (xs[k]'(by omega)) := by rw [World.ownsRow.cellAt HX.out k (by omega)]; simp
      have hfz := World.ownsRow.frozenAt HX.out k
      have st := World.ownsRow.stored HX.out k (.int .u8 (x.toNat : Int))
      have HX3 : Hid _ := st.1
      have HA2 : Hid (∀ j, j < k + 1 → (xs.set k (.int .u8 (x.toNat : Int)))[j]? = some (.int .u8 (x.toNat : Int))) := fun j hj => by
        by_cases e : j = k
        · subst e; rw [List.getElem?_set_self (by omega)]
        · rw [List.getElem?_set_ne (by omega)]; exact HA.out j (by omega)
      clear st
      go_wp2
      go_roundw
      case rel => exact ⟨k + 1, _, by omega, by go_num, HX3, HA2, HB.out.setCell (Nat.le_refl _) _⟩
      case measure => simp [intOf]; omega
    · have hlt' : ¬ (k : Int) < (n : Int) := by omega
      have HOw : Own wr w.heap.size (.slice (some ⟨w.heap.size, 0, none⟩) n n) (List.replicate n x) := by
        have e : xs = bv (List.replicate n x) := by
          apply List.ext_getElem?
          intro j
          have hlen := HX.out.1
          by_cases hj : j < n
          · rw [HA.out j (by omega)]; simp [bv, hj]
          · rw [List.getElem?_eq_none (by omega), List.getElem?_eq_none (by rw [bv_len]; simp; omega)]
        unfold Own
        rw [← e, List.length_replicate]
        exact HX.out
      have hst := HOw.str
      clear HOw
      go_wp2
      go_ret
      exact ⟨rfl, HB.out⟩

/-- a write, right or not, short -/
def WtA (x : Wt) : Prop := x.1.size ≤ 4 ∧ x.2.1.size ≤ 13
theorem long_size (n : Nat) (x : UInt8) : (longB n x).size = n := by simp [longB, ByteArray.size]
def keyA : List ByteArray := [⟨#[]⟩, ⟨#[65]⟩, ⟨#[97, 98, 99, 100]⟩, ⟨#[97, 98, 99]⟩]
theorem keyA_ok : ∀ s ∈ keyA, s.size ≤ 4 := by
  intro s hs
  simp only [keyA, List.mem_cons, List.not_mem_nil, or_false] at hs
  rcases hs with rfl | rfl | rfl | rfl <;> decide

set_option maxRecDepth 100000 in
set_option maxHeartbeats 2000000 in
theorem drAny (g len cap : Nat) (a : Option Addr) (w : World) (hc : CurI w g a len cap) :
    Calls Try.prog 119 #[.pointer (some ⟨g, 0, none⟩)] w fun e w' => ∃ x : Wt, WtA x ∧ e = .returned (.agg #[.string x.1, .string x.2.1, .bool x.2.2]) ∧ Dn w w' g a len cap := by
  have HC : Hid (CurI w g a len cap) := hc
  have hgl : g < w.heap.size := hc.lt
  have hne : w.heap.size ≠ g := Nat.ne_of_gt hc.lt
  clear hc
  go_enter Try.func119, Try.ntmps119
  go_wp2_with fail
  refine (drWrite g len cap a _ (HC.out.alloc _)).mono ?_
  rintro e w1 ⟨x, hx, rfl, d1⟩
  have D1 : Hid (Dn w w1 g a len cap) := ((Dn.start HC.out).alloc _).step d1
  have B1 : Hid (Bx w1 w.heap.size [.string ⟨#[]⟩, .string ⟨#[]⟩, .bool false]) := (Bx.new w [.string ⟨#[]⟩, .string ⟨#[]⟩, .bool false] 96).keptD d1 hne
  have s1 : w.heap.size < w1.heap.size := B1.out.lt
  have HX : Hid (x.1.size ≤ 3 ∧ x.2.1.size ≤ 3) := hx.2
  have X1 : Hid (Bx (w1.alloc (.cells #[.string x.1, .string x.2.1, .bool x.2.2] 96)) w1.heap.size [.string x.1, .string x.2.1, .bool x.2.2]) := Bx.new w1 _ 96
  clear d1 hx
  go_wp2_with fail
  refine (drBelow g len cap a 8 (by omega) (by omega) _ (D1.out.c.alloc _)).mono ?_
  rintro e w2 ⟨n, hn, rfl, d2⟩
  have D2 : Hid (Dn w w2 g a len cap) := (D1.out.alloc _).step d2
  have B2 : Hid (Bx w2 w.heap.size [.string ⟨#[]⟩, .string ⟨#[]⟩, .bool false]) := (B1.out.alloc _).keptD d2 hne
  have X2 : Hid (Bx w2 w1.heap.size [.string x.1, .string x.2.1, .bool x.2.2]) := X1.out.keptD d2 (by omega)
  have s2 : w1.heap.size < w2.heap.size := X2.out.lt
  clear d2 B1 X1
  have hX : w1.heap.size ≠ w.heap.size := by omega
  by_cases h0 : n = 0
  · have h0' : ((n : Int) == 0) = true := by simp; omega
    clear h0
    go_wp2_with fail
    refine (drPickN g len cap a keyA 4 w2.heap.size 4 rfl (by omega) (by omega) _ (D2.out.c.alloc _) (by omega) (Bx.new w2 (keyA.map Value.string) 9)).mono ?_
    rintro e w3 ⟨s, hs, rfl, d3⟩
    have D3 : Hid (Dn w w3 g a len cap) := (D2.out.alloc _).step d3
    have B3 : Hid (Bx w3 w.heap.size [.string ⟨#[]⟩, .string ⟨#[]⟩, .bool false]) := (B2.out.alloc _).keptD d3 hne
    have X3 : Hid (Bx w3 w1.heap.size [.string x.1, .string x.2.1, .bool x.2.2]) := (X2.out.alloc _).keptD d3 (by omega)
    have HS : Hid (s.size ≤ 4) := keyA_ok s hs
    clear d3 hs
    have c0 := B3.out.c0
    have c1 := B3.out.c1
    have c2 := B3.out.c2
    have fz := B3.out.fz
    have x0 := X3.out.c0
    have x1 := X3.out.c1
    have x2 := X3.out.c2
    have xf := X3.out.fz
    go_wp2
    have BF := (((B3.out.setO (p := ⟨w1.heap.size, 0, none⟩) (by omega) (.string s)).set 0 (.string s)).set 1 (.string x.2.1)).set 2 (.bool x.2.2)
    have e0 := BF.c0
    have e1 := BF.c1
    have e2 := BF.c2
    exact bodyPost_ret (v := .agg #[.string s, .string x.2.1, .bool x.2.2]) (by simp [results, Try.results119, go_sem, e0, e1, e2]) rfl ⟨(s, x.2.1, x.2.2), ⟨HS.out, by have := HX.out.2; show x.2.1.size ≤ 13; omega⟩, rfl, (((D3.out.set (p := ⟨w1.heap.size, 0, none⟩) (by show _ ≤ w1.heap.size; omega) _).set (Nat.le_refl _) _).set (Nat.le_refl _) _).set (Nat.le_refl _) _⟩
  have h0' : ((n : Int) == 0) = false := by simp; omega
  by_cases h1 : n = 1
  · have h1' : ((n : Int) == 1) = true := by simp; omega
    clear h0 h1
    go_wp2_with fail
    refine (drBelow g len cap a 2 (by omega) (by omega) _ D2.out.c).mono ?_
    rintro e w3 ⟨m, hm, rfl, d3⟩
    have D3 : Hid (Dn w w3 g a len cap) := D2.out.step d3
    have B3 : Hid (Bx w3 w.heap.size [.string ⟨#[]⟩, .string ⟨#[]⟩, .bool false]) := B2.out.keptD d3 hne
    have X3 : Hid (Bx w3 w1.heap.size [.string x.1, .string x.2.1, .bool x.2.2]) := X2.out.keptD d3 (by omega)
    clear d3
    obtain ⟨q, hq⟩ : ∃ q, q = 12 + m := ⟨_, rfl⟩
    have e9 : IntKind.i64.wrap (12 + (m : Int)) = (q : Int) := by rw [IntKind.wrap_i64]; omega
    have e10 : (12 : Int) + (m : Int) = (q : Int) := by omega
    have e11 : IntKind.i64.wrap (q : Int) = (q : Int) := by rw [IntKind.wrap_i64]; omega
    have C4 : Hid (∀ w, Calls Try.prog 125 #[.int .i64 (q : Int), .int .u8 97] w fun e w' => e = .returned (.string (longB q 97)) ∧ Below w.heap.size w w') := fun w => long71 q 97 (by omega) w
    have HS : Hid ((longB q 97).size ≤ 13) := by show _ ≤ _; rw [long_size]; omega
    clear hq
    go_wp2_with fail
    refine (C4.out _).mono ?_
    rintro e w4 ⟨rfl, hb4⟩
    have D4 : Hid (Dn w w4 g a len cap) := D3.out.below hb4
    have B4 : Hid (Bx w4 w.heap.size [.string ⟨#[]⟩, .string ⟨#[]⟩, .bool false]) := B3.out.below hb4
    have X4 : Hid (Bx w4 w1.heap.size [.string x.1, .string x.2.1, .bool x.2.2]) := X3.out.below hb4
    clear hb4
    generalize longB q 97 = s at *
    have c0 := B4.out.c0
    have c1 := B4.out.c1
    have c2 := B4.out.c2
    have fz := B4.out.fz
    have x0 := X4.out.c0
    have x1 := X4.out.c1
    have x2 := X4.out.c2
    have xf := X4.out.fz
    go_wp2
    have BF := (((B4.out.setO (p := ⟨w1.heap.size, 1, none⟩) (by omega) (.string s)).set 0 (.string x.1)).set 1 (.string s)).set 2 (.bool x.2.2)
    have e0 := BF.c0
    have e1 := BF.c1
    have e2 := BF.c2
    exact bodyPost_ret (v := .agg #[.string x.1, .string s, .bool x.2.2]) (by simp [results, Try.results119, go_sem, e0, e1, e2]) rfl ⟨(x.1, s, x.2.2), ⟨by have := HX.out.1; show x.1.size ≤ 4; omega, HS.out⟩, rfl, (((D4.out.set (p := ⟨w1.heap.size, 1, none⟩) (by show _ ≤ w1.heap.size; omega) _).set (Nat.le_refl _) _).set (Nat.le_refl _) _).set (Nat.le_refl _) _⟩
  have h1' : ((n : Int) == 1) = false := by simp; omega
  have c0 := B2.out.c0
  have c1 := B2.out.c1
  have c2 := B2.out.c2
  have fz := B2.out.fz
  have x0 := X2.out.c0
  have x1 := X2.out.c1
  have x2 := X2.out.c2
  have xf := X2.out.fz
  by_cases h2 : n = 2
  · have h2' : ((n : Int) == 2) = true := by simp; omega
    clear h0 h1 h2
    go_wp2
    have BF := (((B2.out.setO (p := ⟨w1.heap.size, 2, none⟩) (by omega) (.bool true)).set 0 (.string x.1)).set 1 (.string x.2.1)).set 2 (.bool true)
    have e0 := BF.c0
    have e1 := BF.c1
    have e2 := BF.c2
    exact bodyPost_ret (v := .agg #[.string x.1, .string x.2.1, .bool true]) (by simp [results, Try.results119, go_sem, e0, e1, e2]) rfl ⟨(x.1, x.2.1, true), ⟨by have := HX.out.1; show x.1.size ≤ 4; omega, by have := HX.out.2; show x.2.1.size ≤ 13; omega⟩, rfl, (((D2.out.set (p := ⟨w1.heap.size, 2, none⟩) (by show _ ≤ w1.heap.size; omega) _).set (Nat.le_refl _) _).set (Nat.le_refl _) _).set (Nat.le_refl _) _⟩
  · have h2' : ((n : Int) == 2) = false := by simp; omega
    clear h0 h1 h2
    go_wp2
    have BF := ((B2.out.set 0 (.string x.1)).set 1 (.string x.2.1)).set 2 (.bool x.2.2)
    have e0 := BF.c0
    have e1 := BF.c1
    have e2 := BF.c2
    exact bodyPost_ret (v := .agg #[.string x.1, .string x.2.1, .bool x.2.2]) (by simp [results, Try.results119, go_sem, e0, e1, e2]) rfl ⟨x, ⟨by have := HX.out.1; omega, by have := HX.out.2; omega⟩, rfl, ((D2.out.set (Nat.le_refl _) _).set (Nat.le_refl _) _).set (Nat.le_refl _) _⟩

end Go.Proofs.Ytnefncmkhgkdnaa
