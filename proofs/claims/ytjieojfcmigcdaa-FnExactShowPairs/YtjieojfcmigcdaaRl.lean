/- report.line: what it puts to the report's end. -/
import Derived.Test.YtjieojfcmigcdaaRb
import Derived.Test.YtjieojfcmigcdaaShelf
import Derived.Deep.RegionHeld3
namespace Go.Proofs.Ytjieojfcmigcdaa
open Go.RowKit
attribute [local go_sem ↓] Go.wp_at_zero Go.wp_at_succ

/-- a line of these words -/
def lineL (ws : List ByteArray) : List UInt8 := Lib.join (ws.map (·.data.toList)) [32] ++ [10]

set_option maxHeartbeats 2000000 in
set_option maxRecDepth 100000 in
theorem iline (B b : Nat) (l : List UInt8) (g c n : Nat) (ws : List ByteArray) (hn : n = ws.length) (w : World) (h : Lib.IsBuilder 41 5 B b (bv l) w) (hBw : B ≤ w.heap.size) (hc : n ≤ c) (hg : g < w.heap.size) (hcells : ∀ (j : Nat) x, ws[j]? = some x → w.cell? ⟨g, 0 + j, none⟩ = some (.string x)) (hlen : l.length + (lineL ws).length ≤ 100000000000000) (hN : n ≤ 1000000) :
    Calls Try.prog 17 #[.pointer (some ⟨b, 0, none⟩), .slice (some ⟨g, 0, none⟩) n c] w fun e w' => e = .returned (.tuple #[]) ∧ Lib.IsBuilder 41 5 B b (bv (l ++ lineL ws)) w' ∧ Below B w w' := by
  subst hn
  have J : Hid (Calls Try.prog 19 #[.slice (some ⟨g, 0, none⟩) ws.length c, .string ⟨#[32]⟩] w.drew fun e w' => e = .returned (.string ⟨(Lib.join (ws.map (·.data.toList)) [32]).toArray⟩) ∧ Below w.heap.size w.drew w') := by
    have hj : (Lib.join (ws.map (·.data.toList)) [32]).length ≤ 100000000000000 := by unfold lineL at hlen; rw [List.length_append] at hlen; simp at hlen; omega
    exact Try.strings_Join g 0 c ws ⟨#[32]⟩ w.drew hcells hg (by omega) hc (by show (Lib.join (ws.map (·.data.toList)) [32]).length ≤ _; omega)
  obtain ⟨jl, hjl⟩ : ∃ jl, jl = Lib.join (ws.map (·.data.toList)) [32] := ⟨_, rfl⟩
  have hll : lineL ws = jl ++ [10] := by unfold lineL; rw [hjl]
  have HL : Hid (l.length + jl.length + 1 ≤ 100000000000000) := by show _ ≤ _; rw [hll, List.length_append] at hlen; simp at hlen; omega
  have HLL : Hid (l ++ lineL ws = (l ++ jl) ++ [10]) := by show _ = _; rw [hll, List.append_assoc]
  rw [← hjl] at J
  clear hjl hll hlen
  have HI : Hid (Lib.IsBuilder 41 5 B b (bv l) w.drew) := h
  have HBw : Hid (B ≤ w.heap.size) := hBw
  clear h hcells hg hc hN hBw
  go_enter Try.func17, Try.ntmps17
  go_wp2
  refine wp_region_held_drew (S := fun w' => True) (by kernel_rfl) trivial (fun hHeld => ?_)
  (refine wpAnyH_take (i := 0) (v := ?_) rfl (by kernel_rfl) (by kernel_rfl) (by kernel_rfl) (fun _ _ _ h => h) (Or.inl ⟨by rfl, ?_⟩) (by assumption) ?_; rotate_left; (focus (intro w hSw; (try dsimp only at hSw); go_simp; (try with_reducible rfl); done)); simp only [Act.put, List.getElem_toArray, List.getElem_cons_zero, List.setIfInBounds_toArray, List.set_cons_zero, List.set_cons_succ])
  (refine wpAnyH_take (i := 1) (v := ?_) rfl (by kernel_rfl) (by kernel_rfl) (by kernel_rfl) (fun _ _ _ h => h) (Or.inl ⟨by rfl, ?_⟩) (by assumption) ?_; rotate_left; (focus (intro w hSw; (try dsimp only at hSw); go_simp; (try with_reducible rfl); done)); simp only [Act.put, List.getElem_toArray, List.getElem_cons_zero, List.getElem_cons_succ, List.setIfInBounds_toArray, List.set_cons_zero, List.set_cons_succ])
  (refine wpAnyH_take (i := 2) (v := ?_) rfl (by kernel_rfl) (by kernel_rfl) (by kernel_rfl) (fun _ _ _ h => h) (Or.inl ⟨by rfl, ?_⟩) (by assumption) ?_; rotate_left; (focus (intro w hSw; (try dsimp only at hSw); go_simp; (try with_reducible rfl); done)); simp only [Act.put, List.getElem_toArray, List.getElem_cons_zero, List.getElem_cons_succ, List.setIfInBounds_toArray, List.set_cons_zero, List.set_cons_succ])
  (refine wpAnyH_take (i := 3) (v := ?_) rfl (by kernel_rfl) (by kernel_rfl) (by kernel_rfl) (fun _ _ _ h => h) (Or.inl ⟨by rfl, ?_⟩) (by assumption) ?_; rotate_left; (focus (intro w hSw; (try dsimp only at hSw); go_simp; (try with_reducible rfl); done)); simp only [Act.put, List.getElem_toArray, List.getElem_cons_zero, List.getElem_cons_succ, List.setIfInBounds_toArray, List.set_cons_zero, List.set_cons_succ])
  refine wpAnyH_ready (rs := [4]) (by kernel_rfl) (by simp) ?_
  refine AllReadyH.cons rfl (fun K hK => ?_) AllReadyH.nil
  go_simp
  go_wp2_with fail
  refine J.out.mono ?_
  rintro e w1 ⟨rfl, hb1⟩
  have HI1 : Hid (Lib.IsBuilder 41 5 B b (bv l) w1) := rBelow HI.out hb1
  have HB1 : Hid (Below B w.drew w1) := hb1.mono HBw.out
  clear hb1
  have HW : Hid (Calls Try.prog 18 #[.pointer (some ⟨b, 0, none⟩), .string ⟨jl.toArray⟩] w1 fun e w' => e = .returned (.tuple #[.int .i64 (⟨jl.toArray⟩ : ByteArray).size, .nilIface]) ∧ (Lib.IsBuilder 41 5 B b (bv (l ++ jl)) w' ∧ Below B w1 w')) :=
    wstr B b l ⟨jl.toArray⟩ w1 HI1.out (by show _ + jl.toArray.size ≤ _; have := HL.out; simp; omega) (Nat.le_trans HBw.out HB1.out.size)
  go_wp2_with fail
  refine hK.out _ _ trivial (fun hHeld2 => ?_)
  clear hK K
  refine wpAnyH_ready (rs := [5]) (by kernel_rfl) (by simp) ?_
  refine AllReadyH.cons rfl (fun K hK => ?_) AllReadyH.nil
  go_simp
  go_wp2_with fail
  refine HW.out.mono ?_
  rintro e w2 ⟨rfl, hi2, hb2⟩
  have HI2 : Hid (Lib.IsBuilder 41 5 B b (bv (l ++ jl)) w2) := hi2
  have HB2 : Hid (Below B w w2) := (Below.drew (Below.refl B w)).trans (HB1.out.trans hb2)
  clear hi2 hb2 HW HI1 HB1 J
  go_wp2_with fail
  refine hK.out _ _ trivial (fun hHeld3 => ?_)
  clear hK K
  refine wpAnyH_done (by kernel_rfl) ?_ _
  have HY : Hid (Calls Try.prog 20 #[.pointer (some ⟨b, 0, none⟩), .int .u8 10] w2 fun e w' => e = .returned .nilIface ∧ (Lib.IsBuilder 41 5 B b (bv ((l ++ jl) ++ [10])) w' ∧ Below B w2 w')) :=
    wbyte B b (l ++ jl) 10 10 rfl w2 HI2.out (by rw [List.length_append]; have := HL.out; omega) (Nat.le_trans HBw.out HB2.out.size)
  go_wp2_with fail
  refine HY.out.mono ?_
  rintro e w3 ⟨rfl, hi3, hb3⟩
  go_wp2
  go_end0
  exact ⟨rfl, by rw [HLL.out]; exact hi3, HB2.out.trans hb3⟩
end Go.Proofs.Ytjieojfcmigcdaa
