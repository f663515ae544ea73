/- The law FnOwn, walked. -/
import Derived.Test.YtblfljmcbpodbaaQ1
import Derived.Test.YtblfljmcbpodbaaU6
import Derived.Test.YtblfljmcbpodbaaU4
import Derived.Test.YtblfljmcbpodbaaH3
import Derived.Deep.RegionHeld
import Derived.Deep.RegionHeld3
namespace Go.Proofs.Ytblfljmcbpodbaa
open Go.RowKit
open KM
open VM
attribute [local go_sem ↓] Go.wp_at_zero Go.wp_at_succ

theorem GOwn.drewO {α : Type} {E : Enc α} {e : TypeId} {w : World} {base : Nat} {v : Value} {l : List α} (h : GOwn E e w base v l) : GOwn E e w.drew base v l := h.below (belowRefl w).drew

set_option maxRecDepth 100000 in
set_option maxHeartbeats 8000000 in
theorem law3 (len cap : Nat) (a : Option Addr) (w : World) (hl0 : len ≤ 9223372036854775807) (hr : CodeRow w a len) :
    Calls Try.prog 3 #[.slice a len cap] w fun e w' => e = .returned (.bool true) ∧ Below w.heap.size w w' := by
  have HBG : Hid (∀ W : World, Calls Try.prog 11 #[.slice a len cap] W fun e w' => e = .returned (.bool (decide ((1048576 : Int) < (len : Int)))) ∧ w' = W) := fun W => big10 len cap a W
  have HR : Hid (CodeRow w a len) := hr
  clear hr
  by_cases hl : len ≤ 1048576
  · rw [decide_eq_false (by omega)] at HBG
    go_enter Try.func3, Try.ntmps3
    go_wp2_with fail
    refine (HBG.out _).mono ?_
    rintro e w ⟨rfl, rfl⟩
    have HB : Hid (Below w.heap.size w w) := belowRefl w
    go_wp2_with fail
    refine (dTxn len cap a hl _ HR.out).mono ?_
    rintro e w1 ⟨t, ra, rc, wa, wc, ht, rfl, hp1, hp2, hb⟩
    replace HB : Hid (Below w.heap.size w w1) := HB.out.trans (hb.mono HB.out.size)
    have HT := hide ht
    have XW : Hid (GRow encW w1 wa t.ws) := hp2.grow
    clear ht hp1 hp2
    clear hb
    have hwl : t.ws.length ≤ 3 := HT.out.wl
    have hrl : t.rs.length ≤ 3 := HT.out.rl
    have hba : Below w1.heap.size w1 (w1.alloc (.cells #[.int .i64 t.id, .int .i64 t.st, .int .i64 t.snap, .int .i64 t.cs, .slice ra t.rs.length rc, .slice wa t.ws.length wc, .bool t.out, .string t.nm] 27)) := (belowRefl w1).alloc (Nat.le_refl _) _
    replace HB : Hid (Below w.heap.size w (w1.alloc (.cells #[.int .i64 t.id, .int .i64 t.st, .int .i64 t.snap, .int .i64 t.cs, .slice ra t.rs.length rc, .slice wa t.ws.length wc, .bool t.out, .string t.nm] 27))) := HB.out.trans (hba.mono HB.out.size)
    replace XW : Hid (GRow encW (w1.alloc (.cells #[.int .i64 t.id, .int .i64 t.st, .int .i64 t.snap, .int .i64 t.cs, .slice ra t.rs.length rc, .slice wa t.ws.length wc, .bool t.out, .string t.nm] 27)) wa t.ws) := XW.out.below hba
    have BT : Hid (Bx (w1.alloc (.cells #[.int .i64 t.id, .int .i64 t.st, .int .i64 t.snap, .int .i64 t.cs, .slice ra t.rs.length rc, .slice wa t.ws.length wc, .bool t.out, .string t.nm] 27)) (w1.heap.size) [.int .i64 t.id, .int .i64 t.st, .int .i64 t.snap, .int .i64 t.cs, .slice ra t.rs.length rc, .slice wa t.ws.length wc, .bool t.out, .string t.nm]) := Bx.new w1 [.int .i64 t.id, .int .i64 t.st, .int .i64 t.snap, .int .i64 t.cs, .slice ra t.rs.length rc, .slice wa t.ws.length wc, .bool t.out, .string t.nm] 27
    clear hba
    go_wp2_with fail
    generalize (w1.alloc (.cells #[.int .i64 t.id, .int .i64 t.st, .int .i64 t.snap, .int .i64 t.cs, .slice ra t.rs.length rc, .slice wa t.ws.length wc, .bool t.out, .string t.nm] 27)) = wx at *
    refine (dVersions len cap a hl _ (HR.out.below HB.out)).mono ?_
    rintro e w2 ⟨vs, va, vc, hv, hvl, rfl, ho, hb⟩
    replace HB : Hid (Below w.heap.size w w2) := HB.out.trans (hb.mono HB.out.size)
    replace XW : Hid (GRow encW w2 wa t.ws) := XW.out.below hb
    replace BT : Hid (Bx w2 (w1.heap.size) [.int .i64 t.id, .int .i64 t.st, .int .i64 t.snap, .int .i64 t.cs, .slice ra t.rs.length rc, .slice wa t.ws.length wc, .bool t.out, .string t.nm]) := BT.out.below hb
    have XV : Hid (GOwn encV 91 w2 (wx.heap.size) (.slice va vs.length vc) vs) := ho
    have HV := hide hv
    clear ho hv hb HR
    have CO : Hid (∀ k W, GRow encW W wa t.ws → GRow encV W va vs → Calls Try.prog 16 #[.agg #[.int .i64 t.id, .int .i64 t.st, .int .i64 t.snap, .int .i64 t.cs, .slice ra t.rs.length rc, .slice wa t.ws.length wc, .bool t.out, .string t.nm], .slice va vs.length vc, .string k] W fun e w' => e = .returned (sawB (ownB t vs k)) ∧ Below W.heap.size W w') := fun k W h1 h2 => iown t ra wa rc wc vs va vc k (by omega) HT.out.ws.fit (by omega) HV.out.fit W h1 h2
    have CM : Hid (∀ W, GRow encW W wa t.ws → GRow encV W va vs → Calls Try.prog 14 #[.agg #[.int .i64 t.id, .int .i64 t.st, .int .i64 t.snap, .int .i64 t.cs, .slice ra t.rs.length rc, .slice wa t.ws.length wc, .bool t.out, .string t.nm], .slice va vs.length vc, .agg #[.string allR.1, .string allR.2]] W fun e w' => ∃ a1 c1, e = .returned (.slice a1 (scanO t vs allR).length c1) ∧ GOwn encR 41 w' W.heap.size (.slice a1 (scanO t vs allR).length c1) (scanO t vs allR) ∧ Below W.heap.size W w') := fun W h1 h2 => iscanO t ra wa rc wc vs va vc allR (by omega) HT.out.ws.fit (by omega) HV.out.fit W h1 h2
    have CMS : Hid (∀ W, GRow encW W wa t.ws → GOwn encV 91 W (wx.heap.size) (.slice va vs.length vc) vs → Calls Try.prog 19 #[.agg #[.int .i64 t.id, .int .i64 t.st, .int .i64 t.snap, .int .i64 t.cs, .slice ra t.rs.length rc, .slice wa t.ws.length wc, .bool t.out, .string t.nm], .slice va vs.length vc, .agg #[.string allR.1, .string allR.2]] W fun e w' => ∃ a1 c1, e = .returned (.slice a1 (scanO t vs allR).length c1) ∧ GOwn encR 41 w' W.heap.size (.slice a1 (scanO t vs allR).length c1) (scanO t vs allR) ∧ Below W.heap.size W w') := fun W h1 h2 => sscanO t ra wa rc wc vs va vc _ allR (by omega) (by omega) W h1 h2
    have hml : (scanO t vs allR).length ≤ 27 := by have := scanO_len t vs allR; omega
    obtain ⟨m, hm⟩ : ∃ m, m = scanO t vs allR := ⟨_, rfl⟩
    have HM : Hid (m = scanO t vs allR) := hm
    rw [← hm] at CM CMS hml
    clear hm
    go_wp2
    refine wp_region_held_drew (S := fun w' => w'.cell? ⟨w1.heap.size, 0, none⟩ = some (.int .i64 t.id) ∧ w'.cell? ⟨w1.heap.size, 1, none⟩ = some (.int .i64 t.st) ∧ w'.cell? ⟨w1.heap.size, 2, none⟩ = some (.int .i64 t.snap) ∧ w'.cell? ⟨w1.heap.size, 3, none⟩ = some (.int .i64 t.cs) ∧ w'.cell? ⟨w1.heap.size, 4, none⟩ = some (.slice ra t.rs.length rc) ∧ w'.cell? ⟨w1.heap.size, 5, none⟩ = some (.slice wa t.ws.length wc) ∧ w'.cell? ⟨w1.heap.size, 6, none⟩ = some (.bool t.out) ∧ w'.cell? ⟨w1.heap.size, 7, none⟩ = some (.string t.nm)) (by kernel_rfl) ⟨BT.out.c0, BT.out.c1, BT.out.c2, BT.out.c3, BT.out.c4, BT.out.c5, BT.out.c6, BT.out.c7⟩ (fun hHeld => ?_)
    (refine wpAnyH_take (i := 0) (v := ?_) rfl (by kernel_rfl) (by kernel_rfl) (by kernel_rfl) (fun _ _ _ h => h) (Or.inl ⟨by rfl, ?_⟩) (by assumption) ?_; rotate_left; (focus (intro w hSw; (try dsimp only at hSw); go_simp; (try with_reducible rfl); done)); simp only [Act.put, List.getElem_toArray, List.getElem_cons_zero, List.setIfInBounds_toArray, List.set_cons_zero, List.set_cons_succ])
    (refine wpAnyH_take (i := 1) (v := ?_) rfl (by kernel_rfl) (by kernel_rfl) (by kernel_rfl) (fun _ _ _ h => h) (Or.inl ⟨by rfl, ?_⟩) (by assumption) ?_; rotate_left; (focus (intro w hSw; (try dsimp only at hSw); go_simp; (try with_reducible rfl); done)); simp only [Act.put, List.getElem_toArray, List.getElem_cons_zero, List.getElem_cons_succ, List.setIfInBounds_toArray, List.set_cons_zero, List.set_cons_succ])
    refine wpAnyH_ready (rs := [2]) (by kernel_rfl) (by simp) ?_
    refine AllReadyH.cons rfl (fun K hK => ?_) AllReadyH.nil
    go_simp
    go_wp2_with fail
    refine (all20 _).mono ?_
    rintro e w3 ⟨rfl, hb⟩
    have hb := undrew hb
    replace HB : Hid (Below w.heap.size w w3) := HB.out.trans (hb.mono HB.out.size)
    replace XW : Hid (GRow encW w3 wa t.ws) := XW.out.below hb
    replace BT : Hid (Bx w3 (w1.heap.size) [.int .i64 t.id, .int .i64 t.st, .int .i64 t.snap, .int .i64 t.cs, .slice ra t.rs.length rc, .slice wa t.ws.length wc, .bool t.out, .string t.nm]) := BT.out.below hb
    replace XV : Hid (GOwn encV 91 w3 (wx.heap.size) (.slice va vs.length vc) vs) := XV.out.below hb
    go_wp2_with fail
    refine hK.out _ _ ⟨BT.out.c0, BT.out.c1, BT.out.c2, BT.out.c3, BT.out.c4, BT.out.c5, BT.out.c6, BT.out.c7⟩ (fun hHeld3 => ?_)
    clear hK K hb
    refine wpAnyH_ready (rs := [3]) (by kernel_rfl) (by simp) ?_
    refine AllReadyH.cons rfl (fun K hK => ?_) AllReadyH.nil
    go_simp
    go_wp2_with fail
    refine (CM.out _ XW.out XV.out.grow).mono ?_
    rintro e w4 ⟨ma, mc, rfl, ho, hb⟩
    replace HB : Hid (Below w.heap.size w w4) := HB.out.trans (hb.mono HB.out.size)
    replace XW : Hid (GRow encW w4 wa t.ws) := XW.out.below hb
    replace BT : Hid (Bx w4 (w1.heap.size) [.int .i64 t.id, .int .i64 t.st, .int .i64 t.snap, .int .i64 t.cs, .slice ra t.rs.length rc, .slice wa t.ws.length wc, .bool t.out, .string t.nm]) := BT.out.below hb
    replace XV : Hid (GOwn encV 91 w4 (wx.heap.size) (.slice va vs.length vc) vs) := XV.out.below hb
    have XM : Hid (GRow encR w4 ma m) := ho.grow
    clear ho
    go_wp2_with fail
    refine hK.out _ _ ⟨BT.out.c0, BT.out.c1, BT.out.c2, BT.out.c3, BT.out.c4, BT.out.c5, BT.out.c6, BT.out.c7⟩ (fun hHeld4 => ?_)
    clear hK K hb
    (refine wpAnyH_take (i := 4) (v := ?_) rfl (by kernel_rfl) (by kernel_rfl) (by kernel_rfl) (fun _ _ _ h => h) (Or.inl ⟨by rfl, ?_⟩) (by assumption) ?_; rotate_left; (focus (intro w hSw; (try dsimp only at hSw); go_simp; (try with_reducible rfl); done)); simp only [Act.put, List.getElem_toArray, List.getElem_cons_zero, List.getElem_cons_succ, List.setIfInBounds_toArray, List.set_cons_zero, List.set_cons_succ])
    refine wpAnyH_done (by kernel_rfl) ?_ _
    clear CM
    go_wp2
    go_loopw [6] (fun t_ wr => ∃ k : Nat, k ≤ t.ws.length ∧ t_ = .int .i64 k ∧ Hid (Below w.heap.size w wr) ∧ Hid (GRow encW wr wa t.ws) ∧ Hid (Bx wr (w1.heap.size) [.int .i64 t.id, .int .i64 t.st, .int .i64 t.snap, .int .i64 t.cs, .slice ra t.rs.length rc, .slice wa t.ws.length wc, .bool t.out, .string t.nm]) ∧ Hid (GOwn encV 91 wr (wx.heap.size) (.slice va vs.length vc) vs) ∧ Hid (GRow encR wr ma m)) (fun t_ _ => t.ws.length - (intOf t_).toNat)
    case atStart => exact ⟨0, Nat.zero_le _, rfl, HB, XW, BT, XV, XM⟩
    case round =>
      clear HB XW BT XV XM
      obtain ⟨k, hk, rfl, HB, XW, BT, XV, XM⟩ := hrel
      have x5 := BT.out.c5
      by_cases hltk : k < t.ws.length
      · have hlt' : (k : Int) < (t.ws.length : Int) := by omega
        have h0 : (0 : Int) ≤ (k : Int) := by omega
        have HG : Hid (∀ W, GRow encW W wa t.ws → GRow encV W va vs → Calls Try.prog 16 #[.agg #[.int .i64 t.id, .int .i64 t.st, .int .i64 t.snap, .int .i64 t.cs, .slice ra t.rs.length rc, .slice wa t.ws.length wc, .bool t.out, .string t.nm], .slice va vs.length vc, .string t.ws[k].1] W fun e w' => e = .returned (.tuple #[.string t.ws[k].2.1, .bool (!t.ws[k].2.2)]) ∧ Below W.heap.size W w') := fun W h1 h2 => by
          have c := CO.out t.ws[k].1 W h1 h2
          rw [own_get vs HT.out.ws hltk] at c
          exact c
        have hgb : ((!t.ws[k].2.2) == t.ws[k].2.2) = false := by cases t.ws[k].2.2 <;> rfl
        obtain ⟨bb, off, rfl, hbl, q⟩ := XW.out (by omega)
        have Q := hide (wat q k hltk)
        clear q
        go_wp2
        refine wp_region_held_drew (S := fun w' => w'.cell? ⟨w1.heap.size, 0, none⟩ = some (.int .i64 t.id) ∧ w'.cell? ⟨w1.heap.size, 1, none⟩ = some (.int .i64 t.st) ∧ w'.cell? ⟨w1.heap.size, 2, none⟩ = some (.int .i64 t.snap) ∧ w'.cell? ⟨w1.heap.size, 3, none⟩ = some (.int .i64 t.cs) ∧ w'.cell? ⟨w1.heap.size, 4, none⟩ = some (.slice ra t.rs.length rc) ∧ w'.cell? ⟨w1.heap.size, 5, none⟩ = some (.slice (some ⟨bb, off, none⟩) t.ws.length wc) ∧ w'.cell? ⟨w1.heap.size, 6, none⟩ = some (.bool t.out) ∧ w'.cell? ⟨w1.heap.size, 7, none⟩ = some (.string t.nm) ∧ w'.cell? ⟨bb, off + k * 3, none⟩ = some (.string t.ws[k].1) ∧ w'.cell? ⟨bb, off + k * 3 + 1, none⟩ = some (.string t.ws[k].2.1) ∧ w'.cell? ⟨bb, off + k * 3 + 2, none⟩ = some (.bool t.ws[k].2.2)) (by kernel_rfl) ⟨BT.out.c0, BT.out.c1, BT.out.c2, BT.out.c3, BT.out.c4, BT.out.c5, BT.out.c6, BT.out.c7, Q.out.1, Q.out.2.1, Q.out.2.2⟩ (fun hHeld => ?_)
        (refine wpAnyH_take (i := 0) (v := ?_) rfl (by kernel_rfl) (by kernel_rfl) (by kernel_rfl) (fun _ _ _ h => h) (Or.inl ⟨by rfl, ?_⟩) (by assumption) ?_; rotate_left; (focus (intro w hSw; (try dsimp only at hSw); go_simp; (try with_reducible rfl); done)); simp only [Act.put, List.getElem_toArray, List.getElem_cons_zero, List.setIfInBounds_toArray, List.set_cons_zero, List.set_cons_succ])
        (refine wpAnyH_take (i := 1) (v := ?_) rfl (by kernel_rfl) (by kernel_rfl) (by kernel_rfl) (fun _ _ _ h => h) (Or.inl ⟨by rfl, ?_⟩) (by assumption) ?_; rotate_left; (focus (intro w hSw; (try dsimp only at hSw); go_simp; (try with_reducible rfl); done)); simp only [Act.put, List.getElem_toArray, List.getElem_cons_zero, List.getElem_cons_succ, List.setIfInBounds_toArray, List.set_cons_zero, List.set_cons_succ])
        (refine wpAnyH_take (i := 2) (v := ?_) rfl (by kernel_rfl) (by kernel_rfl) (by kernel_rfl) (fun _ _ _ h => h) (Or.inl ⟨by rfl, ?_⟩) (by assumption) ?_; rotate_left; (focus (intro w hSw; (try dsimp only at hSw); go_simp; (try with_reducible rfl); done)); simp only [Act.put, List.getElem_toArray, List.getElem_cons_zero, List.getElem_cons_succ, List.setIfInBounds_toArray, List.set_cons_zero, List.set_cons_succ])
        (refine wpAnyH_take (i := 3) (v := ?_) rfl (by kernel_rfl) (by kernel_rfl) (by kernel_rfl) (fun _ _ _ h => h) (Or.inl ⟨by rfl, ?_⟩) (by assumption) ?_; rotate_left; (focus (intro w hSw; (try dsimp only at hSw); go_simp; (try with_reducible rfl); done)); simp only [Act.put, List.getElem_toArray, List.getElem_cons_zero, List.getElem_cons_succ, List.setIfInBounds_toArray, List.set_cons_zero, List.set_cons_succ])
        (refine wpAnyH_take (i := 4) (v := ?_) rfl (by kernel_rfl) (by kernel_rfl) (by kernel_rfl) (fun _ _ _ h => h) (Or.inl ⟨by rfl, ?_⟩) (by assumption) ?_; rotate_left; (focus (intro w hSw; (try dsimp only at hSw); go_simp; (try with_reducible rfl); done)); simp only [Act.put, List.getElem_toArray, List.getElem_cons_zero, List.getElem_cons_succ, List.setIfInBounds_toArray, List.set_cons_zero, List.set_cons_succ])
        (refine wpAnyH_take (i := 5) (v := ?_) rfl (by kernel_rfl) (by kernel_rfl) (by kernel_rfl) (fun _ _ _ h => h) (Or.inl ⟨by rfl, ?_⟩) (by assumption) ?_; rotate_left; (focus (intro w hSw; (try dsimp only at hSw); go_simp; (try with_reducible rfl); done)); simp only [Act.put, List.getElem_toArray, List.getElem_cons_zero, List.getElem_cons_succ, List.setIfInBounds_toArray, List.set_cons_zero, List.set_cons_succ])
        (refine wpAnyH_take (i := 6) (v := ?_) rfl (by kernel_rfl) (by kernel_rfl) (by kernel_rfl) (fun _ _ _ h => h) (Or.inl ⟨by rfl, ?_⟩) (by assumption) ?_; rotate_left; (focus (intro w hSw; (try dsimp only at hSw); go_simp; (try with_reducible rfl); done)); simp only [Act.put, List.getElem_toArray, List.getElem_cons_zero, List.getElem_cons_succ, List.setIfInBounds_toArray, List.set_cons_zero, List.set_cons_succ])
        (refine wpAnyH_take (i := 7) (v := ?_) rfl (by kernel_rfl) (by kernel_rfl) (by kernel_rfl) (fun _ _ _ h => h) (Or.inl ⟨by rfl, ?_⟩) (by assumption) ?_; rotate_left; (focus (intro w hSw; (try dsimp only at hSw); go_simp; (try with_reducible rfl); done)); simp only [Act.put, List.getElem_toArray, List.getElem_cons_zero, List.getElem_cons_succ, List.setIfInBounds_toArray, List.set_cons_zero, List.set_cons_succ])
        refine wpAnyH_ready (rs := [8]) (by kernel_rfl) (by simp) ?_
        refine AllReadyH.cons rfl (fun K hK => ?_) AllReadyH.nil
        go_simp
        go_wp2_with fail
        refine (HG.out _ XW.out.drew XV.out.drewO.grow).mono ?_
        rintro e w5 ⟨rfl, hb⟩
        have hb := undrew hb
        replace HB : Hid (Below w.heap.size w w5) := HB.out.trans (hb.mono HB.out.size)
        replace XW : Hid (GRow encW w5 (some ⟨bb, off, none⟩) t.ws) := XW.out.below hb
        replace BT : Hid (Bx w5 (w1.heap.size) [.int .i64 t.id, .int .i64 t.st, .int .i64 t.snap, .int .i64 t.cs, .slice ra t.rs.length rc, .slice (some ⟨bb, off, none⟩) t.ws.length wc, .bool t.out, .string t.nm]) := BT.out.below hb
        replace XV : Hid (GOwn encV 91 w5 (wx.heap.size) (.slice va vs.length vc) vs) := XV.out.below hb
        replace XM : Hid (GRow encR w5 ma m) := XM.out.below hb
        have Q2 : Hid (w5.cell? ⟨bb, off + k * 3, none⟩ = some (.string t.ws[k].1) ∧ w5.cell? ⟨bb, off + k * 3 + 1, none⟩ = some (.string t.ws[k].2.1) ∧ w5.cell? ⟨bb, off + k * 3 + 2, none⟩ = some (.bool t.ws[k].2.2)) := ⟨(hb.cell (p := ⟨bb, off + k * 3, none⟩) hbl).trans Q.out.1, (hb.cell (p := ⟨bb, off + k * 3 + 1, none⟩) hbl).trans Q.out.2.1, (hb.cell (p := ⟨bb, off + k * 3 + 2, none⟩) hbl).trans Q.out.2.2⟩
        go_wp2_with fail
        refine hK.out _ _ ⟨BT.out.c0, BT.out.c1, BT.out.c2, BT.out.c3, BT.out.c4, BT.out.c5, BT.out.c6, BT.out.c7, Q2.out.1, Q2.out.2.1, Q2.out.2.2⟩ (fun hHeld5 => ?_)
        clear hK K hb
        (refine wpAnyH_take (i := 9) (v := ?_) rfl (by kernel_rfl) (by kernel_rfl) (by kernel_rfl) (fun _ _ _ h => h) (Or.inl ⟨by rfl, ?_⟩) (by assumption) ?_; rotate_left; (focus (intro w hSw; (try dsimp only at hSw); go_simp; (try with_reducible rfl); done)); simp only [Act.put, List.getElem_toArray, List.getElem_cons_zero, List.getElem_cons_succ, List.setIfInBounds_toArray, List.set_cons_zero, List.set_cons_succ])
        (refine wpAnyH_take (i := 10) (v := ?_) rfl (by kernel_rfl) (by kernel_rfl) (by kernel_rfl) (fun _ _ _ h => h) (Or.inl ⟨by rfl, ?_⟩) (by assumption) ?_; rotate_left; (focus (intro w hSw; (try dsimp only at hSw); go_simp; (try with_reducible rfl); done)); simp only [Act.put, List.getElem_toArray, List.getElem_cons_zero, List.getElem_cons_succ, List.setIfInBounds_toArray, List.set_cons_zero, List.set_cons_succ])
        (refine wpAnyH_take (i := 11) (v := ?_) rfl (by kernel_rfl) (by kernel_rfl) (by kernel_rfl) (fun _ _ _ h => h) (Or.inl ⟨by rfl, ?_⟩) (by assumption) ?_; rotate_left; (focus (intro w hSw; (try dsimp only at hSw); go_simp; (try with_reducible rfl); done)); simp only [Act.put, List.getElem_toArray, List.getElem_cons_zero, List.getElem_cons_succ, List.setIfInBounds_toArray, List.set_cons_zero, List.set_cons_succ])
        (refine wpAnyH_take (i := 12) (v := ?_) rfl (by kernel_rfl) (by kernel_rfl) (by kernel_rfl) (fun _ _ _ h => h) (Or.inl ⟨by rfl, ?_⟩) (by assumption) ?_; rotate_left; (focus (intro w hSw; (try dsimp only at hSw); go_simp; (try with_reducible rfl); done)); simp only [Act.put, List.getElem_toArray, List.getElem_cons_zero, List.getElem_cons_succ, List.setIfInBounds_toArray, List.set_cons_zero, List.set_cons_succ])
        (refine wpAnyH_take (i := 13) (v := ?_) rfl (by kernel_rfl) (by kernel_rfl) (by kernel_rfl) (fun _ _ _ h => h) (Or.inl ⟨by rfl, ?_⟩) (by assumption) ?_; rotate_left; (focus (intro w hSw; (try dsimp only at hSw); go_simp; (try with_reducible rfl); done)); simp only [Act.put, List.getElem_toArray, List.getElem_cons_zero, List.getElem_cons_succ, List.setIfInBounds_toArray, List.set_cons_zero, List.set_cons_succ])
        refine wpAnyH_done (by kernel_rfl) ?_ _
        have y5 := BT.out.c5
        have e1 := Q2.out.2.1
        have e2 := Q2.out.2.2
        go_wp2
        go_roundw
        case rel => exact ⟨k + 1, by omega, by go_num, HB, XW, BT, XV, XM⟩
        case measure => simp [intOf]; omega
      · have hlt_k : ¬ (k : Int) < ((t.ws.length : Nat) : Int) := by omega
        obtain ⟨wxk, rfl⟩ : ∃ z, z = wr := ⟨_, rfl⟩
        go_wp2
        clear x5
        go_loopw [9] (fun t_ wr => ∃ j : Nat, j ≤ m.length ∧ t_ = .int .i64 j ∧ Hid (Below w.heap.size w wr) ∧ Hid (GRow encW wr wa t.ws) ∧ Hid (Bx wr (w1.heap.size) [.int .i64 t.id, .int .i64 t.st, .int .i64 t.snap, .int .i64 t.cs, .slice ra t.rs.length rc, .slice wa t.ws.length wc, .bool t.out, .string t.nm]) ∧ Hid (GOwn encV 91 wr (wx.heap.size) (.slice va vs.length vc) vs) ∧ Hid (GRow encR wr ma m)) (fun t_ _ => m.length - (intOf t_).toNat)
        case atStart => exact ⟨0, Nat.zero_le _, rfl, HB, XW, BT, XV, XM⟩
        case round =>
          clear HB XW BT XV XM
          obtain ⟨j, hj, rfl, HB, XW, BT, XV, XM⟩ := hrel
          by_cases hltj : j < m.length
          · have hlt' : (j : Int) < (m.length : Int) := by omega
            have h0 : (0 : Int) ≤ (j : Int) := by omega
            have HG : Hid (∀ W, GRow encW W wa t.ws → GRow encV W va vs → Calls Try.prog 16 #[.agg #[.int .i64 t.id, .int .i64 t.st, .int .i64 t.snap, .int .i64 t.cs, .slice ra t.rs.length rc, .slice wa t.ws.length wc, .bool t.out, .string t.nm], .slice va vs.length vc, .string m[j].1] W fun e w' => e = .returned (.tuple #[.string m[j].2, .bool true]) ∧ Below W.heap.size W w') := fun W h1 h2 => by
              have c := CO.out m[j].1 W h1 h2
              rw [scan_at HM.out hltj] at c
              exact c
            obtain ⟨bb, off, rfl, hbl, q⟩ := XM.out (by omega)
            have Q := hide (rat q j hltj)
            have QA := hide q
            clear q
            go_wp2
            refine wp_region_held_drew (S := fun w' => w'.cell? ⟨w1.heap.size, 0, none⟩ = some (.int .i64 t.id) ∧ w'.cell? ⟨w1.heap.size, 1, none⟩ = some (.int .i64 t.st) ∧ w'.cell? ⟨w1.heap.size, 2, none⟩ = some (.int .i64 t.snap) ∧ w'.cell? ⟨w1.heap.size, 3, none⟩ = some (.int .i64 t.cs) ∧ w'.cell? ⟨w1.heap.size, 4, none⟩ = some (.slice ra t.rs.length rc) ∧ w'.cell? ⟨w1.heap.size, 5, none⟩ = some (.slice wa t.ws.length wc) ∧ w'.cell? ⟨w1.heap.size, 6, none⟩ = some (.bool t.out) ∧ w'.cell? ⟨w1.heap.size, 7, none⟩ = some (.string t.nm) ∧ w'.cell? ⟨bb, off + j * 2, none⟩ = some (.string m[j].1) ∧ w'.cell? ⟨bb, off + j * 2 + 1, none⟩ = some (.string m[j].2)) (by kernel_rfl) ⟨BT.out.c0, BT.out.c1, BT.out.c2, BT.out.c3, BT.out.c4, BT.out.c5, BT.out.c6, BT.out.c7, Q.out.1, Q.out.2⟩ (fun hHeld => ?_)
            (refine wpAnyH_take (i := 0) (v := ?_) rfl (by kernel_rfl) (by kernel_rfl) (by kernel_rfl) (fun _ _ _ h => h) (Or.inl ⟨by rfl, ?_⟩) (by assumption) ?_; rotate_left; (focus (intro w hSw; (try dsimp only at hSw); go_simp; (try with_reducible rfl); done)); simp only [Act.put, List.getElem_toArray, List.getElem_cons_zero, List.setIfInBounds_toArray, List.set_cons_zero, List.set_cons_succ])
            (refine wpAnyH_take (i := 1) (v := ?_) rfl (by kernel_rfl) (by kernel_rfl) (by kernel_rfl) (fun _ _ _ h => h) (Or.inl ⟨by rfl, ?_⟩) (by assumption) ?_; rotate_left; (focus (intro w hSw; (try dsimp only at hSw); go_simp; (try with_reducible rfl); done)); simp only [Act.put, List.getElem_toArray, List.getElem_cons_zero, List.getElem_cons_succ, List.setIfInBounds_toArray, List.set_cons_zero, List.set_cons_succ])
            (refine wpAnyH_take (i := 2) (v := ?_) rfl (by kernel_rfl) (by kernel_rfl) (by kernel_rfl) (fun _ _ _ h => h) (Or.inl ⟨by rfl, ?_⟩) (by assumption) ?_; rotate_left; (focus (intro w hSw; (try dsimp only at hSw); go_simp; (try with_reducible rfl); done)); simp only [Act.put, List.getElem_toArray, List.getElem_cons_zero, List.getElem_cons_succ, List.setIfInBounds_toArray, List.set_cons_zero, List.set_cons_succ])
            (refine wpAnyH_take (i := 3) (v := ?_) rfl (by kernel_rfl) (by kernel_rfl) (by kernel_rfl) (fun _ _ _ h => h) (Or.inl ⟨by rfl, ?_⟩) (by assumption) ?_; rotate_left; (focus (intro w hSw; (try dsimp only at hSw); go_simp; (try with_reducible rfl); done)); simp only [Act.put, List.getElem_toArray, List.getElem_cons_zero, List.getElem_cons_succ, List.setIfInBounds_toArray, List.set_cons_zero, List.set_cons_succ])
            (refine wpAnyH_take (i := 4) (v := ?_) rfl (by kernel_rfl) (by kernel_rfl) (by kernel_rfl) (fun _ _ _ h => h) (Or.inl ⟨by rfl, ?_⟩) (by assumption) ?_; rotate_left; (focus (intro w hSw; (try dsimp only at hSw); go_simp; (try with_reducible rfl); done)); simp only [Act.put, List.getElem_toArray, List.getElem_cons_zero, List.getElem_cons_succ, List.setIfInBounds_toArray, List.set_cons_zero, List.set_cons_succ])
            (refine wpAnyH_take (i := 5) (v := ?_) rfl (by kernel_rfl) (by kernel_rfl) (by kernel_rfl) (fun _ _ _ h => h) (Or.inl ⟨by rfl, ?_⟩) (by assumption) ?_; rotate_left; (focus (intro w hSw; (try dsimp only at hSw); go_simp; (try with_reducible rfl); done)); simp only [Act.put, List.getElem_toArray, List.getElem_cons_zero, List.getElem_cons_succ, List.setIfInBounds_toArray, List.set_cons_zero, List.set_cons_succ])
            (refine wpAnyH_take (i := 6) (v := ?_) rfl (by kernel_rfl) (by kernel_rfl) (by kernel_rfl) (fun _ _ _ h => h) (Or.inl ⟨by rfl, ?_⟩) (by assumption) ?_; rotate_left; (focus (intro w hSw; (try dsimp only at hSw); go_simp; (try with_reducible rfl); done)); simp only [Act.put, List.getElem_toArray, List.getElem_cons_zero, List.getElem_cons_succ, List.setIfInBounds_toArray, List.set_cons_zero, List.set_cons_succ])
            refine wpAnyH_ready (rs := [7]) (by kernel_rfl) (by simp) ?_
            refine AllReadyH.cons rfl (fun K hK => ?_) AllReadyH.nil
            go_simp
            go_wp2_with fail
            refine (HG.out _ XW.out.drew XV.out.drewO.grow).mono ?_
            rintro e w6 ⟨rfl, hb⟩
            have hb := undrew hb
            replace HB : Hid (Below w.heap.size w w6) := HB.out.trans (hb.mono HB.out.size)
            replace XW : Hid (GRow encW w6 wa t.ws) := XW.out.below hb
            replace BT : Hid (Bx w6 (w1.heap.size) [.int .i64 t.id, .int .i64 t.st, .int .i64 t.snap, .int .i64 t.cs, .slice ra t.rs.length rc, .slice wa t.ws.length wc, .bool t.out, .string t.nm]) := BT.out.below hb
            replace XV : Hid (GOwn encV 91 w6 (wx.heap.size) (.slice va vs.length vc) vs) := XV.out.below hb
            replace XM : Hid (GRow encR w6 (some ⟨bb, off, none⟩) m) := XM.out.below hb
            have Q2 : Hid (w6.cell? ⟨bb, off + j * 2, none⟩ = some (.string m[j].1) ∧ w6.cell? ⟨bb, off + j * 2 + 1, none⟩ = some (.string m[j].2)) := ⟨(hb.cell (p := ⟨bb, off + j * 2, none⟩) hbl).trans Q.out.1, (hb.cell (p := ⟨bb, off + j * 2 + 1, none⟩) hbl).trans Q.out.2⟩
            have hbl2 : bb < w6.heap.size := Nat.lt_of_lt_of_le hbl hb.size
            go_wp2_with fail
            refine hK.out _ _ ⟨BT.out.c0, BT.out.c1, BT.out.c2, BT.out.c3, BT.out.c4, BT.out.c5, BT.out.c6, BT.out.c7, Q2.out.1, Q2.out.2⟩ (fun hHeld6 => ?_)
            clear hK K hb
            (refine wpAnyH_take (i := 8) (v := ?_) rfl (by kernel_rfl) (by kernel_rfl) (by kernel_rfl) (fun _ _ _ h => h) (Or.inl ⟨by rfl, ?_⟩) (by assumption) ?_; rotate_left; (focus (intro w hSw; (try dsimp only at hSw); go_simp; (try with_reducible rfl); done)); simp only [Act.put, List.getElem_toArray, List.getElem_cons_zero, List.getElem_cons_succ, List.setIfInBounds_toArray, List.set_cons_zero, List.set_cons_succ])
            (refine wpAnyH_take (i := 9) (v := ?_) rfl (by kernel_rfl) (by kernel_rfl) (by kernel_rfl) (fun _ _ _ h => h) (Or.inl ⟨by rfl, ?_⟩) (by assumption) ?_; rotate_left; (focus (intro w hSw; (try dsimp only at hSw); go_simp; (try with_reducible rfl); done)); simp only [Act.put, List.getElem_toArray, List.getElem_cons_zero, List.getElem_cons_succ, List.setIfInBounds_toArray, List.set_cons_zero, List.set_cons_succ])
            (refine wpAnyH_take (i := 10) (v := ?_) rfl (by kernel_rfl) (by kernel_rfl) (by kernel_rfl) (fun _ _ _ h => h) (Or.inl ⟨by rfl, ?_⟩) (by assumption) ?_; rotate_left; (focus (intro w hSw; (try dsimp only at hSw); go_simp; (try with_reducible rfl); done)); simp only [Act.put, List.getElem_toArray, List.getElem_cons_zero, List.getElem_cons_succ, List.setIfInBounds_toArray, List.set_cons_zero, List.set_cons_succ])
            (refine wpAnyH_take (i := 11) (v := ?_) rfl (by kernel_rfl) (by kernel_rfl) (by kernel_rfl) (fun _ _ _ h => h) (Or.inl ⟨by rfl, ?_⟩) (by assumption) ?_; rotate_left; (focus (intro w hSw; (try dsimp only at hSw); go_simp; (try with_reducible rfl); done)); simp only [Act.put, List.getElem_toArray, List.getElem_cons_zero, List.getElem_cons_succ, List.setIfInBounds_toArray, List.set_cons_zero, List.set_cons_succ])
            (refine wpAnyH_take (i := 12) (v := ?_) rfl (by kernel_rfl) (by kernel_rfl) (by kernel_rfl) (fun _ _ _ h => h) (Or.inl ⟨by rfl, ?_⟩) (by assumption) ?_; rotate_left; (focus (intro w hSw; (try dsimp only at hSw); go_simp; (try with_reducible rfl); done)); simp only [Act.put, List.getElem_toArray, List.getElem_cons_zero, List.getElem_cons_succ, List.setIfInBounds_toArray, List.set_cons_zero, List.set_cons_succ])
            refine wpAnyH_done (by kernel_rfl) ?_ _
            go_wp2
            by_cases hj0 : j = 0
            · have hj1 : ¬ (0 : Int) < (j : Int) := by omega
              have hj2 : decide (0 < j) = false := decide_eq_false (by omega)
              have hj3 : decide ((0 : Int) < (j : Int)) = false := decide_eq_false hj1
              clear hj0
              refine wp_region_held_drew (S := fun w' => w'.cell? ⟨bb, off + j * 2, none⟩ = some (.string m[j].1) ∧ w'.cell? ⟨bb, off + j * 2 + 1, none⟩ = some (.string m[j].2)) (by kernel_rfl) ⟨Q2.out.1, Q2.out.2⟩ (fun hHeld => ?_)
              (refine wpAnyH_take (i := 0) (v := ?_) rfl (by kernel_rfl) (by kernel_rfl) (by kernel_rfl) (fun _ _ _ h => h) (Or.inl ⟨by rfl, ?_⟩) (by assumption) ?_; rotate_left; (focus (intro w hSw; (try dsimp only at hSw); go_simp; (try with_reducible rfl); done)); simp only [Act.put, List.getElem_toArray, List.getElem_cons_zero, List.setIfInBounds_toArray, List.set_cons_zero, List.set_cons_succ])
              (refine wpAnyH_take (i := 1) (v := ?_) rfl (by kernel_rfl) (by kernel_rfl) (by kernel_rfl) (fun _ _ _ h => h) (Or.inl ⟨by rfl, ?_⟩) (by assumption) ?_; rotate_left; (focus (intro w hSw; (try dsimp only at hSw); go_simp; (try with_reducible rfl); done)); simp only [Act.put, List.getElem_toArray, List.getElem_cons_zero, List.getElem_cons_succ, List.setIfInBounds_toArray, List.set_cons_zero, List.set_cons_succ])
              (refine wpAnyH_take (i := 2) (v := ?_) rfl (by kernel_rfl) (by kernel_rfl) (by kernel_rfl) (fun _ _ _ h => h) (Or.inl ⟨by rfl, ?_⟩) (by assumption) ?_; rotate_left; (focus (intro w hSw; (try dsimp only at hSw); go_simp; (try with_reducible rfl); done)); simp only [Act.put, List.getElem_toArray, List.getElem_cons_zero, List.getElem_cons_succ, List.setIfInBounds_toArray, List.set_cons_zero, List.set_cons_succ])
              (refine wpAnyH_take (i := 3) (v := ?_) rfl (by kernel_rfl) (by kernel_rfl) (by kernel_rfl) (fun _ _ _ h => h) (Or.inl ⟨by rfl, ?_⟩) (by assumption) ?_; rotate_left; (focus (intro w hSw; (try dsimp only at hSw); go_simp; (try with_reducible rfl); done)); simp only [Act.put, List.getElem_toArray, List.getElem_cons_zero, List.getElem_cons_succ, List.setIfInBounds_toArray, List.set_cons_zero, List.set_cons_succ])
              (refine wpAnyH_take (i := 4) (v := ?_) rfl (by kernel_rfl) (by kernel_rfl) (by kernel_rfl) (fun _ _ _ h => h) (Or.inl ⟨by rfl, ?_⟩) (by assumption) ?_; rotate_left; (focus (intro w hSw; (try dsimp only at hSw); go_simp; (try with_reducible rfl); done)); simp only [Act.put, List.getElem_toArray, List.getElem_cons_zero, List.getElem_cons_succ, List.setIfInBounds_toArray, List.set_cons_zero, List.set_cons_succ])
              (refine wpAnyH_take (i := 5) (v := ?_) rfl (by kernel_rfl) (by kernel_rfl) (by kernel_rfl) (fun _ _ _ h => h) (Or.inl ⟨by rfl, ?_⟩) (by assumption) ?_; rotate_left; (focus (intro w hSw; (try dsimp only at hSw); go_simp; (try with_reducible rfl); done)); simp only [Act.put, List.getElem_toArray, List.getElem_cons_zero, List.getElem_cons_succ, List.setIfInBounds_toArray, List.set_cons_zero, List.set_cons_succ])
              (refine wpAnyH_take (i := 6) (v := ?_) rfl (by kernel_rfl) (by kernel_rfl) (by kernel_rfl) (fun _ _ _ h => h) (Or.inl ⟨by rfl, ?_⟩) (by assumption) ?_; rotate_left; (focus (intro w hSw; (try dsimp only at hSw); go_simp; (try with_reducible rfl); done)); simp only [Act.put, List.getElem_toArray, List.getElem_cons_zero, List.getElem_cons_succ, List.setIfInBounds_toArray, List.set_cons_zero, List.set_cons_succ])
              (refine wpAnyH_take (i := 7) (v := ?_) rfl (by kernel_rfl) (by kernel_rfl) (by kernel_rfl) (fun _ _ _ h => h) (Or.inl ⟨by rfl, ?_⟩) (by assumption) ?_; rotate_left; (focus (intro w hSw; (try dsimp only at hSw); go_simp; (try with_reducible rfl); done)); simp only [Act.put, List.getElem_toArray, List.getElem_cons_zero, List.getElem_cons_succ, List.setIfInBounds_toArray, List.set_cons_zero, List.set_cons_succ])
              (refine wpAnyH_take (i := 8) (v := ?_) rfl (by kernel_rfl) (by kernel_rfl) (by kernel_rfl) (fun _ _ _ h => h) (Or.inl ⟨by rfl, ?_⟩) (by assumption) ?_; rotate_left; (focus (intro w hSw; (try dsimp only at hSw); go_simp; (try with_reducible rfl); done)); simp only [Act.put, List.getElem_toArray, List.getElem_cons_zero, List.getElem_cons_succ, List.setIfInBounds_toArray, List.set_cons_zero, List.set_cons_succ])
              (refine wpAnyH_take (i := 9) (v := ?_) rfl (by kernel_rfl) (by kernel_rfl) (by kernel_rfl) (fun _ _ _ h => h) (Or.inl ⟨by rfl, ?_⟩) (by assumption) ?_; rotate_left; (focus (intro w hSw; (try dsimp only at hSw); go_simp; (try with_reducible rfl); done)); simp only [Act.put, List.getElem_toArray, List.getElem_cons_zero, List.getElem_cons_succ, List.setIfInBounds_toArray, List.set_cons_zero, List.set_cons_succ])
              (refine wpAnyH_take (i := 10) (v := ?_) rfl (by kernel_rfl) (by kernel_rfl) (by kernel_rfl) (fun _ _ _ h => h) (Or.inl ⟨by rfl, ?_⟩) (by assumption) ?_; rotate_left; (focus (intro w hSw; (try dsimp only at hSw); go_simp; (try with_reducible rfl); done)); simp only [Act.put, List.getElem_toArray, List.getElem_cons_zero, List.getElem_cons_succ, List.setIfInBounds_toArray, List.set_cons_zero, List.set_cons_succ])
              (refine wpAnyH_take (i := 11) (v := ?_) rfl (by kernel_rfl) (by kernel_rfl) (by kernel_rfl) (fun _ _ _ h => h) (Or.inl ⟨by rfl, ?_⟩) (by assumption) ?_; rotate_left; (focus (intro w hSw; (try dsimp only at hSw); go_simp; (try with_reducible rfl); done)); simp only [Act.put, List.getElem_toArray, List.getElem_cons_zero, List.getElem_cons_succ, List.setIfInBounds_toArray, List.set_cons_zero, List.set_cons_succ])
              (refine wpAnyH_take (i := 12) (v := ?_) rfl (by kernel_rfl) (by kernel_rfl) (by kernel_rfl) (fun _ _ _ h => h) (Or.inl ⟨by rfl, ?_⟩) (by assumption) ?_; rotate_left; (focus (intro w hSw; (try dsimp only at hSw); go_simp; (try with_reducible rfl); done)); simp only [Act.put, List.getElem_toArray, List.getElem_cons_zero, List.getElem_cons_succ, List.setIfInBounds_toArray, List.set_cons_zero, List.set_cons_succ])
              (refine wpAnyH_take (i := 13) (v := ?_) rfl (by kernel_rfl) (by kernel_rfl) (by kernel_rfl) (fun _ _ _ h => h) (Or.inl ⟨by rfl, ?_⟩) (by assumption) ?_; rotate_left; (focus (intro w hSw; (try dsimp only at hSw); go_simp; (try with_reducible rfl); done)); simp only [Act.put, List.getElem_toArray, List.getElem_cons_zero, List.getElem_cons_succ, List.setIfInBounds_toArray, List.set_cons_zero, List.set_cons_succ])
              (refine wpAnyH_take (i := 14) (v := ?_) rfl (by kernel_rfl) (by kernel_rfl) (by kernel_rfl) (fun _ _ _ h => h) (Or.inl ⟨by rfl, ?_⟩) (by assumption) ?_; rotate_left; (focus (intro w hSw; (try dsimp only at hSw); go_simp; (try with_reducible rfl); done)); simp only [Act.put, List.getElem_toArray, List.getElem_cons_zero, List.getElem_cons_succ, List.setIfInBounds_toArray, List.set_cons_zero, List.set_cons_succ])
              (refine wpAnyH_take (i := 15) (v := undef) rfl (by kernel_rfl) (by kernel_rfl) (by kernel_rfl) (fun _ _ _ h => h) (Or.inr ⟨by rfl, rfl⟩) (by assumption) ?_; simp only [Act.put, List.getElem_toArray, List.getElem_cons_zero, List.getElem_cons_succ, List.setIfInBounds_toArray, List.set_cons_zero, List.set_cons_succ])
              (refine wpAnyH_take (i := 16) (v := undef) rfl (by kernel_rfl) (by kernel_rfl) (by kernel_rfl) (fun _ _ _ h => h) (Or.inr ⟨by rfl, rfl⟩) (by assumption) ?_; simp only [Act.put, List.getElem_toArray, List.getElem_cons_zero, List.getElem_cons_succ, List.setIfInBounds_toArray, List.set_cons_zero, List.set_cons_succ])
              (refine wpAnyH_take (i := 17) (v := undef) rfl (by kernel_rfl) (by kernel_rfl) (by kernel_rfl) (fun _ _ _ h => h) (Or.inr ⟨by rfl, rfl⟩) (by assumption) ?_; simp only [Act.put, List.getElem_toArray, List.getElem_cons_zero, List.getElem_cons_succ, List.setIfInBounds_toArray, List.set_cons_zero, List.set_cons_succ])
              (refine wpAnyH_take (i := 18) (v := undef) rfl (by kernel_rfl) (by kernel_rfl) (by kernel_rfl) (fun _ _ _ h => h) (Or.inr ⟨by rfl, rfl⟩) (by assumption) ?_; simp only [Act.put, List.getElem_toArray, List.getElem_cons_zero, List.getElem_cons_succ, List.setIfInBounds_toArray, List.set_cons_zero, List.set_cons_succ])
              (refine wpAnyH_take (i := 19) (v := undef) rfl (by kernel_rfl) (by kernel_rfl) (by kernel_rfl) (fun _ _ _ h => h) (Or.inr ⟨by rfl, rfl⟩) (by assumption) ?_; simp only [Act.put, List.getElem_toArray, List.getElem_cons_zero, List.getElem_cons_succ, List.setIfInBounds_toArray, List.set_cons_zero, List.set_cons_succ])
              (refine wpAnyH_take (i := 20) (v := undef) rfl (by kernel_rfl) (by kernel_rfl) (by kernel_rfl) (fun _ _ _ h => h) (Or.inr ⟨by rfl, rfl⟩) (by assumption) ?_; simp only [Act.put, List.getElem_toArray, List.getElem_cons_zero, List.getElem_cons_succ, List.setIfInBounds_toArray, List.set_cons_zero, List.set_cons_succ])
              (refine wpAnyH_take (i := 21) (v := undef) rfl (by kernel_rfl) (by kernel_rfl) (by kernel_rfl) (fun _ _ _ h => h) (Or.inr ⟨by rfl, rfl⟩) (by assumption) ?_; simp only [Act.put, List.getElem_toArray, List.getElem_cons_zero, List.getElem_cons_succ, List.setIfInBounds_toArray, List.set_cons_zero, List.set_cons_succ])
              (refine wpAnyH_take (i := 22) (v := undef) rfl (by kernel_rfl) (by kernel_rfl) (by kernel_rfl) (fun _ _ _ h => h) (Or.inr ⟨by rfl, rfl⟩) (by assumption) ?_; simp only [Act.put, List.getElem_toArray, List.getElem_cons_zero, List.getElem_cons_succ, List.setIfInBounds_toArray, List.set_cons_zero, List.set_cons_succ])
              (refine wpAnyH_take (i := 23) (v := undef) rfl (by kernel_rfl) (by kernel_rfl) (by kernel_rfl) (fun _ _ _ h => h) (Or.inr ⟨by rfl, rfl⟩) (by assumption) ?_; simp only [Act.put, List.getElem_toArray, List.getElem_cons_zero, List.getElem_cons_succ, List.setIfInBounds_toArray, List.set_cons_zero, List.set_cons_succ])
              (refine wpAnyH_take (i := 24) (v := undef) rfl (by kernel_rfl) (by kernel_rfl) (by kernel_rfl) (fun _ _ _ h => h) (Or.inr ⟨by rfl, rfl⟩) (by assumption) ?_; simp only [Act.put, List.getElem_toArray, List.getElem_cons_zero, List.getElem_cons_succ, List.setIfInBounds_toArray, List.set_cons_zero, List.set_cons_succ])
              (refine wpAnyH_take (i := 25) (v := undef) rfl (by kernel_rfl) (by kernel_rfl) (by kernel_rfl) (fun _ _ _ h => h) (Or.inr ⟨by rfl, rfl⟩) (by assumption) ?_; simp only [Act.put, List.getElem_toArray, List.getElem_cons_zero, List.getElem_cons_succ, List.setIfInBounds_toArray, List.set_cons_zero, List.set_cons_succ])
              (refine wpAnyH_take (i := 26) (v := undef) rfl (by kernel_rfl) (by kernel_rfl) (by kernel_rfl) (fun _ _ _ h => h) (Or.inr ⟨by rfl, rfl⟩) (by assumption) ?_; simp only [Act.put, List.getElem_toArray, List.getElem_cons_zero, List.getElem_cons_succ, List.setIfInBounds_toArray, List.set_cons_zero, List.set_cons_succ])
              (refine wpAnyH_take (i := 27) (v := ?_) rfl (by kernel_rfl) (by kernel_rfl) (by kernel_rfl) (fun _ _ _ h => h) (Or.inl ⟨by rfl, ?_⟩) (by assumption) ?_; rotate_left; (focus (intro w hSw; (try dsimp only at hSw); go_simp; (try with_reducible rfl); done)); simp only [Act.put, List.getElem_toArray, List.getElem_cons_zero, List.getElem_cons_succ, List.setIfInBounds_toArray, List.set_cons_zero, List.set_cons_succ])
              (refine wpAnyH_take (i := 28) (v := ?_) rfl (by kernel_rfl) (by kernel_rfl) (by kernel_rfl) (fun _ _ _ h => h) (Or.inl ⟨by rfl, ?_⟩) (by assumption) ?_; rotate_left; (focus (intro w hSw; (try dsimp only at hSw); go_simp; (try with_reducible rfl); done)); simp only [Act.put, List.getElem_toArray, List.getElem_cons_zero, List.getElem_cons_succ, List.setIfInBounds_toArray, List.set_cons_zero, List.set_cons_succ])
              refine wpAnyH_done (by kernel_rfl) ?_ _
              replace HB : Hid (Below w.heap.size w w6.drew) := HB.out.drew
              replace XW := hide XW.out.drew
              replace BT := hide BT.out.drew
              replace XV := hide XV.out.drewO
              replace XM := hide XM.out.drew
              go_wp2
              go_roundw
              case rel => exact ⟨j + 1, by omega, by go_num, HB, XW, BT, XV, XM⟩
              case measure => simp [intOf]; omega
            · have hj1 : (0 : Int) < (j : Int) := by omega
              have hj2 : decide (0 < j) = true := decide_eq_true (by omega)
              obtain ⟨i, rfl⟩ : ∃ i, j = i + 1 := ⟨j - 1, by omega⟩
              have hls := scan_lt HM.out hltj
              have hqi : w6.cell? ⟨bb, off + i * 2, none⟩ = some (.string m[i].1) := by
                obtain ⟨b', off', e, _, q'⟩ := XM.out (by omega)
                cases e
                exact (rat q' i (by omega)).1
              have hsub : (((i + 1 : Nat) : Int)) - 1 = (i : Int) := by omega
              have hsub2 : (i : Int) + 1 - 1 = (i : Int) := by omega
              have hwr : IntKind.i64.wrap (i : Int) = (i : Int) := by rw [IntKind.wrap_i64]; omega
              have hi0 : (0 : Int) ≤ (i : Int) := by omega
              have hi1 : (i : Int) < (m.length : Int) := by omega
              have hi2 : (i : Int) + 1 < (m.length : Int) := by omega
              have hi3 : (0 : Int) ≤ (i : Int) + 1 := by omega
              refine wp_region_held_drew (S := fun w' => w'.cell? ⟨bb, off + (i + 1) * 2, none⟩ = some (.string m[i + 1].1) ∧ w'.cell? ⟨bb, off + (i + 1) * 2 + 1, none⟩ = some (.string m[i + 1].2) ∧ w'.cell? ⟨bb, off + i * 2, none⟩ = some (.string m[i].1)) (by kernel_rfl) ⟨Q2.out.1, Q2.out.2, hqi⟩ (fun hHeld => ?_)
              (refine wpAnyH_take (i := 0) (v := ?_) rfl (by kernel_rfl) (by kernel_rfl) (by kernel_rfl) (fun _ _ _ h => h) (Or.inl ⟨by rfl, ?_⟩) (by assumption) ?_; rotate_left; (focus (intro w hSw; (try dsimp only at hSw); go_simp; (try with_reducible rfl); done)); simp only [Act.put, List.getElem_toArray, List.getElem_cons_zero, List.setIfInBounds_toArray, List.set_cons_zero, List.set_cons_succ])
              (refine wpAnyH_take (i := 1) (v := ?_) rfl (by kernel_rfl) (by kernel_rfl) (by kernel_rfl) (fun _ _ _ h => h) (Or.inl ⟨by rfl, ?_⟩) (by assumption) ?_; rotate_left; (focus (intro w hSw; (try dsimp only at hSw); go_simp; (try with_reducible rfl); done)); simp only [Act.put, List.getElem_toArray, List.getElem_cons_zero, List.getElem_cons_succ, List.setIfInBounds_toArray, List.set_cons_zero, List.set_cons_succ])
              (refine wpAnyH_take (i := 2) (v := ?_) rfl (by kernel_rfl) (by kernel_rfl) (by kernel_rfl) (fun _ _ _ h => h) (Or.inl ⟨by rfl, ?_⟩) (by assumption) ?_; rotate_left; (focus (intro w hSw; (try dsimp only at hSw); go_simp; (try with_reducible rfl); done)); simp only [Act.put, List.getElem_toArray, List.getElem_cons_zero, List.getElem_cons_succ, List.setIfInBounds_toArray, List.set_cons_zero, List.set_cons_succ])
              (refine wpAnyH_take (i := 3) (v := ?_) rfl (by kernel_rfl) (by kernel_rfl) (by kernel_rfl) (fun _ _ _ h => h) (Or.inl ⟨by rfl, ?_⟩) (by assumption) ?_; rotate_left; (focus (intro w hSw; (try dsimp only at hSw); go_simp; (try with_reducible rfl); done)); simp only [Act.put, List.getElem_toArray, List.getElem_cons_zero, List.getElem_cons_succ, List.setIfInBounds_toArray, List.set_cons_zero, List.set_cons_succ])
              (refine wpAnyH_take (i := 4) (v := ?_) rfl (by kernel_rfl) (by kernel_rfl) (by kernel_rfl) (fun _ _ _ h => h) (Or.inl ⟨by rfl, ?_⟩) (by assumption) ?_; rotate_left; (focus (intro w hSw; (try dsimp only at hSw); go_simp; (try with_reducible rfl); done)); simp only [Act.put, List.getElem_toArray, List.getElem_cons_zero, List.getElem_cons_succ, List.setIfInBounds_toArray, List.set_cons_zero, List.set_cons_succ])
              (refine wpAnyH_take (i := 5) (v := ?_) rfl (by kernel_rfl) (by kernel_rfl) (by kernel_rfl) (fun _ _ _ h => h) (Or.inl ⟨by rfl, ?_⟩) (by assumption) ?_; rotate_left; (focus (intro w hSw; (try dsimp only at hSw); go_simp; (try with_reducible rfl); done)); simp only [Act.put, List.getElem_toArray, List.getElem_cons_zero, List.getElem_cons_succ, List.setIfInBounds_toArray, List.set_cons_zero, List.set_cons_succ])
              (refine wpAnyH_take (i := 6) (v := ?_) rfl (by kernel_rfl) (by kernel_rfl) (by kernel_rfl) (fun _ _ _ h => h) (Or.inl ⟨by rfl, ?_⟩) (by assumption) ?_; rotate_left; (focus (intro w hSw; (try dsimp only at hSw); go_simp; (try with_reducible rfl); done)); simp only [Act.put, List.getElem_toArray, List.getElem_cons_zero, List.getElem_cons_succ, List.setIfInBounds_toArray, List.set_cons_zero, List.set_cons_succ])
              (refine wpAnyH_take (i := 7) (v := ?_) rfl (by kernel_rfl) (by kernel_rfl) (by kernel_rfl) (fun _ _ _ h => h) (Or.inl ⟨by rfl, ?_⟩) (by assumption) ?_; rotate_left; (focus (intro w hSw; (try dsimp only at hSw); go_simp; (try with_reducible rfl); done)); simp only [Act.put, List.getElem_toArray, List.getElem_cons_zero, List.getElem_cons_succ, List.setIfInBounds_toArray, List.set_cons_zero, List.set_cons_succ])
              (refine wpAnyH_take (i := 8) (v := ?_) rfl (by kernel_rfl) (by kernel_rfl) (by kernel_rfl) (fun _ _ _ h => h) (Or.inl ⟨by rfl, ?_⟩) (by assumption) ?_; rotate_left; (focus (intro w hSw; (try dsimp only at hSw); go_simp; (try with_reducible rfl); done)); simp only [Act.put, List.getElem_toArray, List.getElem_cons_zero, List.getElem_cons_succ, List.setIfInBounds_toArray, List.set_cons_zero, List.set_cons_succ])
              (refine wpAnyH_take (i := 9) (v := ?_) rfl (by kernel_rfl) (by kernel_rfl) (by kernel_rfl) (fun _ _ _ h => h) (Or.inl ⟨by rfl, ?_⟩) (by assumption) ?_; rotate_left; (focus (intro w hSw; (try dsimp only at hSw); go_simp; (try with_reducible rfl); done)); simp only [Act.put, List.getElem_toArray, List.getElem_cons_zero, List.getElem_cons_succ, List.setIfInBounds_toArray, List.set_cons_zero, List.set_cons_succ])
              (refine wpAnyH_take (i := 10) (v := ?_) rfl (by kernel_rfl) (by kernel_rfl) (by kernel_rfl) (fun _ _ _ h => h) (Or.inl ⟨by rfl, ?_⟩) (by assumption) ?_; rotate_left; (focus (intro w hSw; (try dsimp only at hSw); go_simp; (try with_reducible rfl); done)); simp only [Act.put, List.getElem_toArray, List.getElem_cons_zero, List.getElem_cons_succ, List.setIfInBounds_toArray, List.set_cons_zero, List.set_cons_succ])
              (refine wpAnyH_take (i := 11) (v := ?_) rfl (by kernel_rfl) (by kernel_rfl) (by kernel_rfl) (fun _ _ _ h => h) (Or.inl ⟨by rfl, ?_⟩) (by assumption) ?_; rotate_left; (focus (intro w hSw; (try dsimp only at hSw); go_simp; (try with_reducible rfl); done)); simp only [Act.put, List.getElem_toArray, List.getElem_cons_zero, List.getElem_cons_succ, List.setIfInBounds_toArray, List.set_cons_zero, List.set_cons_succ])
              (refine wpAnyH_take (i := 12) (v := ?_) rfl (by kernel_rfl) (by kernel_rfl) (by kernel_rfl) (fun _ _ _ h => h) (Or.inl ⟨by rfl, ?_⟩) (by assumption) ?_; rotate_left; (focus (intro w hSw; (try dsimp only at hSw); go_simp; (try with_reducible rfl); done)); simp only [Act.put, List.getElem_toArray, List.getElem_cons_zero, List.getElem_cons_succ, List.setIfInBounds_toArray, List.set_cons_zero, List.set_cons_succ])
              (refine wpAnyH_take (i := 13) (v := ?_) rfl (by kernel_rfl) (by kernel_rfl) (by kernel_rfl) (fun _ _ _ h => h) (Or.inl ⟨by rfl, ?_⟩) (by assumption) ?_; rotate_left; (focus (intro w hSw; (try dsimp only at hSw); go_simp; (try with_reducible rfl); done)); simp only [Act.put, List.getElem_toArray, List.getElem_cons_zero, List.getElem_cons_succ, List.setIfInBounds_toArray, List.set_cons_zero, List.set_cons_succ])
              (refine wpAnyH_take (i := 14) (v := ?_) rfl (by kernel_rfl) (by kernel_rfl) (by kernel_rfl) (fun _ _ _ h => h) (Or.inl ⟨by rfl, ?_⟩) (by assumption) ?_; rotate_left; (focus (intro w hSw; (try dsimp only at hSw); go_simp; (try with_reducible rfl); done)); simp only [Act.put, List.getElem_toArray, List.getElem_cons_zero, List.getElem_cons_succ, List.setIfInBounds_toArray, List.set_cons_zero, List.set_cons_succ])
              (refine wpAnyH_take (i := 15) (v := ?_) rfl (by kernel_rfl) (by kernel_rfl) (by kernel_rfl) (fun _ _ _ h => h) (Or.inl ⟨by rfl, ?_⟩) (by assumption) ?_; rotate_left; (focus (intro w hSw; (try dsimp only at hSw); go_simp; (try with_reducible rfl); done)); simp only [Act.put, List.getElem_toArray, List.getElem_cons_zero, List.getElem_cons_succ, List.setIfInBounds_toArray, List.set_cons_zero, List.set_cons_succ])
              (refine wpAnyH_take (i := 16) (v := ?_) rfl (by kernel_rfl) (by kernel_rfl) (by kernel_rfl) (fun _ _ _ h => h) (Or.inl ⟨by rfl, ?_⟩) (by assumption) ?_; rotate_left; (focus (intro w hSw; (try dsimp only at hSw); go_simp; (try with_reducible rfl); done)); simp only [Act.put, List.getElem_toArray, List.getElem_cons_zero, List.getElem_cons_succ, List.setIfInBounds_toArray, List.set_cons_zero, List.set_cons_succ])
              (refine wpAnyH_take (i := 17) (v := ?_) rfl (by kernel_rfl) (by kernel_rfl) (by kernel_rfl) (fun _ _ _ h => h) (Or.inl ⟨by rfl, ?_⟩) (by assumption) ?_; rotate_left; (focus (intro w hSw; (try dsimp only at hSw); go_simp; (try with_reducible rfl); done)); simp only [Act.put, List.getElem_toArray, List.getElem_cons_zero, List.getElem_cons_succ, List.setIfInBounds_toArray, List.set_cons_zero, List.set_cons_succ])
              (refine wpAnyH_take (i := 18) (v := ?_) rfl (by kernel_rfl) (by kernel_rfl) (by kernel_rfl) (fun _ _ _ h => h) (Or.inl ⟨by rfl, ?_⟩) (by assumption) ?_; rotate_left; (focus (intro w hSw; (try dsimp only at hSw); go_simp; (try with_reducible rfl); done)); simp only [Act.put, List.getElem_toArray, List.getElem_cons_zero, List.getElem_cons_succ, List.setIfInBounds_toArray, List.set_cons_zero, List.set_cons_succ])
              (refine wpAnyH_take (i := 19) (v := ?_) rfl (by kernel_rfl) (by kernel_rfl) (by kernel_rfl) (fun _ _ _ h => h) (Or.inl ⟨by rfl, ?_⟩) (by assumption) ?_; rotate_left; (focus (intro w hSw; (try dsimp only at hSw); go_simp; (try with_reducible rfl); done)); simp only [Act.put, List.getElem_toArray, List.getElem_cons_zero, List.getElem_cons_succ, List.setIfInBounds_toArray, List.set_cons_zero, List.set_cons_succ])
              (refine wpAnyH_take (i := 20) (v := ?_) rfl (by kernel_rfl) (by kernel_rfl) (by kernel_rfl) (fun _ _ _ h => h) (Or.inl ⟨by rfl, ?_⟩) (by assumption) ?_; rotate_left; (focus (intro w hSw; (try dsimp only at hSw); go_simp; (try with_reducible rfl); done)); simp only [Act.put, List.getElem_toArray, List.getElem_cons_zero, List.getElem_cons_succ, List.setIfInBounds_toArray, List.set_cons_zero, List.set_cons_succ])
              (refine wpAnyH_take (i := 21) (v := ?_) rfl (by kernel_rfl) (by kernel_rfl) (by kernel_rfl) (fun _ _ _ h => h) (Or.inl ⟨by rfl, ?_⟩) (by assumption) ?_; rotate_left; (focus (intro w hSw; (try dsimp only at hSw); go_simp; (try with_reducible rfl); done)); simp only [Act.put, List.getElem_toArray, List.getElem_cons_zero, List.getElem_cons_succ, List.setIfInBounds_toArray, List.set_cons_zero, List.set_cons_succ])
              (refine wpAnyH_take (i := 22) (v := ?_) rfl (by kernel_rfl) (by kernel_rfl) (by kernel_rfl) (fun _ _ _ h => h) (Or.inl ⟨by rfl, ?_⟩) (by assumption) ?_; rotate_left; (focus (intro w hSw; (try dsimp only at hSw); go_simp; (try with_reducible rfl); done)); simp only [Act.put, List.getElem_toArray, List.getElem_cons_zero, List.getElem_cons_succ, List.setIfInBounds_toArray, List.set_cons_zero, List.set_cons_succ])
              (refine wpAnyH_take (i := 23) (v := ?_) rfl (by kernel_rfl) (by kernel_rfl) (by kernel_rfl) (fun _ _ _ h => h) (Or.inl ⟨by rfl, ?_⟩) (by assumption) ?_; rotate_left; (focus (intro w hSw; (try dsimp only at hSw); go_simp; (try with_reducible rfl); done)); simp only [Act.put, List.getElem_toArray, List.getElem_cons_zero, List.getElem_cons_succ, List.setIfInBounds_toArray, List.set_cons_zero, List.set_cons_succ])
              (refine wpAnyH_take (i := 24) (v := ?_) rfl (by kernel_rfl) (by kernel_rfl) (by kernel_rfl) (fun _ _ _ h => h) (Or.inl ⟨by rfl, ?_⟩) (by assumption) ?_; rotate_left; (focus (intro w hSw; (try dsimp only at hSw); go_simp; (try with_reducible rfl); done)); simp only [Act.put, List.getElem_toArray, List.getElem_cons_zero, List.getElem_cons_succ, List.setIfInBounds_toArray, List.set_cons_zero, List.set_cons_succ])
              (refine wpAnyH_take (i := 25) (v := ?_) rfl (by kernel_rfl) (by kernel_rfl) (by kernel_rfl) (fun _ _ _ h => h) (Or.inl ⟨by rfl, ?_⟩) (by assumption) ?_; rotate_left; (focus (intro w hSw; (try dsimp only at hSw); go_simp; (try with_reducible rfl); done)); simp only [Act.put, List.getElem_toArray, List.getElem_cons_zero, List.getElem_cons_succ, List.setIfInBounds_toArray, List.set_cons_zero, List.set_cons_succ])
              (refine wpAnyH_take (i := 26) (v := ?_) rfl (by kernel_rfl) (by kernel_rfl) (by kernel_rfl) (fun _ _ _ h => h) (Or.inl ⟨by rfl, ?_⟩) (by assumption) ?_; rotate_left; (focus (intro w hSw; (try dsimp only at hSw); go_simp; (try with_reducible rfl); done)); simp only [Act.put, List.getElem_toArray, List.getElem_cons_zero, List.getElem_cons_succ, List.setIfInBounds_toArray, List.set_cons_zero, List.set_cons_succ])
              (refine wpAnyH_take (i := 27) (v := ?_) rfl (by kernel_rfl) (by kernel_rfl) (by kernel_rfl) (fun _ _ _ h => h) (Or.inl ⟨by rfl, ?_⟩) (by assumption) ?_; rotate_left; (focus (intro w hSw; (try dsimp only at hSw); go_simp; (try with_reducible rfl); done)); simp only [Act.put, List.getElem_toArray, List.getElem_cons_zero, List.getElem_cons_succ, List.setIfInBounds_toArray, List.set_cons_zero, List.set_cons_succ])
              (refine wpAnyH_take (i := 28) (v := ?_) rfl (by kernel_rfl) (by kernel_rfl) (by kernel_rfl) (fun _ _ _ h => h) (Or.inl ⟨by rfl, ?_⟩) (by assumption) ?_; rotate_left; (focus (intro w hSw; (try dsimp only at hSw); go_simp; (try with_reducible rfl); done)); simp only [Act.put, List.getElem_toArray, List.getElem_cons_zero, List.getElem_cons_succ, List.setIfInBounds_toArray, List.set_cons_zero, List.set_cons_succ])
              refine wpAnyH_done (by kernel_rfl) ?_ _
              replace HB : Hid (Below w.heap.size w w6.drew) := HB.out.drew
              replace XW := hide XW.out.drew
              replace BT := hide BT.out.drew
              replace XV := hide XV.out.drewO
              replace XM := hide XM.out.drew
              go_wp2
              go_roundw
              case rel => exact ⟨i + 1 + 1, by omega, by go_num, HB, XW, BT, XV, XM⟩
              case measure => simp [intOf]; omega
          · have hlt_j : ¬ (j : Int) < ((m.length : Nat) : Int) := by omega
            obtain ⟨wxj, rfl⟩ : ∃ z, z = wr := ⟨_, rfl⟩
            have x0 := BT.out.c0
            have x1 := BT.out.c1
            have x2 := BT.out.c2
            have x3 := BT.out.c3
            have x4 := BT.out.c4
            have x5 := BT.out.c5
            have x6 := BT.out.c6
            have x7 := BT.out.c7
            go_upto_region 20 with fail
            clear x0 x1 x2 x3 x4 x5 x6 x7
            have hb1 : Below wxj.heap.size wxj ((wxj.alloc (.cells #[.int .i64 t.id, .int .i64 t.st, .int .i64 t.snap, .int .i64 t.cs, .slice ra t.rs.length rc, .slice (some ⟨wxj.heap.size + 1, 0, none⟩) 0 0, .bool t.out, .string t.nm] 27)).alloc (.cells #[] 39)) := ((belowRefl wxj).alloc (Nat.le_refl _) _).alloc (by simp) _
            replace HB : Hid (Below w.heap.size w ((wxj.alloc (.cells #[.int .i64 t.id, .int .i64 t.st, .int .i64 t.snap, .int .i64 t.cs, .slice ra t.rs.length rc, .slice (some ⟨wxj.heap.size + 1, 0, none⟩) 0 0, .bool t.out, .string t.nm] 27)).alloc (.cells #[] 39))) := HB.out.trans (hb1.mono HB.out.size)
            replace XW : Hid (GRow encW ((wxj.alloc (.cells #[.int .i64 t.id, .int .i64 t.st, .int .i64 t.snap, .int .i64 t.cs, .slice ra t.rs.length rc, .slice (some ⟨wxj.heap.size + 1, 0, none⟩) 0 0, .bool t.out, .string t.nm] 27)).alloc (.cells #[] 39)) wa t.ws) := XW.out.below hb1
            replace BT : Hid (Bx ((wxj.alloc (.cells #[.int .i64 t.id, .int .i64 t.st, .int .i64 t.snap, .int .i64 t.cs, .slice ra t.rs.length rc, .slice (some ⟨wxj.heap.size + 1, 0, none⟩) 0 0, .bool t.out, .string t.nm] 27)).alloc (.cells #[] 39)) (w1.heap.size) [.int .i64 t.id, .int .i64 t.st, .int .i64 t.snap, .int .i64 t.cs, .slice ra t.rs.length rc, .slice wa t.ws.length wc, .bool t.out, .string t.nm]) := BT.out.below hb1
            replace XV : Hid (GOwn encV 91 ((wxj.alloc (.cells #[.int .i64 t.id, .int .i64 t.st, .int .i64 t.snap, .int .i64 t.cs, .slice ra t.rs.length rc, .slice (some ⟨wxj.heap.size + 1, 0, none⟩) 0 0, .bool t.out, .string t.nm] 27)).alloc (.cells #[] 39)) (wx.heap.size) (.slice va vs.length vc) vs) := XV.out.below hb1
            replace XM : Hid (GRow encR ((wxj.alloc (.cells #[.int .i64 t.id, .int .i64 t.st, .int .i64 t.snap, .int .i64 t.cs, .slice ra t.rs.length rc, .slice (some ⟨wxj.heap.size + 1, 0, none⟩) 0 0, .bool t.out, .string t.nm] 27)).alloc (.cells #[] 39)) ma m) := XM.out.below hb1
            have BXX : Hid (Bx ((wxj.alloc (.cells #[.int .i64 t.id, .int .i64 t.st, .int .i64 t.snap, .int .i64 t.cs, .slice ra t.rs.length rc, .slice (some ⟨wxj.heap.size + 1, 0, none⟩) 0 0, .bool t.out, .string t.nm] 27)).alloc (.cells #[] 39)) (wxj.heap.size) [.int .i64 t.id, .int .i64 t.st, .int .i64 t.snap, .int .i64 t.cs, .slice ra t.rs.length rc, .slice (some ⟨wxj.heap.size + 1, 0, none⟩) 0 0, .bool t.out, .string t.nm]) := (Bx.new wxj [.int .i64 t.id, .int .i64 t.st, .int .i64 t.snap, .int .i64 t.cs, .slice ra t.rs.length rc, .slice (some ⟨wxj.heap.size + 1, 0, none⟩) 0 0, .bool t.out, .string t.nm] 27).alloc _
            clear hb1
            generalize ((wxj.alloc (.cells #[.int .i64 t.id, .int .i64 t.st, .int .i64 t.snap, .int .i64 t.cs, .slice ra t.rs.length rc, .slice (some ⟨wxj.heap.size + 1, 0, none⟩) 0 0, .bool t.out, .string t.nm] 27)).alloc (.cells #[] 39)) = wy at *
            obtain ⟨ys, hys⟩ : ∃ ys, ys = scanB vs allR t.snap := ⟨_, rfl⟩
            have hyl : ys.length ≤ 100000000 := by rw [hys]; have := scan_len' vs allR t.snap; omega
            have CX : Hid (∀ W, GRow encV W va vs → Calls Try.prog 14 #[.agg #[.int .i64 t.id, .int .i64 t.st, .int .i64 t.snap, .int .i64 t.cs, .slice ra t.rs.length rc, .slice (some ⟨wxj.heap.size + 1, 0, none⟩) 0 0, .bool t.out, .string t.nm], .slice va vs.length vc, .agg #[.string allR.1, .string allR.2]] W fun e w' => ∃ a1 c1, e = .returned (.slice a1 ys.length c1) ∧ GOwn encR 41 w' W.heap.size (.slice a1 ys.length c1) ys ∧ Below W.heap.size W w') := fun W h2 => by
              have c := iscanO ⟨t.id, t.st, t.snap, t.cs, t.rs, [], t.out, t.nm⟩ ra (some ⟨wxj.heap.size + 1, 0, none⟩) rc 0 vs va vc allR (Nat.zero_le _) (fun x hx => by cases hx) (by omega) HV.out.fit W (fun h => absurd h (Nat.lt_irrefl 0)) h2
              rw [scan_none, ← hys] at c
              exact c
            have CY : Hid (∀ W, GRow encV W va vs → Calls Try.prog 18 #[.slice va vs.length vc, .agg #[.string allR.1, .string allR.2], .int .i64 t.snap] W fun e w' => ∃ a1 c1, e = .returned (.slice a1 ys.length c1) ∧ GOwn encR 41 w' W.heap.size (.slice a1 ys.length c1) ys ∧ Below W.heap.size W w') := fun W h2 => by
              have c := iscan vs va vc allR t.snap (by omega) HV.out.fit W h2
              rw [← hys] at c
              exact c
            have CP : Hid (∀ a1 c1 a2 c2 W, GRow encR W a1 ys → GRow encR W a2 ys → Calls Try.prog 17 #[.slice a1 ys.length c1, .slice a2 ys.length c2] W fun e w' => e = .returned (.bool true) ∧ Below W.heap.size W w') := fun a1 c1 a2 c2 W h1 h2 => by
              have c := lpairs ys ys a1 a2 c1 c2 hyl W h1 h2
              rw [decide_eq_true rfl] at c
              exact c
            clear hys CO HM
            refine wp_region_held_drew (S := fun w' => w'.cell? ⟨w1.heap.size, 0, none⟩ = some (.int .i64 t.id) ∧ w'.cell? ⟨w1.heap.size, 1, none⟩ = some (.int .i64 t.st) ∧ w'.cell? ⟨w1.heap.size, 2, none⟩ = some (.int .i64 t.snap) ∧ w'.cell? ⟨w1.heap.size, 3, none⟩ = some (.int .i64 t.cs) ∧ w'.cell? ⟨w1.heap.size, 4, none⟩ = some (.slice ra t.rs.length rc) ∧ w'.cell? ⟨w1.heap.size, 5, none⟩ = some (.slice wa t.ws.length wc) ∧ w'.cell? ⟨w1.heap.size, 6, none⟩ = some (.bool t.out) ∧ w'.cell? ⟨w1.heap.size, 7, none⟩ = some (.string t.nm) ∧ w'.cell? ⟨wxj.heap.size, 0, none⟩ = some (.int .i64 t.id) ∧ w'.cell? ⟨wxj.heap.size, 1, none⟩ = some (.int .i64 t.st) ∧ w'.cell? ⟨wxj.heap.size, 2, none⟩ = some (.int .i64 t.snap) ∧ w'.cell? ⟨wxj.heap.size, 3, none⟩ = some (.int .i64 t.cs) ∧ w'.cell? ⟨wxj.heap.size, 4, none⟩ = some (.slice ra t.rs.length rc) ∧ w'.cell? ⟨wxj.heap.size, 5, none⟩ = some (.slice (some ⟨wxj.heap.size + 1, 0, none⟩) 0 0) ∧ w'.cell? ⟨wxj.heap.size, 6, none⟩ = some (.bool t.out) ∧ w'.cell? ⟨wxj.heap.size, 7, none⟩ = some (.string t.nm)) (by kernel_rfl) ⟨BT.out.c0, BT.out.c1, BT.out.c2, BT.out.c3, BT.out.c4, BT.out.c5, BT.out.c6, BT.out.c7, BXX.out.c0, BXX.out.c1, BXX.out.c2, BXX.out.c3, BXX.out.c4, BXX.out.c5, BXX.out.c6, BXX.out.c7⟩ (fun hHeld => ?_)
            (refine wpAnyH_take (i := 0) (v := ?_) rfl (by kernel_rfl) (by kernel_rfl) (by kernel_rfl) (fun _ _ _ h => h) (Or.inl ⟨by rfl, ?_⟩) (by assumption) ?_; rotate_left; (focus (intro w hSw; (try dsimp only at hSw); go_simp; (try with_reducible rfl); done)); simp only [Act.put, List.getElem_toArray, List.getElem_cons_zero, List.setIfInBounds_toArray, List.set_cons_zero, List.set_cons_succ])
            (refine wpAnyH_take (i := 1) (v := ?_) rfl (by kernel_rfl) (by kernel_rfl) (by kernel_rfl) (fun _ _ _ h => h) (Or.inl ⟨by rfl, ?_⟩) (by assumption) ?_; rotate_left; (focus (intro w hSw; (try dsimp only at hSw); go_simp; (try with_reducible rfl); done)); simp only [Act.put, List.getElem_toArray, List.getElem_cons_zero, List.getElem_cons_succ, List.setIfInBounds_toArray, List.set_cons_zero, List.set_cons_succ])
            (refine wpAnyH_take (i := 4) (v := ?_) rfl (by kernel_rfl) (by kernel_rfl) (by kernel_rfl) (fun _ _ _ h => h) (Or.inl ⟨by rfl, ?_⟩) (by assumption) ?_; rotate_left; (focus (intro w hSw; (try dsimp only at hSw); go_simp; (try with_reducible rfl); done)); simp only [Act.put, List.getElem_toArray, List.getElem_cons_zero, List.getElem_cons_succ, List.setIfInBounds_toArray, List.set_cons_zero, List.set_cons_succ])
            (refine wpAnyH_take (i := 6) (v := ?_) rfl (by kernel_rfl) (by kernel_rfl) (by kernel_rfl) (fun _ _ _ h => h) (Or.inl ⟨by rfl, ?_⟩) (by assumption) ?_; rotate_left; (focus (intro w hSw; (try dsimp only at hSw); go_simp; (try with_reducible rfl); done)); simp only [Act.put, List.getElem_toArray, List.getElem_cons_zero, List.getElem_cons_succ, List.setIfInBounds_toArray, List.set_cons_zero, List.set_cons_succ])
            (refine wpAnyH_take (i := 7) (v := ?_) rfl (by kernel_rfl) (by kernel_rfl) (by kernel_rfl) (fun _ _ _ h => h) (Or.inl ⟨by rfl, ?_⟩) (by assumption) ?_; rotate_left; (focus (intro w hSw; (try dsimp only at hSw); go_simp; (try with_reducible rfl); done)); simp only [Act.put, List.getElem_toArray, List.getElem_cons_zero, List.getElem_cons_succ, List.setIfInBounds_toArray, List.set_cons_zero, List.set_cons_succ])
            refine wpAnyH_ready (rs := [2]) (by kernel_rfl) (by simp) ?_
            refine AllReadyH.cons rfl (fun K hK => ?_) AllReadyH.nil
            go_simp
            go_wp2_with fail
            refine (all20 _).mono ?_
            rintro e w7 ⟨rfl, hb⟩
            have hb := undrew hb
            replace HB : Hid (Below w.heap.size w w7) := HB.out.trans (hb.mono HB.out.size)
            replace XW : Hid (GRow encW w7 wa t.ws) := XW.out.below hb
            replace BT : Hid (Bx w7 (w1.heap.size) [.int .i64 t.id, .int .i64 t.st, .int .i64 t.snap, .int .i64 t.cs, .slice ra t.rs.length rc, .slice wa t.ws.length wc, .bool t.out, .string t.nm]) := BT.out.below hb
            replace XV : Hid (GOwn encV 91 w7 (wx.heap.size) (.slice va vs.length vc) vs) := XV.out.below hb
            replace XM : Hid (GRow encR w7 ma m) := XM.out.below hb
            replace BXX : Hid (Bx w7 (wxj.heap.size) [.int .i64 t.id, .int .i64 t.st, .int .i64 t.snap, .int .i64 t.cs, .slice ra t.rs.length rc, .slice (some ⟨wxj.heap.size + 1, 0, none⟩) 0 0, .bool t.out, .string t.nm]) := BXX.out.below hb
            go_wp2_with fail
            refine hK.out _ _ ⟨BT.out.c0, BT.out.c1, BT.out.c2, BT.out.c3, BT.out.c4, BT.out.c5, BT.out.c6, BT.out.c7, BXX.out.c0, BXX.out.c1, BXX.out.c2, BXX.out.c3, BXX.out.c4, BXX.out.c5, BXX.out.c6, BXX.out.c7⟩ (fun hHeld7 => ?_)
            clear hK K hb
            refine wpAnyH_ready (rs := [3]) (by kernel_rfl) (by simp) ?_
            refine AllReadyH.cons rfl (fun K hK => ?_) AllReadyH.nil
            go_simp
            go_wp2_with fail
            refine (CX.out _ XV.out.grow).mono ?_
            rintro e w8 ⟨ya, yc, rfl, ho, hb⟩
            replace HB : Hid (Below w.heap.size w w8) := HB.out.trans (hb.mono HB.out.size)
            replace XW : Hid (GRow encW w8 wa t.ws) := XW.out.below hb
            replace BT : Hid (Bx w8 (w1.heap.size) [.int .i64 t.id, .int .i64 t.st, .int .i64 t.snap, .int .i64 t.cs, .slice ra t.rs.length rc, .slice wa t.ws.length wc, .bool t.out, .string t.nm]) := BT.out.below hb
            replace XV : Hid (GOwn encV 91 w8 (wx.heap.size) (.slice va vs.length vc) vs) := XV.out.below hb
            replace XM : Hid (GRow encR w8 ma m) := XM.out.below hb
            replace BXX : Hid (Bx w8 (wxj.heap.size) [.int .i64 t.id, .int .i64 t.st, .int .i64 t.snap, .int .i64 t.cs, .slice ra t.rs.length rc, .slice (some ⟨wxj.heap.size + 1, 0, none⟩) 0 0, .bool t.out, .string t.nm]) := BXX.out.below hb
            have YA : Hid (GRow encR w8 ya ys) := ho.grow
            clear ho
            go_wp2_with fail
            refine hK.out _ _ ⟨BT.out.c0, BT.out.c1, BT.out.c2, BT.out.c3, BT.out.c4, BT.out.c5, BT.out.c6, BT.out.c7, BXX.out.c0, BXX.out.c1, BXX.out.c2, BXX.out.c3, BXX.out.c4, BXX.out.c5, BXX.out.c6, BXX.out.c7⟩ (fun hHeld8 => ?_)
            clear hK K hb
            refine wpAnyH_ready (rs := [5]) (by kernel_rfl) (by simp) ?_
            refine AllReadyH.cons rfl (fun K hK => ?_) AllReadyH.nil
            go_simp
            go_wp2_with fail
            refine (all20 _).mono ?_
            rintro e w9 ⟨rfl, hb⟩
            replace HB : Hid (Below w.heap.size w w9) := HB.out.trans (hb.mono HB.out.size)
            replace XW : Hid (GRow encW w9 wa t.ws) := XW.out.below hb
            replace BT : Hid (Bx w9 (w1.heap.size) [.int .i64 t.id, .int .i64 t.st, .int .i64 t.snap, .int .i64 t.cs, .slice ra t.rs.length rc, .slice wa t.ws.length wc, .bool t.out, .string t.nm]) := BT.out.below hb
            replace XV : Hid (GOwn encV 91 w9 (wx.heap.size) (.slice va vs.length vc) vs) := XV.out.below hb
            replace XM : Hid (GRow encR w9 ma m) := XM.out.below hb
            replace BXX : Hid (Bx w9 (wxj.heap.size) [.int .i64 t.id, .int .i64 t.st, .int .i64 t.snap, .int .i64 t.cs, .slice ra t.rs.length rc, .slice (some ⟨wxj.heap.size + 1, 0, none⟩) 0 0, .bool t.out, .string t.nm]) := BXX.out.below hb
            replace YA : Hid (GRow encR w9 ya ys) := YA.out.below hb
            go_wp2_with fail
            refine hK.out _ _ ⟨BT.out.c0, BT.out.c1, BT.out.c2, BT.out.c3, BT.out.c4, BT.out.c5, BT.out.c6, BT.out.c7, BXX.out.c0, BXX.out.c1, BXX.out.c2, BXX.out.c3, BXX.out.c4, BXX.out.c5, BXX.out.c6, BXX.out.c7⟩ (fun hHeld9 => ?_)
            clear hK K hb
            refine wpAnyH_ready (rs := [8]) (by kernel_rfl) (by simp) ?_
            refine AllReadyH.cons rfl (fun K hK => ?_) AllReadyH.nil
            go_simp
            go_wp2_with fail
            refine (CY.out _ XV.out.grow).mono ?_
            rintro e w10 ⟨za, zc, rfl, ho, hb⟩
            replace HB : Hid (Below w.heap.size w w10) := HB.out.trans (hb.mono HB.out.size)
            replace XW : Hid (GRow encW w10 wa t.ws) := XW.out.below hb
            replace BT : Hid (Bx w10 (w1.heap.size) [.int .i64 t.id, .int .i64 t.st, .int .i64 t.snap, .int .i64 t.cs, .slice ra t.rs.length rc, .slice wa t.ws.length wc, .bool t.out, .string t.nm]) := BT.out.below hb
            replace XV : Hid (GOwn encV 91 w10 (wx.heap.size) (.slice va vs.length vc) vs) := XV.out.below hb
            replace XM : Hid (GRow encR w10 ma m) := XM.out.below hb
            replace BXX : Hid (Bx w10 (wxj.heap.size) [.int .i64 t.id, .int .i64 t.st, .int .i64 t.snap, .int .i64 t.cs, .slice ra t.rs.length rc, .slice (some ⟨wxj.heap.size + 1, 0, none⟩) 0 0, .bool t.out, .string t.nm]) := BXX.out.below hb
            replace YA : Hid (GRow encR w10 ya ys) := YA.out.below hb
            have ZA : Hid (GRow encR w10 za ys) := ho.grow
            clear ho
            go_wp2_with fail
            refine hK.out _ _ ⟨BT.out.c0, BT.out.c1, BT.out.c2, BT.out.c3, BT.out.c4, BT.out.c5, BT.out.c6, BT.out.c7, BXX.out.c0, BXX.out.c1, BXX.out.c2, BXX.out.c3, BXX.out.c4, BXX.out.c5, BXX.out.c6, BXX.out.c7⟩ (fun hHeld10 => ?_)
            clear hK K hb
            refine wpAnyH_ready (rs := [9]) (by kernel_rfl) (by simp) ?_
            refine AllReadyH.cons rfl (fun K hK => ?_) AllReadyH.nil
            go_simp
            go_wp2_with fail
            refine (CP.out _ _ _ _ _ YA.out ZA.out).mono ?_
            rintro e w11 ⟨rfl, hb⟩
            replace HB : Hid (Below w.heap.size w w11) := HB.out.trans (hb.mono HB.out.size)
            replace XW : Hid (GRow encW w11 wa t.ws) := XW.out.below hb
            replace BT : Hid (Bx w11 (w1.heap.size) [.int .i64 t.id, .int .i64 t.st, .int .i64 t.snap, .int .i64 t.cs, .slice ra t.rs.length rc, .slice wa t.ws.length wc, .bool t.out, .string t.nm]) := BT.out.below hb
            replace XV : Hid (GOwn encV 91 w11 (wx.heap.size) (.slice va vs.length vc) vs) := XV.out.below hb
            replace XM : Hid (GRow encR w11 ma m) := XM.out.below hb
            replace BXX : Hid (Bx w11 (wxj.heap.size) [.int .i64 t.id, .int .i64 t.st, .int .i64 t.snap, .int .i64 t.cs, .slice ra t.rs.length rc, .slice (some ⟨wxj.heap.size + 1, 0, none⟩) 0 0, .bool t.out, .string t.nm]) := BXX.out.below hb
            replace YA : Hid (GRow encR w11 ya ys) := YA.out.below hb
            replace ZA : Hid (GRow encR w11 za ys) := ZA.out.below hb
            go_wp2_with fail
            refine hK.out _ _ ⟨BT.out.c0, BT.out.c1, BT.out.c2, BT.out.c3, BT.out.c4, BT.out.c5, BT.out.c6, BT.out.c7, BXX.out.c0, BXX.out.c1, BXX.out.c2, BXX.out.c3, BXX.out.c4, BXX.out.c5, BXX.out.c6, BXX.out.c7⟩ (fun hHeld11 => ?_)
            clear hK K hb
            (refine wpAnyH_take (i := 10) (v := ?_) rfl (by kernel_rfl) (by kernel_rfl) (by kernel_rfl) (fun _ _ _ h => h) (Or.inl ⟨by rfl, ?_⟩) (by assumption) ?_; rotate_left; (focus (intro w hSw; (try dsimp only at hSw); go_simp; (try with_reducible rfl); done)); simp only [Act.put, List.getElem_toArray, List.getElem_cons_zero, List.getElem_cons_succ, List.setIfInBounds_toArray, List.set_cons_zero, List.set_cons_succ])
            (refine wpAnyH_take (i := 11) (v := ?_) rfl (by kernel_rfl) (by kernel_rfl) (by kernel_rfl) (fun _ _ _ h => h) (Or.inl ⟨by rfl, ?_⟩) (by assumption) ?_; rotate_left; (focus (intro w hSw; (try dsimp only at hSw); go_simp; (try with_reducible rfl); done)); simp only [Act.put, List.getElem_toArray, List.getElem_cons_zero, List.getElem_cons_succ, List.setIfInBounds_toArray, List.set_cons_zero, List.set_cons_succ])
            (refine wpAnyH_take (i := 12) (v := ?_) rfl (by kernel_rfl) (by kernel_rfl) (by kernel_rfl) (fun _ _ _ h => h) (Or.inl ⟨by rfl, ?_⟩) (by assumption) ?_; rotate_left; (focus (intro w hSw; (try dsimp only at hSw); go_simp; (try with_reducible rfl); done)); simp only [Act.put, List.getElem_toArray, List.getElem_cons_zero, List.getElem_cons_succ, List.setIfInBounds_toArray, List.set_cons_zero, List.set_cons_succ])
            (refine wpAnyH_take (i := 13) (v := ?_) rfl (by kernel_rfl) (by kernel_rfl) (by kernel_rfl) (fun _ _ _ h => h) (Or.inl ⟨by rfl, ?_⟩) (by assumption) ?_; rotate_left; (focus (intro w hSw; (try dsimp only at hSw); go_simp; (try with_reducible rfl); done)); simp only [Act.put, List.getElem_toArray, List.getElem_cons_zero, List.getElem_cons_succ, List.setIfInBounds_toArray, List.set_cons_zero, List.set_cons_succ])
            (refine wpAnyH_take (i := 14) (v := ?_) rfl (by kernel_rfl) (by kernel_rfl) (by kernel_rfl) (fun _ _ _ h => h) (Or.inl ⟨by rfl, ?_⟩) (by assumption) ?_; rotate_left; (focus (intro w hSw; (try dsimp only at hSw); go_simp; (try with_reducible rfl); done)); simp only [Act.put, List.getElem_toArray, List.getElem_cons_zero, List.getElem_cons_succ, List.setIfInBounds_toArray, List.set_cons_zero, List.set_cons_succ])
            refine wpAnyH_ready (rs := [15]) (by kernel_rfl) (by simp) ?_
            refine AllReadyH.cons rfl (fun K hK => ?_) AllReadyH.nil
            go_simp
            go_wp2_with fail
            refine (all20 _).mono ?_
            rintro e w12 ⟨rfl, hb⟩
            replace HB : Hid (Below w.heap.size w w12) := HB.out.trans (hb.mono HB.out.size)
            replace XW : Hid (GRow encW w12 wa t.ws) := XW.out.below hb
            replace BT : Hid (Bx w12 (w1.heap.size) [.int .i64 t.id, .int .i64 t.st, .int .i64 t.snap, .int .i64 t.cs, .slice ra t.rs.length rc, .slice wa t.ws.length wc, .bool t.out, .string t.nm]) := BT.out.below hb
            replace XV : Hid (GOwn encV 91 w12 (wx.heap.size) (.slice va vs.length vc) vs) := XV.out.below hb
            replace XM : Hid (GRow encR w12 ma m) := XM.out.below hb
            replace BXX : Hid (Bx w12 (wxj.heap.size) [.int .i64 t.id, .int .i64 t.st, .int .i64 t.snap, .int .i64 t.cs, .slice ra t.rs.length rc, .slice (some ⟨wxj.heap.size + 1, 0, none⟩) 0 0, .bool t.out, .string t.nm]) := BXX.out.below hb
            replace YA : Hid (GRow encR w12 ya ys) := YA.out.below hb
            replace ZA : Hid (GRow encR w12 za ys) := ZA.out.below hb
            go_wp2_with fail
            refine hK.out _ _ ⟨BT.out.c0, BT.out.c1, BT.out.c2, BT.out.c3, BT.out.c4, BT.out.c5, BT.out.c6, BT.out.c7, BXX.out.c0, BXX.out.c1, BXX.out.c2, BXX.out.c3, BXX.out.c4, BXX.out.c5, BXX.out.c6, BXX.out.c7⟩ (fun hHeld12 => ?_)
            clear hK K hb
            refine wpAnyH_ready (rs := [16]) (by kernel_rfl) (by simp) ?_
            refine AllReadyH.cons rfl (fun K hK => ?_) AllReadyH.nil
            go_simp
            go_wp2_with fail
            refine (CMS.out _ XW.out XV.out).mono ?_
            rintro e w13 ⟨sa, sc, rfl, ho, hb⟩
            replace HB : Hid (Below w.heap.size w w13) := HB.out.trans (hb.mono HB.out.size)
            replace XW : Hid (GRow encW w13 wa t.ws) := XW.out.below hb
            replace BT : Hid (Bx w13 (w1.heap.size) [.int .i64 t.id, .int .i64 t.st, .int .i64 t.snap, .int .i64 t.cs, .slice ra t.rs.length rc, .slice wa t.ws.length wc, .bool t.out, .string t.nm]) := BT.out.below hb
            replace XV : Hid (GOwn encV 91 w13 (wx.heap.size) (.slice va vs.length vc) vs) := XV.out.below hb
            replace XM : Hid (GRow encR w13 ma m) := XM.out.below hb
            replace BXX : Hid (Bx w13 (wxj.heap.size) [.int .i64 t.id, .int .i64 t.st, .int .i64 t.snap, .int .i64 t.cs, .slice ra t.rs.length rc, .slice (some ⟨wxj.heap.size + 1, 0, none⟩) 0 0, .bool t.out, .string t.nm]) := BXX.out.below hb
            replace YA : Hid (GRow encR w13 ya ys) := YA.out.below hb
            replace ZA : Hid (GRow encR w13 za ys) := ZA.out.below hb
            clear ho
            go_wp2_with fail
            refine hK.out _ _ ⟨BT.out.c0, BT.out.c1, BT.out.c2, BT.out.c3, BT.out.c4, BT.out.c5, BT.out.c6, BT.out.c7, BXX.out.c0, BXX.out.c1, BXX.out.c2, BXX.out.c3, BXX.out.c4, BXX.out.c5, BXX.out.c6, BXX.out.c7⟩ (fun hHeld13 => ?_)
            clear hK K hb
            (refine wpAnyH_take (i := 17) (v := ?_) rfl (by kernel_rfl) (by kernel_rfl) (by kernel_rfl) (fun _ _ _ h => h) (Or.inl ⟨by rfl, ?_⟩) (by assumption) ?_; rotate_left; (focus (intro w hSw; (try dsimp only at hSw); go_simp; (try with_reducible rfl); done)); simp only [Act.put, List.getElem_toArray, List.getElem_cons_zero, List.getElem_cons_succ, List.setIfInBounds_toArray, List.set_cons_zero, List.set_cons_succ])
            (refine wpAnyH_take (i := 18) (v := ?_) rfl (by kernel_rfl) (by kernel_rfl) (by kernel_rfl) (fun _ _ _ h => h) (Or.inl ⟨by rfl, ?_⟩) (by assumption) ?_; rotate_left; (focus (intro w hSw; (try dsimp only at hSw); go_simp; (try with_reducible rfl); done)); simp only [Act.put, List.getElem_toArray, List.getElem_cons_zero, List.getElem_cons_succ, List.setIfInBounds_toArray, List.set_cons_zero, List.set_cons_succ])
            (refine wpAnyH_take (i := 19) (v := ?_) rfl (by kernel_rfl) (by kernel_rfl) (by kernel_rfl) (fun _ _ _ h => h) (Or.inl ⟨by rfl, ?_⟩) (by assumption) ?_; rotate_left; (focus (intro w hSw; (try dsimp only at hSw); go_simp; (try with_reducible rfl); done)); simp only [Act.put, List.getElem_toArray, List.getElem_cons_zero, List.getElem_cons_succ, List.setIfInBounds_toArray, List.set_cons_zero, List.set_cons_succ])
            (refine wpAnyH_take (i := 20) (v := ?_) rfl (by kernel_rfl) (by kernel_rfl) (by kernel_rfl) (fun _ _ _ h => h) (Or.inl ⟨by rfl, ?_⟩) (by assumption) ?_; rotate_left; (focus (intro w hSw; (try dsimp only at hSw); go_simp; (try with_reducible rfl); done)); simp only [Act.put, List.getElem_toArray, List.getElem_cons_zero, List.getElem_cons_succ, List.setIfInBounds_toArray, List.set_cons_zero, List.set_cons_succ])
            refine wpAnyH_done (by kernel_rfl) ?_ _
            go_wp2
            go_ret
            exact ⟨rfl, HB.out⟩
  · rw [decide_eq_true (by omega)] at HBG
    go_enter Try.func3, Try.ntmps3
    go_wp2_with fail
    refine (HBG.out _).mono ?_
    rintro e w ⟨rfl, rfl⟩
    go_wp2
    go_ret
    exact ⟨rfl, belowRefl w⟩

end Go.Proofs.Ytblfljmcbpodbaa
