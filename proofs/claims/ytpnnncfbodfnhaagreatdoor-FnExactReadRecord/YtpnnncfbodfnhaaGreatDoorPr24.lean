/- What the specification's cursor reads: numbers, short texts, bits. -/
import Derived.Test.YtpnnncfbodfnhaaGreatDoorPr01
import Derived.Test.YtpnnncfbodfnhaaGreatDoorPr19
import Derived.WalkLawsBesides
import Derived.Deep.RegionHeld
import Derived.Deep.RegionHeld3
namespace Go.Proofs.YtpnnncfbodfnhaaGreatDoor
open Go.RowKit
open KM
attribute [local go_sem ↓] Go.wp_at_zero Go.wp_at_succ

abbrev Cr (w : World) (g : Nat) (x : ByteArray) (p : Int) (b : Bool) : Prop := Bx w g [.string x, .int .i64 p, .bool b]
def Stp {α : Type} (o : Option (α × Nat)) (z v : α) (p p' : Int) (b b' : Bool) : Prop :=
 (b = true ∧ b' = true ∧ v = z ∧ p' = p) ∨ (b = false ∧ o = none ∧ b' = true ∧ v = z ∧ p' = p) ∨ (b = false ∧ b' = false ∧ ∃ q : Nat, o = some (v, q) ∧ p' = (q : Int))

set_option maxRecDepth 100000 in
set_option maxHeartbeats 2000000 in
theorem svar_bad (x : ByteArray) (g : Nat) (p : Int) (hs : x.size ≤ 1048576) (w : World) (hd : Cr w g x p true) :
  Calls Tryz.prog 72 #[.pointer (some ⟨g, 0, none⟩)] w fun e w' => e = .returned (.int .i64 0) ∧ Cr w' g x p true ∧ w.grownBy w' (some g) := by
 have HD : Hid (Cr w g x p true) := hd
 have hgl := hd.lt
 clear hd
 obtain ⟨rv, rp, rb, hrv⟩ : ∃ rv rp rb, nV (rN x p) = .tuple #[.int .i64 rv, .int .i64 rp, .bool rb] := by
  cases rN x p
  ·exact ⟨_, _, _, rfl⟩
  ·exact ⟨_, _, _, rfl⟩
 have C : Hid (∀ w, Calls Tryz.prog 105 #[.string x, .int .i64 p] w fun e w' => e = .returned (.tuple #[.int .i64 rv, .int .i64 rp, .bool rb]) ∧ Below w.heap.size w w') := fun w => by
  have k := sN x p hs w
  rw [hrv] at k
  exact k
 clear hrv
 go_enter Tryz.func72, Tryz.ntmps72
 go_wp2
 refine wp_region_held_drew (S := fun w' => w'.cell? ⟨g, 0, none⟩ = some (.string x) ∧ w'.cell? ⟨g, 1, none⟩ = some (.int .i64 p)) (by kernel_rfl) ⟨HD.out.c0, HD.out.c1⟩ (fun hHeld => ?_)
 (refine ti 0 ?_; simp only [Act.put, tA, tB, tD, tE, tF])
 (refine ti 1 ?_; simp only [Act.put, tA, tB, tC, tD, tE, tF])
 (refine ti 2 ?_; simp only [Act.put, tA, tB, tC, tD, tE, tF])
 (refine ti 3 ?_; simp only [Act.put, tA, tB, tC, tD, tE, tF])
 (refine ti 4 ?_; simp only [Act.put, tA, tB, tC, tD, tE, tF])
 (refine ti 5 ?_; simp only [Act.put, tA, tB, tC, tD, tE, tF])
 (refine ti 6 ?_; simp only [Act.put, tA, tB, tC, tD, tE, tF])
 (refine ti 7 ?_; simp only [Act.put, tA, tB, tC, tD, tE, tF])
 refine wpAnyH_ready (rs := [8]) (by kernel_rfl) (by simp) ?_
 refine AllReadyH.cons rfl (fun K hK => ?_) AllReadyH.nil
 go_simp
 go_wp2_with fail
 refine (C.out _).mono ?_
 rintro e w1 ⟨rfl, hb⟩
 have hbu := undrew hb
 have HD1 := hide (HD.out.below hbu)
 have HG1 : Hid (w.grownBy w1 (some g)) := grown_below _ hbu
 clear hb hbu C
 go_wp2_with fail
 refine hK.out _ _ ⟨HD1.out.c0, HD1.out.c1⟩ (fun hHeld2 => ?_)
 clear hK K
 (refine ti 9 ?_; simp only [Act.put, tA, tB, tC, tD, tE, tF])
 (refine ti 10 ?_; simp only [Act.put, tA, tB, tC, tD, tE, tF])
 (refine ti 11 ?_; simp only [Act.put, tA, tB, tC, tD, tE, tF])
 (refine ti 12 ?_; simp only [Act.put, tA, tB, tC, tD, tE, tF])
 (refine ti 13 ?_; simp only [Act.put, tA, tB, tC, tD, tE, tF])
 (refine ti 14 ?_; simp only [Act.put, tA, tB, tC, tD, tE, tF])
 (refine ti 15 ?_; simp only [Act.put, tA, tB, tC, tD, tE, tF])
 refine wpAnyH_done (by kernel_rfl) ?_ _
 have c0 := HD1.out.c0
 have c1 := HD1.out.c1
 have c2 := HD1.out.c2
 have fz := HD1.out.fz
 go_wp2
 go_ret
 exact ⟨rfl, HD1.out.set 2 _, grown_trans HG1.out (grown_set _ g 2 _)⟩

set_option maxRecDepth 100000 in
set_option maxHeartbeats 2000000 in
theorem svar_no (x : ByteArray) (g : Nat) (p : Int) (hs : x.size ≤ 1048576) (h : rN x p = none) (w : World) (hd : Cr w g x p false) :
  Calls Tryz.prog 72 #[.pointer (some ⟨g, 0, none⟩)] w fun e w' => e = .returned (.int .i64 0) ∧ Cr w' g x p true ∧ w.grownBy w' (some g) := by
 have HD : Hid (Cr w g x p false) := hd
 have hgl := hd.lt
 clear hd
 have C : Hid (∀ w, Calls Tryz.prog 105 #[.string x, .int .i64 p] w fun e w' => e = .returned (.tuple #[.int .i64 0, .int .i64 0, .bool false]) ∧ Below w.heap.size w w') := fun w => by
  have k := sN x p hs w
  rw [h] at k
  exact k
 clear h
 go_enter Tryz.func72, Tryz.ntmps72
 go_wp2
 refine wp_region_held_drew (S := fun w' => w'.cell? ⟨g, 0, none⟩ = some (.string x) ∧ w'.cell? ⟨g, 1, none⟩ = some (.int .i64 p)) (by kernel_rfl) ⟨HD.out.c0, HD.out.c1⟩ (fun hHeld => ?_)
 (refine ti 0 ?_; simp only [Act.put, tA, tB, tD, tE, tF])
 (refine ti 1 ?_; simp only [Act.put, tA, tB, tC, tD, tE, tF])
 (refine ti 2 ?_; simp only [Act.put, tA, tB, tC, tD, tE, tF])
 (refine ti 3 ?_; simp only [Act.put, tA, tB, tC, tD, tE, tF])
 (refine ti 4 ?_; simp only [Act.put, tA, tB, tC, tD, tE, tF])
 (refine ti 5 ?_; simp only [Act.put, tA, tB, tC, tD, tE, tF])
 (refine ti 6 ?_; simp only [Act.put, tA, tB, tC, tD, tE, tF])
 (refine ti 7 ?_; simp only [Act.put, tA, tB, tC, tD, tE, tF])
 refine wpAnyH_ready (rs := [8]) (by kernel_rfl) (by simp) ?_
 refine AllReadyH.cons rfl (fun K hK => ?_) AllReadyH.nil
 go_simp
 go_wp2_with fail
 refine (C.out _).mono ?_
 rintro e w1 ⟨rfl, hb⟩
 have hbu := undrew hb
 have HD1 := hide (HD.out.below hbu)
 have HG1 : Hid (w.grownBy w1 (some g)) := grown_below _ hbu
 clear hb hbu C
 go_wp2_with fail
 refine hK.out _ _ ⟨HD1.out.c0, HD1.out.c1⟩ (fun hHeld2 => ?_)
 clear hK K
 (refine ti 9 ?_; simp only [Act.put, tA, tB, tC, tD, tE, tF])
 (refine ti 10 ?_; simp only [Act.put, tA, tB, tC, tD, tE, tF])
 (refine ti 11 ?_; simp only [Act.put, tA, tB, tC, tD, tE, tF])
 (refine ti 12 ?_; simp only [Act.put, tA, tB, tC, tD, tE, tF])
 (refine ti 13 ?_; simp only [Act.put, tA, tB, tC, tD, tE, tF])
 (refine ti 14 ?_; simp only [Act.put, tA, tB, tC, tD, tE, tF])
 (refine ti 15 ?_; simp only [Act.put, tA, tB, tC, tD, tE, tF])
 refine wpAnyH_done (by kernel_rfl) ?_ _
 have c0 := HD1.out.c0
 have c1 := HD1.out.c1
 have c2 := HD1.out.c2
 have fz := HD1.out.fz
 go_wp2
 go_ret
 exact ⟨rfl, HD1.out.set 2 _, grown_trans HG1.out (grown_set _ g 2 _)⟩

set_option maxRecDepth 100000 in
set_option maxHeartbeats 2000000 in
theorem svar_yes (x : ByteArray) (g : Nat) (p : Int) (hs : x.size ≤ 1048576) (n : Nat) (q : Nat) (h : rN x p = some (n, q)) (w : World) (hd : Cr w g x p false) :
  Calls Tryz.prog 72 #[.pointer (some ⟨g, 0, none⟩)] w fun e w' => e = .returned (.int .i64 (n : Int)) ∧ Cr w' g x (q : Int) false ∧ w.grownBy w' (some g) := by
 have HD : Hid (Cr w g x p false) := hd
 have hgl := hd.lt
 clear hd
 have C : Hid (∀ w, Calls Tryz.prog 105 #[.string x, .int .i64 p] w fun e w' => e = .returned (.tuple #[.int .i64 (n : Int), .int .i64 (q : Int), .bool true]) ∧ Below w.heap.size w w') := fun w => by
  have k := sN x p hs w
  rw [h] at k
  exact k
 clear h
 go_enter Tryz.func72, Tryz.ntmps72
 go_wp2
 refine wp_region_held_drew (S := fun w' => w'.cell? ⟨g, 0, none⟩ = some (.string x) ∧ w'.cell? ⟨g, 1, none⟩ = some (.int .i64 p)) (by kernel_rfl) ⟨HD.out.c0, HD.out.c1⟩ (fun hHeld => ?_)
 (refine ti 0 ?_; simp only [Act.put, tA, tB, tD, tE, tF])
 (refine ti 1 ?_; simp only [Act.put, tA, tB, tC, tD, tE, tF])
 (refine ti 2 ?_; simp only [Act.put, tA, tB, tC, tD, tE, tF])
 (refine ti 3 ?_; simp only [Act.put, tA, tB, tC, tD, tE, tF])
 (refine ti 4 ?_; simp only [Act.put, tA, tB, tC, tD, tE, tF])
 (refine ti 5 ?_; simp only [Act.put, tA, tB, tC, tD, tE, tF])
 (refine ti 6 ?_; simp only [Act.put, tA, tB, tC, tD, tE, tF])
 (refine ti 7 ?_; simp only [Act.put, tA, tB, tC, tD, tE, tF])
 refine wpAnyH_ready (rs := [8]) (by kernel_rfl) (by simp) ?_
 refine AllReadyH.cons rfl (fun K hK => ?_) AllReadyH.nil
 go_simp
 go_wp2_with fail
 refine (C.out _).mono ?_
 rintro e w1 ⟨rfl, hb⟩
 have hbu := undrew hb
 have HD1 := hide (HD.out.below hbu)
 have HG1 : Hid (w.grownBy w1 (some g)) := grown_below _ hbu
 clear hb hbu C
 go_wp2_with fail
 refine hK.out _ _ ⟨HD1.out.c0, HD1.out.c1⟩ (fun hHeld2 => ?_)
 clear hK K
 (refine ti 9 ?_; simp only [Act.put, tA, tB, tC, tD, tE, tF])
 (refine ti 10 ?_; simp only [Act.put, tA, tB, tC, tD, tE, tF])
 (refine ti 11 ?_; simp only [Act.put, tA, tB, tC, tD, tE, tF])
 (refine ti 12 ?_; simp only [Act.put, tA, tB, tC, tD, tE, tF])
 (refine ti 13 ?_; simp only [Act.put, tA, tB, tC, tD, tE, tF])
 (refine ti 14 ?_; simp only [Act.put, tA, tB, tC, tD, tE, tF])
 (refine ti 15 ?_; simp only [Act.put, tA, tB, tC, tD, tE, tF])
 refine wpAnyH_done (by kernel_rfl) ?_ _
 have c0 := HD1.out.c0
 have c1 := HD1.out.c1
 have c2 := HD1.out.c2
 have fz := HD1.out.fz
 go_wp2
 go_ret
 exact ⟨rfl, HD1.out.set 1 _, grown_trans HG1.out (grown_set _ g 1 _)⟩

theorem svar (x : ByteArray) (g : Nat) (p : Int) (b : Bool) (hs : x.size ≤ 1048576) (w : World) (hd : Cr w g x p b) :
  Calls Tryz.prog 72 #[.pointer (some ⟨g, 0, none⟩)] w fun e w' => ∃ (n : Nat) (p' : Int) (b' : Bool), e = .returned (.int .i64 (n : Int)) ∧ n ≤ 1000000000 ∧ Stp (rN x p) 0 n p p' b b' ∧ Cr w' g x p' b' ∧ w.grownBy w' (some g) := by
 cases b
 ·cases h : rN x p with
  | none =>
   refine (svar_no x g p hs h w hd).mono ?_
   rintro e w' ⟨rfl, h1, h2⟩
   exact ⟨0, p, true, rfl, (by omega), Or.inr (Or.inl ⟨rfl, rfl, rfl, rfl, rfl⟩), h1, h2⟩
  | some r =>
   obtain ⟨n, q⟩ := r
   refine (svar_yes x g p hs n q h w hd).mono ?_
   rintro e w' ⟨rfl, h1, h2⟩
   exact ⟨n, q, false, rfl, (rN_bd h).1, Or.inr (Or.inr ⟨rfl, rfl, q, rfl, rfl⟩), h1, h2⟩
 ·refine (svar_bad x g p hs w hd).mono ?_
  rintro e w' ⟨rfl, h1, h2⟩
  exact ⟨0, p, true, rfl, (by omega), Or.inl ⟨rfl, rfl, rfl, rfl⟩, h1, h2⟩

set_option maxRecDepth 100000 in
set_option maxHeartbeats 2000000 in
theorem sshrt_bad (x : ByteArray) (g : Nat) (p : Int) (hs : x.size ≤ 1048576) (w : World) (hd : Cr w g x p true) :
  Calls Tryz.prog 31 #[.pointer (some ⟨g, 0, none⟩)] w fun e w' => e = .returned (.string ⟨#[]⟩) ∧ Cr w' g x p true ∧ w.grownBy w' (some g) := by
 have HD : Hid (Cr w g x p true) := hd
 have hgl := hd.lt
 clear hd
 obtain ⟨rv, rp, rb, hrv⟩ : ∃ rv rp rb, tV (rS x p) = .tuple #[.string rv, .int .i64 rp, .bool rb] := by
  cases rS x p
  ·exact ⟨_, _, _, rfl⟩
  ·exact ⟨_, _, _, rfl⟩
 have C : Hid (∀ w, Calls Tryz.prog 71 #[.string x, .int .i64 p] w fun e w' => e = .returned (.tuple #[.string rv, .int .i64 rp, .bool rb]) ∧ Below w.heap.size w w') := fun w => by
  have k := sS x p hs w
  rw [hrv] at k
  exact k
 clear hrv
 go_enter Tryz.func31, Tryz.ntmps31
 go_wp2
 refine wp_region_held_drew (S := fun w' => w'.cell? ⟨g, 0, none⟩ = some (.string x) ∧ w'.cell? ⟨g, 1, none⟩ = some (.int .i64 p)) (by kernel_rfl) ⟨HD.out.c0, HD.out.c1⟩ (fun hHeld => ?_)
 (refine ti 0 ?_; simp only [Act.put, tA, tB, tD, tE, tF])
 (refine ti 1 ?_; simp only [Act.put, tA, tB, tC, tD, tE, tF])
 (refine ti 2 ?_; simp only [Act.put, tA, tB, tC, tD, tE, tF])
 (refine ti 3 ?_; simp only [Act.put, tA, tB, tC, tD, tE, tF])
 (refine ti 4 ?_; simp only [Act.put, tA, tB, tC, tD, tE, tF])
 (refine ti 5 ?_; simp only [Act.put, tA, tB, tC, tD, tE, tF])
 (refine ti 6 ?_; simp only [Act.put, tA, tB, tC, tD, tE, tF])
 (refine ti 7 ?_; simp only [Act.put, tA, tB, tC, tD, tE, tF])
 refine wpAnyH_ready (rs := [8]) (by kernel_rfl) (by simp) ?_
 refine AllReadyH.cons rfl (fun K hK => ?_) AllReadyH.nil
 go_simp
 go_wp2_with fail
 refine (C.out _).mono ?_
 rintro e w1 ⟨rfl, hb⟩
 have hbu := undrew hb
 have HD1 := hide (HD.out.below hbu)
 have HG1 : Hid (w.grownBy w1 (some g)) := grown_below _ hbu
 clear hb hbu C
 go_wp2_with fail
 refine hK.out _ _ ⟨HD1.out.c0, HD1.out.c1⟩ (fun hHeld2 => ?_)
 clear hK K
 (refine ti 9 ?_; simp only [Act.put, tA, tB, tC, tD, tE, tF])
 (refine ti 10 ?_; simp only [Act.put, tA, tB, tC, tD, tE, tF])
 (refine ti 11 ?_; simp only [Act.put, tA, tB, tC, tD, tE, tF])
 (refine ti 12 ?_; simp only [Act.put, tA, tB, tC, tD, tE, tF])
 (refine ti 13 ?_; simp only [Act.put, tA, tB, tC, tD, tE, tF])
 (refine ti 14 ?_; simp only [Act.put, tA, tB, tC, tD, tE, tF])
 (refine ti 15 ?_; simp only [Act.put, tA, tB, tC, tD, tE, tF])
 refine wpAnyH_done (by kernel_rfl) ?_ _
 have c0 := HD1.out.c0
 have c1 := HD1.out.c1
 have c2 := HD1.out.c2
 have fz := HD1.out.fz
 go_wp2
 go_ret
 exact ⟨rfl, HD1.out.set 2 _, grown_trans HG1.out (grown_set _ g 2 _)⟩

set_option maxRecDepth 100000 in
set_option maxHeartbeats 2000000 in
theorem sshrt_no (x : ByteArray) (g : Nat) (p : Int) (hs : x.size ≤ 1048576) (h : rS x p = none) (w : World) (hd : Cr w g x p false) :
  Calls Tryz.prog 31 #[.pointer (some ⟨g, 0, none⟩)] w fun e w' => e = .returned (.string ⟨#[]⟩) ∧ Cr w' g x p true ∧ w.grownBy w' (some g) := by
 have HD : Hid (Cr w g x p false) := hd
 have hgl := hd.lt
 clear hd
 have C : Hid (∀ w, Calls Tryz.prog 71 #[.string x, .int .i64 p] w fun e w' => e = .returned (.tuple #[.string ⟨#[]⟩, .int .i64 0, .bool false]) ∧ Below w.heap.size w w') := fun w => by
  have k := sS x p hs w
  rw [h] at k
  exact k
 clear h
 go_enter Tryz.func31, Tryz.ntmps31
 go_wp2
 refine wp_region_held_drew (S := fun w' => w'.cell? ⟨g, 0, none⟩ = some (.string x) ∧ w'.cell? ⟨g, 1, none⟩ = some (.int .i64 p)) (by kernel_rfl) ⟨HD.out.c0, HD.out.c1⟩ (fun hHeld => ?_)
 (refine ti 0 ?_; simp only [Act.put, tA, tB, tD, tE, tF])
 (refine ti 1 ?_; simp only [Act.put, tA, tB, tC, tD, tE, tF])
 (refine ti 2 ?_; simp only [Act.put, tA, tB, tC, tD, tE, tF])
 (refine ti 3 ?_; simp only [Act.put, tA, tB, tC, tD, tE, tF])
 (refine ti 4 ?_; simp only [Act.put, tA, tB, tC, tD, tE, tF])
 (refine ti 5 ?_; simp only [Act.put, tA, tB, tC, tD, tE, tF])
 (refine ti 6 ?_; simp only [Act.put, tA, tB, tC, tD, tE, tF])
 (refine ti 7 ?_; simp only [Act.put, tA, tB, tC, tD, tE, tF])
 refine wpAnyH_ready (rs := [8]) (by kernel_rfl) (by simp) ?_
 refine AllReadyH.cons rfl (fun K hK => ?_) AllReadyH.nil
 go_simp
 go_wp2_with fail
 refine (C.out _).mono ?_
 rintro e w1 ⟨rfl, hb⟩
 have hbu := undrew hb
 have HD1 := hide (HD.out.below hbu)
 have HG1 : Hid (w.grownBy w1 (some g)) := grown_below _ hbu
 clear hb hbu C
 go_wp2_with fail
 refine hK.out _ _ ⟨HD1.out.c0, HD1.out.c1⟩ (fun hHeld2 => ?_)
 clear hK K
 (refine ti 9 ?_; simp only [Act.put, tA, tB, tC, tD, tE, tF])
 (refine ti 10 ?_; simp only [Act.put, tA, tB, tC, tD, tE, tF])
 (refine ti 11 ?_; simp only [Act.put, tA, tB, tC, tD, tE, tF])
 (refine ti 12 ?_; simp only [Act.put, tA, tB, tC, tD, tE, tF])
 (refine ti 13 ?_; simp only [Act.put, tA, tB, tC, tD, tE, tF])
 (refine ti 14 ?_; simp only [Act.put, tA, tB, tC, tD, tE, tF])
 (refine ti 15 ?_; simp only [Act.put, tA, tB, tC, tD, tE, tF])
 refine wpAnyH_done (by kernel_rfl) ?_ _
 have c0 := HD1.out.c0
 have c1 := HD1.out.c1
 have c2 := HD1.out.c2
 have fz := HD1.out.fz
 go_wp2
 go_ret
 exact ⟨rfl, HD1.out.set 2 _, grown_trans HG1.out (grown_set _ g 2 _)⟩

set_option maxRecDepth 100000 in
set_option maxHeartbeats 2000000 in
theorem sshrt_yes (x : ByteArray) (g : Nat) (p : Int) (hs : x.size ≤ 1048576) (n : ByteArray) (q : Nat) (h : rS x p = some (n, q)) (w : World) (hd : Cr w g x p false) :
  Calls Tryz.prog 31 #[.pointer (some ⟨g, 0, none⟩)] w fun e w' => e = .returned (.string n) ∧ Cr w' g x (q : Int) false ∧ w.grownBy w' (some g) := by
 have HD : Hid (Cr w g x p false) := hd
 have hgl := hd.lt
 clear hd
 have C : Hid (∀ w, Calls Tryz.prog 71 #[.string x, .int .i64 p] w fun e w' => e = .returned (.tuple #[.string n, .int .i64 (q : Int), .bool true]) ∧ Below w.heap.size w w') := fun w => by
  have k := sS x p hs w
  rw [h] at k
  exact k
 clear h
 go_enter Tryz.func31, Tryz.ntmps31
 go_wp2
 refine wp_region_held_drew (S := fun w' => w'.cell? ⟨g, 0, none⟩ = some (.string x) ∧ w'.cell? ⟨g, 1, none⟩ = some (.int .i64 p)) (by kernel_rfl) ⟨HD.out.c0, HD.out.c1⟩ (fun hHeld => ?_)
 (refine ti 0 ?_; simp only [Act.put, tA, tB, tD, tE, tF])
 (refine ti 1 ?_; simp only [Act.put, tA, tB, tC, tD, tE, tF])
 (refine ti 2 ?_; simp only [Act.put, tA, tB, tC, tD, tE, tF])
 (refine ti 3 ?_; simp only [Act.put, tA, tB, tC, tD, tE, tF])
 (refine ti 4 ?_; simp only [Act.put, tA, tB, tC, tD, tE, tF])
 (refine ti 5 ?_; simp only [Act.put, tA, tB, tC, tD, tE, tF])
 (refine ti 6 ?_; simp only [Act.put, tA, tB, tC, tD, tE, tF])
 (refine ti 7 ?_; simp only [Act.put, tA, tB, tC, tD, tE, tF])
 refine wpAnyH_ready (rs := [8]) (by kernel_rfl) (by simp) ?_
 refine AllReadyH.cons rfl (fun K hK => ?_) AllReadyH.nil
 go_simp
 go_wp2_with fail
 refine (C.out _).mono ?_
 rintro e w1 ⟨rfl, hb⟩
 have hbu := undrew hb
 have HD1 := hide (HD.out.below hbu)
 have HG1 : Hid (w.grownBy w1 (some g)) := grown_below _ hbu
 clear hb hbu C
 go_wp2_with fail
 refine hK.out _ _ ⟨HD1.out.c0, HD1.out.c1⟩ (fun hHeld2 => ?_)
 clear hK K
 (refine ti 9 ?_; simp only [Act.put, tA, tB, tC, tD, tE, tF])
 (refine ti 10 ?_; simp only [Act.put, tA, tB, tC, tD, tE, tF])
 (refine ti 11 ?_; simp only [Act.put, tA, tB, tC, tD, tE, tF])
 (refine ti 12 ?_; simp only [Act.put, tA, tB, tC, tD, tE, tF])
 (refine ti 13 ?_; simp only [Act.put, tA, tB, tC, tD, tE, tF])
 (refine ti 14 ?_; simp only [Act.put, tA, tB, tC, tD, tE, tF])
 (refine ti 15 ?_; simp only [Act.put, tA, tB, tC, tD, tE, tF])
 refine wpAnyH_done (by kernel_rfl) ?_ _
 have c0 := HD1.out.c0
 have c1 := HD1.out.c1
 have c2 := HD1.out.c2
 have fz := HD1.out.fz
 go_wp2
 go_ret
 exact ⟨rfl, HD1.out.set 1 _, grown_trans HG1.out (grown_set _ g 1 _)⟩

theorem sshrt (x : ByteArray) (g : Nat) (p : Int) (b : Bool) (hs : x.size ≤ 1048576) (w : World) (hd : Cr w g x p b) :
  Calls Tryz.prog 31 #[.pointer (some ⟨g, 0, none⟩)] w fun e w' => ∃ (n : ByteArray) (p' : Int) (b' : Bool), e = .returned (.string n) ∧ n.size ≤ 20000 ∧ Stp (rS x p) ⟨#[]⟩ n p p' b b' ∧ Cr w' g x p' b' ∧ w.grownBy w' (some g) := by
 cases b
 ·cases h : rS x p with
  | none =>
   refine (sshrt_no x g p hs h w hd).mono ?_
   rintro e w' ⟨rfl, h1, h2⟩
   exact ⟨⟨#[]⟩, p, true, rfl, (by show (0 : Nat) ≤ 20000; omega), Or.inr (Or.inl ⟨rfl, rfl, rfl, rfl, rfl⟩), h1, h2⟩
  | some r =>
   obtain ⟨n, q⟩ := r
   refine (sshrt_yes x g p hs n q h w hd).mono ?_
   rintro e w' ⟨rfl, h1, h2⟩
   exact ⟨n, q, false, rfl, (rS_bd h).1, Or.inr (Or.inr ⟨rfl, rfl, q, rfl, rfl⟩), h1, h2⟩
 ·refine (sshrt_bad x g p hs w hd).mono ?_
  rintro e w' ⟨rfl, h1, h2⟩
  exact ⟨⟨#[]⟩, p, true, rfl, (by show (0 : Nat) ≤ 20000; omega), Or.inl ⟨rfl, rfl, rfl, rfl⟩, h1, h2⟩

set_option maxRecDepth 100000 in
set_option maxHeartbeats 2000000 in
theorem sbit_bad (x : ByteArray) (g : Nat) (p : Int) (w : World) (hd : Cr w g x p true) :
  Calls Tryz.prog 32 #[.pointer (some ⟨g, 0, none⟩)] w fun e w' => e = .returned (.bool false) ∧ Cr w' g x p true ∧ w.grownBy w' (some g) := by
 have HD : Hid (Cr w g x p true) := hd
 have hgl := hd.lt
 clear hd
 go_enter Tryz.func32, Tryz.ntmps32
 go_wp2
 refine wp_region_held_drew (S := fun w' => w'.cell? ⟨g, 0, none⟩ = some (.string x) ∧ w'.cell? ⟨g, 1, none⟩ = some (.int .i64 p) ∧ w'.cell? ⟨g, 2, none⟩ = some (.bool true)) (by kernel_rfl) ⟨HD.out.c0, HD.out.c1, HD.out.c2⟩ (fun hHeld => ?_)
 (refine ti 0 ?_; simp only [Act.put, tA, tB, tD, tE, tF])
 (refine ti 1 ?_; simp only [Act.put, tA, tB, tC, tD, tE, tF])
 (refine ti 2 ?_; simp only [Act.put, tA, tB, tC, tD, tE, tF])
 (refine ti 3 ?_; simp only [Act.put, tA, tB, tC, tD, tE, tF])
 (refine ti 4 ?_; simp only [Act.put, tA, tB, tC, tD, tE, tF])
 (refine tu 5 ?_; simp only [Act.put, tA, tB, tC, tD, tE, tF])
 (refine tu 6 ?_; simp only [Act.put, tA, tB, tC, tD, tE, tF])
 (refine tu 7 ?_; simp only [Act.put, tA, tB, tC, tD, tE, tF])
 (refine tu 8 ?_; simp only [Act.put, tA, tB, tC, tD, tE, tF])
 (refine tu 9 ?_; simp only [Act.put, tA, tB, tC, tD, tE, tF])
 (refine tu 10 ?_; simp only [Act.put, tA, tB, tC, tD, tE, tF])
 (refine tu 11 ?_; simp only [Act.put, tA, tB, tC, tD, tE, tF])
 (refine tu 12 ?_; simp only [Act.put, tA, tB, tC, tD, tE, tF])
 (refine tu 13 ?_; simp only [Act.put, tA, tB, tC, tD, tE, tF])
 (refine tu 14 ?_; simp only [Act.put, tA, tB, tC, tD, tE, tF])
 (refine ti 15 ?_; simp only [Act.put, tA, tB, tC, tD, tE, tF])
 (refine ti 16 ?_; simp only [Act.put, tA, tB, tC, tD, tE, tF])
 (refine tu 17 ?_; simp only [Act.put, tA, tB, tC, tD, tE, tF])
 (refine tu 18 ?_; simp only [Act.put, tA, tB, tC, tD, tE, tF])
 (refine tu 19 ?_; simp only [Act.put, tA, tB, tC, tD, tE, tF])
 (refine tu 20 ?_; simp only [Act.put, tA, tB, tC, tD, tE, tF])
 (refine tu 21 ?_; simp only [Act.put, tA, tB, tC, tD, tE, tF])
 (refine tu 22 ?_; simp only [Act.put, tA, tB, tC, tD, tE, tF])
 (refine tu 23 ?_; simp only [Act.put, tA, tB, tC, tD, tE, tF])
 (refine tu 24 ?_; simp only [Act.put, tA, tB, tC, tD, tE, tF])
 (refine tu 25 ?_; simp only [Act.put, tA, tB, tC, tD, tE, tF])
 (refine tu 26 ?_; simp only [Act.put, tA, tB, tC, tD, tE, tF])
 (refine ti 27 ?_; simp only [Act.put, tA, tB, tC, tD, tE, tF])
 refine wpAnyH_done (by kernel_rfl) ?_ _
 have HD1 := hide HD.out.drew
 have c2 := HD1.out.c2
 have fz := HD1.out.fz
 go_wp2
 go_ret
 exact ⟨rfl, HD1.out.set 2 _, grown_trans (grown_below _ (belowRefl w).drew) (grown_set _ g 2 _)⟩

set_option maxRecDepth 100000 in
set_option maxHeartbeats 2000000 in
theorem sbit_end (x : ByteArray) (g : Nat) (n : Nat) (h : ¬ n < x.size) (w : World) (hd : Cr w g x (n : Int) false) :
  Calls Tryz.prog 32 #[.pointer (some ⟨g, 0, none⟩)] w fun e w' => e = .returned (.bool false) ∧ Cr w' g x (n : Int) true ∧ w.grownBy w' (some g) := by
 have HD : Hid (Cr w g x (n : Int) false) := hd
 have hgl := hd.lt
 clear hd
 have hge : (x.size : Int) ≤ (n : Int) := by omega
 go_enter Tryz.func32, Tryz.ntmps32
 go_wp2
 refine wp_region_held_drew (S := fun w' => w'.cell? ⟨g, 0, none⟩ = some (.string x) ∧ w'.cell? ⟨g, 1, none⟩ = some (.int .i64 (n : Int)) ∧ w'.cell? ⟨g, 2, none⟩ = some (.bool false)) (by kernel_rfl) ⟨HD.out.c0, HD.out.c1, HD.out.c2⟩ (fun hHeld => ?_)
 (refine ti 0 ?_; simp only [Act.put, tA, tB, tD, tE, tF])
 (refine ti 1 ?_; simp only [Act.put, tA, tB, tC, tD, tE, tF])
 (refine ti 2 ?_; simp only [Act.put, tA, tB, tC, tD, tE, tF])
 (refine ti 3 ?_; simp only [Act.put, tA, tB, tC, tD, tE, tF])
 (refine ti 4 ?_; simp only [Act.put, tA, tB, tC, tD, tE, tF])
 (refine ti 5 ?_; simp only [Act.put, tA, tB, tC, tD, tE, tF])
 (refine ti 6 ?_; simp only [Act.put, tA, tB, tC, tD, tE, tF])
 (refine ti 7 ?_; simp only [Act.put, tA, tB, tC, tD, tE, tF])
 (refine ti 8 ?_; simp only [Act.put, tA, tB, tC, tD, tE, tF])
 (refine ti 9 ?_; simp only [Act.put, tA, tB, tC, tD, tE, tF])
 (refine ti 10 ?_; simp only [Act.put, tA, tB, tC, tD, tE, tF])
 (refine ti 11 ?_; simp only [Act.put, tA, tB, tC, tD, tE, tF])
 (refine ti 12 ?_; simp only [Act.put, tA, tB, tC, tD, tE, tF])
 (refine ti 13 ?_; simp only [Act.put, tA, tB, tC, tD, tE, tF])
 (refine ti 14 ?_; simp only [Act.put, tA, tB, tC, tD, tE, tF])
 (refine ti 15 ?_; simp only [Act.put, tA, tB, tC, tD, tE, tF])
 (refine ti 16 ?_; simp only [Act.put, tA, tB, tC, tD, tE, tF])
 (refine tu 17 ?_; simp only [Act.put, tA, tB, tC, tD, tE, tF])
 (refine tu 18 ?_; simp only [Act.put, tA, tB, tC, tD, tE, tF])
 (refine tu 19 ?_; simp only [Act.put, tA, tB, tC, tD, tE, tF])
 (refine tu 20 ?_; simp only [Act.put, tA, tB, tC, tD, tE, tF])
 (refine tu 21 ?_; simp only [Act.put, tA, tB, tC, tD, tE, tF])
 (refine tu 22 ?_; simp only [Act.put, tA, tB, tC, tD, tE, tF])
 (refine tu 23 ?_; simp only [Act.put, tA, tB, tC, tD, tE, tF])
 (refine tu 24 ?_; simp only [Act.put, tA, tB, tC, tD, tE, tF])
 (refine tu 25 ?_; simp only [Act.put, tA, tB, tC, tD, tE, tF])
 (refine tu 26 ?_; simp only [Act.put, tA, tB, tC, tD, tE, tF])
 (refine ti 27 ?_; simp only [Act.put, tA, tB, tC, tD, tE, tF])
 refine wpAnyH_done (by kernel_rfl) ?_ _
 have HD1 := hide HD.out.drew
 have c2 := HD1.out.c2
 have fz := HD1.out.fz
 go_wp2
 go_ret
 exact ⟨rfl, HD1.out.set 2 _, grown_trans (grown_below _ (belowRefl w).drew) (grown_set _ g 2 _)⟩

set_option maxRecDepth 100000 in
set_option maxHeartbeats 2000000 in
theorem sbit_big (x : ByteArray) (g : Nat) (n : Nat) (h : n < x.size) (hv : 1 < x[n].toNat) (w : World) (hd : Cr w g x (n : Int) false) :
  Calls Tryz.prog 32 #[.pointer (some ⟨g, 0, none⟩)] w fun e w' => e = .returned (.bool false) ∧ Cr w' g x (n : Int) true ∧ w.grownBy w' (some g) := by
 have HD : Hid (Cr w g x (n : Int) false) := hd
 have hgl := hd.lt
 clear hd
 have hlt : (n : Int) < (x.size : Int) := by omega
 have hge : ¬ (x.size : Int) ≤ (n : Int) := by omega
 have hge' : decide (x.size ≤ n) = false := by simpa using h
 have h0 : (0 : Int) ≤ (n : Int) := by omega
 have hv' : (1 : Int) < (x[n].toNat : Int) := by omega
 go_enter Tryz.func32, Tryz.ntmps32
 go_wp2
 refine wp_region_held_drew (S := fun w' => w'.cell? ⟨g, 0, none⟩ = some (.string x) ∧ w'.cell? ⟨g, 1, none⟩ = some (.int .i64 (n : Int)) ∧ w'.cell? ⟨g, 2, none⟩ = some (.bool false)) (by kernel_rfl) ⟨HD.out.c0, HD.out.c1, HD.out.c2⟩ (fun hHeld => ?_)
 (refine ti 0 ?_; simp only [Act.put, tA, tB, tD, tE, tF])
 (refine ti 1 ?_; simp only [Act.put, tA, tB, tC, tD, tE, tF])
 (refine ti 2 ?_; simp only [Act.put, tA, tB, tC, tD, tE, tF])
 (refine ti 3 ?_; simp only [Act.put, tA, tB, tC, tD, tE, tF])
 (refine ti 4 ?_; simp only [Act.put, tA, tB, tC, tD, tE, tF])
 (refine ti 5 ?_; simp only [Act.put, tA, tB, tC, tD, tE, tF])
 (refine ti 6 ?_; simp only [Act.put, tA, tB, tC, tD, tE, tF])
 (refine ti 7 ?_; simp only [Act.put, tA, tB, tC, tD, tE, tF])
 (refine ti 8 ?_; simp only [Act.put, tA, tB, tC, tD, tE, tF])
 (refine ti 9 ?_; simp only [Act.put, tA, tB, tC, tD, tE, tF])
 (refine ti 10 ?_; simp only [Act.put, tA, tB, tC, tD, tE, tF])
 (refine ti 11 ?_; simp only [Act.put, tA, tB, tC, tD, tE, tF])
 (refine ti 12 ?_; simp only [Act.put, tA, tB, tC, tD, tE, tF])
 (refine ti 13 ?_; simp only [Act.put, tA, tB, tC, tD, tE, tF])
 (refine ti 14 ?_; simp only [Act.put, tA, tB, tC, tD, tE, tF])
 (refine ti 15 ?_; simp only [Act.put, tA, tB, tC, tD, tE, tF])
 (refine ti 16 ?_; simp only [Act.put, tA, tB, tC, tD, tE, tF])
 (refine ti 17 ?_; simp only [Act.put, tA, tB, tC, tD, tE, tF])
 (refine ti 18 ?_; simp only [Act.put, tA, tB, tC, tD, tE, tF])
 (refine ti 19 ?_; simp only [Act.put, tA, tB, tC, tD, tE, tF])
 (refine ti 20 ?_; simp only [Act.put, tA, tB, tC, tD, tE, tF])
 (refine ti 21 ?_; simp only [Act.put, tA, tB, tC, tD, tE, tF])
 (refine ti 22 ?_; simp only [Act.put, tA, tB, tC, tD, tE, tF])
 (refine ti 23 ?_; simp only [Act.put, tA, tB, tC, tD, tE, tF])
 (refine ti 24 ?_; simp only [Act.put, tA, tB, tC, tD, tE, tF])
 (refine ti 25 ?_; simp only [Act.put, tA, tB, tC, tD, tE, tF])
 (refine ti 26 ?_; simp only [Act.put, tA, tB, tC, tD, tE, tF])
 (refine ti 27 ?_; simp only [Act.put, tA, tB, tC, tD, tE, tF])
 refine wpAnyH_done (by kernel_rfl) ?_ _
 have HD1 := hide HD.out.drew
 have c2 := HD1.out.c2
 have fz := HD1.out.fz
 go_wp2
 go_ret
 exact ⟨rfl, HD1.out.set 2 _, grown_trans (grown_below _ (belowRefl w).drew) (grown_set _ g 2 _)⟩

set_option maxRecDepth 100000 in
set_option maxHeartbeats 2000000 in
theorem sbit_0 (x : ByteArray) (g : Nat) (n : Nat) (hs : x.size ≤ 1048576) (h : n < x.size) (hv : x[n].toNat = 0) (w : World) (hd : Cr w g x (n : Int) false) :
  Calls Tryz.prog 32 #[.pointer (some ⟨g, 0, none⟩)] w fun e w' => e = .returned (.bool false) ∧ Cr w' g x ((n : Int) + 1) false ∧ w.grownBy w' (some g) := by
 have HD : Hid (Cr w g x (n : Int) false) := hd
 have hgl := hd.lt
 clear hd
 have hlt : (n : Int) < (x.size : Int) := by omega
 have hge : ¬ (x.size : Int) ≤ (n : Int) := by omega
 have hge' : decide (x.size ≤ n) = false := by simpa using h
 have h0 : (0 : Int) ≤ (n : Int) := by omega
 have hsub : (n : Int) + 1 - 1 = (n : Int) := by omega
 have hwr : IntKind.i64.wrap (n : Int) = (n : Int) := by rw [IntKind.wrap_i64]; omega
 go_enter Tryz.func32, Tryz.ntmps32
 go_wp2
 refine wp_region_held_drew (S := fun w' => w'.cell? ⟨g, 0, none⟩ = some (.string x) ∧ w'.cell? ⟨g, 1, none⟩ = some (.int .i64 (n : Int)) ∧ w'.cell? ⟨g, 2, none⟩ = some (.bool false)) (by kernel_rfl) ⟨HD.out.c0, HD.out.c1, HD.out.c2⟩ (fun hHeld => ?_)
 (refine ti 0 ?_; simp only [Act.put, tA, tB, tD, tE, tF])
 (refine ti 1 ?_; simp only [Act.put, tA, tB, tC, tD, tE, tF])
 (refine ti 2 ?_; simp only [Act.put, tA, tB, tC, tD, tE, tF])
 (refine ti 3 ?_; simp only [Act.put, tA, tB, tC, tD, tE, tF])
 (refine ti 4 ?_; simp only [Act.put, tA, tB, tC, tD, tE, tF])
 (refine ti 5 ?_; simp only [Act.put, tA, tB, tC, tD, tE, tF])
 (refine ti 6 ?_; simp only [Act.put, tA, tB, tC, tD, tE, tF])
 (refine ti 7 ?_; simp only [Act.put, tA, tB, tC, tD, tE, tF])
 (refine ti 8 ?_; simp only [Act.put, tA, tB, tC, tD, tE, tF])
 (refine ti 9 ?_; simp only [Act.put, tA, tB, tC, tD, tE, tF])
 (refine ti 10 ?_; simp only [Act.put, tA, tB, tC, tD, tE, tF])
 (refine ti 11 ?_; simp only [Act.put, tA, tB, tC, tD, tE, tF])
 (refine ti 12 ?_; simp only [Act.put, tA, tB, tC, tD, tE, tF])
 (refine ti 13 ?_; simp only [Act.put, tA, tB, tC, tD, tE, tF])
 (refine ti 14 ?_; simp only [Act.put, tA, tB, tC, tD, tE, tF])
 (refine ti 15 ?_; simp only [Act.put, tA, tB, tC, tD, tE, tF])
 (refine ti 16 ?_; simp only [Act.put, tA, tB, tC, tD, tE, tF])
 (refine ti 17 ?_; simp only [Act.put, tA, tB, tC, tD, tE, tF])
 (refine ti 18 ?_; simp only [Act.put, tA, tB, tC, tD, tE, tF])
 (refine ti 19 ?_; simp only [Act.put, tA, tB, tC, tD, tE, tF])
 (refine ti 20 ?_; simp only [Act.put, tA, tB, tC, tD, tE, tF])
 (refine ti 21 ?_; simp only [Act.put, tA, tB, tC, tD, tE, tF])
 (refine ti 22 ?_; simp only [Act.put, tA, tB, tC, tD, tE, tF])
 (refine ti 23 ?_; simp only [Act.put, tA, tB, tC, tD, tE, tF])
 (refine ti 24 ?_; simp only [Act.put, tA, tB, tC, tD, tE, tF])
 (refine ti 25 ?_; simp only [Act.put, tA, tB, tC, tD, tE, tF])
 (refine ti 26 ?_; simp only [Act.put, tA, tB, tC, tD, tE, tF])
 (refine ti 27 ?_; simp only [Act.put, tA, tB, tC, tD, tE, tF])
 refine wpAnyH_done (by kernel_rfl) ?_ _
 have HD1 := hide HD.out.drew
 have HG1 : Hid (w.grownBy w.drew (some g)) := grown_below _ (belowRefl w).drew
 clear HD
 generalize w.drew = w1 at *
 have c0 := HD1.out.c0
 have c1 := HD1.out.c1
 have fz := HD1.out.fz
 go_wp2
 clear c0 c1 fz
 have HD2 := hide (HD1.out.set 1 (.int .i64 ((n : Int) + 1)))
 have HG2 := hide (grown_trans HG1.out (grown_set w1 g 1 (.int .i64 ((n : Int) + 1))))
 generalize w1.setCell ⟨g, 1, none⟩ (.int .i64 ((n : Int) + 1)) = w2 at *
 have c0 := HD2.out.c0
 have c1 := HD2.out.c1
 refine wp_region_held_drew (S := fun w' => w'.cell? ⟨g, 0, none⟩ = some (.string x) ∧ w'.cell? ⟨g, 1, none⟩ = some (.int .i64 ((n : Int) + 1))) (by kernel_rfl) ⟨c0, c1⟩ (fun hHeld => ?_)
 (refine ti 0 ?_; simp only [Act.put, tA, tB, tD, tE, tF])
 (refine ti 1 ?_; simp only [Act.put, tA, tB, tC, tD, tE, tF])
 (refine ti 2 ?_; simp only [Act.put, tA, tB, tC, tD, tE, tF])
 (refine ti 3 ?_; simp only [Act.put, tA, tB, tC, tD, tE, tF])
 (refine ti 4 ?_; simp only [Act.put, tA, tB, tC, tD, tE, tF])
 (refine ti 5 ?_; simp only [Act.put, tA, tB, tC, tD, tE, tF])
 (refine ti 6 ?_; simp only [Act.put, tA, tB, tC, tD, tE, tF])
 (refine ti 7 ?_; simp only [Act.put, tA, tB, tC, tD, tE, tF])
 (refine ti 8 ?_; simp only [Act.put, tA, tB, tC, tD, tE, tF])
 (refine ti 9 ?_; simp only [Act.put, tA, tB, tC, tD, tE, tF])
 (refine ti 10 ?_; simp only [Act.put, tA, tB, tC, tD, tE, tF])
 (refine ti 11 ?_; simp only [Act.put, tA, tB, tC, tD, tE, tF])
 refine wpAnyH_done (by kernel_rfl) ?_ _
 go_wp2
 go_ret
 exact ⟨rfl, HD2.out.drew, grown_trans HG2.out (grown_below _ (belowRefl w2).drew)⟩

set_option maxRecDepth 100000 in
set_option maxHeartbeats 2000000 in
theorem sbit_1 (x : ByteArray) (g : Nat) (n : Nat) (hs : x.size ≤ 1048576) (h : n < x.size) (hv : x[n].toNat = 1) (w : World) (hd : Cr w g x (n : Int) false) :
  Calls Tryz.prog 32 #[.pointer (some ⟨g, 0, none⟩)] w fun e w' => e = .returned (.bool true) ∧ Cr w' g x ((n : Int) + 1) false ∧ w.grownBy w' (some g) := by
 have HD : Hid (Cr w g x (n : Int) false) := hd
 have hgl := hd.lt
 clear hd
 have hlt : (n : Int) < (x.size : Int) := by omega
 have hge : ¬ (x.size : Int) ≤ (n : Int) := by omega
 have hge' : decide (x.size ≤ n) = false := by simpa using h
 have h0 : (0 : Int) ≤ (n : Int) := by omega
 have hsub : (n : Int) + 1 - 1 = (n : Int) := by omega
 have hwr : IntKind.i64.wrap (n : Int) = (n : Int) := by rw [IntKind.wrap_i64]; omega
 go_enter Tryz.func32, Tryz.ntmps32
 go_wp2
 refine wp_region_held_drew (S := fun w' => w'.cell? ⟨g, 0, none⟩ = some (.string x) ∧ w'.cell? ⟨g, 1, none⟩ = some (.int .i64 (n : Int)) ∧ w'.cell? ⟨g, 2, none⟩ = some (.bool false)) (by kernel_rfl) ⟨HD.out.c0, HD.out.c1, HD.out.c2⟩ (fun hHeld => ?_)
 (refine ti 0 ?_; simp only [Act.put, tA, tB, tD, tE, tF])
 (refine ti 1 ?_; simp only [Act.put, tA, tB, tC, tD, tE, tF])
 (refine ti 2 ?_; simp only [Act.put, tA, tB, tC, tD, tE, tF])
 (refine ti 3 ?_; simp only [Act.put, tA, tB, tC, tD, tE, tF])
 (refine ti 4 ?_; simp only [Act.put, tA, tB, tC, tD, tE, tF])
 (refine ti 5 ?_; simp only [Act.put, tA, tB, tC, tD, tE, tF])
 (refine ti 6 ?_; simp only [Act.put, tA, tB, tC, tD, tE, tF])
 (refine ti 7 ?_; simp only [Act.put, tA, tB, tC, tD, tE, tF])
 (refine ti 8 ?_; simp only [Act.put, tA, tB, tC, tD, tE, tF])
 (refine ti 9 ?_; simp only [Act.put, tA, tB, tC, tD, tE, tF])
 (refine ti 10 ?_; simp only [Act.put, tA, tB, tC, tD, tE, tF])
 (refine ti 11 ?_; simp only [Act.put, tA, tB, tC, tD, tE, tF])
 (refine ti 12 ?_; simp only [Act.put, tA, tB, tC, tD, tE, tF])
 (refine ti 13 ?_; simp only [Act.put, tA, tB, tC, tD, tE, tF])
 (refine ti 14 ?_; simp only [Act.put, tA, tB, tC, tD, tE, tF])
 (refine ti 15 ?_; simp only [Act.put, tA, tB, tC, tD, tE, tF])
 (refine ti 16 ?_; simp only [Act.put, tA, tB, tC, tD, tE, tF])
 (refine ti 17 ?_; simp only [Act.put, tA, tB, tC, tD, tE, tF])
 (refine ti 18 ?_; simp only [Act.put, tA, tB, tC, tD, tE, tF])
 (refine ti 19 ?_; simp only [Act.put, tA, tB, tC, tD, tE, tF])
 (refine ti 20 ?_; simp only [Act.put, tA, tB, tC, tD, tE, tF])
 (refine ti 21 ?_; simp only [Act.put, tA, tB, tC, tD, tE, tF])
 (refine ti 22 ?_; simp only [Act.put, tA, tB, tC, tD, tE, tF])
 (refine ti 23 ?_; simp only [Act.put, tA, tB, tC, tD, tE, tF])
 (refine ti 24 ?_; simp only [Act.put, tA, tB, tC, tD, tE, tF])
 (refine ti 25 ?_; simp only [Act.put, tA, tB, tC, tD, tE, tF])
 (refine ti 26 ?_; simp only [Act.put, tA, tB, tC, tD, tE, tF])
 (refine ti 27 ?_; simp only [Act.put, tA, tB, tC, tD, tE, tF])
 refine wpAnyH_done (by kernel_rfl) ?_ _
 have HD1 := hide HD.out.drew
 have HG1 : Hid (w.grownBy w.drew (some g)) := grown_below _ (belowRefl w).drew
 clear HD
 generalize w.drew = w1 at *
 have c0 := HD1.out.c0
 have c1 := HD1.out.c1
 have fz := HD1.out.fz
 go_wp2
 clear c0 c1 fz
 have HD2 := hide (HD1.out.set 1 (.int .i64 ((n : Int) + 1)))
 have HG2 := hide (grown_trans HG1.out (grown_set w1 g 1 (.int .i64 ((n : Int) + 1))))
 generalize w1.setCell ⟨g, 1, none⟩ (.int .i64 ((n : Int) + 1)) = w2 at *
 have c0 := HD2.out.c0
 have c1 := HD2.out.c1
 refine wp_region_held_drew (S := fun w' => w'.cell? ⟨g, 0, none⟩ = some (.string x) ∧ w'.cell? ⟨g, 1, none⟩ = some (.int .i64 ((n : Int) + 1))) (by kernel_rfl) ⟨c0, c1⟩ (fun hHeld => ?_)
 (refine ti 0 ?_; simp only [Act.put, tA, tB, tD, tE, tF])
 (refine ti 1 ?_; simp only [Act.put, tA, tB, tC, tD, tE, tF])
 (refine ti 2 ?_; simp only [Act.put, tA, tB, tC, tD, tE, tF])
 (refine ti 3 ?_; simp only [Act.put, tA, tB, tC, tD, tE, tF])
 (refine ti 4 ?_; simp only [Act.put, tA, tB, tC, tD, tE, tF])
 (refine ti 5 ?_; simp only [Act.put, tA, tB, tC, tD, tE, tF])
 (refine ti 6 ?_; simp only [Act.put, tA, tB, tC, tD, tE, tF])
 (refine ti 7 ?_; simp only [Act.put, tA, tB, tC, tD, tE, tF])
 (refine ti 8 ?_; simp only [Act.put, tA, tB, tC, tD, tE, tF])
 (refine ti 9 ?_; simp only [Act.put, tA, tB, tC, tD, tE, tF])
 (refine ti 10 ?_; simp only [Act.put, tA, tB, tC, tD, tE, tF])
 (refine ti 11 ?_; simp only [Act.put, tA, tB, tC, tD, tE, tF])
 refine wpAnyH_done (by kernel_rfl) ?_ _
 go_wp2
 go_ret
 exact ⟨rfl, HD2.out.drew, grown_trans HG2.out (grown_below _ (belowRefl w2).drew)⟩

theorem sbit7 (x : ByteArray) (g : Nat) (p : Int) (b : Bool) (hs : x.size ≤ 1048576) (hp : b = false → 0 ≤ p) (w : World) (hd : Cr w g x p b) :
  Calls Tryz.prog 32 #[.pointer (some ⟨g, 0, none⟩)] w fun e w' => ∃ (n : Bool) (p' : Int) (b' : Bool), e = .returned (.bool n) ∧ Stp (rF x p) false n p p' b b' ∧ Cr w' g x p' b' ∧ w.grownBy w' (some g) := by
 cases b
 ·obtain ⟨n, rfl⟩ := Int.eq_ofNat_of_zero_le (hp rfl)
  by_cases h : n < x.size
  ·rw [rF_byte h]
   by_cases h1 : x[n].toNat ≤ 1
   ·rw [if_pos h1]
    rcases (by omega : x[n].toNat = 0 ∨ x[n].toNat = 1) with hv | hv
    ·refine (sbit_0 x g n hs h hv w hd).mono ?_
     rintro e w' ⟨rfl, k1, k2⟩
     exact ⟨false, (n : Int) + 1, false, rfl, Or.inr (Or.inr ⟨rfl, rfl, n + 1, by rw [hv]; rfl, by omega⟩), k1, k2⟩
    ·refine (sbit_1 x g n hs h hv w hd).mono ?_
     rintro e w' ⟨rfl, k1, k2⟩
     exact ⟨true, (n : Int) + 1, false, rfl, Or.inr (Or.inr ⟨rfl, rfl, n + 1, by rw [hv]; rfl, by omega⟩), k1, k2⟩
   ·rw [if_neg h1]
    refine (sbit_big x g n h (by omega) w hd).mono ?_
    rintro e w' ⟨rfl, k1, k2⟩
    exact ⟨false, n, true, rfl, Or.inr (Or.inl ⟨rfl, rfl, rfl, rfl, rfl⟩), k1, k2⟩
  ·rw [rF_end h]
   refine (sbit_end x g n h w hd).mono ?_
   rintro e w' ⟨rfl, k1, k2⟩
   exact ⟨false, n, true, rfl, Or.inr (Or.inl ⟨rfl, rfl, rfl, rfl, rfl⟩), k1, k2⟩
 ·refine (sbit_bad x g p w hd).mono ?_
  rintro e w' ⟨rfl, k1, k2⟩
  exact ⟨false, p, true, rfl, Or.inl ⟨rfl, rfl, rfl, rfl⟩, k1, k2⟩

end Go.Proofs.YtpnnncfbodfnhaaGreatDoor
