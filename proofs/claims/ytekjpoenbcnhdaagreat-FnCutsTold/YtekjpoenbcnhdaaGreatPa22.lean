/- Drawn texts and drawn logs, right or not. -/
import Derived.Test.YtekjpoenbcnhdaaGreatPa20
import Derived.Test.YtekjpoenbcnhdaaGreatPa21
import Derived.Deep.Cut
import Derived.Deep.CutRange
namespace Go.Proofs.YtekjpoenbcnhdaaGreat
open Go.RowKit
open DM
attribute [local go_sem ↓] Go.wp_at_zero Go.wp_at_succ

set_option maxHeartbeats 400000 in
theorem pickR (g len cap : Nat) (a : Option Addr) (g2 n c2 : Nat) (h0 : 0 < n) (hn : n ≤ 1000) (hl : len ≤ 1048576) (w : World) (hc : CurOk w g a len cap) (hne : g2 ≠ g) (hg2 : g2 < w.heap.size)
  (hcells : ∀ j, j < n → ∃ z : Int, 0 ≤ z ∧ z ≤ 30000 ∧ w.cell? ⟨g2, j, none⟩ = some (.int .i64 z)) :
  Calls Tryz.prog 87 #[.pointer (some ⟨g, 0, none⟩), .slice (some ⟨g2, 0, none⟩) n c2] w fun e w' => ∃ z : Int, 0 ≤ z ∧ z ≤ 30000 ∧ e = .returned (.int .i64 z) ∧ CurOk w' g a len cap ∧ w.grownBy w' (some g) := by
 have HC : Hid (CurOk w g a len cap) := hc
 have HZ : Hid (∀ j, j < n → ∃ z : Int, 0 ≤ z ∧ z ≤ 30000 ∧ w.cell? ⟨g2, j, none⟩ = some (.int .i64 z)) := hcells
 clear hc hcells
 go_enter Tryz.func87, Tryz.ntmps87
 go_wp2_with fail
 refine (below21 g len cap a n h0 (by omega) hl _ HC.out).mono ?_
 rintro e w1 ⟨x, hx, rfl, hc1, hg1⟩
 have HC1 : Hid (CurOk w1 g a len cap) := hc1
 have HG1 : Hid (w.grownBy w1 (some g)) := hg1
 obtain ⟨z, z0, z1, hz⟩ := HZ.out x hx
 have hz1 : w1.cell? ⟨g2, x, none⟩ = some (.int .i64 z) := (World.cell?_of_block (w := w) (a := ⟨g2, x, none⟩) (hg1.block g2 hg2 (fun e => hne (Option.some.inj e)))).trans hz
 have Z0 : Hid (0 ≤ z) := z0
 have Z1 : Hid (z ≤ 30000) := z1
 clear hc1 hg1 hz z0 z1
 have hx' : (x : Int) < (n : Int) := by omega
 have hx0 : (0 : Int) ≤ (x : Int) := by omega
 go_wp2
 go_ret
 exact ⟨z, Z0.out, Z1.out, rfl, HC1.out, HG1.out⟩

theorem hide0 {p : Prop} (h : p) : Hid p := h
theorem longB_size (n : Nat) (x : UInt8) : (longB n x).size = n := by simp [longB, ByteArray.size]
theorem CodeRow.blk {w : World} {a : Option Addr} {len : Nat} (hr : CodeRow w a len) : ∀ b off, a = some ⟨b, off, none⟩ → 0 < len → b < w.heap.size := fun b off e h0 => by
 obtain ⟨b', off', e', hb', _⟩ := hr h0
 rw [e] at e'
 cases e'
 exact hb'
theorem pick_four (W : World) : ∀ j, j < 4 → ∃ z : Int, 0 ≤ z ∧ z ≤ 30000 ∧ (W.alloc (.cells #[.int .i64 0, .int .i64 3006, .int .i64 3007, .int .i64 2000] 3)).cell? ⟨W.heap.size, j, none⟩ = some (.int .i64 z) := fun j hj => by
 match j, hj with
 | 0, _ => exact ⟨0, by omega, by omega, by simp [go_sem]⟩
 | 1, _ => exact ⟨3006, by omega, by omega, by simp [go_sem]⟩
 | 2, _ => exact ⟨3007, by omega, by omega, by simp [go_sem]⟩
 | 3, _ => exact ⟨2000, by omega, by omega, by simp [go_sem]⟩

set_option maxRecDepth 100000 in
set_option maxHeartbeats 4000000 in
theorem said82 (g len cap : Nat) (a : Option Addr) (hl : len ≤ 1048576) (w : World) (hc : CurOk w g a len cap) (hg : g < w.heap.size) (hcode : ∀ b off, a = some ⟨b, off, none⟩ → 0 < len → b < w.heap.size) :
  Calls Tryz.prog 56 #[.pointer (some ⟨g, 0, none⟩)] w fun e w' => ∃ s : ByteArray, s.size ≤ 30000 ∧ e = .returned (.string s) ∧ CurOk w' g a len cap ∧ w.grownBy w' (some g) := by
 have HCODE : Hid (∀ b off, a = some ⟨b, off, none⟩ → 0 < len → b < w.heap.size) := hcode
 have HBL : Hid (∀ (n : Nat) (W : World), 0 < n → n ≤ 1000000000 → CurOk W g a len cap → Calls Tryz.prog 19 #[.pointer (some ⟨g, 0, none⟩), .int .i64 (n : Int)] W fun e w' => ∃ x : Nat, x < n ∧ e = .returned (.int .i64 (x : Int)) ∧ CurOk w' g a len cap ∧ W.grownBy w' (some g)) := fun n W h0 h1 h => below21 g len cap a n h0 h1 hl W h
 have HON : Hid (∀ (W : World), CurOk W g a len cap → Calls Tryz.prog 24 #[.pointer (some ⟨g, 0, none⟩), .int .i64 10] W fun e w' => ∃ b : Bool, e = .returned (.bool b) ∧ CurOk w' g a len cap ∧ W.grownBy w' (some g)) := fun W h => once19 g len cap a 10 (by omega) (by omega) hl W h
 have HTX : Hid (∀ (x : Nat) (W : World), x < 90 → DS w g a len cap W → Calls Tryz.prog 63 #[.pointer (some ⟨g, 0, none⟩), .int .i64 (1 + (x : Int))] W fun e w' => ∃ s : ByteArray, s.size ≤ 30000 ∧ e = .returned (.string s) ∧ CurOk w' g a len cap ∧ W.grownBy w' (some g)) := fun x W hx h => by
  have h2 := text22 g len cap a (1 + x) (by omega) hl W h.cur (Nat.lt_of_lt_of_le hg h.gr.size) (fun b off e h0 => Nat.lt_of_lt_of_le (hcode b off e h0) h.gr.size)
  rw [size3 hx] at h2
  refine h2.mono ?_
  rintro e w' ⟨s, hs, h3⟩
  exact ⟨s, by omega, h3⟩
 have HLG : Hid (∀ (n : Nat) (W : World), n ≤ 30000 → Calls Tryz.prog 61 #[.int .i64 (n : Int), .int .u8 97] W fun e w' => ∃ s : ByteArray, s.size ≤ 30000 ∧ e = .returned (.string s) ∧ Below W.heap.size W w') := fun n W h => by
  refine (long84 n 97 h W).mono ?_
  rintro e w' ⟨he, hb⟩
  exact ⟨_, by rw [longB_size]; exact h, he, hb⟩
 have DS0 : Hid (DS w g a len cap w) := ⟨hc, grown_refl w _⟩
 clear hc hcode
 go_enter Tryz.func56, Tryz.ntmps56
 go_wp2_with fail
 refine (HON.out _ DS0.out.cur).mono ?_
 rintro e w1 ⟨b, rfl, hc1, hg1⟩
 have DS1 : Hid (DS w g a len cap w1) := DS0.out.step hc1 hg1
 clear hc1 hg1 DS0
 cases b with
 | true =>
  have hgl : g < w1.heap.size := Nat.lt_of_lt_of_le hg DS1.out.gr.size
  have DS2 : Hid (DS w g a len cap (w1.alloc (.cells #[.int .i64 0, .int .i64 3006, .int .i64 3007, .int .i64 2000] 3))) := DS1.out.alloc hg _
  go_wp2_with fail
  refine (pickR g len cap a w1.heap.size 4 4 (by omega) (by omega) hl _ DS2.out.cur (by omega) (by simp) (pick_four w1)).mono ?_
  rintro e w2 ⟨z, z0, z1, rfl, hc2, hg2⟩
  have DS3 : Hid (DS w g a len cap w2) := DS2.out.step hc2 hg2
  obtain ⟨n, rfl⟩ : ∃ n : Nat, z = (n : Int) := ⟨z.toNat, by omega⟩
  have hn : n ≤ 30000 := by omega
  clear hc2 hg2 DS1 DS2 hgl z0 z1
  go_wp2_with fail
  refine (HLG.out n _ hn).mono ?_
  rintro e w3 ⟨s, hs, rfl, hb3⟩
  have DS4 : Hid (DS w g a len cap w3) := DS3.out.call hg hb3
  clear hb3 DS3
  go_wp2
  go_ret
  exact ⟨s, hs, rfl, DS4.out.cur, DS4.out.gr⟩
 | false =>
  go_wp2_with fail
  refine (HBL.out 90 _ (by omega) (by omega) DS1.out.cur).mono ?_
  rintro e w2 ⟨x, hx, rfl, hc2, hg2⟩
  have DS2 : Hid (DS w g a len cap w2) := DS1.out.step hc2 hg2
  have hw5 : IntKind.i64.wrap (1 + (x : Int)) = 1 + (x : Int) := by rw [IntKind.wrap_i64]; omega
  clear hc2 hg2 DS1
  go_wp2_with fail
  refine (HTX.out x _ hx DS2.out).mono ?_
  rintro e w3 ⟨s, hs, rfl, hc3, hg3⟩
  have DS3 : Hid (DS w g a len cap w3) := DS2.out.step hc3 hg3
  clear hc3 hg3 DS2 hw5
  go_wp2
  go_ret
  exact ⟨s, hs, rfl, DS3.out.cur, DS3.out.gr⟩

def LaI (ss : List ByteArray) (ps : List Wr) : Prop := ss.length ≤ 1048576 ∧ ps.length ≤ 1048576 ∧ (∀ s ∈ ss, s.size ≤ 1048576) ∧ (∀ p ∈ ps, p.2.size ≤ 1048576)
theorem LaI.ok {ss : List ByteArray} {ps : List Wr} (h : okB ss ps = true) : LaI ss ps := by
 have hO := okB_iff.1 h
 exact ⟨by have := hO.2.1; omega, by have := hO.2.2.1; omega, fun s hs => by have := hO.2.2.2.1 s hs; omega, fun p hp => by have := (hO.2.2.2.2 p hp).2.2; omega⟩
theorem LaI.cut {ss : List ByteArray} {ps : List Wr} (h : LaI ss ps) (n : Nat) : LaI (ss.take n) ps := ⟨Nat.le_trans (List.length_take_le' _ _) h.1, h.2.1, fun s hs => h.2.2.1 s (List.mem_of_mem_take hs), h.2.2.2⟩
theorem own_cut {w : World} {b e sz n g c x : Nat} {xs : List Value} (h : w.ownsRow b e sz (.slice (some ⟨g, 0, none⟩) n c) n xs) (hx : x ≤ n) : w.ownsRow b e sz (.slice (some ⟨g, 0, none⟩) x c) x (xs.take (x * sz)) := by
 have hle : x * sz ≤ n * sz := Nat.mul_le_mul_right _ hx
 refine ⟨by rw [List.length_take, h.1]; omega, ?_⟩
 rcases h.2 with ⟨hv, _⟩ | ⟨g', cap, cur, hv, hb, hg, hn, hm, hs, hc⟩
 ·cases hv
 ·cases hv
  refine Or.inr ⟨g, c, cur, rfl, hb, hg, by omega, hm, hs, ?_⟩
  rw [← hc, List.take_take]
  congr 1
  omega
theorem own_cap {w : World} {b e sz n g c : Nat} {xs : List Value} (h : w.ownsRow b e sz (.slice (some ⟨g, 0, none⟩) n c) n xs) : n ≤ c := by
 rcases h.2 with ⟨hv, _⟩ | ⟨g', cap, cur, hv, hb, hg, hn, hm, hs, hc⟩
 ·cases hv
 ·cases hv; exact hn
theorem scs_take (ss : List ByteArray) (x : Nat) : (scs ss).take (x * 1) = scs (ss.take x) := by unfold scs; rw [Nat.mul_one, List.map_take]
theorem wsP_ok {ss : List ByteArray} {ps : List Wr} (h : LaI ss ps) (hp : ps.length ≤ 100) (at' : Int) (t : ByteArray) (ht : t.size ≤ 64) : LaI ss (wsP ss ps at' t) := by
 unfold wsP
 split
 ·exact ⟨h.1, by simp; omega, h.2.2.1, fun p hp => by
   rcases List.mem_append.1 hp with h1 | h1
   ·exact h.2.2.2 p h1
   ·rw [List.mem_singleton.1 h1]; show t.size ≤ _; omega⟩
 ·exact h
def AlQ (w : World) (g : Nat) (a : Option Addr) (len cap : Nat) (e : Ending) (w' : World) : Prop := ∃ (ss : List ByteArray) (cur : List Wr) (b1 : Option Addr) (d1 : Nat) (b2 : Option Addr) (d2 : Nat), e = .returned (.agg #[.slice b1 ss.length d1, .slice b2 cur.length d2]) ∧ DOwn w' w.heap.size b1 d1 b2 d2 ss cur ∧ LaI ss cur ∧ CurOk w' g a len cap ∧ w.grownBy w' (some g)

set_option maxRecDepth 100000 in
set_option maxHeartbeats 4000000 in
theorem any83 (g len cap : Nat) (a : Option Addr) (hl : len ≤ 1048576) (w : World) (hc : CurOk w g a len cap) (hg : g < w.heap.size) (hcode : ∀ b off, a = some ⟨b, off, none⟩ → 0 < len → b < w.heap.size) :
  Calls Tryz.prog 23 #[.pointer (some ⟨g, 0, none⟩)] w fun e w' => AlQ w g a len cap e w' := by
 have HCODE : Hid (∀ b off, a = some ⟨b, off, none⟩ → 0 < len → b < w.heap.size) := hcode
 have HBL : Hid (∀ (n : Nat) (W : World), 0 < n → n ≤ 1000000000 → CurOk W g a len cap → Calls Tryz.prog 19 #[.pointer (some ⟨g, 0, none⟩), .int .i64 (n : Int)] W fun e w' => ∃ x : Nat, x < n ∧ e = .returned (.int .i64 (x : Int)) ∧ CurOk w' g a len cap ∧ W.grownBy w' (some g)) := fun n W h0 h1 h => below21 g len cap a n h0 h1 hl W h
 obtain ⟨P, hP⟩ : ∃ P, P = lgP := ⟨_, rfl⟩
 have hP0 : P = [] := hP
 have HLD : Hid (∀ (W : World), DS w g a len cap W → Calls Tryz.prog 26 #[.pointer (some ⟨g, 0, none⟩)] W fun e w' => ∃ (cur : List ByteArray) (b1 : Option Addr) (d1 : Nat) (b2 : Option Addr) (d2 : Nat), e = .returned (.agg #[.slice b1 cur.length d1, .slice b2 P.length d2]) ∧ DOwn w' W.heap.size b1 d1 b2 d2 cur P ∧ (okB cur P = true ∧ cur.length = 97) ∧ CurOk w' g a len cap ∧ W.grownBy w' (some g)) := fun W h => by
  have h2 := slogd73 g len cap a hl W h.cur (Nat.lt_of_lt_of_le hg h.gr.size) (fun b off e h0 => Nat.lt_of_lt_of_le (hcode b off e h0) h.gr.size)
  rw [← hP] at h2
  refine h2.mono ?_
  rintro e w' ⟨cur, b1, d1, b2, d2, h3, h4, h5, h6, h7⟩
  have hp := logB_parts h5.1
  exact ⟨cur, b1, d1, b2, d2, h3, h4, ⟨by rw [hP0]; exact hp.1, by omega⟩, h6, h7⟩
 have HFL : Hid (∀ (B : Nat) (W : World) (x1 : Option Addr) (x2 : Nat) (x3 : Option Addr) (x4 : Nat) {S : List ByteArray} {Q : List Wr}, okB S Q = true → DOwn W B x1 x2 x3 x4 S Q → Calls Tryz.prog 40 #[.agg #[.slice x1 S.length x2, .slice x3 Q.length x4]] W fun e w' => ∃ (FS : List ByteArray) (FP : List Wr) (f1 : Option Addr) (f2 : Nat) (f3 : Option Addr) (f4 : Nat), e = .returned (.agg #[.slice f1 FS.length f2, .slice f3 FP.length f4]) ∧ DOwn w' W.heap.size f1 f2 f3 f4 FS FP ∧ LaI FS FP ∧ Below W.heap.size W w') := fun B W x1 x2 x3 x4 {S Q} hok h => by
  have hb := LaI.ok hok
  refine (sflush38 S Q x1 x3 x2 x4 B (by have := hb.1; omega) (by have := hb.2.1; omega) W h).mono ?_
  rintro e w' ⟨f1, f2, f3, f4, he, hd, hb'⟩
  exact ⟨_, _, f1, f2, f3, f4, he, hd, LaI.ok (okB_flush hok), hb'⟩
 have DS0 : Hid (DS w g a len cap w) := ⟨hc, grown_refl w _⟩
 have hPl : P.length = 0 := by rw [hP0]; rfl
 have HPL : Hid (P.length = 0) := hPl
 clear hc hcode hP hP0 hPl
 have YR0 : Hid (Bx (w.alloc (.cells #[.slice none 0 0, .slice none 0 0] 27)) w.heap.size (.slice none 0 0) (.slice none 0 0)) := Bx.new w _ _ 27
 have DS1 : Hid (DS w g a len cap (w.alloc (.cells #[.slice none 0 0, .slice none 0 0] 27))) := DS0.out.alloc hg _
 have z0 : w.heap.size + 1 ≤ (w.alloc (.cells #[.slice none 0 0, .slice none 0 0] 27)).heap.size := by simp
 go_enter Tryz.func23, Tryz.ntmps23
 go_wp2_with fail
 refine (HBL.out 10 _ (by omega) (by omega) DS1.out.cur).mono ?_
 rintro e wa ⟨k, hk, rfl, hca, hga⟩
 have YRa : Hid (Bx wa w.heap.size (.slice none 0 0) (.slice none 0 0)) := YR0.out.keptG hga hg
 have DSa : Hid (DS w g a len cap wa) := DS1.out.step hca hga
 have za : w.heap.size + 1 ≤ wa.heap.size := Nat.le_trans z0 hga.size
 clear hca hga YR0 DS1 DS0 z0
 go_wp2_with fail
 refine (HBL.out 60 _ (by omega) (by omega) DSa.out.cur).mono ?_
 rintro e wb ⟨x, hx, rfl, hcb, hgb⟩
 have YRb : Hid (Bx wb w.heap.size (.slice none 0 0) (.slice none 0 0)) := YRa.out.keptG hgb hg
 have DSb : Hid (DS w g a len cap wb) := DSa.out.step hcb hgb
 have zb : w.heap.size + 1 ≤ wb.heap.size := Nat.le_trans za hgb.size
 clear hcb hgb YRa DSa za
 go_wp2_with fail
 refine (HLD.out _ DSb.out).mono ?_
 rintro e wc ⟨cur, c1, c2, c3, c4, rfl, hdc, hIc, hcc, hgc⟩
 have YRc : Hid (Bx wc w.heap.size (.slice none 0 0) (.slice none 0 0)) := YRb.out.keptG hgc hg
 have DSc : Hid (DS w g a len cap wc) := DSb.out.step hcc hgc
 have zc : w.heap.size + 1 ≤ wc.heap.size := Nat.le_trans zb hgc.size
 have HDc : Hid (DOwn wc wb.heap.size c1 c2 c3 c4 cur P) := hdc
 have HOK : Hid (okB cur P = true) := hIc.1
 have HCL : Hid (cur.length = 97) := hIc.2
 have hcl : 97 ≤ cur.length := by omega
 have hcl2 : cur.length ≤ 97 := by omega
 have hpl : P.length ≤ 0 := by have := HPL.out; omega
 have HI : Hid (LaI cur P) := LaI.ok hIc.1
 clear hdc hIc hcc hgc YRb DSb zb HLD
 go_wp2_with fail
 refine (copy64 cur P c1 c3 c2 c4 _ (by omega) (by omega) _ HDc.out).mono ?_
 rintro e w2 ⟨x1, x2, x3, x4, rfl, hd2, hb2⟩
 have YR2 : Hid (Bx (w2.alloc (.cells #[.slice x1 cur.length x2, .slice x3 P.length x4] 27)) w.heap.size (.slice none 0 0) (.slice none 0 0)) := (YRc.out.keep hb2 YRc.out.lt).alloc _
 have YX2 : Hid (Bx (w2.alloc (.cells #[.slice x1 cur.length x2, .slice x3 P.length x4] 27)) w2.heap.size (.slice x1 cur.length x2) (.slice x3 P.length x4)) := Bx.new w2 _ _ 27
 have DX2 : Hid (DOwn (w2.alloc (.cells #[.slice x1 cur.length x2, .slice x3 P.length x4] 27)) (w.heap.size + 1) x1 x2 x3 x4 cur P) := (hd2.mono zc).below ((belowRefl w2).alloc (Nat.le_refl _) _)
 have DS2 : Hid (DS w g a len cap (w2.alloc (.cells #[.slice x1 cur.length x2, .slice x3 P.length x4] 27))) := (DSc.out.call hg hb2).alloc hg _
 have HR2 : Hid (Bx w2 w.heap.size (.slice none 0 0) (.slice none 0 0)) := YRc.out.keep hb2 YRc.out.lt
 have HD2 : Hid (DOwn w2 (w.heap.size + 1) x1 x2 x3 x4 cur P) := hd2.mono zc
 have HS2 : Hid (DS w g a len cap w2) := DSc.out.call hg hb2
 have hX : w.heap.size + 1 ≤ w2.heap.size := Nat.le_trans zc hb2.size
 clear hd2 hb2 zc YRc DSc HDc
 obtain ⟨y2, hy2⟩ : ∃ y2 : Nat, y2 = x % 2 := ⟨_, rfl⟩
 have hy2l : y2 < 2 := by rw [hy2]; exact Nat.mod_lt _ (by omega)
 have HY2 : Hid (Int.tmod (x : Int) 2 = (y2 : Int)) := by show _ = _; rw [hy2]; rfl
 clear hy2
 obtain ⟨q, hq, hql⟩ : ∃ q : Nat, af (y2 : Int) = (q : Int) ∧ q < 97 := by
  rcases (show y2 = 0 ∨ y2 = 1 by omega) with h | h <;> subst h
  ·exact ⟨1, by decide, by omega⟩
  ·exact ⟨49, by decide, by omega⟩
 have HAF : Hid (∀ W : World, Calls Tryz.prog 58 #[.int .i64 (y2 : Int)] W fun e w' => e = .returned (.int .i64 (q : Int)) ∧ Below W.heap.size W w') := fun W => by
  have h := saf14 (y2 : Int) W
  rw [hq] at h
  refine h.mono ?_
  rintro e w' ⟨he, rfl⟩
  exact ⟨he, belowRefl _⟩
 have HO1 : Hid (∀ W : World, Calls Tryz.prog 59 #[.int .i64 (x : Int)] W fun e w' => e = .returned (.string (oneB x)) ∧ Below W.heap.size W w') := fun W => sone101 x (by omega) W
 have HO1s : Hid ((oneB x).size = 1) := rfl
 have HW1 : Hid (∀ (B : Nat) (W : World) {x1 : Option Addr} {x2 : Nat} {x3 : Option Addr} {x4 : Nat}, DOwn W B x1 x2 x3 x4 cur P → Calls Tryz.prog 57 #[.agg #[.slice x1 cur.length x2, .slice x3 P.length x4], .int .i64 (q : Int), .int .i64 0, .string (oneB x)] W fun e w' => WbQ W cur P e w') := fun B W {x1 x2 x3 x4} h => swbR cur P q 0 (oneB x) x1 x3 x2 x4 B HOK.out (by omega) (by omega) (by rw [HO1s.out]; omega) W h
 have HW3 : Hid (∀ (B : Nat) (W : World) {x1 : Option Addr} {x2 : Nat} {x3 : Option Addr} {x4 : Nat}, DOwn W B x1 x2 x3 x4 cur P → Calls Tryz.prog 57 #[.agg #[.slice x1 cur.length x2, .slice x3 P.length x4], .int .i64 2, .int .i64 0, .string ⟨#[255, 255]⟩] W fun e w' => WbQ W cur P e w') := fun B W {x1 x2 x3 x4} h => swbR cur P 2 0 ⟨#[255, 255]⟩ x1 x3 x2 x4 B HOK.out (by omega) (by omega) (by show 0 + 2 ≤ 160; omega) W h
 have HLX : Hid (∀ W : World, Calls Tryz.prog 61 #[.int .i64 64, .int .u8 (x : Int)] W fun e w' => e = .returned (.string (longB 64 (UInt8.ofNat x))) ∧ Below W.heap.size W w') := fun W => by
  have h := long84 64 (UInt8.ofNat x) (by omega) W
  rw [toNat_ofNat x (by omega)] at h
  exact h
 obtain ⟨LX, hLX⟩ : ∃ LX, LX = longB 64 (UInt8.ofNat x) := ⟨_, rfl⟩
 have hLXs : LX.size ≤ 64 := by rw [hLX, longB_size]; omega
 rw [← hLX] at HLX
 clear hLX
 have HWS : Hid (∀ (B : Nat) (W : World) {x1 : Option Addr} {x2 : Nat} {x3 : Option Addr} {x4 : Nat}, DOwn W B x1 x2 x3 x4 cur P → Calls Tryz.prog 60 #[.agg #[.slice x1 cur.length x2, .slice x3 P.length x4], .int .i64 (x : Int), .string LX] W fun e w' => ∃ (NP : List Wr) (ok : Bool) (b1 : Option Addr) (d1 : Nat) (b2 : Option Addr) (d2 : Nat), e = .returned (.tuple #[.agg #[.slice b1 cur.length d1, .slice b2 NP.length d2], .bool ok]) ∧ DOwn w' W.heap.size b1 d1 b2 d2 cur NP ∧ LaI cur NP ∧ Below W.heap.size W w') := fun B W {x1 x2 x3 x4} h => by
  refine (sws45 cur P (x : Int) LX x1 x3 x2 x4 B (by omega) (by omega) W h).mono ?_
  rintro e w' ⟨b1, d1, b2, d2, he, hd, hb⟩
  exact ⟨_, _, b1, d1, b2, d2, he, hd, wsP_ok HI.out (by omega) _ _ hLXs, hb⟩
 generalize oneB x = ON at *
 clear hLXs hq hql
 by_cases hk0 : k < 1
 ·clear HW1 HW3 HWS HLX HAF HO1 HFL
  obtain rfl : k = 0 := by omega
  obtain ⟨gs, rfl, hbg, hgl⟩ := own_form HD2.out.s (by omega)
  have hcap := own_cap HD2.out.s
  have g0 := YX2.out.c0
  have g1 := YX2.out.c1
  have gf := YX2.out.fz
  have hx0 : (0 : Int) ≤ (x : Int) := by omega
  have hxc : (x : Int) ≤ (x2 : Int) := by omega
  obtain ⟨T, hT⟩ : ∃ T, T = cur.take x := ⟨_, rfl⟩
  have HTL : Hid (T.length = x) := by show _ = _; rw [hT, List.length_take]; omega
  have HIT : Hid (LaI T P) := by rw [hT]; exact HI.out.cut x
  have HOT : Hid (w2.ownsRow (w.heap.size + 1) 9 1 (.slice (some ⟨gs, 0, none⟩) x x2) x (scs T)) := by
   have h := own_cut HD2.out.s (x := x) (by omega)
   rw [scs_take] at h
   rw [hT]
   exact h
  clear hT
  have YX3 : Hid (Bx (w2.alloc (.cells #[.slice (some ⟨gs, 0, none⟩) x x2, .slice x3 P.length x4] 27)) w2.heap.size (.slice (some ⟨gs, 0, none⟩) x x2) (.slice x3 P.length x4)) := Bx.new w2 _ _ 27
  have YR3 : Hid (Bx (w2.alloc (.cells #[.slice (some ⟨gs, 0, none⟩) x x2, .slice x3 P.length x4] 27)) w.heap.size (.slice none 0 0) (.slice none 0 0)) := HR2.out.alloc _
  have DX3 : Hid (DOwn (w2.alloc (.cells #[.slice (some ⟨gs, 0, none⟩) x x2, .slice x3 P.length x4] 27)) (w.heap.size + 1) (some ⟨gs, 0, none⟩) x2 x3 x4 T P) := ⟨World.ownsRow.alloc (by show World.ownsRow _ _ _ _ _ _ _; rw [HTL.out]; exact HOT.out) _, World.ownsRow.alloc HD2.out.p _⟩
  have DS3 : Hid (DS w g a len cap (w2.alloc (.cells #[.slice (some ⟨gs, 0, none⟩) x x2, .slice x3 P.length x4] 27))) := HS2.out.alloc hg _
  go_upto_region 15 with fail
  clear g0 g1 gf
  generalize (w2.alloc (.cells #[.slice (some ⟨gs, 0, none⟩) x x2, .slice x3 P.length x4] 27)) = W3 at *
  have q0 := YX3.out.c0
  have q1 := YX3.out.c1
  have r0 := YR3.out.c0
  have r1 := YR3.out.c1
  have rf := YR3.out.fz
  have V9 : Hid (Bx ((W3.setCell ⟨w.heap.size, 0, none⟩ (.slice (some ⟨gs, 0, none⟩) x x2)).setCell ⟨w.heap.size, 1, none⟩ (.slice x3 P.length x4)) w.heap.size (.slice (some ⟨gs, 0, none⟩) x x2) (.slice x3 P.length x4)) := (YR3.out.set0 _).set1 _
  have v0 := V9.out.c0
  have v1 := V9.out.c1
  have DS9 : Hid (DS w g a len cap ((W3.setCell ⟨w.heap.size, 0, none⟩ (.slice (some ⟨gs, 0, none⟩) x x2)).setCell ⟨w.heap.size, 1, none⟩ (.slice x3 P.length x4))) := (DS3.out.set hg HCODE.out _ _ (by show w.heap.size ≤ w.heap.size; omega)).set hg HCODE.out _ _ (by show w.heap.size ≤ w.heap.size; omega)
  go_wp2
  refine bodyPost_ret (v := .agg #[.slice (some ⟨gs, 0, none⟩) x x2, .slice x3 P.length x4]) (by simp [results, Tryz.results23, go_sem, v0, v1]) rfl ⟨T, P, (some ⟨gs, 0, none⟩), x2, x3, x4, by rw [HTL.out], ⟨?_, ?_⟩, HIT.out, DS9.out.cur, DS9.out.gr⟩
  ·exact ((DX3.out.s.set (by show w.heap.size < _; omega) _).set (by show w.heap.size < _; omega) _).mono (by omega)
  ·exact ((DX3.out.p.set (by show w.heap.size < _; omega) _).set (by show w.heap.size < _; omega) _).mono (by omega)
 by_cases hk1 : k < 2
 ·clear HW3 HWS HLX HR2 HS2 HD2
  obtain rfl : k = 1 := by omega
  have g0 := YX2.out.c0
  have g1 := YX2.out.c1
  have gf := YX2.out.fz
  go_upto_region 8 with fail
  generalize hW3 : (w2.alloc (.cells #[.slice x1 cur.length x2, .slice x3 P.length x4] 27)) = w3 at *
  clear hW3
  generalize w2.heap.size = X at *
  have hXl : X < w3.heap.size := YX2.out.lt
  have hrem : Int.tmod (x : Int) 2 = (y2 : Int) := HY2.out
  go_region_law (go_simp; first
     | (go_at_call 58
        refine (HAF.out _).mono ?_
        rintro e w4 ⟨rfl, hb4⟩
        have HB4 : Hid (Below w3.heap.size w3 w4) := undrew hb4
        have o4 := (YX2.out.keep HB4.out YX2.out.lt).c0
        have p4 := (YX2.out.keep HB4.out YX2.out.lt).c1
        have ol4 := (YX2.out.keep HB4.out YX2.out.lt).lt)
     | (go_at_call 59
        refine (HO1.out _).mono ?_
        rintro e w5 ⟨rfl, hb5⟩
        have HB5 : Hid (Below w3.heap.size w3 w5) := HB4.out.trans (hb5.mono HB4.out.size)
        have o5 := (YX2.out.keep HB5.out YX2.out.lt).c0
        have p5 := (YX2.out.keep HB5.out YX2.out.lt).c1
        have ol5 := (YX2.out.keep HB5.out YX2.out.lt).lt)
     | (go_at_call 57
        refine (HW1.out _ _ (DX2.out.below HB5.out)).mono ?_
        rintro e w8 ⟨NP, ok, u1, u2, u3, u4, rfl, hd8, hok8, hn8, hb8⟩
        have HB8 : Hid (Below w3.heap.size w3 w8) := HB5.out.trans (hb8.mono HB5.out.size)
        have YRc : Hid (Bx w8 w.heap.size (.slice none 0 0) (.slice none 0 0)) := YR2.out.keep HB8.out YR2.out.lt
        have YXc : Hid (Bx w8 X (.slice x1 cur.length x2) (.slice x3 P.length x4)) := YX2.out.keep HB8.out YX2.out.lt
        have DSc : Hid (DS w g a len cap w8) := DS2.out.call hg HB8.out
        have DXc : Hid (DOwn w8 (X + 1) u1 u2 u3 u4 cur NP) := hd8.mono (by have := HB5.out.size; omega)
        have HOKc : Hid (okB cur NP = true) := hok8
        have q08 := YXc.out.c0
        have q18 := YXc.out.c1
        have qf8 := YXc.out.fz))
  all_goals
   have YRd : Hid (Bx ((w8.setCell ⟨X, 0, none⟩ (.slice u1 cur.length u2)).setCell ⟨X, 1, none⟩ (.slice u3 NP.length u4)) w.heap.size (.slice none 0 0) (.slice none 0 0)) := (YRc.out.setO (by show X ≠ _; omega) _).setO (by show X ≠ _; omega) _
   have YXd : Hid (Bx ((w8.setCell ⟨X, 0, none⟩ (.slice u1 cur.length u2)).setCell ⟨X, 1, none⟩ (.slice u3 NP.length u4)) X (.slice u1 cur.length u2) (.slice u3 NP.length u4)) := (YXc.out.set0 _).set1 _
   have DXd : Hid (DOwn ((w8.setCell ⟨X, 0, none⟩ (.slice u1 cur.length u2)).setCell ⟨X, 1, none⟩ (.slice u3 NP.length u4)) (w.heap.size + 1) u1 u2 u3 u4 cur NP) := ⟨((DXc.out.s.set (by show X < _; omega) _).set (by show X < _; omega) _).mono (by omega), ((DXc.out.p.set (by show X < _; omega) _).set (by show X < _; omega) _).mono (by omega)⟩
   have DSd : Hid (DS w g a len cap ((w8.setCell ⟨X, 0, none⟩ (.slice u1 cur.length u2)).setCell ⟨X, 1, none⟩ (.slice u3 NP.length u4))) := (DSc.out.set hg HCODE.out _ _ (by show w.heap.size ≤ X; omega)).set hg HCODE.out _ _ (by show w.heap.size ≤ X; omega)
   have HOKd : Hid (okB cur NP = true) := HOKc
   clear hd8 hok8 hn8 hb8
   go_upto_region 9 with fail
   clear q08 q18 qf8 YRc YXc DXc DSc HOKc g0 g1 gf
   generalize ((w8.setCell ⟨X, 0, none⟩ (.slice u1 cur.length u2)).setCell ⟨X, 1, none⟩ (.slice u3 NP.length u4)) = W9 at *
   have hXf : X < W9.heap.size := YXd.out.lt
   have q0 := YXd.out.c0
   have q1 := YXd.out.c1
   go_wp2_with fail
   refine (HFL.out _ W9 _ _ _ _ HOKd.out DXd.out).mono ?_
   rintro e w9 ⟨FS, FP, f1, f2, f3, f4, rfl, hd9, hI9, hb9⟩
   have YRc : Hid (Bx w9 w.heap.size (.slice none 0 0) (.slice none 0 0)) := YRd.out.keep hb9 YRd.out.lt
   have YXc : Hid (Bx w9 X (.slice u1 cur.length u2) (.slice u3 NP.length u4)) := YXd.out.keep hb9 YXd.out.lt
   have DSc : Hid (DS w g a len cap w9) := DSd.out.call hg hb9
   have DXc : Hid (DOwn w9 (X + 1) f1 f2 f3 f4 FS FP) := hd9.mono hXf
   have HI9 := hide0 hI9
   clear hd9 hI9 hb9 q0 q1 YRd YXd DXd DSd
   have q0 := YXc.out.c0
   have q1 := YXc.out.c1
   have qf := YXc.out.fz
   have YRe : Hid (Bx ((w9.setCell ⟨X, 0, none⟩ (.slice f1 FS.length f2)).setCell ⟨X, 1, none⟩ (.slice f3 FP.length f4)) w.heap.size (.slice none 0 0) (.slice none 0 0)) := (YRc.out.setO (by show X ≠ _; omega) _).setO (by show X ≠ _; omega) _
   have YXe : Hid (Bx ((w9.setCell ⟨X, 0, none⟩ (.slice f1 FS.length f2)).setCell ⟨X, 1, none⟩ (.slice f3 FP.length f4)) X (.slice f1 FS.length f2) (.slice f3 FP.length f4)) := (YXc.out.set0 _).set1 _
   have DXe : Hid (DOwn ((w9.setCell ⟨X, 0, none⟩ (.slice f1 FS.length f2)).setCell ⟨X, 1, none⟩ (.slice f3 FP.length f4)) (w.heap.size + 1) f1 f2 f3 f4 FS FP) := ⟨((DXc.out.s.set (by show X < _; omega) _).set (by show X < _; omega) _).mono (by omega), ((DXc.out.p.set (by show X < _; omega) _).set (by show X < _; omega) _).mono (by omega)⟩
   have DSe : Hid (DS w g a len cap ((w9.setCell ⟨X, 0, none⟩ (.slice f1 FS.length f2)).setCell ⟨X, 1, none⟩ (.slice f3 FP.length f4))) := (DSc.out.set hg HCODE.out _ _ (by show w.heap.size ≤ X; omega)).set hg HCODE.out _ _ (by show w.heap.size ≤ X; omega)
   go_upto_region 15 with fail
   clear q0 q1 qf YRc YXc DXc DSc
   generalize ((w9.setCell ⟨X, 0, none⟩ (.slice f1 FS.length f2)).setCell ⟨X, 1, none⟩ (.slice f3 FP.length f4)) = W15 at *
   have q0 := YXe.out.c0
   have q1 := YXe.out.c1
   have r0 := YRe.out.c0
   have r1 := YRe.out.c1
   have rf := YRe.out.fz
   have V9 : Hid (Bx ((W15.setCell ⟨w.heap.size, 0, none⟩ (.slice f1 FS.length f2)).setCell ⟨w.heap.size, 1, none⟩ (.slice f3 FP.length f4)) w.heap.size (.slice f1 FS.length f2) (.slice f3 FP.length f4)) := (YRe.out.set0 _).set1 _
   have v0 := V9.out.c0
   have v1 := V9.out.c1
   have DS9 : Hid (DS w g a len cap ((W15.setCell ⟨w.heap.size, 0, none⟩ (.slice f1 FS.length f2)).setCell ⟨w.heap.size, 1, none⟩ (.slice f3 FP.length f4))) := (DSe.out.set hg HCODE.out _ _ (by show w.heap.size ≤ w.heap.size; omega)).set hg HCODE.out _ _ (by show w.heap.size ≤ w.heap.size; omega)
   go_wp2
   refine bodyPost_ret (v := .agg #[.slice f1 FS.length f2, .slice f3 FP.length f4]) (by simp [results, Tryz.results23, go_sem, v0, v1]) rfl ⟨FS, FP, f1, f2, f3, f4, rfl, ⟨?_, ?_⟩, HI9.out, DS9.out.cur, DS9.out.gr⟩
   ·exact ((DXe.out.s.set (by show w.heap.size < _; omega) _).set (by show w.heap.size < _; omega) _).mono (by omega)
   ·exact ((DXe.out.p.set (by show w.heap.size < _; omega) _).set (by show w.heap.size < _; omega) _).mono (by omega)
 by_cases hk2 : k < 3
 ·clear HW1 HW3 HAF HO1 HFL HR2 HS2 HD2
  obtain rfl : k = 2 := by omega
  have g0 := YX2.out.c0
  have g1 := YX2.out.c1
  have gf := YX2.out.fz
  go_upto_region 11 with fail
  generalize hW3 : (w2.alloc (.cells #[.slice x1 cur.length x2, .slice x3 P.length x4] 27)) = w3 at *
  clear hW3
  generalize w2.heap.size = X at *
  have hXl : X < w3.heap.size := YX2.out.lt
  have hwx : IntKind.u8.wrap (x : Int) = (x : Int) := by rw [IntKind.wrap_u8]; omega
  go_region_law (go_simp; first
     | (go_at_call 61
        refine (HLX.out _).mono ?_
        rintro e w4 ⟨rfl, hb4⟩
        have HB4 : Hid (Below w3.heap.size w3 w4) := undrew hb4
        have o4 := (YX2.out.keep HB4.out YX2.out.lt).c0
        have p4 := (YX2.out.keep HB4.out YX2.out.lt).c1
        have ol4 := (YX2.out.keep HB4.out YX2.out.lt).lt)
     | (go_at_call 60
        refine (HWS.out _ _ (DX2.out.below HB4.out)).mono ?_
        rintro e w8 ⟨NP, ok, u1, u2, u3, u4, rfl, hd8, hI8, hb8⟩
        have HB8 : Hid (Below w3.heap.size w3 w8) := HB4.out.trans (hb8.mono HB4.out.size)
        have YRc : Hid (Bx w8 w.heap.size (.slice none 0 0) (.slice none 0 0)) := YR2.out.keep HB8.out YR2.out.lt
        have YXc : Hid (Bx w8 X (.slice x1 cur.length x2) (.slice x3 P.length x4)) := YX2.out.keep HB8.out YX2.out.lt
        have DSc : Hid (DS w g a len cap w8) := DS2.out.call hg HB8.out
        have DXc : Hid (DOwn w8 (X + 1) u1 u2 u3 u4 cur NP) := hd8.mono (by have := HB4.out.size; omega)
        have HIc : Hid (LaI cur NP) := hI8
        have q08 := YXc.out.c0
        have q18 := YXc.out.c1
        have qf8 := YXc.out.fz))
  all_goals
   have YRd : Hid (Bx ((w8.setCell ⟨X, 0, none⟩ (.slice u1 cur.length u2)).setCell ⟨X, 1, none⟩ (.slice u3 NP.length u4)) w.heap.size (.slice none 0 0) (.slice none 0 0)) := (YRc.out.setO (by show X ≠ _; omega) _).setO (by show X ≠ _; omega) _
   have YXd : Hid (Bx ((w8.setCell ⟨X, 0, none⟩ (.slice u1 cur.length u2)).setCell ⟨X, 1, none⟩ (.slice u3 NP.length u4)) X (.slice u1 cur.length u2) (.slice u3 NP.length u4)) := (YXc.out.set0 _).set1 _
   have DXd : Hid (DOwn ((w8.setCell ⟨X, 0, none⟩ (.slice u1 cur.length u2)).setCell ⟨X, 1, none⟩ (.slice u3 NP.length u4)) (w.heap.size + 1) u1 u2 u3 u4 cur NP) := ⟨((DXc.out.s.set (by show X < _; omega) _).set (by show X < _; omega) _).mono (by omega), ((DXc.out.p.set (by show X < _; omega) _).set (by show X < _; omega) _).mono (by omega)⟩
   have DSd : Hid (DS w g a len cap ((w8.setCell ⟨X, 0, none⟩ (.slice u1 cur.length u2)).setCell ⟨X, 1, none⟩ (.slice u3 NP.length u4))) := (DSc.out.set hg HCODE.out _ _ (by show w.heap.size ≤ X; omega)).set hg HCODE.out _ _ (by show w.heap.size ≤ X; omega)
   clear hd8 hI8 hb8
   go_upto_region 15 with fail
   clear q08 q18 qf8 YRc YXc DXc DSc g0 g1 gf
   generalize ((w8.setCell ⟨X, 0, none⟩ (.slice u1 cur.length u2)).setCell ⟨X, 1, none⟩ (.slice u3 NP.length u4)) = W9 at *
   have q0 := YXd.out.c0
   have q1 := YXd.out.c1
   have r0 := YRd.out.c0
   have r1 := YRd.out.c1
   have rf := YRd.out.fz
   have V9 : Hid (Bx ((W9.setCell ⟨w.heap.size, 0, none⟩ (.slice u1 cur.length u2)).setCell ⟨w.heap.size, 1, none⟩ (.slice u3 NP.length u4)) w.heap.size (.slice u1 cur.length u2) (.slice u3 NP.length u4)) := (YRd.out.set0 _).set1 _
   have v0 := V9.out.c0
   have v1 := V9.out.c1
   have DS9 : Hid (DS w g a len cap ((W9.setCell ⟨w.heap.size, 0, none⟩ (.slice u1 cur.length u2)).setCell ⟨w.heap.size, 1, none⟩ (.slice u3 NP.length u4))) := (DSd.out.set hg HCODE.out _ _ (by show w.heap.size ≤ w.heap.size; omega)).set hg HCODE.out _ _ (by show w.heap.size ≤ w.heap.size; omega)
   go_wp2
   refine bodyPost_ret (v := .agg #[.slice u1 cur.length u2, .slice u3 NP.length u4]) (by simp [results, Tryz.results23, go_sem, v0, v1]) rfl ⟨cur, NP, u1, u2, u3, u4, rfl, ⟨?_, ?_⟩, HIc.out, DS9.out.cur, DS9.out.gr⟩
   ·exact ((DXd.out.s.set (by show w.heap.size < _; omega) _).set (by show w.heap.size < _; omega) _).mono (by omega)
   ·exact ((DXd.out.p.set (by show w.heap.size < _; omega) _).set (by show w.heap.size < _; omega) _).mono (by omega)
 by_cases hk3 : k < 4
 ·clear HW1 HWS HLX HAF HO1 HR2 HS2 HD2
  obtain rfl : k = 3 := by omega
  have g0 := YX2.out.c0
  have g1 := YX2.out.c1
  have gf := YX2.out.fz
  go_upto_region 13 with fail
  generalize hW3 : (w2.alloc (.cells #[.slice x1 cur.length x2, .slice x3 P.length x4] 27)) = w3 at *
  clear hW3
  generalize w2.heap.size = X at *
  have hXl : X < w3.heap.size := YX2.out.lt
  go_wp2_with fail
  refine (HW3.out _ _ DX2.out).mono ?_
  rintro e w8 ⟨NP, ok, u1, u2, u3, u4, rfl, hd8, hok8, hn8, hb8⟩
  have YRc : Hid (Bx w8 w.heap.size (.slice none 0 0) (.slice none 0 0)) := YR2.out.keep hb8 YR2.out.lt
  have YXc : Hid (Bx w8 X (.slice x1 cur.length x2) (.slice x3 P.length x4)) := YX2.out.keep hb8 YX2.out.lt
  have DSc : Hid (DS w g a len cap w8) := DS2.out.call hg hb8
  have DXc : Hid (DOwn w8 (X + 1) u1 u2 u3 u4 cur NP) := hd8.mono hXl
  have HOKd : Hid (okB cur NP = true) := hok8
  clear g0 g1 gf
  have q08 := YXc.out.c0
  have q18 := YXc.out.c1
  have qf8 := YXc.out.fz
  have YRd : Hid (Bx ((w8.setCell ⟨X, 0, none⟩ (.slice u1 cur.length u2)).setCell ⟨X, 1, none⟩ (.slice u3 NP.length u4)) w.heap.size (.slice none 0 0) (.slice none 0 0)) := (YRc.out.setO (by show X ≠ _; omega) _).setO (by show X ≠ _; omega) _
  have YXd : Hid (Bx ((w8.setCell ⟨X, 0, none⟩ (.slice u1 cur.length u2)).setCell ⟨X, 1, none⟩ (.slice u3 NP.length u4)) X (.slice u1 cur.length u2) (.slice u3 NP.length u4)) := (YXc.out.set0 _).set1 _
  have DXd : Hid (DOwn ((w8.setCell ⟨X, 0, none⟩ (.slice u1 cur.length u2)).setCell ⟨X, 1, none⟩ (.slice u3 NP.length u4)) (w.heap.size + 1) u1 u2 u3 u4 cur NP) := ⟨((DXc.out.s.set (by show X < _; omega) _).set (by show X < _; omega) _).mono (by omega), ((DXc.out.p.set (by show X < _; omega) _).set (by show X < _; omega) _).mono (by omega)⟩
  have DSd : Hid (DS w g a len cap ((w8.setCell ⟨X, 0, none⟩ (.slice u1 cur.length u2)).setCell ⟨X, 1, none⟩ (.slice u3 NP.length u4))) := (DSc.out.set hg HCODE.out _ _ (by show w.heap.size ≤ X; omega)).set hg HCODE.out _ _ (by show w.heap.size ≤ X; omega)
  clear hd8 hok8 hn8 hb8
  go_upto_region 14 with fail
  clear q08 q18 qf8 YRc YXc DXc DSc
  generalize ((w8.setCell ⟨X, 0, none⟩ (.slice u1 cur.length u2)).setCell ⟨X, 1, none⟩ (.slice u3 NP.length u4)) = W9 at *
  have hXf : X < W9.heap.size := YXd.out.lt
  have q0 := YXd.out.c0
  have q1 := YXd.out.c1
  go_wp2_with fail
  refine (HFL.out _ W9 _ _ _ _ HOKd.out DXd.out).mono ?_
  rintro e w9 ⟨FS, FP, f1, f2, f3, f4, rfl, hd9, hI9, hb9⟩
  have YRc : Hid (Bx w9 w.heap.size (.slice none 0 0) (.slice none 0 0)) := YRd.out.keep hb9 YRd.out.lt
  have YXc : Hid (Bx w9 X (.slice u1 cur.length u2) (.slice u3 NP.length u4)) := YXd.out.keep hb9 YXd.out.lt
  have DSc : Hid (DS w g a len cap w9) := DSd.out.call hg hb9
  have DXc : Hid (DOwn w9 (X + 1) f1 f2 f3 f4 FS FP) := hd9.mono hXf
  have HI9 := hide0 hI9
  clear hd9 hI9 hb9 q0 q1 YRd YXd DXd DSd
  have q0 := YXc.out.c0
  have q1 := YXc.out.c1
  have qf := YXc.out.fz
  have YRe : Hid (Bx ((w9.setCell ⟨X, 0, none⟩ (.slice f1 FS.length f2)).setCell ⟨X, 1, none⟩ (.slice f3 FP.length f4)) w.heap.size (.slice none 0 0) (.slice none 0 0)) := (YRc.out.setO (by show X ≠ _; omega) _).setO (by show X ≠ _; omega) _
  have YXe : Hid (Bx ((w9.setCell ⟨X, 0, none⟩ (.slice f1 FS.length f2)).setCell ⟨X, 1, none⟩ (.slice f3 FP.length f4)) X (.slice f1 FS.length f2) (.slice f3 FP.length f4)) := (YXc.out.set0 _).set1 _
  have DXe : Hid (DOwn ((w9.setCell ⟨X, 0, none⟩ (.slice f1 FS.length f2)).setCell ⟨X, 1, none⟩ (.slice f3 FP.length f4)) (w.heap.size + 1) f1 f2 f3 f4 FS FP) := ⟨((DXc.out.s.set (by show X < _; omega) _).set (by show X < _; omega) _).mono (by omega), ((DXc.out.p.set (by show X < _; omega) _).set (by show X < _; omega) _).mono (by omega)⟩
  have DSe : Hid (DS w g a len cap ((w9.setCell ⟨X, 0, none⟩ (.slice f1 FS.length f2)).setCell ⟨X, 1, none⟩ (.slice f3 FP.length f4))) := (DSc.out.set hg HCODE.out _ _ (by show w.heap.size ≤ X; omega)).set hg HCODE.out _ _ (by show w.heap.size ≤ X; omega)
  go_upto_region 15 with fail
  clear q0 q1 qf YRc YXc DXc DSc
  generalize ((w9.setCell ⟨X, 0, none⟩ (.slice f1 FS.length f2)).setCell ⟨X, 1, none⟩ (.slice f3 FP.length f4)) = W15 at *
  have q0 := YXe.out.c0
  have q1 := YXe.out.c1
  have r0 := YRe.out.c0
  have r1 := YRe.out.c1
  have rf := YRe.out.fz
  have V9 : Hid (Bx ((W15.setCell ⟨w.heap.size, 0, none⟩ (.slice f1 FS.length f2)).setCell ⟨w.heap.size, 1, none⟩ (.slice f3 FP.length f4)) w.heap.size (.slice f1 FS.length f2) (.slice f3 FP.length f4)) := (YRe.out.set0 _).set1 _
  have v0 := V9.out.c0
  have v1 := V9.out.c1
  have DS9 : Hid (DS w g a len cap ((W15.setCell ⟨w.heap.size, 0, none⟩ (.slice f1 FS.length f2)).setCell ⟨w.heap.size, 1, none⟩ (.slice f3 FP.length f4))) := (DSe.out.set hg HCODE.out _ _ (by show w.heap.size ≤ w.heap.size; omega)).set hg HCODE.out _ _ (by show w.heap.size ≤ w.heap.size; omega)
  go_wp2
  refine bodyPost_ret (v := .agg #[.slice f1 FS.length f2, .slice f3 FP.length f4]) (by simp [results, Tryz.results23, go_sem, v0, v1]) rfl ⟨FS, FP, f1, f2, f3, f4, rfl, ⟨?_, ?_⟩, HI9.out, DS9.out.cur, DS9.out.gr⟩
  ·exact ((DXe.out.s.set (by show w.heap.size < _; omega) _).set (by show w.heap.size < _; omega) _).mono (by omega)
  ·exact ((DXe.out.p.set (by show w.heap.size < _; omega) _).set (by show w.heap.size < _; omega) _).mono (by omega)
 clear HW1 HW3 HWS HLX HAF HO1 HFL HR2 HS2 HD2
 have T0 : ((k : Int) == 0) = false := by simp; omega
 have T1 : ((k : Int) == 1) = false := by simp; omega
 have T2 : ((k : Int) == 2) = false := by simp; omega
 have T3 : ((k : Int) == 3) = false := by simp; omega
 go_upto_region 15 with fail
 generalize hW3 : (w2.alloc (.cells #[.slice x1 cur.length x2, .slice x3 P.length x4] 27)) = w3 at *
 clear hW3
 generalize w2.heap.size = X at *
 have q0 := YX2.out.c0
 have q1 := YX2.out.c1
 have r0 := YR2.out.c0
 have r1 := YR2.out.c1
 have rf := YR2.out.fz
 have V9 : Hid (Bx ((w3.setCell ⟨w.heap.size, 0, none⟩ (.slice x1 cur.length x2)).setCell ⟨w.heap.size, 1, none⟩ (.slice x3 P.length x4)) w.heap.size (.slice x1 cur.length x2) (.slice x3 P.length x4)) := (YR2.out.set0 _).set1 _
 have v0 := V9.out.c0
 have v1 := V9.out.c1
 have DS9 : Hid (DS w g a len cap ((w3.setCell ⟨w.heap.size, 0, none⟩ (.slice x1 cur.length x2)).setCell ⟨w.heap.size, 1, none⟩ (.slice x3 P.length x4))) := (DS2.out.set hg HCODE.out _ _ (by show w.heap.size ≤ w.heap.size; omega)).set hg HCODE.out _ _ (by show w.heap.size ≤ w.heap.size; omega)
 go_wp2
 refine bodyPost_ret (v := .agg #[.slice x1 cur.length x2, .slice x3 P.length x4]) (by simp [results, Tryz.results23, go_sem, v0, v1]) rfl ⟨cur, P, x1, x2, x3, x4, rfl, ⟨?_, ?_⟩, HI.out, DS9.out.cur, DS9.out.gr⟩
 ·exact ((DX2.out.s.set (by show w.heap.size < _; omega) _).set (by show w.heap.size < _; omega) _).mono (by omega)
 ·exact ((DX2.out.p.set (by show w.heap.size < _; omega) _).set (by show w.heap.size < _; omega) _).mono (by omega)

end Go.Proofs.YtekjpoenbcnhdaaGreat
