/- Drawn logs, right or not, of small sectors; what else is drawn of logs. -/
import Derived.Test.YtekjpoenbcnhdaaGreatPa01
import Derived.Test.YtekjpoenbcnhdaaGreatPa23
import Derived.Test.YtekjpoenbcnhdaaGreatPa08
import Derived.Deep.Cut
import Derived.Deep.CutRange
import Derived.Deep.RegionHeld3
namespace Go.Proofs.YtekjpoenbcnhdaaGreat
open Go.RowKit
open DM
attribute [local go_sem ↓] Go.wp_at_zero Go.wp_at_succ

def LbI (ss : List ByteArray) (ps : List Wr) : Prop := ss.length ≤ 100 ∧ ps.length ≤ 100 ∧ (∀ s ∈ ss, s.size ≤ 64) ∧ (∀ p ∈ ps, p.2.size ≤ 64)
theorem LbI.ok {ss : List ByteArray} {ps : List Wr} (h : okB ss ps = true) : LbI ss ps := by
 have hO := okB_iff.1 h
 exact ⟨by have := hO.2.1; omega, by have := hO.2.2.1; omega, fun s hs => by have := hO.2.2.2.1 s hs; omega, fun p hp => by have := (hO.2.2.2.2 p hp).2.2; omega⟩
theorem LbI.cut {ss : List ByteArray} {ps : List Wr} (h : LbI ss ps) (n : Nat) : LbI (ss.take n) ps := ⟨Nat.le_trans (List.length_take_le' _ _) h.1, h.2.1, fun s hs => h.2.2.1 s (List.mem_of_mem_take hs), h.2.2.2⟩
theorem LbI.wide {ss : List ByteArray} {ps : List Wr} (h : LbI ss ps) : LaI ss ps := ⟨Nat.le_trans h.1 (by omega), Nat.le_trans h.2.1 (by omega), fun s hs => Nat.le_trans (h.2.2.1 s hs) (by omega), fun p hp => Nat.le_trans (h.2.2.2 p hp) (by omega)⟩
theorem wsP_okb {ss : List ByteArray} {ps : List Wr} (h : LbI ss ps) (hp : ps.length ≤ 99) (at' : Int) (t : ByteArray) (ht : t.size ≤ 64) : LbI ss (wsP ss ps at' t) := by
 unfold wsP
 split
 ·exact ⟨h.1, by simp; omega, h.2.2.1, fun p hp => by
   rcases List.mem_append.1 hp with h1 | h1
   ·exact h.2.2.2 p h1
   ·rw [List.mem_singleton.1 h1]; exact ht⟩
 ·exact h
theorem rdR_b {ss : List ByteArray} {ps : List Wr} (h : LbI ss ps) (a : Int) : (rdR ss ps a).size ≤ 64 := by
 unfold rdR
 split
 ·unfold rd
  cases h1 : back ps a ps.length with
  | some t =>
   obtain ⟨p, hm, rfl⟩ := back_mem _ h1
   exact h.2.2.2 p hm
  | none =>
   simp only [Option.getD_none]
   rw [List.getD_eq_getElem?_getD]
   cases h2 : ss[a.toNat]? with
   | some s => exact h.2.2.1 s (List.mem_of_getElem? h2)
   | none => exact Nat.zero_le 64
 ·exact Nat.zero_le 64
theorem stx_b {ss : List ByteArray} {ps : List Wr} (h : LbI ss ps) (f : Int) : ∀ k, (stx ss ps f k).length ≤ k * 64
 | 0 => by simp [stx]
 | k + 1 => by
  have h1 := stx_b h f k
  have h2 := rdR_b h (f + k)
  have e : (rdR ss ps (f + k)).data.toList.length = (rdR ss ps (f + k)).size := by simp
  simp only [stx, List.length_append]
  omega
theorem arT_b {ss : List ByteArray} {ps : List Wr} (h : LbI ss ps) (a : Int) : (arT ss ps a).size ≤ 20000 := by
 unfold arT stT
 split
 ·show (stx ss ps (af a + 1) 47).toArray.size ≤ 20000
  have := stx_b h (af a + 1) 47
  simp only [List.size_toArray]
  omega
 ·exact Nat.zero_le 20000
def AlS (w : World) (g : Nat) (a : Option Addr) (len cap : Nat) (e : Ending) (w' : World) : Prop := ∃ (ss : List ByteArray) (cur : List Wr) (b1 : Option Addr) (d1 : Nat) (b2 : Option Addr) (d2 : Nat), e = .returned (.agg #[.slice b1 ss.length d1, .slice b2 cur.length d2]) ∧ DOwn w' w.heap.size b1 d1 b2 d2 ss cur ∧ LbI ss cur ∧ CurOk w' g a len cap ∧ w.grownBy w' (some g)

set_option maxRecDepth 100000 in
set_option maxHeartbeats 4000000 in
theorem any83s (g len cap : Nat) (a : Option Addr) (hl : len ≤ 1048576) (w : World) (hc : CurOk w g a len cap) (hg : g < w.heap.size) (hcode : ∀ b off, a = some ⟨b, off, none⟩ → 0 < len → b < w.heap.size) :
  Calls Tryz.prog 23 #[.pointer (some ⟨g, 0, none⟩)] w fun e w' => AlS w g a len cap e w' := by
 have HCODE : Hid (∀ b off, a = some ⟨b, off, none⟩ → 0 < len → b < w.heap.size) := hcode
 have HBL : Hid (∀ (n : Nat) (W : World), 0 < n → n ≤ 1000000000 → CurOk W g a len cap → Calls Tryz.prog 19 #[.pointer (some ⟨g, 0, none⟩), .int .i64 (n : Int)] W fun e w' => ∃ x : Nat, x < n ∧ e = .returned (.int .i64 (x : Int)) ∧ CurOk w' g a len cap ∧ W.grownBy w' (some g)) := fun n W h0 h1 h => below21 g len cap a n h0 h1 hl W h
 obtain ⟨P, hP⟩ : ∃ P, P = lgP := ⟨_, rfl⟩
 have hP0 : P = [] := hP
 have HLD : Hid (∀ (W : World), DS w g a len cap W → Calls Tryz.prog 26 #[.pointer (some ⟨g, 0, none⟩)] W fun e w' => ∃ (cur : List ByteArray) (b1 : Option Addr) (d1 : Nat) (b2 : Option Addr) (d2 : Nat), e = .returned (.agg #[.slice b1 cur.length d1, .slice b2 P.length d2]) ∧ DOwn w' W.heap.size b1 d1 b2 d2 cur P ∧ (okB cur P = true ∧ cur.length = 97) ∧ CurOk w' g a len cap ∧ W.grownBy w' (some g)) := fun W h => by
  have h2 := slogd73 g len cap a hl W h.cur (Nat.lt_of_lt_of_le hg h.gr.size) (fun b off e h0 => Nat.lt_of_lt_of_le (hcode b off e h0) h.gr.size)
  rw [← hP] at h2
  refine h2.mono ?_
  rintro e w' ⟨cur, b1, d1, b2, d2, h3, h4, h5, h6, h7⟩
  have hp := logB_parts h5.1
  exact ⟨cur, b1, d1, b2, d2, h3, h4, ⟨by rw [hP0]; exact hp.1, by omega⟩, h6, h7⟩
 have HFL : Hid (∀ (B : Nat) (W : World) (x1 : Option Addr) (x2 : Nat) (x3 : Option Addr) (x4 : Nat) {S : List ByteArray} {Q : List Wr}, okB S Q = true → DOwn W B x1 x2 x3 x4 S Q → Calls Tryz.prog 40 #[.agg #[.slice x1 S.length x2, .slice x3 Q.length x4]] W fun e w' => ∃ (FS : List ByteArray) (FP : List Wr) (f1 : Option Addr) (f2 : Nat) (f3 : Option Addr) (f4 : Nat), e = .returned (.agg #[.slice f1 FS.length f2, .slice f3 FP.length f4]) ∧ DOwn w' W.heap.size f1 f2 f3 f4 FS FP ∧ LbI FS FP ∧ Below W.heap.size W w') := fun B W x1 x2 x3 x4 {S Q} hok h => by
  have hb := LbI.ok hok
  refine (sflush38 S Q x1 x3 x2 x4 B (by have := hb.1; omega) (by have := hb.2.1; omega) W h).mono ?_
  rintro e w' ⟨f1, f2, f3, f4, he, hd, hb'⟩
  exact ⟨_, _, f1, f2, f3, f4, he, hd, LbI.ok (okB_flush hok), hb'⟩
 have DS0 : Hid (DS w g a len cap w) := ⟨hc, grown_refl w _⟩
 have hPl : P.length = 0 := by rw [hP0]; rfl
 have HPL : Hid (P.length = 0) := hPl
 clear hc hcode hP hP0 hPl
 have YR0 : Hid (Bx (w.alloc (.cells #[.slice none 0 0, .slice none 0 0] 27)) w.heap.size (.slice none 0 0) (.slice none 0 0)) := Bx.new w _ _ 27
 have DS1 : Hid (DS w g a len cap (w.alloc (.cells #[.slice none 0 0, .slice none 0 0] 27))) := DS0.out.alloc hg _
 have z0 : w.heap.size + 1 ≤ (w.alloc (.cells #[.slice none 0 0, .slice none 0 0] 27)).heap.size := by simp
 go_enter Tryz.func23, Tryz.ntmps23
 go_wp2_with fail
 refine (HBL.out 10 _ (by omega) (by omega) DS1.out.cur).mono ?_
 rintro e wa ⟨k, hk, rfl, hca, hga⟩
 have YRa : Hid (Bx wa w.heap.size (.slice none 0 0) (.slice none 0 0)) := YR0.out.keptG hga hg
 have DSa : Hid (DS w g a len cap wa) := DS1.out.step hca hga
 have za : w.heap.size + 1 ≤ wa.heap.size := Nat.le_trans z0 hga.size
 clear hca hga YR0 DS1 DS0 z0
 go_wp2_with fail
 refine (HBL.out 60 _ (by omega) (by omega) DSa.out.cur).mono ?_
 rintro e wb ⟨x, hx, rfl, hcb, hgb⟩
 have YRb : Hid (Bx wb w.heap.size (.slice none 0 0) (.slice none 0 0)) := YRa.out.keptG hgb hg
 have DSb : Hid (DS w g a len cap wb) := DSa.out.step hcb hgb
 have zb : w.heap.size + 1 ≤ wb.heap.size := Nat.le_trans za hgb.size
 clear hcb hgb YRa DSa za
 go_wp2_with fail
 refine (HLD.out _ DSb.out).mono ?_
 rintro e wc ⟨cur, c1, c2, c3, c4, rfl, hdc, hIc, hcc, hgc⟩
 have YRc : Hid (Bx wc w.heap.size (.slice none 0 0) (.slice none 0 0)) := YRb.out.keptG hgc hg
 have DSc : Hid (DS w g a len cap wc) := DSb.out.step hcc hgc
 have zc : w.heap.size + 1 ≤ wc.heap.size := Nat.le_trans zb hgc.size
 have HDc : Hid (DOwn wc wb.heap.size c1 c2 c3 c4 cur P) := hdc
 have HOK : Hid (okB cur P = true) := hIc.1
 have HCL : Hid (cur.length = 97) := hIc.2
 have hcl : 97 ≤ cur.length := by omega
 have hcl2 : cur.length ≤ 97 := by omega
 have hpl : P.length ≤ 0 := by have := HPL.out; omega
 have HI : Hid (LbI cur P) := LbI.ok hIc.1
 clear hdc hIc hcc hgc YRb DSb zb HLD
 go_wp2_with fail
 refine (copy64 cur P c1 c3 c2 c4 _ (by omega) (by omega) _ HDc.out).mono ?_
 rintro e w2 ⟨x1, x2, x3, x4, rfl, hd2, hb2⟩
 have YR2 : Hid (Bx (w2.alloc (.cells #[.slice x1 cur.length x2, .slice x3 P.length x4] 27)) w.heap.size (.slice none 0 0) (.slice none 0 0)) := (YRc.out.keep hb2 YRc.out.lt).alloc _
 have YX2 : Hid (Bx (w2.alloc (.cells #[.slice x1 cur.length x2, .slice x3 P.length x4] 27)) w2.heap.size (.slice x1 cur.length x2) (.slice x3 P.length x4)) := Bx.new w2 _ _ 27
 have DX2 : Hid (DOwn (w2.alloc (.cells #[.slice x1 cur.length x2, .slice x3 P.length x4] 27)) (w.heap.size + 1) x1 x2 x3 x4 cur P) := (hd2.mono zc).below ((belowRefl w2).alloc (Nat.le_refl _) _)
 have DS2 : Hid (DS w g a len cap (w2.alloc (.cells #[.slice x1 cur.length x2, .slice x3 P.length x4] 27))) := (DSc.out.call hg hb2).alloc hg _
 have HR2 : Hid (Bx w2 w.heap.size (.slice none 0 0) (.slice none 0 0)) := YRc.out.keep hb2 YRc.out.lt
 have HD2 : Hid (DOwn w2 (w.heap.size + 1) x1 x2 x3 x4 cur P) := hd2.mono zc
 have HS2 : Hid (DS w g a len cap w2) := DSc.out.call hg hb2
 have hX : w.heap.size + 1 ≤ w2.heap.size := Nat.le_trans zc hb2.size
 clear hd2 hb2 zc YRc DSc HDc
 obtain ⟨y2, hy2⟩ : ∃ y2 : Nat, y2 = x % 2 := ⟨_, rfl⟩
 have hy2l : y2 < 2 := by rw [hy2]; exact Nat.mod_lt _ (by omega)
 have HY2 : Hid (Int.tmod (x : Int) 2 = (y2 : Int)) := by show _ = _; rw [hy2]; rfl
 clear hy2
 obtain ⟨q, hq, hql⟩ : ∃ q : Nat, af (y2 : Int) = (q : Int) ∧ q < 97 := by
  rcases (show y2 = 0 ∨ y2 = 1 by omega) with h | h <;> subst h
  ·exact ⟨1, by decide, by omega⟩
  ·exact ⟨49, by decide, by omega⟩
 have HAF : Hid (∀ W : World, Calls Tryz.prog 58 #[.int .i64 (y2 : Int)] W fun e w' => e = .returned (.int .i64 (q : Int)) ∧ Below W.heap.size W w') := fun W => by
  have h := saf14 (y2 : Int) W
  rw [hq] at h
  refine h.mono ?_
  rintro e w' ⟨he, rfl⟩
  exact ⟨he, belowRefl _⟩
 have HO1 : Hid (∀ W : World, Calls Tryz.prog 59 #[.int .i64 (x : Int)] W fun e w' => e = .returned (.string (oneB x)) ∧ Below W.heap.size W w') := fun W => sone101 x (by omega) W
 have HO1s : Hid ((oneB x).size = 1) := rfl
 have HW1 : Hid (∀ (B : Nat) (W : World) {x1 : Option Addr} {x2 : Nat} {x3 : Option Addr} {x4 : Nat}, DOwn W B x1 x2 x3 x4 cur P → Calls Tryz.prog 57 #[.agg #[.slice x1 cur.length x2, .slice x3 P.length x4], .int .i64 (q : Int), .int .i64 0, .string (oneB x)] W fun e w' => WbQ W cur P e w') := fun B W {x1 x2 x3 x4} h => swbR cur P q 0 (oneB x) x1 x3 x2 x4 B HOK.out (by omega) (by omega) (by rw [HO1s.out]; omega) W h
 have HW3 : Hid (∀ (B : Nat) (W : World) {x1 : Option Addr} {x2 : Nat} {x3 : Option Addr} {x4 : Nat}, DOwn W B x1 x2 x3 x4 cur P → Calls Tryz.prog 57 #[.agg #[.slice x1 cur.length x2, .slice x3 P.length x4], .int .i64 2, .int .i64 0, .string ⟨#[255, 255]⟩] W fun e w' => WbQ W cur P e w') := fun B W {x1 x2 x3 x4} h => swbR cur P 2 0 ⟨#[255, 255]⟩ x1 x3 x2 x4 B HOK.out (by omega) (by omega) (by show 0 + 2 ≤ 160; omega) W h
 have HLX : Hid (∀ W : World, Calls Tryz.prog 61 #[.int .i64 64, .int .u8 (x : Int)] W fun e w' => e = .returned (.string (longB 64 (UInt8.ofNat x))) ∧ Below W.heap.size W w') := fun W => by
  have h := long84 64 (UInt8.ofNat x) (by omega) W
  rw [toNat_ofNat x (by omega)] at h
  exact h
 obtain ⟨LX, hLX⟩ : ∃ LX, LX = longB 64 (UInt8.ofNat x) := ⟨_, rfl⟩
 have hLXs : LX.size ≤ 64 := by rw [hLX, longB_size]; omega
 rw [← hLX] at HLX
 clear hLX
 have HWS : Hid (∀ (B : Nat) (W : World) {x1 : Option Addr} {x2 : Nat} {x3 : Option Addr} {x4 : Nat}, DOwn W B x1 x2 x3 x4 cur P → Calls Tryz.prog 60 #[.agg #[.slice x1 cur.length x2, .slice x3 P.length x4], .int .i64 (x : Int), .string LX] W fun e w' => ∃ (NP : List Wr) (ok : Bool) (b1 : Option Addr) (d1 : Nat) (b2 : Option Addr) (d2 : Nat), e = .returned (.tuple #[.agg #[.slice b1 cur.length d1, .slice b2 NP.length d2], .bool ok]) ∧ DOwn w' W.heap.size b1 d1 b2 d2 cur NP ∧ LbI cur NP ∧ Below W.heap.size W w') := fun B W {x1 x2 x3 x4} h => by
  refine (sws45 cur P (x : Int) LX x1 x3 x2 x4 B (by omega) (by omega) W h).mono ?_
  rintro e w' ⟨b1, d1, b2, d2, he, hd, hb⟩
  exact ⟨_, _, b1, d1, b2, d2, he, hd, wsP_okb HI.out (by omega) _ _ hLXs, hb⟩
 generalize oneB x = ON at *
 clear hLXs hq hql
 by_cases hk0 : k < 1
 ·clear HW1 HW3 HWS HLX HAF HO1 HFL
  obtain rfl : k = 0 := by omega
  obtain ⟨gs, rfl, hbg, hgl⟩ := own_form HD2.out.s (by omega)
  have hcap := own_cap HD2.out.s
  have g0 := YX2.out.c0
  have g1 := YX2.out.c1
  have gf := YX2.out.fz
  have hx0 : (0 : Int) ≤ (x : Int) := by omega
  have hxc : (x : Int) ≤ (x2 : Int) := by omega
  obtain ⟨T, hT⟩ : ∃ T, T = cur.take x := ⟨_, rfl⟩
  have HTL : Hid (T.length = x) := by show _ = _; rw [hT, List.length_take]; omega
  have HIT : Hid (LbI T P) := by rw [hT]; exact HI.out.cut x
  have HOT : Hid (w2.ownsRow (w.heap.size + 1) 9 1 (.slice (some ⟨gs, 0, none⟩) x x2) x (scs T)) := by
   have h := own_cut HD2.out.s (x := x) (by omega)
   rw [scs_take] at h
   rw [hT]
   exact h
  clear hT
  have YX3 : Hid (Bx (w2.alloc (.cells #[.slice (some ⟨gs, 0, none⟩) x x2, .slice x3 P.length x4] 27)) w2.heap.size (.slice (some ⟨gs, 0, none⟩) x x2) (.slice x3 P.length x4)) := Bx.new w2 _ _ 27
  have YR3 : Hid (Bx (w2.alloc (.cells #[.slice (some ⟨gs, 0, none⟩) x x2, .slice x3 P.length x4] 27)) w.heap.size (.slice none 0 0) (.slice none 0 0)) := HR2.out.alloc _
  have DX3 : Hid (DOwn (w2.alloc (.cells #[.slice (some ⟨gs, 0, none⟩) x x2, .slice x3 P.length x4] 27)) (w.heap.size + 1) (some ⟨gs, 0, none⟩) x2 x3 x4 T P) := ⟨World.ownsRow.alloc (by show World.ownsRow _ _ _ _ _ _ _; rw [HTL.out]; exact HOT.out) _, World.ownsRow.alloc HD2.out.p _⟩
  have DS3 : Hid (DS w g a len cap (w2.alloc (.cells #[.slice (some ⟨gs, 0, none⟩) x x2, .slice x3 P.length x4] 27))) := HS2.out.alloc hg _
  go_upto_region 15 with fail
  clear g0 g1 gf
  generalize (w2.alloc (.cells #[.slice (some ⟨gs, 0, none⟩) x x2, .slice x3 P.length x4] 27)) = W3 at *
  have q0 := YX3.out.c0
  have q1 := YX3.out.c1
  have r0 := YR3.out.c0
  have r1 := YR3.out.c1
  have rf := YR3.out.fz
  have V9 : Hid (Bx ((W3.setCell ⟨w.heap.size, 0, none⟩ (.slice (some ⟨gs, 0, none⟩) x x2)).setCell ⟨w.heap.size, 1, none⟩ (.slice x3 P.length x4)) w.heap.size (.slice (some ⟨gs, 0, none⟩) x x2) (.slice x3 P.length x4)) := (YR3.out.set0 _).set1 _
  have v0 := V9.out.c0
  have v1 := V9.out.c1
  have DS9 : Hid (DS w g a len cap ((W3.setCell ⟨w.heap.size, 0, none⟩ (.slice (some ⟨gs, 0, none⟩) x x2)).setCell ⟨w.heap.size, 1, none⟩ (.slice x3 P.length x4))) := (DS3.out.set hg HCODE.out _ _ (by show w.heap.size ≤ w.heap.size; omega)).set hg HCODE.out _ _ (by show w.heap.size ≤ w.heap.size; omega)
  go_wp2
  refine bodyPost_ret (v := .agg #[.slice (some ⟨gs, 0, none⟩) x x2, .slice x3 P.length x4]) (by simp [results, Tryz.results23, go_sem, v0, v1]) rfl ⟨T, P, (some ⟨gs, 0, none⟩), x2, x3, x4, by rw [HTL.out], ⟨?_, ?_⟩, HIT.out, DS9.out.cur, DS9.out.gr⟩
  ·exact ((DX3.out.s.set (by show w.heap.size < _; omega) _).set (by show w.heap.size < _; omega) _).mono (by omega)
  ·exact ((DX3.out.p.set (by show w.heap.size < _; omega) _).set (by show w.heap.size < _; omega) _).mono (by omega)
 by_cases hk1 : k < 2
 ·clear HW3 HWS HLX HR2 HS2 HD2
  obtain rfl : k = 1 := by omega
  have g0 := YX2.out.c0
  have g1 := YX2.out.c1
  have gf := YX2.out.fz
  go_upto_region 8 with fail
  generalize hW3 : (w2.alloc (.cells #[.slice x1 cur.length x2, .slice x3 P.length x4] 27)) = w3 at *
  clear hW3
  generalize w2.heap.size = X at *
  have hXl : X < w3.heap.size := YX2.out.lt
  have hrem : Int.tmod (x : Int) 2 = (y2 : Int) := HY2.out
  go_region_law (go_simp; first
     | (go_at_call 58
        refine (HAF.out _).mono ?_
        rintro e w4 ⟨rfl, hb4⟩
        have HB4 : Hid (Below w3.heap.size w3 w4) := undrew hb4
        have o4 := (YX2.out.keep HB4.out YX2.out.lt).c0
        have p4 := (YX2.out.keep HB4.out YX2.out.lt).c1
        have ol4 := (YX2.out.keep HB4.out YX2.out.lt).lt)
     | (go_at_call 59
        refine (HO1.out _).mono ?_
        rintro e w5 ⟨rfl, hb5⟩
        have HB5 : Hid (Below w3.heap.size w3 w5) := HB4.out.trans (hb5.mono HB4.out.size)
        have o5 := (YX2.out.keep HB5.out YX2.out.lt).c0
        have p5 := (YX2.out.keep HB5.out YX2.out.lt).c1
        have ol5 := (YX2.out.keep HB5.out YX2.out.lt).lt)
     | (go_at_call 57
        refine (HW1.out _ _ (DX2.out.below HB5.out)).mono ?_
        rintro e w8 ⟨NP, ok, u1, u2, u3, u4, rfl, hd8, hok8, hn8, hb8⟩
        have HB8 : Hid (Below w3.heap.size w3 w8) := HB5.out.trans (hb8.mono HB5.out.size)
        have YRc : Hid (Bx w8 w.heap.size (.slice none 0 0) (.slice none 0 0)) := YR2.out.keep HB8.out YR2.out.lt
        have YXc : Hid (Bx w8 X (.slice x1 cur.length x2) (.slice x3 P.length x4)) := YX2.out.keep HB8.out YX2.out.lt
        have DSc : Hid (DS w g a len cap w8) := DS2.out.call hg HB8.out
        have DXc : Hid (DOwn w8 (X + 1) u1 u2 u3 u4 cur NP) := hd8.mono (by have := HB5.out.size; omega)
        have HOKc : Hid (okB cur NP = true) := hok8
        have q08 := YXc.out.c0
        have q18 := YXc.out.c1
        have qf8 := YXc.out.fz))
  all_goals
   have YRd : Hid (Bx ((w8.setCell ⟨X, 0, none⟩ (.slice u1 cur.length u2)).setCell ⟨X, 1, none⟩ (.slice u3 NP.length u4)) w.heap.size (.slice none 0 0) (.slice none 0 0)) := (YRc.out.setO (by show X ≠ _; omega) _).setO (by show X ≠ _; omega) _
   have YXd : Hid (Bx ((w8.setCell ⟨X, 0, none⟩ (.slice u1 cur.length u2)).setCell ⟨X, 1, none⟩ (.slice u3 NP.length u4)) X (.slice u1 cur.length u2) (.slice u3 NP.length u4)) := (YXc.out.set0 _).set1 _
   have DXd : Hid (DOwn ((w8.setCell ⟨X, 0, none⟩ (.slice u1 cur.length u2)).setCell ⟨X, 1, none⟩ (.slice u3 NP.length u4)) (w.heap.size + 1) u1 u2 u3 u4 cur NP) := ⟨((DXc.out.s.set (by show X < _; omega) _).set (by show X < _; omega) _).mono (by omega), ((DXc.out.p.set (by show X < _; omega) _).set (by show X < _; omega) _).mono (by omega)⟩
   have DSd : Hid (DS w g a len cap ((w8.setCell ⟨X, 0, none⟩ (.slice u1 cur.length u2)).setCell ⟨X, 1, none⟩ (.slice u3 NP.length u4))) := (DSc.out.set hg HCODE.out _ _ (by show w.heap.size ≤ X; omega)).set hg HCODE.out _ _ (by show w.heap.size ≤ X; omega)
   have HOKd : Hid (okB cur NP = true) := HOKc
   clear hd8 hok8 hn8 hb8
   go_upto_region 9 with fail
   clear q08 q18 qf8 YRc YXc DXc DSc HOKc g0 g1 gf
   generalize ((w8.setCell ⟨X, 0, none⟩ (.slice u1 cur.length u2)).setCell ⟨X, 1, none⟩ (.slice u3 NP.length u4)) = W9 at *
   have hXf : X < W9.heap.size := YXd.out.lt
   have q0 := YXd.out.c0
   have q1 := YXd.out.c1
   go_wp2_with fail
   refine (HFL.out _ W9 _ _ _ _ HOKd.out DXd.out).mono ?_
   rintro e w9 ⟨FS, FP, f1, f2, f3, f4, rfl, hd9, hI9, hb9⟩
   have YRc : Hid (Bx w9 w.heap.size (.slice none 0 0) (.slice none 0 0)) := YRd.out.keep hb9 YRd.out.lt
   have YXc : Hid (Bx w9 X (.slice u1 cur.length u2) (.slice u3 NP.length u4)) := YXd.out.keep hb9 YXd.out.lt
   have DSc : Hid (DS w g a len cap w9) := DSd.out.call hg hb9
   have DXc : Hid (DOwn w9 (X + 1) f1 f2 f3 f4 FS FP) := hd9.mono hXf
   have HI9 := hide0 hI9
   clear hd9 hI9 hb9 q0 q1 YRd YXd DXd DSd
   have q0 := YXc.out.c0
   have q1 := YXc.out.c1
   have qf := YXc.out.fz
   have YRe : Hid (Bx ((w9.setCell ⟨X, 0, none⟩ (.slice f1 FS.length f2)).setCell ⟨X, 1, none⟩ (.slice f3 FP.length f4)) w.heap.size (.slice none 0 0) (.slice none 0 0)) := (YRc.out.setO (by show X ≠ _; omega) _).setO (by show X ≠ _; omega) _
   have YXe : Hid (Bx ((w9.setCell ⟨X, 0, none⟩ (.slice f1 FS.length f2)).setCell ⟨X, 1, none⟩ (.slice f3 FP.length f4)) X (.slice f1 FS.length f2) (.slice f3 FP.length f4)) := (YXc.out.set0 _).set1 _
   have DXe : Hid (DOwn ((w9.setCell ⟨X, 0, none⟩ (.slice f1 FS.length f2)).setCell ⟨X, 1, none⟩ (.slice f3 FP.length f4)) (w.heap.size + 1) f1 f2 f3 f4 FS FP) := ⟨((DXc.out.s.set (by show X < _; omega) _).set (by show X < _; omega) _).mono (by omega), ((DXc.out.p.set (by show X < _; omega) _).set (by show X < _; omega) _).mono (by omega)⟩
   have DSe : Hid (DS w g a len cap ((w9.setCell ⟨X, 0, none⟩ (.slice f1 FS.length f2)).setCell ⟨X, 1, none⟩ (.slice f3 FP.length f4))) := (DSc.out.set hg HCODE.out _ _ (by show w.heap.size ≤ X; omega)).set hg HCODE.out _ _ (by show w.heap.size ≤ X; omega)
   go_upto_region 15 with fail
   clear q0 q1 qf YRc YXc DXc DSc
   generalize ((w9.setCell ⟨X, 0, none⟩ (.slice f1 FS.length f2)).setCell ⟨X, 1, none⟩ (.slice f3 FP.length f4)) = W15 at *
   have q0 := YXe.out.c0
   have q1 := YXe.out.c1
   have r0 := YRe.out.c0
   have r1 := YRe.out.c1
   have rf := YRe.out.fz
   have V9 : Hid (Bx ((W15.setCell ⟨w.heap.size, 0, none⟩ (.slice f1 FS.length f2)).setCell ⟨w.heap.size, 1, none⟩ (.slice f3 FP.length f4)) w.heap.size (.slice f1 FS.length f2) (.slice f3 FP.length f4)) := (YRe.out.set0 _).set1 _
   have v0 := V9.out.c0
   have v1 := V9.out.c1
   have DS9 : Hid (DS w g a len cap ((W15.setCell ⟨w.heap.size, 0, none⟩ (.slice f1 FS.length f2)).setCell ⟨w.heap.size, 1, none⟩ (.slice f3 FP.length f4))) := (DSe.out.set hg HCODE.out _ _ (by show w.heap.size ≤ w.heap.size; omega)).set hg HCODE.out _ _ (by show w.heap.size ≤ w.heap.size; omega)
   go_wp2
   refine bodyPost_ret (v := .agg #[.slice f1 FS.length f2, .slice f3 FP.length f4]) (by simp [results, Tryz.results23, go_sem, v0, v1]) rfl ⟨FS, FP, f1, f2, f3, f4, rfl, ⟨?_, ?_⟩, HI9.out, DS9.out.cur, DS9.out.gr⟩
   ·exact ((DXe.out.s.set (by show w.heap.size < _; omega) _).set (by show w.heap.size < _; omega) _).mono (by omega)
   ·exact ((DXe.out.p.set (by show w.heap.size < _; omega) _).set (by show w.heap.size < _; omega) _).mono (by omega)
 by_cases hk2 : k < 3
 ·clear HW1 HW3 HAF HO1 HFL HR2 HS2 HD2
  obtain rfl : k = 2 := by omega
  have g0 := YX2.out.c0
  have g1 := YX2.out.c1
  have gf := YX2.out.fz
  go_upto_region 11 with fail
  generalize hW3 : (w2.alloc (.cells #[.slice x1 cur.length x2, .slice x3 P.length x4] 27)) = w3 at *
  clear hW3
  generalize w2.heap.size = X at *
  have hXl : X < w3.heap.size := YX2.out.lt
  have hwx : IntKind.u8.wrap (x : Int) = (x : Int) := by rw [IntKind.wrap_u8]; omega
  go_region_law (go_simp; first
     | (go_at_call 61
        refine (HLX.out _).mono ?_
        rintro e w4 ⟨rfl, hb4⟩
        have HB4 : Hid (Below w3.heap.size w3 w4) := undrew hb4
        have o4 := (YX2.out.keep HB4.out YX2.out.lt).c0
        have p4 := (YX2.out.keep HB4.out YX2.out.lt).c1
        have ol4 := (YX2.out.keep HB4.out YX2.out.lt).lt)
     | (go_at_call 60
        refine (HWS.out _ _ (DX2.out.below HB4.out)).mono ?_
        rintro e w8 ⟨NP, ok, u1, u2, u3, u4, rfl, hd8, hI8, hb8⟩
        have HB8 : Hid (Below w3.heap.size w3 w8) := HB4.out.trans (hb8.mono HB4.out.size)
        have YRc : Hid (Bx w8 w.heap.size (.slice none 0 0) (.slice none 0 0)) := YR2.out.keep HB8.out YR2.out.lt
        have YXc : Hid (Bx w8 X (.slice x1 cur.length x2) (.slice x3 P.length x4)) := YX2.out.keep HB8.out YX2.out.lt
        have DSc : Hid (DS w g a len cap w8) := DS2.out.call hg HB8.out
        have DXc : Hid (DOwn w8 (X + 1) u1 u2 u3 u4 cur NP) := hd8.mono (by have := HB4.out.size; omega)
        have HIc : Hid (LbI cur NP) := hI8
        have q08 := YXc.out.c0
        have q18 := YXc.out.c1
        have qf8 := YXc.out.fz))
  all_goals
   have YRd : Hid (Bx ((w8.setCell ⟨X, 0, none⟩ (.slice u1 cur.length u2)).setCell ⟨X, 1, none⟩ (.slice u3 NP.length u4)) w.heap.size (.slice none 0 0) (.slice none 0 0)) := (YRc.out.setO (by show X ≠ _; omega) _).setO (by show X ≠ _; omega) _
   have YXd : Hid (Bx ((w8.setCell ⟨X, 0, none⟩ (.slice u1 cur.length u2)).setCell ⟨X, 1, none⟩ (.slice u3 NP.length u4)) X (.slice u1 cur.length u2) (.slice u3 NP.length u4)) := (YXc.out.set0 _).set1 _
   have DXd : Hid (DOwn ((w8.setCell ⟨X, 0, none⟩ (.slice u1 cur.length u2)).setCell ⟨X, 1, none⟩ (.slice u3 NP.length u4)) (w.heap.size + 1) u1 u2 u3 u4 cur NP) := ⟨((DXc.out.s.set (by show X < _; omega) _).set (by show X < _; omega) _).mono (by omega), ((DXc.out.p.set (by show X < _; omega) _).set (by show X < _; omega) _).mono (by omega)⟩
   have DSd : Hid (DS w g a len cap ((w8.setCell ⟨X, 0, none⟩ (.slice u1 cur.length u2)).setCell ⟨X, 1, none⟩ (.slice u3 NP.length u4))) := (DSc.out.set hg HCODE.out _ _ (by show w.heap.size ≤ X; omega)).set hg HCODE.out _ _ (by show w.heap.size ≤ X; omega)
   clear hd8 hI8 hb8
   go_upto_region 15 with fail
   clear q08 q18 qf8 YRc YXc DXc DSc g0 g1 gf
   generalize ((w8.setCell ⟨X, 0, none⟩ (.slice u1 cur.length u2)).setCell ⟨X, 1, none⟩ (.slice u3 NP.length u4)) = W9 at *
   have q0 := YXd.out.c0
   have q1 := YXd.out.c1
   have r0 := YRd.out.c0
   have r1 := YRd.out.c1
   have rf := YRd.out.fz
   have V9 : Hid (Bx ((W9.setCell ⟨w.heap.size, 0, none⟩ (.slice u1 cur.length u2)).setCell ⟨w.heap.size, 1, none⟩ (.slice u3 NP.length u4)) w.heap.size (.slice u1 cur.length u2) (.slice u3 NP.length u4)) := (YRd.out.set0 _).set1 _
   have v0 := V9.out.c0
   have v1 := V9.out.c1
   have DS9 : Hid (DS w g a len cap ((W9.setCell ⟨w.heap.size, 0, none⟩ (.slice u1 cur.length u2)).setCell ⟨w.heap.size, 1, none⟩ (.slice u3 NP.length u4))) := (DSd.out.set hg HCODE.out _ _ (by show w.heap.size ≤ w.heap.size; omega)).set hg HCODE.out _ _ (by show w.heap.size ≤ w.heap.size; omega)
   go_wp2
   refine bodyPost_ret (v := .agg #[.slice u1 cur.length u2, .slice u3 NP.length u4]) (by simp [results, Tryz.results23, go_sem, v0, v1]) rfl ⟨cur, NP, u1, u2, u3, u4, rfl, ⟨?_, ?_⟩, HIc.out, DS9.out.cur, DS9.out.gr⟩
   ·exact ((DXd.out.s.set (by show w.heap.size < _; omega) _).set (by show w.heap.size < _; omega) _).mono (by omega)
   ·exact ((DXd.out.p.set (by show w.heap.size < _; omega) _).set (by show w.heap.size < _; omega) _).mono (by omega)
 by_cases hk3 : k < 4
 ·clear HW1 HWS HLX HAF HO1 HR2 HS2 HD2
  obtain rfl : k = 3 := by omega
  have g0 := YX2.out.c0
  have g1 := YX2.out.c1
  have gf := YX2.out.fz
  go_upto_region 13 with fail
  generalize hW3 : (w2.alloc (.cells #[.slice x1 cur.length x2, .slice x3 P.length x4] 27)) = w3 at *
  clear hW3
  generalize w2.heap.size = X at *
  have hXl : X < w3.heap.size := YX2.out.lt
  go_wp2_with fail
  refine (HW3.out _ _ DX2.out).mono ?_
  rintro e w8 ⟨NP, ok, u1, u2, u3, u4, rfl, hd8, hok8, hn8, hb8⟩
  have YRc : Hid (Bx w8 w.heap.size (.slice none 0 0) (.slice none 0 0)) := YR2.out.keep hb8 YR2.out.lt
  have YXc : Hid (Bx w8 X (.slice x1 cur.length x2) (.slice x3 P.length x4)) := YX2.out.keep hb8 YX2.out.lt
  have DSc : Hid (DS w g a len cap w8) := DS2.out.call hg hb8
  have DXc : Hid (DOwn w8 (X + 1) u1 u2 u3 u4 cur NP) := hd8.mono hXl
  have HOKd : Hid (okB cur NP = true) := hok8
  clear g0 g1 gf
  have q08 := YXc.out.c0
  have q18 := YXc.out.c1
  have qf8 := YXc.out.fz
  have YRd : Hid (Bx ((w8.setCell ⟨X, 0, none⟩ (.slice u1 cur.length u2)).setCell ⟨X, 1, none⟩ (.slice u3 NP.length u4)) w.heap.size (.slice none 0 0) (.slice none 0 0)) := (YRc.out.setO (by show X ≠ _; omega) _).setO (by show X ≠ _; omega) _
  have YXd : Hid (Bx ((w8.setCell ⟨X, 0, none⟩ (.slice u1 cur.length u2)).setCell ⟨X, 1, none⟩ (.slice u3 NP.length u4)) X (.slice u1 cur.length u2) (.slice u3 NP.length u4)) := (YXc.out.set0 _).set1 _
  have DXd : Hid (DOwn ((w8.setCell ⟨X, 0, none⟩ (.slice u1 cur.length u2)).setCell ⟨X, 1, none⟩ (.slice u3 NP.length u4)) (w.heap.size + 1) u1 u2 u3 u4 cur NP) := ⟨((DXc.out.s.set (by show X < _; omega) _).set (by show X < _; omega) _).mono (by omega), ((DXc.out.p.set (by show X < _; omega) _).set (by show X < _; omega) _).mono (by omega)⟩
  have DSd : Hid (DS w g a len cap ((w8.setCell ⟨X, 0, none⟩ (.slice u1 cur.length u2)).setCell ⟨X, 1, none⟩ (.slice u3 NP.length u4))) := (DSc.out.set hg HCODE.out _ _ (by show w.heap.size ≤ X; omega)).set hg HCODE.out _ _ (by show w.heap.size ≤ X; omega)
  clear hd8 hok8 hn8 hb8
  go_upto_region 14 with fail
  clear q08 q18 qf8 YRc YXc DXc DSc
  generalize ((w8.setCell ⟨X, 0, none⟩ (.slice u1 cur.length u2)).setCell ⟨X, 1, none⟩ (.slice u3 NP.length u4)) = W9 at *
  have hXf : X < W9.heap.size := YXd.out.lt
  have q0 := YXd.out.c0
  have q1 := YXd.out.c1
  go_wp2_with fail
  refine (HFL.out _ W9 _ _ _ _ HOKd.out DXd.out).mono ?_
  rintro e w9 ⟨FS, FP, f1, f2, f3, f4, rfl, hd9, hI9, hb9⟩
  have YRc : Hid (Bx w9 w.heap.size (.slice none 0 0) (.slice none 0 0)) := YRd.out.keep hb9 YRd.out.lt
  have YXc : Hid (Bx w9 X (.slice u1 cur.length u2) (.slice u3 NP.length u4)) := YXd.out.keep hb9 YXd.out.lt
  have DSc : Hid (DS w g a len cap w9) := DSd.out.call hg hb9
  have DXc : Hid (DOwn w9 (X + 1) f1 f2 f3 f4 FS FP) := hd9.mono hXf
  have HI9 := hide0 hI9
  clear hd9 hI9 hb9 q0 q1 YRd YXd DXd DSd
  have q0 := YXc.out.c0
  have q1 := YXc.out.c1
  have qf := YXc.out.fz
  have YRe : Hid (Bx ((w9.setCell ⟨X, 0, none⟩ (.slice f1 FS.length f2)).setCell ⟨X, 1, none⟩ (.slice f3 FP.length f4)) w.heap.size (.slice none 0 0) (.slice none 0 0)) := (YRc.out.setO (by show X ≠ _; omega) _).setO (by show X ≠ _; omega) _
  have YXe : Hid (Bx ((w9.setCell ⟨X, 0, none⟩ (.slice f1 FS.length f2)).setCell ⟨X, 1, none⟩ (.slice f3 FP.length f4)) X (.slice f1 FS.length f2) (.slice f3 FP.length f4)) := (YXc.out.set0 _).set1 _
  have DXe : Hid (DOwn ((w9.setCell ⟨X, 0, none⟩ (.slice f1 FS.length f2)).setCell ⟨X, 1, none⟩ (.slice f3 FP.length f4)) (w.heap.size + 1) f1 f2 f3 f4 FS FP) := ⟨((DXc.out.s.set (by show X < _; omega) _).set (by show X < _; omega) _).mono (by omega), ((DXc.out.p.set (by show X < _; omega) _).set (by show X < _; omega) _).mono (by omega)⟩
  have DSe : Hid (DS w g a len cap ((w9.setCell ⟨X, 0, none⟩ (.slice f1 FS.length f2)).setCell ⟨X, 1, none⟩ (.slice f3 FP.length f4))) := (DSc.out.set hg HCODE.out _ _ (by show w.heap.size ≤ X; omega)).set hg HCODE.out _ _ (by show w.heap.size ≤ X; omega)
  go_upto_region 15 with fail
  clear q0 q1 qf YRc YXc DXc DSc
  generalize ((w9.setCell ⟨X, 0, none⟩ (.slice f1 FS.length f2)).setCell ⟨X, 1, none⟩ (.slice f3 FP.length f4)) = W15 at *
  have q0 := YXe.out.c0
  have q1 := YXe.out.c1
  have r0 := YRe.out.c0
  have r1 := YRe.out.c1
  have rf := YRe.out.fz
  have V9 : Hid (Bx ((W15.setCell ⟨w.heap.size, 0, none⟩ (.slice f1 FS.length f2)).setCell ⟨w.heap.size, 1, none⟩ (.slice f3 FP.length f4)) w.heap.size (.slice f1 FS.length f2) (.slice f3 FP.length f4)) := (YRe.out.set0 _).set1 _
  have v0 := V9.out.c0
  have v1 := V9.out.c1
  have DS9 : Hid (DS w g a len cap ((W15.setCell ⟨w.heap.size, 0, none⟩ (.slice f1 FS.length f2)).setCell ⟨w.heap.size, 1, none⟩ (.slice f3 FP.length f4))) := (DSe.out.set hg HCODE.out _ _ (by show w.heap.size ≤ w.heap.size; omega)).set hg HCODE.out _ _ (by show w.heap.size ≤ w.heap.size; omega)
  go_wp2
  refine bodyPost_ret (v := .agg #[.slice f1 FS.length f2, .slice f3 FP.length f4]) (by simp [results, Tryz.results23, go_sem, v0, v1]) rfl ⟨FS, FP, f1, f2, f3, f4, rfl, ⟨?_, ?_⟩, HI9.out, DS9.out.cur, DS9.out.gr⟩
  ·exact ((DXe.out.s.set (by show w.heap.size < _; omega) _).set (by show w.heap.size < _; omega) _).mono (by omega)
  ·exact ((DXe.out.p.set (by show w.heap.size < _; omega) _).set (by show w.heap.size < _; omega) _).mono (by omega)
 clear HW1 HW3 HWS HLX HAF HO1 HFL HR2 HS2 HD2
 have T0 : ((k : Int) == 0) = false := by simp; omega
 have T1 : ((k : Int) == 1) = false := by simp; omega
 have T2 : ((k : Int) == 2) = false := by simp; omega
 have T3 : ((k : Int) == 3) = false := by simp; omega
 go_upto_region 15 with fail
 generalize hW3 : (w2.alloc (.cells #[.slice x1 cur.length x2, .slice x3 P.length x4] 27)) = w3 at *
 clear hW3
 generalize w2.heap.size = X at *
 have q0 := YX2.out.c0
 have q1 := YX2.out.c1
 have r0 := YR2.out.c0
 have r1 := YR2.out.c1
 have rf := YR2.out.fz
 have V9 : Hid (Bx ((w3.setCell ⟨w.heap.size, 0, none⟩ (.slice x1 cur.length x2)).setCell ⟨w.heap.size, 1, none⟩ (.slice x3 P.length x4)) w.heap.size (.slice x1 cur.length x2) (.slice x3 P.length x4)) := (YR2.out.set0 _).set1 _
 have v0 := V9.out.c0
 have v1 := V9.out.c1
 have DS9 : Hid (DS w g a len cap ((w3.setCell ⟨w.heap.size, 0, none⟩ (.slice x1 cur.length x2)).setCell ⟨w.heap.size, 1, none⟩ (.slice x3 P.length x4))) := (DS2.out.set hg HCODE.out _ _ (by show w.heap.size ≤ w.heap.size; omega)).set hg HCODE.out _ _ (by show w.heap.size ≤ w.heap.size; omega)
 go_wp2
 refine bodyPost_ret (v := .agg #[.slice x1 cur.length x2, .slice x3 P.length x4]) (by simp [results, Tryz.results23, go_sem, v0, v1]) rfl ⟨cur, P, x1, x2, x3, x4, rfl, ⟨?_, ?_⟩, HI.out, DS9.out.cur, DS9.out.gr⟩
 ·exact ((DX2.out.s.set (by show w.heap.size < _; omega) _).set (by show w.heap.size < _; omega) _).mono (by omega)
 ·exact ((DX2.out.p.set (by show w.heap.size < _; omega) _).set (by show w.heap.size < _; omega) _).mono (by omega)

def Q86 (w : World) (e : Ending) (w' : World) : Prop := ∃ (ss : List ByteArray) (cur : List Wr) (b1 : Option Addr) (d1 : Nat) (b2 : Option Addr) (d2 : Nat) (z : Int), e = .returned (.tuple #[.agg #[.slice b1 ss.length d1, .slice b2 cur.length d2], .int .i64 z]) ∧ DOwn w' w.heap.size b1 d1 b2 d2 ss cur ∧ LbI ss cur ∧ Below w.heap.size w w'
def Q45 (w : World) (e : Ending) (w' : World) : Prop := ∃ (ss : List ByteArray) (cur : List Wr) (b1 : Option Addr) (d1 : Nat) (b2 : Option Addr) (d2 : Nat) (z : Int) (t : ByteArray), e = .returned (.tuple #[.agg #[.slice b1 ss.length d1, .slice b2 cur.length d2], .int .i64 z, .string t]) ∧ DOwn w' w.heap.size b1 d1 b2 d2 ss cur ∧ LbI ss cur ∧ t.size ≤ 30000 ∧ Below w.heap.size w w'

theorem pick_six (W : World) : ∀ j, j < 6 → ∃ z : Int, -9223372036854775808 ≤ z ∧ z ≤ 9223372036854775807 ∧ (W.alloc (.cells #[.int .i64 0, .int .i64 1, .int .i64 0, .int .i64 1, .int .i64 2, .int .i64 (-1)] 3)).cell? ⟨W.heap.size, j, none⟩ = some (.int .i64 z) := fun j hj => by
 match j, hj with
 | 0, _ => exact ⟨0, by omega, by omega, by simp [go_sem]⟩
 | 1, _ => exact ⟨1, by omega, by omega, by simp [go_sem]⟩
 | 2, _ => exact ⟨0, by omega, by omega, by simp [go_sem]⟩
 | 3, _ => exact ⟨1, by omega, by omega, by simp [go_sem]⟩
 | 4, _ => exact ⟨2, by omega, by omega, by simp [go_sem]⟩
 | 5, _ => exact ⟨-1, by omega, by omega, by simp [go_sem]⟩

set_option maxRecDepth 100000 in
set_option maxHeartbeats 4000000 in
theorem pair86 (len cap : Nat) (a : Option Addr) (hl : len ≤ 1048576) (w : World) (hr : CodeRow w a len) :
  Calls Tryz.prog 86 #[.slice a len cap] w fun e w' => Q86 w e w' := by
 have HR : Hid (CodeRow w a len) := hr
 have HCODE : Hid (∀ b off, a = some ⟨b, off, none⟩ → 0 < len → b < w.heap.size) := hr.blk
 clear hr
 have YR0 : Hid (Bx (w.alloc (.cells #[.slice none 0 0, .slice none 0 0] 27)) w.heap.size (.slice none 0 0) (.slice none 0 0)) := Bx.new w _ _ 27
 have b0 : Hid (Below w.heap.size w (w.alloc (.cells #[.slice none 0 0, .slice none 0 0] 27))) := (belowRefl w).alloc (Nat.le_refl _) _
 have z0 : (w.alloc (.cells #[.slice none 0 0, .slice none 0 0] 27)).heap.size = w.heap.size + 1 := by simp
 go_enter Tryz.func86, Tryz.ntmps86
 go_wp2_with fail
 refine (new16 len cap a hl _ (HR.out.below b0.out)).mono ?_
 rintro e w1 ⟨rfl, hc1, hb1, hz1⟩
 rw [z0] at hc1 hz1
 have YR1 : Hid (Bx w1 w.heap.size (.slice none 0 0) (.slice none 0 0)) := YR0.out.keep hb1 YR0.out.lt
 have HB1 : Hid (Below w.heap.size w w1) := b0.out.trans (hb1.mono b0.out.size)
 obtain ⟨g, hgE⟩ : ∃ g, g = w.heap.size + 1 := ⟨_, rfl⟩
 rw [← hgE] at hc1 hz1
 have hgl : w.heap.size < g := by omega
 rw [z0, ← hgE]
 have HC1 : Hid (CurOk w1 g a len cap) := hc1
 clear hb1 hc1 YR0 b0 z0 hgE
 have HC2 : Hid (CurOk (w1.alloc (.cells #[.int .i64 0, .int .i64 1, .int .i64 0, .int .i64 1, .int .i64 2, .int .i64 (-1)] 3)) g a len cap) := HC1.out.alloc hz1 _
 have YR2 : Hid (Bx (w1.alloc (.cells #[.int .i64 0, .int .i64 1, .int .i64 0, .int .i64 1, .int .i64 2, .int .i64 (-1)] 3)) w.heap.size (.slice none 0 0) (.slice none 0 0)) := YR1.out.alloc _
 have HB2 : Hid (Below w.heap.size w (w1.alloc (.cells #[.int .i64 0, .int .i64 1, .int .i64 0, .int .i64 1, .int .i64 2, .int .i64 (-1)] 3))) := HB1.out.alloc HB1.out.size _
 have hg2' : g < (w1.alloc (.cells #[.int .i64 0, .int .i64 1, .int .i64 0, .int .i64 1, .int .i64 2, .int .i64 (-1)] 3)).heap.size := by simp; omega
 have HG2 : Hid (g < (w1.alloc (.cells #[.int .i64 0, .int .i64 1, .int .i64 0, .int .i64 1, .int .i64 2, .int .i64 (-1)] 3)).heap.size) := hg2'
 go_wp2_with fail
 refine (pick24 g len cap a w1.heap.size 6 6 (by omega) (by omega) hl _ HC2.out (by omega) (by simp) (pick_six w1)).mono ?_
 rintro e w2 ⟨z, _, _, rfl, hc2, hg2⟩
 have YR3 : Hid (Bx w2 w.heap.size (.slice none 0 0) (.slice none 0 0)) := YR2.out.keepG hg2 (fun e => by have := Option.some.inj e; omega)
 have HB3 : Hid (Below w.heap.size w w2) := HB2.out.trans (below_of_grown hg2 (by omega) HB2.out.size)
 have HC3 : Hid (CurOk w2 g a len cap) := hc2
 have hz3 : g < w2.heap.size := Nat.lt_of_lt_of_le HG2.out hg2.size
 clear hc2 hg2 YR2 HB2 HC2 YR1 HB1 HC1 hg2' HG2 hz1
 go_wp2_with fail
 refine (any83s g len cap a hl _ HC3.out hz3 (fun b off e h0 => Nat.lt_of_lt_of_le (HCODE.out b off e h0) HB3.out.size)).mono ?_
 rintro e w3 ⟨ss, cur, x1, x2, x3, x4, rfl, hd3, hI3, hc3, hg3⟩
 have HI : Hid (LbI ss cur) := hI3
 have YRz : Hid (Bx w3 w.heap.size (.slice none 0 0) (.slice none 0 0)) := YR3.out.keepG hg3 (fun e => by have := Option.some.inj e; omega)
 have HBz : Hid (Below w.heap.size w w3) := HB3.out.trans (below_of_grown hg3 (by omega) HB3.out.size)
 have HDz : Hid (DOwn w3 (w.heap.size + 1) x1 x2 x3 x4 ss cur) := hd3.mono (by omega)
 clear hd3 hI3 hc3 hg3 YR3 HB3 HC3
 have r0 := YRz.out.c0
 have r1 := YRz.out.c1
 have rf := YRz.out.fz
 have V9 : Hid (Bx ((w3.setCell ⟨w.heap.size, 0, none⟩ (.slice x1 ss.length x2)).setCell ⟨w.heap.size, 1, none⟩ (.slice x3 cur.length x4)) w.heap.size (.slice x1 ss.length x2) (.slice x3 cur.length x4)) := (YRz.out.set0 _).set1 _
 have v0 := V9.out.c0
 have v1 := V9.out.c1
 go_wp2
 refine bodyPost_ret (v := .tuple #[.agg #[.slice x1 ss.length x2, .slice x3 cur.length x4], .int .i64 z]) (by simp [results, Tryz.results86, go_sem, v0, v1]) rfl ⟨ss, cur, x1, x2, x3, x4, z, rfl, ⟨?_, ?_⟩, HI.out, ?_⟩
 ·exact ((HDz.out.s.set (by show w.heap.size < _; omega) _).set (by show w.heap.size < _; omega) _).mono (by omega)
 ·exact ((HDz.out.p.set (by show w.heap.size < _; omega) _).set (by show w.heap.size < _; omega) _).mono (by omega)
 ·exact (HBz.out.setCell (Nat.le_refl _) _).setCell (Nat.le_refl _) _

set_option maxRecDepth 100000 in
set_option maxHeartbeats 4000000 in
theorem dpr45 (len cap : Nat) (a : Option Addr) (hl : len ≤ 1048576) (w : World) (hr : CodeRow w a len) :
  Calls Tryz.prog 55 #[.slice a len cap] w fun e w' => Q45 w e w' := by
 have HR : Hid (CodeRow w a len) := hr
 have HCODE : Hid (∀ b off, a = some ⟨b, off, none⟩ → 0 < len → b < w.heap.size) := hr.blk
 clear hr
 have YR0 : Hid (Bx (w.alloc (.cells #[.slice none 0 0, .slice none 0 0] 27)) w.heap.size (.slice none 0 0) (.slice none 0 0)) := Bx.new w _ _ 27
 have b0 : Hid (Below w.heap.size w (w.alloc (.cells #[.slice none 0 0, .slice none 0 0] 27))) := (belowRefl w).alloc (Nat.le_refl _) _
 have z0 : (w.alloc (.cells #[.slice none 0 0, .slice none 0 0] 27)).heap.size = w.heap.size + 1 := by simp
 go_enter Tryz.func55, Tryz.ntmps55
 go_wp2_with fail
 refine (new16 len cap a hl _ (HR.out.below b0.out)).mono ?_
 rintro e w1 ⟨rfl, hc1, hb1, hz1⟩
 rw [z0] at hc1 hz1
 have YR1 : Hid (Bx w1 w.heap.size (.slice none 0 0) (.slice none 0 0)) := YR0.out.keep hb1 YR0.out.lt
 have HB1 : Hid (Below w.heap.size w w1) := b0.out.trans (hb1.mono b0.out.size)
 obtain ⟨g, hgE⟩ : ∃ g, g = w.heap.size + 1 := ⟨_, rfl⟩
 rw [← hgE] at hc1 hz1
 have hgl : w.heap.size < g := by omega
 rw [z0, ← hgE]
 have HC1 : Hid (CurOk w1 g a len cap) := hc1
 clear hb1 hc1 YR0 b0 z0 hgE
 go_wp2_with fail
 refine (said82 g len cap a hl _ HC1.out hz1 (fun b off e h0 => Nat.lt_of_lt_of_le (HCODE.out b off e h0) HB1.out.size)).mono ?_
 rintro e w2 ⟨t, ht, rfl, hc2, hg2⟩
 have YR3 : Hid (Bx w2 w.heap.size (.slice none 0 0) (.slice none 0 0)) := YR1.out.keepG hg2 (fun e => by have := Option.some.inj e; omega)
 have HB3 : Hid (Below w.heap.size w w2) := HB1.out.trans (below_of_grown hg2 (by omega) HB1.out.size)
 have HT : Hid (t.size ≤ 30000) := ht
 clear hc2 hg2 YR1 HB1 HC1 ht
 go_wp2_with fail
 refine (pair86 len cap a hl _ (HR.out.below HB3.out)).mono ?_
 rintro e w3 ⟨ss, cur, x1, x2, x3, x4, z, rfl, hd3, hI3, hb3⟩
 have HI : Hid (LbI ss cur) := hI3
 have YR4 : Hid (Bx (w3.alloc (.cells #[.slice x1 ss.length x2, .slice x3 cur.length x4] 27)) w.heap.size (.slice none 0 0) (.slice none 0 0)) := (YR3.out.keep hb3 YR3.out.lt).alloc _
 have YX4 : Hid (Bx (w3.alloc (.cells #[.slice x1 ss.length x2, .slice x3 cur.length x4] 27)) w3.heap.size (.slice x1 ss.length x2) (.slice x3 cur.length x4)) := Bx.new w3 _ _ 27
 have HB4 : Hid (Below w.heap.size w (w3.alloc (.cells #[.slice x1 ss.length x2, .slice x3 cur.length x4] 27))) := (HB3.out.trans (hb3.mono HB3.out.size)).alloc (Nat.le_trans HB3.out.size hb3.size) _
 have HD4 : Hid (DOwn (w3.alloc (.cells #[.slice x1 ss.length x2, .slice x3 cur.length x4] 27)) (w.heap.size + 1) x1 x2 x3 x4 ss cur) := (hd3.mono (Nat.succ_le_of_lt YR3.out.lt)).below ((belowRefl w3).alloc (Nat.le_refl _) _)
 clear hd3 hI3 hb3 YR3 HB3 HR HCODE
 go_upto_region 4 with fail
 generalize (w3.alloc (.cells #[.slice x1 ss.length x2, .slice x3 cur.length x4] 27)) = wz at *
 generalize w3.heap.size = X at *
 have q0 := YX4.out.c0
 have q1 := YX4.out.c1
 have YRz := YR4
 have HBz := HB4
 have HDz := HD4
 have r0 := YRz.out.c0
 have r1 := YRz.out.c1
 have rf := YRz.out.fz
 have V9 : Hid (Bx ((wz.setCell ⟨w.heap.size, 0, none⟩ (.slice x1 ss.length x2)).setCell ⟨w.heap.size, 1, none⟩ (.slice x3 cur.length x4)) w.heap.size (.slice x1 ss.length x2) (.slice x3 cur.length x4)) := (YRz.out.set0 _).set1 _
 have v0 := V9.out.c0
 have v1 := V9.out.c1
 go_wp2
 refine bodyPost_ret (v := .tuple #[.agg #[.slice x1 ss.length x2, .slice x3 cur.length x4], .int .i64 z, .string t]) (by simp [results, Tryz.results55, go_sem, v0, v1]) rfl ⟨ss, cur, x1, x2, x3, x4, z, t, rfl, ⟨?_, ?_⟩, HI.out, HT.out, ?_⟩
 ·exact ((HDz.out.s.set (by show w.heap.size < _; omega) _).set (by show w.heap.size < _; omega) _).mono (by omega)
 ·exact ((HDz.out.p.set (by show w.heap.size < _; omega) _).set (by show w.heap.size < _; omega) _).mono (by omega)
 ·exact (HBz.out.setCell (Nat.le_refl _) _).setCell (Nat.le_refl _) _

set_option maxRecDepth 100000 in
set_option maxHeartbeats 4000000 in
theorem slt52 (ss : List ByteArray) (ps : List Wr) (a1 a2 : Option Addr) (c1 c2 : Nat) (h : LbI ss ps) (w : World) (hsr : SRow w a1 ss) (hpr : PRow w a2 ps) :
  Calls Tryz.prog 51 #[.agg #[.slice a1 ss.length c1, .slice a2 ps.length c2]] w fun e w' => ∃ va vc, e = .returned (.slice va (oL (raO ss ps (act ss ps))).length vc) ∧ SOwn w' w.heap.size (.slice va (oL (raO ss ps (act ss ps))).length vc) (oL (raO ss ps (act ss ps))) ∧ Below w.heap.size w w' := by
 have HS : Hid (SRow w a1 ss) := hsr
 have HP : Hid (PRow w a2 ps) := hpr
 have HI : Hid (LbI ss ps) := h
 have BA : Hid (Bx (w.alloc (.cells #[.slice a1 ss.length c1, .slice a2 ps.length c2] 27)) w.heap.size (.slice a1 ss.length c1) (.slice a2 ps.length c2)) := Bx.new w _ _ 27
 have HB : Hid (Below w.heap.size w (w.alloc (.cells #[.slice a1 ss.length c1, .slice a2 ps.length c2] 27))) := (belowRefl w).alloc (Nat.le_refl _) _
 have hsz : w.heap.size ≤ (w.alloc (.cells #[.slice a1 ss.length c1, .slice a2 ps.length c2] 27)).heap.size := by simp
 have HSZ : Hid (w.heap.size ≤ (w.alloc (.cells #[.slice a1 ss.length c1, .slice a2 ps.length c2] 27)).heap.size) := hsz
 have C1 : Hid (∀ W : World, Below w.heap.size w W → Calls Tryz.prog 36 #[.agg #[.slice a1 ss.length c1, .slice a2 ps.length c2]] W fun e w' => e = .returned (.int .i64 (act ss ps)) ∧ Below W.heap.size W w') := fun W hW => sac25 ss ps a1 a2 c1 c2 (by have := h.1; omega) (by have := h.2.1; omega) W (hsr.below hW) (hpr.below hW)
 have C2 : Hid (∀ W : World, Below w.heap.size w W → Calls Tryz.prog 80 #[.agg #[.slice a1 ss.length c1, .slice a2 ps.length c2], .int .i64 (act ss ps)] W fun e w' => ∃ v, e = .returned (.tuple #[v, .int .i64 (oE (raO ss ps (act ss ps)) : Nat), .bool (oB (raO ss ps (act ss ps)))]) ∧ SOwn w' W.heap.size v (oL (raO ss ps (act ss ps))) ∧ Below W.heap.size W w') := fun W hW => sra29 ss ps (act ss ps) a1 a2 c1 c2 h.wide.1 h.wide.2.1 h.wide.2.2.1 h.wide.2.2.2 (arT_b h _) W (hsr.below hW) (hpr.below hW)
 clear hsr hpr h hsz
 generalize hR : raO ss ps (act ss ps) = R at *
 clear hR
 generalize act ss ps = ac at *
 go_enter Tryz.func51, Tryz.ntmps51
 go_upto_region 1 with fail
 generalize (w.alloc (.cells #[.slice a1 ss.length c1, .slice a2 ps.length c2] 27)) = w0 at *
 refine wp_region_held_drew (S := fun w' => w'.cell? ⟨w.heap.size, 0, none⟩ = some (.slice a1 ss.length c1) ∧ w'.cell? ⟨w.heap.size, 1, none⟩ = some (.slice a2 ps.length c2)) (by kernel_rfl) ⟨BA.out.c0, BA.out.c1⟩ (fun hHeld => ?_)
 (refine tk 0 ?_ rfl (Or.inl ⟨by rfl, ?_⟩) ?_; rotate_left; (focus (intro w h; (try dsimp only at h); go_simp; (try with_reducible rfl))); simp only [Act.put, tA, tB, tD, tE, tF])
 (refine tk 1 ?_ rfl (Or.inl ⟨by rfl, ?_⟩) ?_; rotate_left; (focus (intro w h; (try dsimp only at h); go_simp; (try with_reducible rfl))); simp only [Act.put, tA, tB, tC, tD, tE, tF])
 refine wpAnyH_ready (rs := [2]) (by kernel_rfl) (by simp) ?_
 refine AllReadyH.cons rfl (fun K hK => ?_) AllReadyH.nil
 go_simp
 go_wp2_with fail
 refine (C1.out _ (HB.out.drew)).mono ?_
 rintro e w1 ⟨rfl, hb⟩
 replace hb := undrew hb
 have BA1 : Hid (Bx w1 w.heap.size (.slice a1 ss.length c1) (.slice a2 ps.length c2)) := BA.out.keep hb BA.out.lt
 have HB1 : Hid (Below w.heap.size w w1) := HB.out.trans (hb.mono HB.out.size)
 clear hb
 go_wp2_with fail
 refine hK.out _ _ ⟨BA1.out.c0, BA1.out.c1⟩ (fun hHeld1 => ?_)
 clear hK K
 refine wpAnyH_ready (rs := [3]) (by kernel_rfl) (by simp) ?_
 refine AllReadyH.cons rfl (fun K hK => ?_) AllReadyH.nil
 go_simp
 go_wp2_with fail
 refine (C2.out _ HB1.out).mono ?_
 rintro e w2 ⟨v, rfl, ho, hb⟩
 have BA2 : Hid (Bx w2 w.heap.size (.slice a1 ss.length c1) (.slice a2 ps.length c2)) := BA1.out.keep hb BA1.out.lt
 have HB2 : Hid (Below w.heap.size w w2) := HB1.out.trans (hb.mono HB1.out.size)
 have HO : Hid (SOwn w2 w.heap.size v (oL R)) := ho.mono HB1.out.size
 clear hb ho
 go_wp2_with fail
 refine hK.out _ _ ⟨BA2.out.c0, BA2.out.c1⟩ (fun hHeld2 => ?_)
 clear hK K
 (refine tk 4 ?_ rfl (Or.inl ⟨by rfl, ?_⟩) ?_; rotate_left; (focus (intro w h; (try dsimp only at h); go_simp; (try with_reducible rfl))); simp only [Act.put, tA, tB, tC, tD, tE, tF])
 (refine tk 5 ?_ rfl (Or.inl ⟨by rfl, ?_⟩) ?_; rotate_left; (focus (intro w h; (try dsimp only at h); go_simp; (try with_reducible rfl))); simp only [Act.put, tA, tB, tC, tD, tE, tF])
 (refine tk 6 ?_ rfl (Or.inl ⟨by rfl, ?_⟩) ?_; rotate_left; (focus (intro w h; (try dsimp only at h); go_simp; (try with_reducible rfl))); simp only [Act.put, tA, tB, tC, tD, tE, tF])
 (refine tk 7 ?_ rfl (Or.inl ⟨by rfl, ?_⟩) ?_; rotate_left; (focus (intro w h; (try dsimp only at h); go_simp; (try with_reducible rfl))); simp only [Act.put, tA, tB, tC, tD, tE, tF])
 (refine tk 8 ?_ rfl (Or.inl ⟨by rfl, ?_⟩) ?_; rotate_left; (focus (intro w h; (try dsimp only at h); go_simp; (try with_reducible rfl))); simp only [Act.put, tA, tB, tC, tD, tE, tF])
 (refine tk 9 ?_ rfl (Or.inl ⟨by rfl, ?_⟩) ?_; rotate_left; (focus (intro w h; (try dsimp only at h); go_simp; (try with_reducible rfl))); simp only [Act.put, tA, tB, tC, tD, tE, tF])
 (refine tk 10 ?_ rfl (Or.inl ⟨by rfl, ?_⟩) ?_; rotate_left; (focus (intro w h; (try dsimp only at h); go_simp; (try with_reducible rfl))); simp only [Act.put, tA, tB, tC, tD, tE, tF])
 refine wpAnyH_done (by kernel_rfl) ?_ _
 obtain ⟨va, vc, rfl, _⟩ := HO.out.row
 go_wp2
 go_ret
 exact ⟨va, vc, rfl, HO.out, HB2.out⟩

end Go.Proofs.YtekjpoenbcnhdaaGreat
