/- Small facts on bytes in memory that the walks share. -/
import Derived.Test.YtjieojfcmigcdaaProg
import Derived.Test.YtjieojfcmigcdaaWoMath
import Derived.WalkKit
import Derived.WalkSpells
import Derived.WalkLawsBesides
import Derived.Test.YtjieojfcmigcdaaKyD5
import Derived.Test.YtjieojfcmigcdaaVMk
namespace Go.Proofs.Ytjieojfcmigcdaa
open Go.RowKit

theorem Own.snoc {w : World} {base : Nat} {v : Value} {pre : List UInt8} {x : Int} (b : UInt8)
    (h : w.ownsRow base 5 1 v (pre.length + 1) (bv pre ++ [.int .u8 x])) (hx : x = (b.toNat : Int)) : Own w base v (pre ++ [b]) := by
  subst hx
  unfold Own
  simpa [bv] using h

theorem Own.nil (w : World) (base : Nat) : Own w base (.slice none 0 0) [] := World.ownsRow_nil _ _ _ _

theorem Own.empty (w : World) (base : Nat) (hb : base ≤ w.heap.size) : Own (w.alloc (.cells #[] 5)) base (.slice (some ⟨w.heap.size, 0, none⟩) 0 0) [] :=
  World.ownsRow_lit (size := 1) w #[] 0 hb (by unfold maxLen; omega) rfl

theorem below_app {w wr w1 : World} {v : Value} {n : Nat} {xs : List Value} {e : TypeId} {size : Nat} {o : Obj} (hb : Below w.heap.size w wr) (hown : wr.ownsRow w.heap.size e size v n xs) (hg : (wr.alloc o).grownBy w1 v.ownBlock) : Below w.heap.size w w1 :=
  (hb.alloc hb.size o).grown hg (by have := hb.size; simp; omega) (fun j hj => (hown.lt j hj).1)

theorem wpApp {ops : Array Oper} {rest : List Oper} {o : Oper} {a : Act} {Q : Exit → Act → World → Prop} (hgd : o.guard = none) (s x : Operand)
    (ho : o.op = .call { callee := .builtin .append, args := #[s, x], argTypes := #[37, 37] }) {wr : World} {cs : Array Value} (w0 : World) {base : Nat} {v : Value} {pre : List UInt8} (news : List UInt8)
    (hs : a.eval s = v) (hown : Own wr base v pre) (hx : a.eval x = .slice (some ⟨wr.heap.size, 0, none⟩) news.length news.length) (hcs : cs.toList = bv news)
    (hlen : pre.length + news.length ≤ 140737488355328) (hb : Below base w0 wr) (hB : base ≤ w0.heap.size)
    (h : ∀ v' w', Own w' base v' (pre ++ news) → Below base w0 w' → (wr.alloc (.cells cs 5)).grownBy w' v.ownBlock → wpList Try.prog ops Q rest (a.put o.dst v') w') :
    wpList Try.prog ops Q (o :: rest) a (wr.alloc (.cells cs 5)) := by
  obtain ⟨i0, hi, hz0, hz1, hz2⟩ := info_parts Try.info5
  have hsz := hb.size
  refine wpList_append_own _ hgd s x 37 ho base 5 i0 (.int .u8 0) 1 1 Try.underlying37 hi hz0 hz1 hz2 rfl (by decide) v pre.length (bv pre) hs (World.ownsRow.alloc hown _) ⟨wr.heap.size, 0, none⟩ news.length news.length (bv news) hx (by rw [bv_len]; omega) ?_ ?_ (by unfold maxLen; omega) (by omega) (by simp; omega) ?_
  · intro j u hj
    have hc : (wr.alloc (.cells cs 5)).cell? ⟨wr.heap.size, j, none⟩ = cs[j]? := World.cell?_alloc_mark wr cs 5 (0, 0) j
    rw [Addr.add_lit, Nat.zero_add, hc, ← hj, ← hcs]
    simp
  · intro u hu
    simp only [bv, List.mem_map] at hu
    obtain ⟨b, _, rfl⟩ := hu
    rfl
  · intro v' w' h1 h2 _
    refine h v' w' ?_ ((hb.alloc (by omega) _).grown h2 (by simp; omega) (fun j hj => (World.ownsRow.lt hown j hj).1)) h2
    unfold Own
    simpa [bv] using h1

theorem byteCell (x : Int) (b : UInt8) (h : x = (b.toNat : Int)) : #[Value.int .u8 x].toList = bv [b] := by subst h; rfl
theorem byteCells2 (x y : Int) (b c : UInt8) (h : x = (b.toNat : Int)) (k : y = (c.toNat : Int)) : #[Value.int .u8 x, Value.int .u8 y].toList = bv [b, c] := by subst h; subst k; rfl
theorem ofNatCell (x : Int) (n : Nat) (hn : n < 256) (h : x = (n : Int)) : #[Value.int .u8 x].toList = bv [UInt8.ofNat n] := byteCell _ _ (by rw [toNat_ofNat n hn]; exact h)

end Go.Proofs.Ytjieojfcmigcdaa
