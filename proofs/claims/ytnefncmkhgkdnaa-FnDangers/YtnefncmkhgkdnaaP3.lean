/- Two drawn ones: DrawTxns, l08Pair, DrawAhead. -/
import Derived.Test.YtnefncmkhgkdnaaP2
import Derived.Test.YtnefncmkhgkdnaaL2
namespace Go.Proofs.Ytnefncmkhgkdnaa
open Go.RowKit
open KM
attribute [local go_sem ↓] Go.wp_at_zero Go.wp_at_succ

/-- the rows of one are owned -/
structure TOwn (w : World) (base : Nat) (x : Ta) : Prop where
  r : GOwn encR 92 w base (.slice x.ra x.t.rs.length x.rc) x.t.rs
  w : GOwn encW 96 w base (.slice x.wa x.t.ws.length x.wc) x.t.ws
theorem TOwn.row {w : World} {base : Nat} {x : Ta} (h : TOwn w base x) : TRow w x.t x.ra x.wa := ⟨h.r.grow, h.w.grow⟩
theorem TOwn.below {w w' : World} {base : Nat} {x : Ta} (h : TOwn w base x) (hb : Below w.heap.size w w') : TOwn w' base x := ⟨h.r.below hb, h.w.below hb⟩
theorem TOwn.mono {w : World} {base base' : Nat} {x : Ta} (h : TOwn w base x) (hb : base' ≤ base) : TOwn w base' x := ⟨h.r.mono hb, h.w.mono hb⟩

end Go.Proofs.Ytnefncmkhgkdnaa
