/- What stays: what the document asks of a base. No Go. -/
import Derived.Test.YtnefncmkhgkdnaaGreatKL5
import Derived.Test.YtnefncmkhgkdnaaGreatV3
import Derived.Test.YtnefncmkhgkdnaaGreatA2
namespace Go.Proofs.YtnefncmkhgkdnaaGreat
open Go.RowKit
open KM
attribute [local go_sem ↓] Go.wp_at_zero Go.wp_at_succ

abbrev pstG (xs : List Ta) (cs : Int) : Prop := ∀ j (h : j < xs.length), (txnB xs[j].t = true ∧ xs[j].t.st = 3 ∧ xs[j].t.cs ≤ cs) ∧ ∀ (_ : 0 < j), (xs[j - 1]'(by omega)).t.cs < xs[j].t.cs
def pstK (xs : List Ta) (cs : Int) (k : Nat) : Prop := ∀ j (h : j < xs.length), j < k → (txnB xs[j].t = true ∧ xs[j].t.st = 3 ∧ xs[j].t.cs ≤ cs) ∧ ∀ (_ : 0 < j), (xs[j - 1]'(by omega)).t.cs < xs[j].t.cs
theorem pst_more {xs : List Ta} {cs : Int} {k : Nat} (hg : pstK xs cs k) (hk : k < xs.length) (h2 : (txnB xs[k].t = true ∧ xs[k].t.st = 3 ∧ xs[k].t.cs ≤ cs) ∧ ∀ (_ : 0 < k), (xs[k - 1]'(by omega)).t.cs < xs[k].t.cs) : pstK xs cs (k + 1) := fun j h hlt => by
  by_cases e : j = k
  · subst e; exact h2
  · exact hg j h (by omega)
theorem pst_all {xs : List Ta} {cs : Int} {k : Nat} (hg : pstK xs cs k) (hk : xs.length ≤ k) : pstG xs cs := fun j h => hg j h (by omega)
abbrev rdyG (xs : List Ta) (cs : Int) : Prop := ∀ j (h : j < xs.length), (txnB xs[j].t = true ∧ xs[j].t.st = 2 ∧ xs[j].t.snap ≤ cs) ∧ ∀ (_ : 0 < j), Op.bytesLess (xs[j - 1]'(by omega)).t.nm.toList xs[j].t.nm.toList = true
def rdyK (xs : List Ta) (cs : Int) (k : Nat) : Prop := ∀ j (h : j < xs.length), j < k → (txnB xs[j].t = true ∧ xs[j].t.st = 2 ∧ xs[j].t.snap ≤ cs) ∧ ∀ (_ : 0 < j), Op.bytesLess (xs[j - 1]'(by omega)).t.nm.toList xs[j].t.nm.toList = true
theorem rdy_more {xs : List Ta} {cs : Int} {k : Nat} (hg : rdyK xs cs k) (hk : k < xs.length) (h2 : (txnB xs[k].t = true ∧ xs[k].t.st = 2 ∧ xs[k].t.snap ≤ cs) ∧ ∀ (_ : 0 < k), Op.bytesLess (xs[k - 1]'(by omega)).t.nm.toList xs[k].t.nm.toList = true) : rdyK xs cs (k + 1) := fun j h hlt => by
  by_cases e : j = k
  · subst e; exact h2
  · exact hg j h (by omega)
theorem rdy_all {xs : List Ta} {cs : Int} {k : Nat} (hg : rdyK xs cs k) (hk : xs.length ≤ k) : rdyG xs cs := fun j h => hg j h (by omega)
abbrev idsG (zs : List Int) (nx : Int) : Prop := ∀ j (h : j < zs.length), (∀ k (hk : k < j), zs[k]'(by omega) ≠ zs[j]) ∧ zs[j] < nx
def idsK (zs : List Int) (nx : Int) (n : Nat) : Prop := ∀ j (h : j < zs.length), j < n → (∀ k (hk : k < j), zs[k]'(by omega) ≠ zs[j]) ∧ zs[j] < nx
theorem ids_more {zs : List Int} {nx : Int} {n : Nat} (hg : idsK zs nx n) (hn : n < zs.length) (h2 : (∀ k (hk : k < n), zs[k]'(by omega) ≠ zs[n]) ∧ zs[n] < nx) : idsK zs nx (n + 1) := fun j h hlt => by
  by_cases e : j = n
  · subst e; exact h2
  · exact hg j h (by omega)
/-- what the document asks of a base -/
abbrev SbP (b : Bb) : Prop := versB b.vs = true ∧ b.ps.length ≤ 12 ∧ b.qs.length ≤ 3 ∧ (0 ≤ b.cs ∧ b.cs ≤ 9999) ∧ (1 ≤ b.nx ∧ b.nx ≤ 9999) ∧ (∀ j (h : j < b.vs.length), b.vs[j].2.2.2 ≤ b.cs) ∧ pstG b.ps b.cs ∧ rdyG b.qs b.cs ∧ idsG (b.ps.map (fun x : Ta => x.t.id) ++ b.qs.map (fun x : Ta => x.t.id)) b.nx
def sbB (b : Bb) : Bool := decide (SbP b)
theorem sb_no {b : Bb} (h : ¬ SbP b) : false = sbB b := (decide_eq_false h).symm
theorem sb_yes {b : Bb} (h : SbP b) : true = sbB b := (decide_eq_true h).symm


end Go.Proofs.YtnefncmkhgkdnaaGreat
