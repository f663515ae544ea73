/- Ranges and writes in their cells. -/
import Derived.Test.YtjieojfcmigcdaaBase
namespace Go.Proofs.Ytjieojfcmigcdaa
open Go.RowKit
open KM

/-- a range in its cells -/
def encR : Enc Rg := ⟨fun r => [.string r.1, .string r.2], 2, by decide, fun _ => rfl⟩
/-- a write in its cells -/
def encW : Enc Wt := ⟨fun x => [.string x.1, .string x.2.1, .bool x.2.2], 3, by decide, fun _ => rfl⟩


theorem Try.info9 : (Try.prog.info? 9).map (fun i => (i.zero, i.size, i.bytes)) = some (some (.string ByteArray.empty), 1, 16) := by kernel_rfl
theorem Try.info98 : (Try.prog.info? 98).map (fun i => (i.zero, i.size, i.bytes)) = some (some (.agg #[.string ByteArray.empty, .string ByteArray.empty]), 2, 32) := by kernel_rfl
theorem Try.info100 : (Try.prog.info? 100).map (fun i => (i.zero, i.size, i.bytes)) = some (some (.agg #[.string ByteArray.empty, .string ByteArray.empty, .bool false]), 3, 40) := by kernel_rfl

theorem rat {w : World} {b off : Nat} {xs : List Rg} (hc : ∀ j (hj : j < xs.length) i, i < encR.size → w.cell? ⟨b, off + j * encR.size + i, none⟩ = (encR.enc xs[j])[i]?) (j : Nat) (hj : j < xs.length) :
    w.cell? ⟨b, off + j * 2, none⟩ = some (.string xs[j].1) ∧ w.cell? ⟨b, off + j * 2 + 1, none⟩ = some (.string xs[j].2) := ⟨by simpa [encR] using hc j hj 0 (by decide), by simpa [encR] using hc j hj 1 (by decide)⟩
theorem wat {w : World} {b off : Nat} {xs : List Wt} (hc : ∀ j (hj : j < xs.length) i, i < encW.size → w.cell? ⟨b, off + j * encW.size + i, none⟩ = (encW.enc xs[j])[i]?) (j : Nat) (hj : j < xs.length) :
    w.cell? ⟨b, off + j * 3, none⟩ = some (.string xs[j].1) ∧ w.cell? ⟨b, off + j * 3 + 1, none⟩ = some (.string xs[j].2.1) ∧ w.cell? ⟨b, off + j * 3 + 2, none⟩ = some (.bool xs[j].2.2) := ⟨by simpa [encW] using hc j hj 0 (by decide), by simpa [encW] using hc j hj 1 (by decide), by simpa [encW] using hc j hj 2 (by decide)⟩

/-- a version: key, value, gone, number -/
abbrev Vr := ByteArray × ByteArray × Bool × Int
/-- a version in its cells -/
def encV : Enc Vr := ⟨fun x => [.string x.1, .string x.2.1, .bool x.2.2.1, .int .i64 x.2.2.2], 4, by decide, fun _ => rfl⟩
/-- texts in their cells -/
def encS : Enc ByteArray := ⟨fun x => [.string x], 1, by decide, fun _ => rfl⟩
/-- whole numbers in their cells -/
def encI : Enc Int := ⟨fun x => [.int .i64 x], 1, by decide, fun _ => rfl⟩
theorem Try.info3 : (Try.prog.info? 3).map (fun i => (i.zero, i.size, i.bytes)) = some (some (.int .i64 0), 1, 8) := by kernel_rfl
theorem vat {w : World} {b off : Nat} {xs : List Vr} (hc : ∀ j (hj : j < xs.length) i, i < encV.size → w.cell? ⟨b, off + j * encV.size + i, none⟩ = (encV.enc xs[j])[i]?) (j : Nat) (hj : j < xs.length) :
    w.cell? ⟨b, off + j * 4, none⟩ = some (.string xs[j].1) ∧ w.cell? ⟨b, off + j * 4 + 1, none⟩ = some (.string xs[j].2.1) ∧ w.cell? ⟨b, off + j * 4 + 2, none⟩ = some (.bool xs[j].2.2.1) ∧ w.cell? ⟨b, off + j * 4 + 3, none⟩ = some (.int .i64 xs[j].2.2.2) := ⟨by simpa [encV] using hc j hj 0 (by decide), by simpa [encV] using hc j hj 1 (by decide), by simpa [encV] using hc j hj 2 (by decide), by simpa [encV] using hc j hj 3 (by decide)⟩
theorem sat {w : World} {b off : Nat} {xs : List ByteArray} (hc : ∀ j (hj : j < xs.length) i, i < encS.size → w.cell? ⟨b, off + j * encS.size + i, none⟩ = (encS.enc xs[j])[i]?) (j : Nat) (hj : j < xs.length) :
    w.cell? ⟨b, off + j, none⟩ = some (.string xs[j]) := by simpa [encS] using hc j hj 0 (by decide)
theorem iat {w : World} {b off : Nat} {xs : List Int} (hc : ∀ j (hj : j < xs.length) i, i < encI.size → w.cell? ⟨b, off + j * encI.size + i, none⟩ = (encI.enc xs[j])[i]?) (j : Nat) (hj : j < xs.length) :
    w.cell? ⟨b, off + j, none⟩ = some (.int .i64 xs[j]) := by simpa [encI] using hc j hj 0 (by decide)
end Go.Proofs.Ytjieojfcmigcdaa
