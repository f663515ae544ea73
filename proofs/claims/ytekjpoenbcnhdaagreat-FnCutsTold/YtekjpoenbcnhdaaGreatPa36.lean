/- The law FnExactSwitchLog, walked. -/
import Derived.Test.YtekjpoenbcnhdaaGreatPa06
import Derived.Test.YtekjpoenbcnhdaaGreatPa18
import Derived.Test.YtekjpoenbcnhdaaGreatPa34
import Derived.Test.YtekjpoenbcnhdaaGreatPa35
namespace Go.Proofs.YtekjpoenbcnhdaaGreat
open Go.RowKit
open DM
attribute [local go_sem ↓] Go.wp_at_zero Go.wp_at_succ

theorem fillO_len {a : Int} : ∀ (ts cur : List ByteArray), (fillO a cur ts).1.length = cur.length
 | [], cur => rfl
 | t :: ts, cur => by
  rw [fillO]
  split
  ·rw [fillO_len ts]
   unfold putS
   rw [flS_len, flS_len]
  ·rfl
theorem swS_len (ss : List ByteArray) (ps : List Wr) (ts : List ByteArray) : (swS ss ps ts).length = ss.length := by
 unfold swS
 split
 ·rw [flS_len, fillO_len]
  unfold zrS
  rw [flS_len]
 ·rfl

end Go.Proofs.YtekjpoenbcnhdaaGreat

namespace Go.Proofs.YtekjpoenbcnhdaaGreat
open Go.RowKit
open DM
attribute [local go_sem ↓] Go.wp_at_zero Go.wp_at_succ

theorem csS_len (ss : List ByteArray) (ps : List Wr) (ts : List ByteArray) (st : Int) (ks : List Int) (tr : Int) : (csS ss ps ts st ks tr).length = ss.length := by
 have hf : (fillO (1 - act ss ps) (zrS ss (1 - act ss ps)) ts).1.length = ss.length := by rw [fillO_len]; exact flS_len _ _
 unfold csS
 split
 ·split
  ·exact crS_len _ _ _ _
  ·split
   ·exact hf
   ·split
    ·rw [crS_len]; exact hf
    ·exact swS_len _ _ _
 ·rfl

end Go.Proofs.YtekjpoenbcnhdaaGreat
