/- The law FnExactPutRecord, walked. -/
import Derived.Test.YtekjpoenbcnhdaaGreatPa06
import Derived.Test.YtekjpoenbcnhdaaGreatPa17
import Derived.Test.YtekjpoenbcnhdaaGreatPa27
import Derived.Test.YtekjpoenbcnhdaaGreatPa33
namespace Go.Proofs.YtekjpoenbcnhdaaGreat
open Go.RowKit
open DM
attribute [local go_sem ↓] Go.wp_at_zero Go.wp_at_succ

theorem flS_len (ss : List ByteArray) (ps : List Wr) : (flS ss ps).length = ss.length := by
 unfold flS
 split
 ·rw [flush_len]
 ·rfl
theorem prS_len (ss : List ByteArray) (ps : List Wr) (a : Int) (t : ByteArray) : (prS ss ps a t).length = ss.length := by
 unfold prS
 split
 ·unfold putS
  rw [flS_len, flS_len]
 ·rfl

end Go.Proofs.YtekjpoenbcnhdaaGreat

namespace Go.Proofs.YtekjpoenbcnhdaaGreat
open Go.RowKit
open DM
attribute [local go_sem ↓] Go.wp_at_zero Go.wp_at_succ

theorem wrt_length : ∀ (rows : List (List UInt8)) (ws : List Wr), (wrt rows ws).length = rows.length
 | _, [] => rfl
 | rows, p :: ws => by rw [wrt, wrt_length]; simp
theorem crS_len (ss : List ByteArray) (ps : List Wr) (ks : List Int) (t : Int) : (crS ss ps ks t).length = ss.length := by
 unfold crS
 split
 ·rw [txs_len, wrt_length, bys_len]
 ·rfl

end Go.Proofs.YtekjpoenbcnhdaaGreat

namespace Go.Proofs.YtekjpoenbcnhdaaGreat
open Go.RowKit
open DM
attribute [local go_sem ↓] Go.wp_at_zero Go.wp_at_succ

theorem caS_len (ss : List ByteArray) (ps : List Wr) (t : ByteArray) (st : Int) (ks : List Int) (tr : Int) : (caS ss ps t st ks tr).length = ss.length := by
 unfold caS
 split
 ·rename_i h
  split
  ·exact crS_len _ _ _ _
  ·split
   ·rw [crS_len]; exact flS_len _ _
   ·have h1 : prS ss ps (act ss ps) t = putS ss ps (act ss ps) t := if_pos h
    rw [← h1]; exact prS_len _ _ _ _
 ·rfl

end Go.Proofs.YtekjpoenbcnhdaaGreat
