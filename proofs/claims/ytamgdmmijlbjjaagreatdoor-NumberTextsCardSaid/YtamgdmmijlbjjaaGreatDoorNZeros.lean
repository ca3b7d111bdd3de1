/- Noughts, and the text of an exponent: the document's walk and plain Lean. -/
import Derived.Test.YtamgdmmijlbjjaaGreatDoorNRefD
namespace Go.Proofs.YtamgdmmijlbjjaaGreatDoor
open Go Go.RowKit

/-- A text of these bytes. -/
def str (l : List UInt8) : ByteArray := ⟨l.toArray⟩
theorem str_app (l m : List UInt8) : str l ++ str m = str (l ++ m) := by
  apply ByteArray.ext
  simp [str, ByteArray.data_append]
set_option maxHeartbeats 1000000 in
theorem zeros_any (n : Nat) (hn : n ≤ 1000) (w : World) : Calls Tryz.prog 65 #[.int .i64 n] w fun e w' => e = .returned (.string (str (List.replicate n 48))) ∧ Below w.heap.size w w' := by
  go_enter Tryz.func65, Tryz.ntmps65
  go_wp2_with fail
  go_loopw [3, 4] (fun v i wr => ∃ q : Nat, v = .string (str (List.replicate q 48)) ∧ i = .int .i64 q ∧ q ≤ n ∧ Below w.heap.size w wr) (fun _ i _ => n - (Go.RowKit.intOf i).toNat)
  case atStart => exact ⟨0, rfl, rfl, Nat.zero_le _, Below.refl _ _⟩
  case round =>
    obtain ⟨q, rfl, rfl, hq, hb⟩ := hrel
    by_cases hlt : q < n
    · have i1 : (q : Int) < (n : Int) := by omega
      have hs : (str (List.replicate q 48)).size = q := by simp [str, ByteArray.size]
      have hq63 : q ≤ 1000 := by omega
      have h1 : (⟨#[48]⟩ : ByteArray).size = 1 := rfl
      have hle : (str (List.replicate q 48)).size + (⟨#[48]⟩ : ByteArray).size ≤ 9223372036854775807 := by omega
      go_wp2_with fail
      go_roundw
      case rel => exact ⟨q + 1, by rw [show (⟨#[48]⟩ : ByteArray) = str [48] from rfl, str_app, ← List.replicate_succ'], by go_num, by omega, hb⟩
      case measure => simp [Go.RowKit.intOf]; omega
    · obtain rfl : n = q := by omega
      go_wp2_with fail
      go_ret
      exact ⟨rfl, hb⟩
theorem expD_is (k : Nat) (h : k < 500) : expD k = if k < 10 then 48 :: Lib.decDigits k else Lib.decDigits k := by
  unfold expD
  by_cases h1 : k < 10
  · rw [if_pos h1, if_pos h1, Lib.decDigits_one h1]
  · rw [if_neg h1, if_neg h1]
    by_cases h2 : k < 100
    · rw [if_pos h2, Lib.decDigits_two h1 h2]
    · rw [if_neg h2, Lib.decDigits, dif_neg h1, Lib.decDigits_two (by omega) (by omega)]
      have e : k / 10 / 10 = k / 100 := by omega
      rw [e]
      rfl
end Go.Proofs.YtamgdmmijlbjjaaGreatDoor
