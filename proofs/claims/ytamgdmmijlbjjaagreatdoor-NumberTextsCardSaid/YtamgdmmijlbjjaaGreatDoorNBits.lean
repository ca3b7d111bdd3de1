/- A double's bits in parts, and the bounds of what its digits are made of: plain Lean and the kernel's reckoning over all exponents. -/
import Derived.Test.YtamgdmmijlbjjaaGreatDoorNShort
import Derived.Test.YtamgdmmijlbjjaaGreatDoorNDigits
import Derived.Laws.Bits64b
namespace Go.Proofs.YtamgdmmijlbjjaaGreatDoor
open Go Go.RowKit

theorem bits_and_i64_nat (a b : Nat) (ha : a < 9223372036854775808) (hb : b < 9223372036854775808) : bits .and .i64 (a : Int) (b : Int) = ((a &&& b : Nat) : Int) := by
  have hx : a &&& b < 2 ^ 63 := Nat.and_lt_two_pow _ (by omega)
  have h1 : (BitVec.ofInt 64 (a : Int)).toNat = a := by
    rw [BitVec.ofInt_natCast, BitVec.toNat_ofNat]; exact Nat.mod_eq_of_lt (by omega)
  have h2 : (BitVec.ofInt 64 (b : Int)).toNat = b := by
    rw [BitVec.ofInt_natCast, BitVec.toNat_ofNat]; exact Nat.mod_eq_of_lt (by omega)
  show IntKind.i64.wrap ((BitVec.ofInt 64 (a : Int) &&& BitVec.ofInt 64 (b : Int)).toNat : Int) = _
  rw [BitVec.toNat_and, h1, h2, IntKind.wrap_i64]
  omega
theorem parts_e (b : Nat) (hb : b < 18446744073709551616) : bits .and .i64 ((b : Int) / 4503599627370496) 2047 = ((b / 4503599627370496 % 2048 : Nat) : Int) := by
  have h := bits_and_i64_nat (b / 4503599627370496) 2047 (by omega) (by omega)
  have e : b / 4503599627370496 &&& 2047 = b / 4503599627370496 % 2048 := Nat.and_two_pow_sub_one_eq_mod (b / 4503599627370496) 11
  rw [e] at h
  exact h
theorem parts_m (b : Nat) (hb : b < 18446744073709551616) : bits .and .u64 (b : Int) 4503599627370495 = ((b % 4503599627370496 : Nat) : Int) := by
  have h := bits_and_u64_nat b 4503599627370495 hb (by omega)
  have e : b &&& 4503599627370495 = b % 4503599627370496 := Nat.and_two_pow_sub_one_eq_mod b 52
  rw [e] at h
  exact h
theorem parts_or (mt : Nat) (h : mt < 4503599627370496) : bits .or .u64 (mt : Int) 4503599627370496 = ((mt + 4503599627370496 : Nat) : Int) := by
  have h1 := bits_or_u64_nat mt 4503599627370496 (by omega) (by omega)
  have e : mt ||| 4503599627370496 = mt + 4503599627370496 := by
    have := Nat.two_pow_add_eq_or_of_lt (i := 52) (b := mt) h 1
    rw [Nat.or_comm]
    simp only [Nat.reducePow, Nat.mul_one] at this
    omega
  rw [e] at h1
  exact h1
theorem parts_n (b : Nat) : ((b : Int) / 9223372036854775808 != 0) = decide (9223372036854775808 ≤ b) := by
  rw [Bool.eq_iff_iff, bne_iff_ne, decide_eq_true_iff]
  omega

/-- The table's rows are as great as a word's upper half. -/
theorem rows_len : Go.Pinned.pow10Rows.length = 696 := by decide +kernel
theorem rows_all : Go.Pinned.pow10Rows.all (fun x => decide (9223372036854775808 ≤ x.1) && decide (x.1 < 18446744073709551616) && decide (x.2 < 18446744073709551616)) = true := by decide +kernel
theorem row_at (p : Int) (hp : -348 ≤ p ∧ p ≤ 347) : ∃ hi lo : Nat, Go.Pinned.pow10Rows[(p + 348).toNat]? = some (hi, lo) ∧ 9223372036854775808 ≤ hi ∧ hi < 18446744073709551616 ∧ lo < 18446744073709551616 := by
  have hl : (p + 348).toNat < Go.Pinned.pow10Rows.length := by rw [rows_len]; omega
  refine ⟨_, _, List.getElem?_eq_getElem hl, ?_⟩
  have := List.all_eq_true.1 rows_all _ (List.getElem_mem hl)
  simp only [Bool.and_eq_true, decide_eq_true_iff] at this
  exact ⟨this.1.1, this.1.2, this.2⟩
/-- Which power of ten, and by how much is shifted: over all exponents. -/
theorem two_all : ∀ k : Fin 2046, -292 ≤ -l10P ((k.val : Int) - 1085 + 11) ∧ -l10P ((k.val : Int) - 1085 + 11) ≤ 324 ∧ 5 ≤ -((k.val : Int) - 1085 + l2P (-l10P ((k.val : Int) - 1085 + 11)) + 3) ∧ -((k.val : Int) - 1085 + l2P (-l10P ((k.val : Int) - 1085 + 11)) + 3) ≤ 8 := by decide +kernel
theorem one_all : ∀ k : Fin 2046, 1 ≤ k.val → -292 ≤ -skewP ((k.val : Int) - 1085 + 11) ∧ -skewP ((k.val : Int) - 1085 + 11) ≤ 324 ∧ 5 ≤ -((k.val : Int) - 1085 + l2P (-skewP ((k.val : Int) - 1085 + 11)) + 3) ∧ -((k.val : Int) - 1085 + l2P (-skewP ((k.val : Int) - 1085 + 11)) + 3) ≤ 8 := by decide +kernel
theorem two_at (y : Int) (h0 : -1085 ≤ y) (h1 : y ≤ 960) : -292 ≤ -l10P (y + 11) ∧ -l10P (y + 11) ≤ 324 ∧ 5 ≤ -(y + l2P (-l10P (y + 11)) + 3) ∧ -(y + l2P (-l10P (y + 11)) + 3) ≤ 8 := by
  have h := two_all ⟨(y + 1085).toNat, by omega⟩
  simp only at h
  rw [show (((y + 1085).toNat : Nat) : Int) - 1085 = y from by omega] at h
  exact h
theorem one_at (y : Int) (h0 : -1085 < y) (h1 : y ≤ 960) : -292 ≤ -skewP (y + 11) ∧ -skewP (y + 11) ≤ 324 ∧ 5 ≤ -(y + l2P (-skewP (y + 11)) + 3) ∧ -(y + l2P (-skewP (y + 11)) + 3) ≤ 8 := by
  have h := one_all ⟨(y + 1085).toNat, by omega⟩ (by simp only; omega)
  simp only at h
  rw [show (((y + 1085).toNat : Nat) : Int) - 1085 = y from by omega] at h
  exact h
theorem sub_p : -l10P (-1074) = 324 := by decide +kernel
theorem sub_l : l2P 324 = 1076 := by decide +kernel
end Go.Proofs.YtamgdmmijlbjjaaGreatDoor
