/- The digits of a finite double that is not 0: a number of one digit at least, and far below a word. -/
import Derived.Test.YtamgdmmijlbjjaaGreatDoorNBits
namespace Go.Proofs.YtamgdmmijlbjjaaGreatDoor
open Go Go.RowKit

theorem or_low (a c : Nat) (ha : a < 576460752303423488) (hc : c ≤ 1) : (a : Int) ≤ bits .or .u64 (a : Int) (c : Int) ∧ bits .or .u64 (a : Int) (c : Int) < 576460752303423488 := by
  rw [bits_or_u64_nat a c (by omega) (by omega)]
  have h1 : a ≤ a ||| c := Nat.left_le_or
  have h2 : a ||| c < 2 ^ 59 := Nat.or_lt_two_pow (by omega) (by omega)
  omega
theorem div_pow (H s : Nat) : (H : Int) / 2 ^ s = ((H / 2 ^ s : Nat) : Int) := by
  rw [Int.natCast_ediv]
  simp
theorem div_low (H s : Nat) (h1 : 2305843009213693951 ≤ H) (h2 : H < 18446744073709551616) (h5 : 5 ≤ s) (h58 : s ≤ 58) : 7 ≤ H / 2 ^ s ∧ H / 2 ^ s < 576460752303423488 := by
  constructor
  · have := Nat.div_le_div_left (a := H) (Nat.pow_le_pow_right (by omega : 0 < 2) h58) (Nat.pow_pos (by omega : 0 < 2))
    omega
  · have := Nat.div_le_div_left (a := H) (Nat.pow_le_pow_right (by omega : 0 < 2) h5) (Nat.pow_pos (by omega : 0 < 2))
    omega
theorem usc_bounds (H M M2 s : Nat) (h1 : 2305843009213693952 ≤ H) (h2 : H < 18446744073709551616) (h5 : 5 ≤ s) (h58 : s ≤ 58) : 7 ≤ uscU H M M2 s ∧ uscU H M M2 s < 576460752303423488 := by
  unfold uscU
  split
  · rw [div_pow]
    have a1 := div_low H s (by omega) h2 h5 h58
    have a2 := or_low (H / 2 ^ s) 1 a1.2 (by omega)
    have e : (((1 : Nat) : Int)) = 1 := rfl
    rw [e] at a2
    omega
  · have hw : ∃ G : Nat, IntKind.u64.wrap ((H : Int) - (if (M : Int) < (M2 : Int) then 1 else 0)) = (G : Int) ∧ 2305843009213693951 ≤ G ∧ G < 18446744073709551616 := by
      split
      · exact ⟨H - 1, by rw [IntWalk.u64_in _ (by omega)]; omega, by omega, by omega⟩
      · exact ⟨H, by rw [IntWalk.u64_in _ (by omega)]; omega, by omega, h2⟩
    obtain ⟨G, e, g1, g2⟩ := hw
    rw [e, div_pow]
    have a1 := div_low G s g1 g2 h5 h58
    split
    · have a2 := or_low (G / 2 ^ s) 1 a1.2 (by omega)
      have e : (((1 : Nat) : Int)) = 1 := rfl
      rw [e] at a2
      omega
    · have a2 := or_low (G / 2 ^ s) 0 a1.2 (by omega)
      have e : (((0 : Nat) : Int)) = 0 := rfl
      rw [e] at a2
      omega
theorem uscale_bounds (x hi lo s : Nat) (hx : 4611686018427387904 ≤ x) (hx2 : x < 18446744073709551616) (hhi : 9223372036854775808 ≤ hi) (hhi2 : hi < 18446744073709551616) (h5 : 5 ≤ s) (h58 : s ≤ 58) : 7 ≤ uscaleP x hi lo s ∧ uscaleP x hi lo s < 576460752303423488 := by
  unfold uscaleP
  refine usc_bounds _ _ _ _ ?_ ?_ h5 h58
  · have := Nat.mul_le_mul hx hhi
    rw [Nat.le_div_iff_mul_le (by omega)]
    omega
  · exact Nat.div_lt_of_lt_mul (Nat.mul_lt_mul'' hx2 hhi2)
theorem nudge_up (x odd : Int) (h0 : 7 ≤ x) (h1 : x < 576460752303423488) (ho : odd = 0 ∨ odd = 1) : nudgeU x odd = x + odd := by
  unfold nudgeU
  rw [IntWalk.u64_in odd (by omega), IntWalk.u64_in _ (by omega)]
theorem nudge_down (x odd : Int) (h0 : 7 ≤ x) (h1 : x < 576460752303423488) (ho : odd = 0 ∨ odd = 1) : nudgeU x (-odd) = x - odd := by
  unfold nudgeU
  rw [IntKind.wrap_u64, IntKind.wrap_u64]
  omega
theorem ceil_is (x : Int) (h0 : 0 ≤ x) (h1 : x < 576460752303423490) : ceilU x = (x + 3) / 4 := by
  unfold ceilU
  rw [IntWalk.u64_in _ (by omega)]
theorem round_is (x : Int) (h0 : 7 ≤ x) (h1 : x < 576460752303423488) : 1 ≤ roundU x ∧ roundU x < 576460752303423488 := by
  obtain ⟨n, rfl⟩ := Int.eq_ofNat_of_zero_le (by omega : 0 ≤ x)
  have h2 := bits_and_u64_nat (n / 4) 1 (by omega) (by omega)
  have h3 : n / 4 &&& 1 ≤ 1 := Nat.and_le_right
  have e : (((n / 4 : Nat) : Int)) = (n : Int) / 4 := by omega
  have e1 : (((1 : Nat) : Int)) = 1 := rfl
  rw [e, e1] at h2
  unfold roundU
  rw [h2, IntWalk.u64_in ((n : Int) + 1) (by omega), IntWalk.u64_in _ (by omega)]
  omega
/-- The number of the digits is at least 1, and their power of ten is the one that was asked for or the next. -/
theorem short_pos (m : Nat) (p : Int) (mn mx : Nat) (odd : Int) (hi lo s : Nat) (hm : 4611686018427387904 ≤ m ∧ m < 18446744073709551616) (hmn : 4611686018427387904 ≤ mn ∧ mn < 18446744073709551616) (hmx : 4611686018427387904 ≤ mx ∧ mx < 18446744073709551616)
    (ho : odd = 0 ∨ odd = 1) (hhi : 9223372036854775808 ≤ hi) (hhi2 : hi < 18446744073709551616) (h5 : 5 ≤ s) (h58 : s ≤ 58) :
    1 ≤ (shortP m p mn mx odd hi lo s).1 ∧ (shortP m p mn mx odd hi lo s).1 < 18446744073709551616 ∧ ((shortP m p mn mx odd hi lo s).2 = -p ∨ (shortP m p mn mx odd hi lo s).2 = -(p - 1)) := by
  have u1 := uscale_bounds mn hi lo s hmn.1 hmn.2 hhi hhi2 h5 h58
  have u2 := uscale_bounds mx hi lo s hmx.1 hmx.2 hhi hhi2 h5 h58
  have u3 := uscale_bounds m hi lo s hm.1 hm.2 hhi hhi2 h5 h58
  have r := round_is _ u3.1 u3.2
  unfold shortP
  rw [nudge_up _ odd u1.1 u1.2 ho, nudge_down _ odd u2.1 u2.2 ho, ceil_is _ (by omega) (by omega)]
  unfold floorU
  rw [IntWalk.u64_in ((uscaleP mx hi lo s - odd) / 4 / 10 * 10) (by omega)]
  split
  · exact ⟨by show 1 ≤ _ / 10; omega, by show _ / 10 < _; omega, Or.inr rfl⟩
  · split
    · exact ⟨r.1, by have := r.2; show roundU _ < _; omega, Or.inl rfl⟩
    · exact ⟨by show 1 ≤ _ / 4; omega, by show _ / 4 < _; omega, Or.inl rfl⟩
/-- A number that is not 0 has a digit that is not 0. -/
theorem strip_pos (d : Nat) (h : 1 ≤ d) : 1 ≤ stripN (Lib.decDigits d) := by
  induction d using Nat.strongRecOn with
  | _ d ih =>
    by_cases h10 : d < 10
    · have e : Lib.decDigits d = [] ++ [UInt8.ofNat (48 + d)] := by rw [Lib.decDigits, dif_pos h10]; rfl
      rw [e, strip_other _ _ (by
        intro hc
        have := congrArg UInt8.toNat hc
        rw [UInt8.toNat_ofNat'] at this
        have h48 : (48 : UInt8).toNat = 48 := rfl
        omega)]
      simp
    · have e : Lib.decDigits d = Lib.decDigits (d / 10) ++ [UInt8.ofNat (48 + d % 10)] := by rw [Lib.decDigits, dif_neg h10]
      rw [e]
      by_cases h0 : d % 10 = 0
      · rw [h0]
        have : (UInt8.ofNat (48 + 0)) = 48 := rfl
        rw [this, strip_nought]
        exact ih (d / 10) (by omega) (by omega)
      · rw [strip_other _ _ (by
          intro hc
          have := congrArg UInt8.toNat hc
          rw [UInt8.toNat_ofNat'] at this
          have h48 : (48 : UInt8).toNat = 48 := rfl
          omega)]
        omega
end Go.Proofs.YtamgdmmijlbjjaaGreatDoor
