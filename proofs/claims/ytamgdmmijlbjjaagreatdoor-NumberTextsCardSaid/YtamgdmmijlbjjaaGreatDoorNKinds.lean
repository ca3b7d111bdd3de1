/- What kind of double it is: finite, an infinity, not a number, below 0: by its bits. -/
import Derived.Test.YtamgdmmijlbjjaaGreatDoorNOrder
import Derived.Laws.BitsAll
namespace Go.Proofs.YtamgdmmijlbjjaaGreatDoor
open Go Go.RowKit

theorem andNot_top (b : Nat) (hb : b < 18446744073709551616) : bits .andNot .u64 (b : Int) 9223372036854775808 = ((szB b : Nat) : Int) := by
  have h := u64_andNot_nat b 9223372036854775808 hb (by omega)
  have e : b &&& 9223372036854775807 = b % 9223372036854775808 := Nat.and_two_pow_sub_one_eq_mod b 63
  unfold szB
  rw [← e]
  exact h
theorem absB_is (b : Nat) (hb : b < 18446744073709551616) : absB b = szB b := by
  unfold absB
  rw [andNot_top b hb]
  rfl
def ordF (a b : Nat) : Option Ordering := FloatKind.f64.format.order a b
theorem ordF_is (a b : Nat) (ha : szB a ≤ 9218868437227405312) (hb : szB b ≤ 9218868437227405312) : FloatKind.f64.format.order a b = some (compare (sv a) (sv b)) := order_is a b ha hb
theorem ordF_nan (a b : Nat) (h : 9218868437227405312 < szB a ∨ 9218868437227405312 < szB b) : FloatKind.f64.format.order a b = none := order_nan a b h
theorem eq_self (b : Nat) : (FloatKind.f64.format.order b b != some .eq) = decide (9218868437227405312 < szB b) := by
  rcases Nat.lt_or_ge 9218868437227405312 (szB b) with h | h
  · rw [ordF_nan b b (.inl h), decide_eq_true h]; rfl
  · rw [ordF_is b b h h, decide_eq_false (by omega), Int.compare_eq_eq.2 rfl]; rfl
theorem eq_cmp (a b : Nat) (hb : szB b ≤ 9218868437227405312) : (FloatKind.f64.format.order a b == some .eq) = decide (szB a ≤ 9218868437227405312 ∧ sv a = sv b) := by
  rcases Nat.lt_or_ge 9218868437227405312 (szB a) with h | h
  · rw [ordF_nan a b (.inl h), decide_eq_false (by omega)]; rfl
  · rw [ordF_is a b h hb, Bool.eq_iff_iff, beq_iff_eq, decide_eq_true_iff, Option.some.injEq, Int.compare_eq_eq]
    exact ⟨fun e => ⟨h, e⟩, fun e => e.2⟩
theorem lt_cmp (a b : Nat) (hb : szB b ≤ 9218868437227405312) : (FloatKind.f64.format.order a b == some .lt) = decide (szB a ≤ 9218868437227405312 ∧ sv a < sv b) := by
  rcases Nat.lt_or_ge 9218868437227405312 (szB a) with h | h
  · rw [ordF_nan a b (.inl h), decide_eq_false (by omega)]; rfl
  · rw [ordF_is a b h hb, Bool.eq_iff_iff, beq_iff_eq, decide_eq_true_iff, Option.some.injEq, Int.compare_eq_lt]
    exact ⟨fun e => ⟨h, e⟩, fun e => e.2⟩
theorem gt_cmp (a b : Nat) (hb : szB b ≤ 9218868437227405312) : (FloatKind.f64.format.order a b == some .gt) = decide (szB a ≤ 9218868437227405312 ∧ sv b < sv a) := by
  rcases Nat.lt_or_ge 9218868437227405312 (szB a) with h | h
  · rw [ordF_nan a b (.inl h), decide_eq_false (by omega)]; rfl
  · rw [ordF_is a b h hb, Bool.eq_iff_iff, beq_iff_eq, decide_eq_true_iff, Option.some.injEq, Int.compare_eq_gt]
    exact ⟨fun e => ⟨h, e⟩, fun e => e.2⟩

theorem sizeBits_any (b : Nat) (hb : b < 18446744073709551616) (w : World) : Calls Tryz.prog 111 #[.float .f64 b] w fun e w' => e = .returned (.int .u64 (szB b)) ∧ w = w' := by
  have h1 := bits_math
  have h2 := andNot_top b hb
  go_enter Tryz.func111, Tryz.ntmps111
  go_wp2_with fail
  go_ret
  exact ⟨rfl, rfl⟩
theorem isFinite_any (b : Nat) (hb : b < 18446744073709551616) (w : World) : Calls Tryz.prog 55 #[.float .f64 b] w fun e w' => e = .returned (.bool (decide (szB b < 9218868437227405312))) ∧ w = w' := by
  have hs : decide ((szB b : Int) < 9218868437227405312) = decide (szB b < 9218868437227405312) := by rw [decide_eq_decide]; omega
  go_enter Tryz.func55, Tryz.ntmps55
  go_wp2_with fail
  refine (sizeBits_any b hb w).mono ?_
  rintro e w' ⟨rfl, rfl⟩
  go_wp2_with fail
  go_ret
  exact ⟨rfl, rfl⟩
theorem isNumber_any (b : Nat) (hb : b < 18446744073709551616) (w : World) : Calls Tryz.prog 62 #[.float .f64 b] w fun e w' => e = .returned (.bool (decide (szB b ≤ 9218868437227405312))) ∧ w = w' := by
  have hs : decide ((szB b : Int) ≤ 9218868437227405312) = decide (szB b ≤ 9218868437227405312) := by rw [decide_eq_decide]; omega
  go_enter Tryz.func62, Tryz.ntmps62
  go_wp2_with fail
  refine (sizeBits_any b hb w).mono ?_
  rintro e w' ⟨rfl, rfl⟩
  go_wp2_with fail
  go_ret
  exact ⟨rfl, rfl⟩
theorem IsNaN_any (b : Nat) (w : World) : Calls Tryz.prog 60 #[.float .f64 b] w fun e w' => e = .returned (.bool (decide (9218868437227405312 < szB b))) ∧ w = w' := by
  have h := eq_self b
  go_enter Tryz.func60, Tryz.ntmps60
  go_wp2_with fail
  go_ret
  exact ⟨rfl, rfl⟩
theorem sv_low (b : Nat) (h : b < 9223372036854775808) : sv b = b := by
  unfold sv szB; rw [if_neg (by omega)]; omega
theorem IsInf_any (b : Nat) (hb : b < 18446744073709551616) (w : World) : Calls Tryz.prog 61 #[.float .f64 b, .int .i64 0] w fun e w' => e = .returned (.bool (decide (szB b = 9218868437227405312))) ∧ w = w' := by
  have hlt : szB b < 9223372036854775808 := Nat.mod_lt _ (by omega)
  have hzz : szB (szB b) = szB b := by show szB b % 9223372036854775808 = _; omega
  have h : (FloatKind.f64.format.order (szB b) 9218868437227405311 == some .gt) = decide (szB b = 9218868437227405312) := by
    rw [gt_cmp _ _ (by decide), hzz, sv_low _ hlt, sv_low _ (by omega), decide_eq_decide]; omega
  have ha := Abs_any b
  rw [absB_is b hb] at ha
  go_enter Tryz.func61, Tryz.ntmps61
  go_wp2_with fail
  refine (ha w).mono ?_
  rintro e w' ⟨rfl, rfl⟩
  go_wp2_with fail
  go_ret
  exact ⟨rfl, rfl⟩
theorem Signbit_any (b : Nat) (hb : b < 18446744073709551616) (w : World) : Calls Tryz.prog 63 #[.float .f64 b] w fun e w' => e = .returned (.bool (negB b)) ∧ w = w' := by
  have h1 := bits_math
  have h2 : decide (wrap64 (b : Int) < 0) = negB b := by
    unfold negB wrap64
    rw [decide_eq_decide]; omega
  go_enter Tryz.func63, Tryz.ntmps63
  go_wp2_with fail
  go_ret
  exact ⟨rfl, rfl⟩
end Go.Proofs.YtamgdmmijlbjjaaGreatDoor
