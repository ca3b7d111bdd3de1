/- The int of a double: the program's answer and the document's. -/
import Derived.Test.YtamgdmmijlbjjaaGreatDoorNInt
import Derived.Laws.FloatArith
namespace Go.Proofs.YtamgdmmijlbjjaaGreatDoor
open Go Go.RowKit

def sgB (b : Nat) : Bool := b / 9223372036854775808 % 2 == 1
/-- The magnitude without its fraction. -/
def mB (b : Nat) : Nat := vN (szB b) / 2 ^ 1074
def iB (b : Nat) : Int := sg (sgB b) (mB b)
set_option exponentiation.threshold 2000 in
theorem vN_63 : vN 4890909195324358656 = 9223372036854775808 * 2 ^ 1074 := by decide +kernel
set_option exponentiation.threshold 2000 in
theorem mB_lt (b : Nat) (h : szB b < 4890909195324358656) : mB b < 9223372036854775808 := by
  have hv := vN_mono h
  rw [vN_63] at hv
  unfold mB
  exact Nat.div_lt_of_lt_mul (by rw [Nat.mul_comm]; exact hv)
set_option exponentiation.threshold 2000 in
theorem mB_63 (b : Nat) (h : szB b = 4890909195324358656) : mB b = 9223372036854775808 := by
  unfold mB
  rw [h, vN_63, Nat.mul_div_cancel _ (Nat.pow_pos (by omega))]
theorem toInt_is (b : Nat) (h : szB b < 9218868437227405312) : (Ieee.double.read b).toInt .zero = some (iB b) := by
  obtain ⟨m, k, e1, e2, _⟩ := read_fin3 b h
  rw [e1]
  exact (toInt_num _ m k _ e2).1
theorem trB_is (b : Nat) (h : szB b < 9218868437227405312) : trB b = Ieee.double.nearest (sgB b) (mB b) 0 := by
  obtain ⟨m, k, e1, e2, _⟩ := read_fin3 b h
  unfold trB
  rw [e1, (toInt_num _ m k _ e2).2]
  rfl
set_option exponentiation.threshold 2000 in
theorem mB_exact (b : Nat) (h : szB b < 9218868437227405312) (h52 : 52 < (mB b).log2) : mB b % 2 ^ ((mB b).log2 - 52) = 0 := by
  obtain ⟨m, k, _, e2, e3⟩ := read_fin3 b h
  have h0 : mB b ≠ 0 := by
    intro e
    rw [e] at h52
    simp at h52
  have l1 := Nat.log2_self_le h0
  obtain ⟨L, hL⟩ : ∃ L, (mB b).log2 = L := ⟨_, rfl⟩
  rw [hL] at h52 l1 ⊢
  rcases Nat.lt_or_ge k 1074 with hk | hk
  · exfalso
    have e : 2 ^ 1074 = 2 ^ (1074 - k) * 2 ^ k := by rw [← Nat.pow_add, show 1074 - k + k = 1074 from by omega]
    have hm : mB b ≤ m := by
      unfold mB
      rw [← e2, e, Nat.mul_div_mul_right _ _ (Nat.pow_pos (by omega))]
      exact Nat.div_le_self _ _
    have := Nat.pow_le_pow_right (by omega : 0 < 2) h52
    omega
  · have e : 2 ^ k = 2 ^ (k - 1074) * 2 ^ 1074 := by rw [← Nat.pow_add, show k - 1074 + 1074 = k from by omega]
    have hm : mB b = m * 2 ^ (k - 1074) := by
      unfold mB
      rw [← e2, e, ← Nat.mul_assoc, Nat.mul_div_cancel _ (Nat.pow_pos (by omega))]
    have hLk : L - 52 ≤ k - 1074 := by
      rcases Nat.lt_or_ge (k - 1074) (L - 52) with hlt | hge
      · exfalso
        have h1 : m * 2 ^ (k - 1074) < 9007199254740992 * 2 ^ (k - 1074) := Nat.mul_lt_mul_of_pos_right e3 (Nat.pow_pos (by omega))
        have h2 : 9007199254740992 * 2 ^ (k - 1074) = 2 ^ (53 + (k - 1074)) := by rw [Nat.pow_add]
        have h3 := Nat.pow_le_pow_right (by omega : 0 < 2) (by omega : 53 + (k - 1074) ≤ L)
        omega
      · exact hge
    rw [hm, show k - 1074 = (k - 1074 - (L - 52)) + (L - 52) from by omega, Nat.pow_add, ← Nat.mul_assoc, Nat.mul_mod_left]
theorem toInt_tr (b : Nat) (h : szB b < 4890909195324358656) : (Ieee.double.read (trB b)).toInt .zero = some (iB b) := by
  rw [trB_is b (by omega)]
  exact near_int _ _ (mB_lt b h) (mB_exact b (by omega))
theorem tr_63 : (Ieee.double.read (Ieee.double.nearest true 9223372036854775808 0)).toInt .zero = some (-9223372036854775808) := by decide +kernel
theorem val_of (b : Nat) (n : Int) (h : (Ieee.double.read b).toInt .zero = some n) (h1 : -9223372036854775808 ≤ n) (h2 : n ≤ 9223372036854775807) : floatToIntVal .f64 b .i64 = some n := by
  have h' : (FloatKind.f64.decode b).toInt .zero = some n := h
  unfold floatToIntVal
  rw [h']
  have e1 : IntKind.i64.min = -9223372036854775808 := by decide
  have e2 : IntKind.i64.max = 9223372036854775807 := by decide
  simp only [e1, e2]
  rw [if_pos ⟨h1, h2⟩]
theorem iB_in (b : Nat) (h : szB b < 4890909195324358656) : -9223372036854775808 ≤ iB b ∧ iB b ≤ 9223372036854775807 := by
  have := mB_lt b h
  unfold iB sg
  split <;> omega
def intB (b : Nat) : Int :=
  if 9218868437227405312 < szB b then 0
  else if 4890909195324358656 ≤ sv b then 9223372036854775807
  else if sv b ≤ -4890909195324358656 then -9223372036854775808
  else iB b
theorem sv_lt (b : Nat) (h1 : sv b < 4890909195324358656) (h2 : -4890909195324358656 < sv b) : szB b < 4890909195324358656 := by
  unfold sv at h1 h2
  split at h1 <;> omega
theorem Int_any (b : Nat) (hb : b < 18446744073709551616) (w : World) : Calls Tryz.prog 19 #[.float .f64 b] w fun e w' => e = .returned (.int .i64 (intB b)) ∧ w = w' := by
  have s1 : sv 4890909195324358656 = 4890909195324358656 := by decide
  have s2 : sv 14114281232179134464 = -4890909195324358656 := by decide
  have z1 : szB 4890909195324358656 ≤ 9218868437227405312 := by decide
  have z2 : szB 14114281232179134464 ≤ 9218868437227405312 := by decide
  have g1 := gt_cmp b 4890909195324358656 z1
  have g2 := eq_cmp b 4890909195324358656 z1
  have g3 := lt_cmp b 14114281232179134464 z2
  have g4 := eq_cmp b 14114281232179134464 z2
  rw [s1] at g1 g2
  rw [s2] at g3 g4
  go_enter Tryz.func19, Tryz.ntmps19
  by_cases hn : 9218868437227405312 < szB b
  · have hd : decide (szB b ≤ 9218868437227405312) = false := decide_eq_false (by omega)
    have hi : intB b = 0 := by unfold intB; rw [if_pos hn]
    go_wp2_with fail
    refine (isNumber_any b hb w).mono ?_
    rintro e w' ⟨rfl, rfl⟩
    go_wp2_with fail
    go_ret
    exact ⟨by rw [hi]; rfl, rfl⟩
  · have hd : decide (szB b ≤ 9218868437227405312) = true := decide_eq_true (by omega)
    by_cases h1 : 4890909195324358656 ≤ sv b
    · have hi : intB b = 9223372036854775807 := by unfold intB; rw [if_neg hn, if_pos h1]
      have t1 : (FloatKind.f64.format.order b 4890909195324358656 == some .gt || FloatKind.f64.format.order b 4890909195324358656 == some .eq) = true := by
        rw [g1, g2, Bool.or_eq_true, decide_eq_true_iff, decide_eq_true_iff]; omega
      clear g1 g2 g3 g4
      go_wp2_with fail
      refine (isNumber_any b hb w).mono ?_
      rintro e w' ⟨rfl, rfl⟩
      go_wp2_with fail
      go_ret
      exact ⟨by rw [hi]; rfl, rfl⟩
    · have t1 : (FloatKind.f64.format.order b 4890909195324358656 == some .gt || FloatKind.f64.format.order b 4890909195324358656 == some .eq) = false := by
        rw [g1, g2, Bool.or_eq_false_iff, decide_eq_false_iff_not, decide_eq_false_iff_not]; omega
      by_cases h2 : sv b ≤ -4890909195324358656
      · have hi : intB b = -9223372036854775808 := by unfold intB; rw [if_neg hn, if_neg h1, if_pos h2]
        have t2 : (FloatKind.f64.format.order b 14114281232179134464 == some .lt || FloatKind.f64.format.order b 14114281232179134464 == some .eq) = true := by
          rw [g3, g4, Bool.or_eq_true, decide_eq_true_iff, decide_eq_true_iff]; omega
        clear g1 g2 g3 g4
        go_wp2_with fail
        refine (isNumber_any b hb w).mono ?_
        rintro e w' ⟨rfl, rfl⟩
        go_wp2_with fail
        go_ret
        exact ⟨by rw [hi]; rfl, rfl⟩
      · have hi : intB b = iB b := by unfold intB; rw [if_neg hn, if_neg h1, if_neg h2]
        have t2 : (FloatKind.f64.format.order b 14114281232179134464 == some .lt || FloatKind.f64.format.order b 14114281232179134464 == some .eq) = false := by
          rw [g3, g4, Bool.or_eq_false_iff, decide_eq_false_iff_not, decide_eq_false_iff_not]; omega
        have hz := sv_lt b (by omega) (by omega)
        have hbd := iB_in b hz
        have hc := fun w => run_convert_float_int (P := Tryz.prog) w 23 3 .f64 .i64 b (iB b) (by kernel_rfl) Tryz.underlying3 (val_of b (iB b) (toInt_is b (by omega)) hbd.1 hbd.2)
        clear g1 g2 g3 g4
        go_wp2_with fail
        refine (isNumber_any b hb w).mono ?_
        rintro e w' ⟨rfl, rfl⟩
        go_wp2_with fail
        go_ret
        exact ⟨by rw [hi]; rfl, rfl⟩
theorem refInt_any (b : Nat) (_hb : b < 18446744073709551616) (w : World) : Calls Tryz.prog 20 #[.float .f64 b] w fun e w' => e = .returned (.int .i64 (intB b)) ∧ w = w' := by
  have s1 : sv 4890909195324358656 = 4890909195324358656 := by decide
  have s2 : sv 14114281232179134464 = -4890909195324358656 := by decide
  have z1 : szB 4890909195324358656 ≤ 9218868437227405312 := by decide
  have z2 : szB 14114281232179134464 ≤ 9218868437227405312 := by decide
  have g1 := gt_cmp b 4890909195324358656 z1
  have g2 := eq_cmp b 4890909195324358656 z1
  have g3 := lt_cmp b 14114281232179134464 z2
  rw [s1] at g1 g2
  rw [s2] at g3
  go_enter Tryz.func20, Tryz.ntmps20
  by_cases hn : 9218868437227405312 < szB b
  · have hd : decide (9218868437227405312 < szB b) = true := decide_eq_true hn
    have hi : intB b = 0 := by unfold intB; rw [if_pos hn]
    go_wp2_with fail
    refine (IsNaN_any b w).mono ?_
    rintro e w' ⟨rfl, rfl⟩
    go_wp2_with fail
    go_ret
    exact ⟨by rw [hi]; rfl, rfl⟩
  · have hd : decide (9218868437227405312 < szB b) = false := decide_eq_false hn
    by_cases h1 : 4890909195324358656 ≤ sv b
    · have hi : intB b = 9223372036854775807 := by unfold intB; rw [if_neg hn, if_pos h1]
      have t1 : (FloatKind.f64.format.order b 4890909195324358656 == some .gt || FloatKind.f64.format.order b 4890909195324358656 == some .eq) = true := by
        rw [g1, g2, Bool.or_eq_true, decide_eq_true_iff, decide_eq_true_iff]; omega
      clear g1 g2 g3
      go_wp2_with fail
      refine (IsNaN_any b w).mono ?_
      rintro e w' ⟨rfl, rfl⟩
      go_wp2_with fail
      go_ret
      exact ⟨by rw [hi]; rfl, rfl⟩
    · have t1 : (FloatKind.f64.format.order b 4890909195324358656 == some .gt || FloatKind.f64.format.order b 4890909195324358656 == some .eq) = false := by
        rw [g1, g2, Bool.or_eq_false_iff, decide_eq_false_iff_not, decide_eq_false_iff_not]; omega
      by_cases h2 : sv b < -4890909195324358656
      · have hi : intB b = -9223372036854775808 := by unfold intB; rw [if_neg hn, if_neg h1, if_pos (by omega)]
        have t2 : (FloatKind.f64.format.order b 14114281232179134464 == some .lt) = true := by
          rw [g3, decide_eq_true_iff]; omega
        clear g1 g2 g3
        go_wp2_with fail
        refine (IsNaN_any b w).mono ?_
        rintro e w' ⟨rfl, rfl⟩
        go_wp2_with fail
        go_ret
        exact ⟨by rw [hi]; rfl, rfl⟩
      · have t2 : (FloatKind.f64.format.order b 14114281232179134464 == some .lt) = false := by
          rw [g3, decide_eq_false_iff_not]; omega
        have hsz : szB b < 9218868437227405312 := by
          unfold sv at h1 h2
          split at h1 <;> omega
        have hv : floatToIntVal .f64 (trB b) .i64 = some (intB b) := by
          by_cases h3 : sv b = -4890909195324358656
          · have hi : intB b = -9223372036854775808 := by unfold intB; rw [if_neg hn, if_neg h1, if_pos (by omega)]
            have hg : b / 9223372036854775808 % 2 = 1 := by
              unfold sv at h3
              split at h3
              · assumption
              · omega
            have hz : szB b = 4890909195324358656 := by
              unfold sv at h3
              rw [if_pos hg] at h3
              omega
            rw [hi]
            refine val_of _ _ ?_ (by omega) (by omega)
            rw [trB_is b hsz, mB_63 b hz, show sgB b = true from by unfold sgB; rw [beq_iff_eq]; exact hg]
            exact tr_63
          · have hi : intB b = iB b := by unfold intB; rw [if_neg hn, if_neg h1, if_neg (by omega)]
            have hz := sv_lt b (by omega) (by omega)
            have hbd := iB_in b hz
            rw [hi]
            exact val_of _ _ (toInt_tr b hz) hbd.1 hbd.2
        have hc := fun w => run_convert_float_int (P := Tryz.prog) w 23 3 .f64 .i64 (trB b) (intB b) (by kernel_rfl) Tryz.underlying3 hv
        clear g1 g2 g3
        go_wp2_with fail
        refine (IsNaN_any b w).mono ?_
        rintro e w' ⟨rfl, rfl⟩
        go_wp2_with fail
        refine (Trunc_any b hsz w).mono ?_
        rintro e w' ⟨rfl, rfl⟩
        go_wp2_with fail
        go_ret
        exact ⟨rfl, rfl⟩
end Go.Proofs.YtamgdmmijlbjjaaGreatDoor
