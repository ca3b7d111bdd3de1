/- Whole doubles and ints of doubles: the program's answer and the document's. -/
import Derived.Test.YtamgdmmijlbjjaaGreatDoorNKinds
namespace Go.Proofs.YtamgdmmijlbjjaaGreatDoor
open Go Go.RowKit

/-- The double without its fraction. -/
def trB (b : Nat) : Nat := Ieee.double.write ((Ieee.double.read b).integral .zero)
theorem trunc_ext (b : Nat) (hf : szB b < 9218868437227405312) (w : World) : (callFunc 109 #[.float .f64 b]).run Tryz.prog w = .ok (.value (.float .f64 (trB b))) w := by
  obtain ⟨m, k, e1, _⟩ := read_fin b hf
  rw [run_callFunc_extern Tryz.func109 (by kernel_rfl) (by kernel_rfl) (by kernel_rfl) (e := Extern.MathFloor.toIntegral "math.archTrunc" .zero) (by kernel_rfl)]
  have e : FloatKind.f64.decode b = .number (b / 9223372036854775808 % 2 == 1) m (-1074 + (k : Int)) := e1
  have e2 : Extern.MathFloor.toIntegral "math.archTrunc" .zero #[.float .f64 b] = pure (.float .f64 (trB b)) := by
    unfold trB
    rw [e1]
    delta Extern.MathFloor.toIntegral
    conv => lhs; whnf
    rw [e]
    rfl
  rw [e2]
  rfl
theorem Trunc_any (b : Nat) (hf : szB b < 9218868437227405312) (w : World) : Calls Tryz.prog 54 #[.float .f64 b] w fun e w' => e = .returned (.float .f64 (trB b)) ∧ w = w' := by
  have h := trunc_ext b hf
  go_enter Tryz.func54, Tryz.ntmps54
  go_wp2_with fail
  go_ret
  exact ⟨rfl, rfl⟩
theorem eq_turn (a b : Nat) : (FloatKind.f64.format.order a b == some .eq) = (FloatKind.f64.format.order b a == some .eq) := by
  rcases Nat.lt_or_ge 9218868437227405312 (szB a) with h | h
  · rw [ordF_nan a b (.inl h), ordF_nan b a (.inr h)]
  · rcases Nat.lt_or_ge 9218868437227405312 (szB b) with h' | h'
    · rw [ordF_nan a b (.inr h'), ordF_nan b a (.inl h')]
    · rw [ordF_is a b h h', ordF_is b a h' h, Bool.eq_iff_iff, beq_iff_eq, beq_iff_eq, Option.some.injEq, Option.some.injEq, Int.compare_eq_eq, Int.compare_eq_eq]
      exact ⟨Eq.symm, Eq.symm⟩
def wholeB (b : Nat) : Bool := decide (szB b < 9218868437227405312) && (FloatKind.f64.format.order b (trB b) == some .eq)
theorem Whole_any (b : Nat) (hb : b < 18446744073709551616) (w : World) : Calls Tryz.prog 17 #[.float .f64 b] w fun e w' => e = .returned (.bool (wholeB b)) ∧ w = w' := by
  unfold wholeB
  go_enter Tryz.func17, Tryz.ntmps17
  by_cases hf : szB b < 9218868437227405312
  · have hd : decide (szB b < 9218868437227405312) = true := decide_eq_true hf
    go_wp2_with fail
    refine (isFinite_any b hb w).mono ?_
    rintro e w' ⟨rfl, rfl⟩
    go_wp2_with fail
    refine (Trunc_any b hf w).mono ?_
    rintro e w' ⟨rfl, rfl⟩
    go_wp2_with fail
    go_ret
    exact ⟨by rw [hd]; rfl, rfl⟩
  · have hd : decide (szB b < 9218868437227405312) = false := decide_eq_false hf
    go_wp2_with fail
    refine (isFinite_any b hb w).mono ?_
    rintro e w' ⟨rfl, rfl⟩
    go_wp2_with fail
    go_ret
    exact ⟨by rw [hd]; rfl, rfl⟩
theorem refWhole_any (b : Nat) (hb : b < 18446744073709551616) (w : World) : Calls Tryz.prog 18 #[.float .f64 b] w fun e w' => e = .returned (.bool (wholeB b)) ∧ w = w' := by
  unfold wholeB
  rw [eq_turn]
  go_enter Tryz.func18, Tryz.ntmps18
  rcases Nat.lt_trichotomy (szB b) 9218868437227405312 with hf | hf | hf
  · have hd : decide (szB b < 9218868437227405312) = true := decide_eq_true hf
    have hd2 : decide (9218868437227405312 < szB b) = false := decide_eq_false (by omega)
    have hd3 : decide (szB b = 9218868437227405312) = false := decide_eq_false (by omega)
    go_wp2_with fail
    refine (IsNaN_any b w).mono ?_
    rintro e w' ⟨rfl, rfl⟩
    go_wp2_with fail
    refine (IsInf_any b hb w).mono ?_
    rintro e w' ⟨rfl, rfl⟩
    go_wp2_with fail
    refine (Trunc_any b hf w).mono ?_
    rintro e w' ⟨rfl, rfl⟩
    go_wp2_with fail
    go_ret
    exact ⟨by rw [hd]; rfl, rfl⟩
  · have hd : decide (szB b < 9218868437227405312) = false := decide_eq_false (by omega)
    have hd2 : decide (9218868437227405312 < szB b) = false := decide_eq_false (by omega)
    have hd3 : decide (szB b = 9218868437227405312) = true := decide_eq_true hf
    go_wp2_with fail
    refine (IsNaN_any b w).mono ?_
    rintro e w' ⟨rfl, rfl⟩
    go_wp2_with fail
    refine (IsInf_any b hb w).mono ?_
    rintro e w' ⟨rfl, rfl⟩
    go_wp2_with fail
    go_ret
    exact ⟨by rw [hd]; rfl, rfl⟩
  · have hd : decide (szB b < 9218868437227405312) = false := decide_eq_false (by omega)
    have hd2 : decide (9218868437227405312 < szB b) = true := decide_eq_true hf
    go_wp2_with fail
    refine (IsNaN_any b w).mono ?_
    rintro e w' ⟨rfl, rfl⟩
    go_wp2_with fail
    go_ret
    exact ⟨by rw [hd]; rfl, rfl⟩
end Go.Proofs.YtamgdmmijlbjjaaGreatDoor
