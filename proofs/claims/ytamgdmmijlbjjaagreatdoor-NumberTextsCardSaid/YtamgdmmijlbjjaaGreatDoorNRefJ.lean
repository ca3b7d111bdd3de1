/- The text of a double: what comes of the cases in which nothing is joined. -/
import Derived.Test.YtamgdmmijlbjjaaGreatDoorNRefE
namespace Go.Proofs.YtamgdmmijlbjjaaGreatDoor
open Go Go.RowKit

theorem refText_nan (b : Nat) (hn : 9218868437227405312 < szB b) (w : World) :
    Calls Tryz.prog 16 #[.float .f64 b] w fun e w' => e = .returned (.string (str (textB b))) ∧ Below w.heap.size w w' := by
  have z3 : decide (9218868437227405312 < szB b) = true := decide_eq_true hn
  have ht : textB b = [110, 117, 108, 108] := by unfold textB; rw [if_pos hn]
  rw [ht]
  go_enter Tryz.func16, Tryz.ntmps16
  go_wp2_with fail
  refine (IsNaN_any b w).mono ?_
  rintro e w0 ⟨rfl, rfl⟩
  go_wp2_with fail
  go_ret
  exact ⟨rfl, Below.refl _ _⟩
theorem refText_zero (b : Nat) (hb : b < 18446744073709551616) (hz : szB b = 0) (w : World) :
    Calls Tryz.prog 16 #[.float .f64 b] w fun e w' => e = .returned (.string (str ((if negB b then [45] else []) ++ [48]))) ∧ Below w.heap.size w w' := by
  have z1 := eq_zero b
  have z2 : decide (szB b = 0) = true := decide_eq_true hz
  have z3 : decide (9218868437227405312 < szB b) = false := decide_eq_false (by omega)
  cases hN : negB b
  · go_enter Tryz.func16, Tryz.ntmps16
    go_wp2_with fail
    refine (IsNaN_any b w).mono ?_
    rintro e w0 ⟨rfl, rfl⟩
    go_wp2_with fail
    refine (Signbit_any b hb w).mono ?_
    rintro e w0 ⟨rfl, rfl⟩
    rw [hN]
    go_wp2_with fail
    go_ret
    exact ⟨by simp only [lit0, lit48, str_app]; rfl, Below.refl _ _⟩
  · go_enter Tryz.func16, Tryz.ntmps16
    go_wp2_with fail
    refine (IsNaN_any b w).mono ?_
    rintro e w0 ⟨rfl, rfl⟩
    go_wp2_with fail
    refine (Signbit_any b hb w).mono ?_
    rintro e w0 ⟨rfl, rfl⟩
    rw [hN]
    go_wp2_with fail
    go_ret
    exact ⟨by simp only [lit45, lit48, str_app]; rfl, Below.refl _ _⟩
end Go.Proofs.YtamgdmmijlbjjaaGreatDoor
