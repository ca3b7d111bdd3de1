/- math.Floor of every double. -/
import Derived.Test.YtimipkbingbifaaProg
import Derived.WalkKit
import Derived.WalkLawsBesides
import Derived.Lib.Hide
import Derived.Laws.Externs
import Derived.Laws.FloatArith
import Derived.Test.YtimipkbingbifaaCFl
namespace Go.Proofs.Ytimipkbingbifaa
open Go Go.RowKit

theorem floor_ext (b : Nat) (hf : szB b ≤ 9218868437227405312) (w : World) : (callFunc 42 #[.float .f64 b]).run Try.prog w = .ok (.value (.float .f64 (floorB b))) w := by
  rw [run_callFunc_extern Try.func42 (by kernel_rfl) (by kernel_rfl) (by kernel_rfl) (e := Extern.MathFloor.toIntegral "math.archFloor" .down) (by kernel_rfl)]
  have e2 : Extern.MathFloor.toIntegral "math.archFloor" .down #[.float .f64 b] = pure (.float .f64 (floorB b)) := by
    unfold floorB
    rcases Nat.lt_or_ge (szB b) 9218868437227405312 with h | h
    · obtain ⟨m, k, e1, _⟩ := read_fin b h
      have e : FloatKind.f64.decode b = .number (b / 9223372036854775808 % 2 == 1) m (-1074 + (k : Int)) := e1
      rw [e1]
      delta Extern.MathFloor.toIntegral
      conv => lhs; whnf
      rw [e]
      rfl
    · have e1 := read_inf b (by omega)
      have e : FloatKind.f64.decode b = .infinity (b / 9223372036854775808 % 2 == 1) := e1
      rw [e1]
      delta Extern.MathFloor.toIntegral
      conv => lhs; whnf
      rw [e]
      rfl
  rw [e2]
  rfl
theorem Floor_num (b : Nat) (hf : szB b ≤ 9218868437227405312) (w : World) : Calls Try.prog 24 #[.float .f64 b] w fun e w' => e = .returned (.float .f64 (floorB b)) ∧ w = w' := by
  have h := floor_ext b hf
  go_enter Try.func24, Try.ntmps24
  go_wp2_with fail
  go_ret
  exact ⟨rfl, rfl⟩
theorem floorB_inf (b : Nat) (hf : szB b = 9218868437227405312) : szB (floorB b) = 9218868437227405312 ∧ sgB (floorB b) = sgB b := by
  unfold floorB
  rw [read_inf b hf]
  unfold sgB
  cases (b / 9223372036854775808 % 2 == 1) <;> decide
theorem quiet_nan (s : Bool) (t : Nat) : 9218868437227405312 < szB (Ieee.double.write (.nan s (Ieee.double.quiet t))) := by
  have h : (t ||| 2251799813685248) % 4503599627370496 ≠ 0 := by
    intro h
    have h2 : ((t ||| 2 ^ 51) % 2 ^ 52).testBit 51 = true := by
      rw [Nat.testBit_mod_two_pow, Nat.testBit_or, Nat.testBit_two_pow_self]
      simp
    have h3 : (t ||| 2 ^ 51) % 2 ^ 52 = 0 := h
    rw [h3] at h2
    simp at h2
  have d1 : Ieee.double.signWeight = 9223372036854775808 := rfl
  have d2 : Ieee.double.binade = 4503599627370496 := rfl
  have d3 : Ieee.double.infRung = 9218868437227405312 := rfl
  have d4 : Ieee.double.quiet t = t ||| 2251799813685248 := rfl
  unfold Ieee.Format.write Ieee.Format.word szB
  simp only [d1, d2, d3, d4]
  cases s <;> simp only [Bool.false_eq_true, if_false, if_true] <;> omega
theorem floor_nan_ext (b : Nat) (hf : 9218868437227405312 < szB b) (w : World) : ∃ x w', (callFunc 42 #[.float .f64 b]).run Try.prog w = .ok (.value (.float .f64 x)) w' ∧ 9218868437227405312 < szB x ∧ ∃ n, w' = w.drewN n := by
  obtain ⟨s, t, e1⟩ := read_nan b hf
  have e : FloatKind.f64.decode b = .nan s t := e1
  rw [run_callFunc_extern Try.func42 (by kernel_rfl) (by kernel_rfl) (by kernel_rfl) (e := Extern.MathFloor.toIntegral "math.archFloor" .down) (by kernel_rfl)]
  by_cases hq : FloatKind.f64.format.quiet t = t
  · refine ⟨b, w, ?_, hf, 0, rfl⟩
    have e2 : Extern.MathFloor.toIntegral "math.archFloor" .down #[.float .f64 b] = pure (.float .f64 b) := by
      delta Extern.MathFloor.toIntegral
      conv => lhs; whnf
      rw [e]
      simp only
      rw [if_pos hq]
    rw [e2]
    rfl
  · have e2 : Extern.MathFloor.toIntegral "math.archFloor" .down #[.float .f64 b] = (do
        let kept ← choose (.extern "math.Floor,Ceil,Trunc,RoundToEven.signallingNaN kept" 2)
        pure (.float .f64 (if kept == 1 then b else FloatKind.f64.encode (.nan s (FloatKind.f64.format.quiet t))))) := by
      delta Extern.MathFloor.toIntegral
      conv => lhs; whnf
      rw [e]
      simp only
      rw [if_neg hq]
    rw [e2]
    have hx : ∀ k : Nat, 9218868437227405312 < szB (if (k == 1) = true then b else FloatKind.f64.encode (.nan s (FloatKind.f64.format.quiet t))) := by
      intro k
      split
      · exact hf
      · exact quiet_nan s t
    simp only [Sem.run_bind, run_choose_drew]
    split
    · exact ⟨_, w, rfl, hx _, 0, rfl⟩
    · exact ⟨_, w.drew, rfl, hx _, 1, rfl⟩
theorem Floor_nan (b : Nat) (hf : 9218868437227405312 < szB b) (w : World) : Calls Try.prog 24 #[.float .f64 b] w fun e w' => (∃ x, e = .returned (.float .f64 x) ∧ 9218868437227405312 < szB x) ∧ ∃ n, w' = w.drewN n := by
  obtain ⟨x, wx, h, hx, n, hn⟩ := floor_nan_ext b hf w
  subst hn
  have HX := Lib.hid hx
  clear hx
  have hc : Calls Try.prog 24 #[.float .f64 b] w fun e w' => e = .returned (.float .f64 x) ∧ w' = w.drewN n := by
    go_enter Try.func24, Try.ntmps24
    go_wp2_with fail
    go_ret
    exact ⟨rfl, rfl⟩
  refine hc.mono ?_
  rintro e w' ⟨h1, h2⟩
  exact ⟨⟨x, h1, HX.out⟩, n, h2⟩
end Go.Proofs.Ytimipkbingbifaa
