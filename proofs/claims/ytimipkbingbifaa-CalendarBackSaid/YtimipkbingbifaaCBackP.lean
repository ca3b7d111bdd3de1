/- Breaking down and joining whole seconds, plain and by contracts. -/
import Derived.Test.YtimipkbingbifaaCNextP
namespace Go.Proofs.Ytimipkbingbifaa
open Go Go.RowKit

set_option exponentiation.threshold 2000 in
theorem frac_fI (k : Int) (h1 : -9007199254740992 ≤ k) (h2 : k ≤ 9007199254740992) : fracB (fI k) = 0 := by
  obtain ⟨a, b⟩ := fI_is k h1 h2
  obtain ⟨c, d, e, _⟩ := floor_is (fI k) a
  have h := sub_exact (fI k) (floorB (fI k)) 0 a c (by omega) (by omega) (by rw [d, flI_fI k h1 h2, b]; simp) (fun _ => by rw [e]; cases sgB (fI k) <;> rfl)
  unfold fracB
  rw [h]
  rfl
set_option exponentiation.threshold 2000 in
theorem sec_fI (k r : Int) (h1 : -9007199254740992 ≤ k) (h2 : k ≤ 9007199254740992) (h3 : 0 ≤ r) (h4 : r ≤ 9007199254740992) : secB (fI k) r = fI r := by
  obtain ⟨a, b⟩ := fI_is r (by omega) h4
  have z : valB 0 = 0 := by decide
  have h := add_exact (fI r) 0 r a (by decide) (by omega) h4 (by rw [b, z]; omega) (fun h => by rw [show sgB 0 = false from by decide]; cases sgB (fI r) <;> rfl)
  unfold secB
  rw [frac_fI k h1 h2, h]
  rfl
theorem fitS_fI (k : Int) (h1 : 0 ≤ k) (h2 : k < 60) : fitS (fI k) := by
  constructor
  · left
    rw [← c9_low, fI_order k _ (by omega) (by omega) (by omega) (by omega), Int.compare_eq_gt.2 (by omega)]
  · left
    rw [← c9_high, fI_order k _ (by omega) (by omega) (by omega) (by omega), Int.compare_eq_lt.2 (by omega)]
theorem fits_in (n : Int) (h1 : -1000000000 ≤ n) (h2 : n ≤ 1000000000) : fitsB n = true := (fitsB_iff n).2 ⟨h1, h2⟩
/-- A time within its ranges, joined. -/
theorem join_in (y m d h i : Int) (s : Nat) (wd yd : Int) (hD : OkD y m d) (h1 : 0 ≤ h ∧ h ≤ 23) (h2 : 0 ≤ i ∧ i ≤ 59) (hs : fitS s) (hf : 0 ≤ flI s ∧ flI s < 60) (w : World) :
    Calls Try.prog 20 #[.agg (timeV y m d h i s wd yd)] w fun e w' => e = .returned (.tuple #[.int .i64 (numI y m d * 86400 + h * 3600 + i * 60 + flI s), .int .i64 0]) ∧ Below w.heap.size w w' := by
  have hr := num_range y m d hD
  have hl := lenI_bd y m hD.2.1.1 hD.2.1.2
  obtain ⟨⟨a1, a2⟩, ⟨b1, b2⟩, c1, c2⟩ := hD
  have e1 : m / 12 = 0 := by omega
  have e2 : m % 12 = m := by omega
  have e3 : secI (y + m / 12) (m % 12) d h i s = numI y m d * 86400 + h * 3600 + i * 60 + flI s := by
    rw [e1, e2]
    unfold secI numI
    rw [Int.add_zero]
  have e := Join_of y m d h i s wd yd ⟨fits_in _ (by omega) (by omega), fits_in _ (by omega) (by omega), fits_in _ (by omega) (by omega), fits_in _ (by omega) (by omega), fits_in _ (by omega) (by omega), hs⟩ (by rw [e1]; exact knownB_true _ (by omega)) (by rw [e3]; omega) (by rw [e3]; omega) w
  rw [e3] at e
  exact e
/-- What Split and then Join make of a whole number of seconds that Split knows. -/
theorem split_int (k : Int) (h1 : -1125899906842624 < k) (h2 : k < 1125899906842624) :
    (∀ w, Calls Try.prog 18 #[.float .f64 (fI k)] w fun e w' => e = .returned (.tuple #[.agg (timeV 0 0 0 0 0 0 0 0), .int .i64 110]) ∧ Below w.heap.size w w') ∨
    ∃ (y m d h i : Int) (s : Nat) (wd yd : Int), OkD y m d ∧ (0 ≤ wd ∧ wd ≤ 6) ∧
      (∀ w, Calls Try.prog 18 #[.float .f64 (fI k)] w fun e w' => e = .returned (.tuple #[.agg (timeV y m d h i s wd yd), .int .i64 0]) ∧ Below w.heap.size w w') ∧
      (∀ w, Calls Try.prog 20 #[.agg (timeV y m d h i s wd yd)] w fun e w' => e = .returned (.tuple #[.int .i64 k, .int .i64 0]) ∧ Below w.heap.size w w') := by
  have hz := (fI_is k (by omega) (by omega)).1
  have hf := flI_fI k (by omega) (by omega)
  by_cases hfar : k < -1000000000000000 ∨ 1000000000000000 < k
  · left
    exact Split_far _ (by omega) (by rw [hf]; exact .inr hfar)
  · by_cases hout : k / 86400 < -4371587 ∨ 2932896 < k / 86400
    · left
      exact Split_out _ hz (by rw [hf]; omega) (by rw [hf]; omega) (by rw [hf]; exact hout)
    · right
      obtain ⟨y, m, d, hD, hN⟩ := num_ex (k / 86400) (by omega) (by omega)
      refine ⟨y, m, d, k % 86400 / 3600, k % 86400 / 60 % 60, fI (k % 86400 % 60), (numI y m d + 4) % 7, numI y m d - beginI y 0, hD, by omega, fun w => ?_, fun w => ?_⟩
      · have e := Split_of (fI k) hz y m d (k % 86400) hD (by rw [hf]; exact hN.symm) (by rw [hf]) w
        rw [sec_fI k (k % 86400 % 60) (by omega) (by omega) (by omega) (by omega)] at e
        exact e
      · have hfl := flI_fI (k % 86400 % 60) (by omega) (by omega)
        have e := join_in y m d (k % 86400 / 3600) (k % 86400 / 60 % 60) (fI (k % 86400 % 60)) ((numI y m d + 4) % 7) (numI y m d - beginI y 0) hD (by omega) (by omega) (fitS_fI _ (by omega) (by omega)) (by rw [hfl]; omega) w
        rw [hfl, show numI y m d * 86400 + k % 86400 / 3600 * 3600 + k % 86400 / 60 % 60 * 60 + k % 86400 % 60 = k from by omega] at e
        exact e
theorem c_sixty : fI 60 = 4633641066610819072 := by decide +kernel
theorem c_nought : fI 0 = 0 := by decide +kernel
set_option exponentiation.threshold 2000 in
/-- Seconds from 0 to below 60, without a fraction. -/
theorem sec_in (s : Nat) (g1 : Ieee.double.order s 0 = some .gt ∨ Ieee.double.order s 0 = some .eq) (g2 : Ieee.double.order s 4633641066610819072 = some .lt) : szB s < 9218868437227405312 ∧ fitS s ∧ 0 ≤ flI s ∧ flI s < 60 := by
  rcases Nat.lt_trichotomy (szB s) 9218868437227405312 with hf | hf | hf
  · obtain ⟨a1, a2⟩ := fI_is 0 (by omega) (by omega)
    obtain ⟨b1, b2⟩ := fI_is 60 (by omega) (by omega)
    obtain ⟨p1, p2⟩ := fI_is (-1000000000) (by omega) (by omega)
    obtain ⟨q1, q2⟩ := fI_is 1000000000 (by omega) (by omega)
    rw [← c_nought, val_order _ _ hf a1, a2] at g1
    rw [← c_sixty, val_order _ _ hf b1, b2] at g2
    have p : (0 : Int) < (2 : Int) ^ 1074 := Int.pow_pos (by omega)
    have l1 : 0 ≤ valB s := by
      rcases g1 with h | h
      · have := Int.compare_eq_gt.1 (Option.some.inj h); omega
      · have := Int.compare_eq_eq.1 (Option.some.inj h); omega
    have l2 : valB s < 60 * 2 ^ 1074 := Int.compare_eq_lt.1 (Option.some.inj g2)
    have m1 : -1000000000 * (2 : Int) ^ 1074 < 0 := by rw [Int.neg_mul]; have := Int.mul_pos (by omega : (0 : Int) < 1000000000) p; omega
    have m2 : 60 * (2 : Int) ^ 1074 < 1000000000 * 2 ^ 1074 := Int.mul_lt_mul_of_pos_right (by omega) p
    refine ⟨hf, ⟨.inl ?_, .inl ?_⟩, ?_, ?_⟩
    · rw [← c9_low, val_order _ _ hf p1, p2, Int.compare_eq_gt.2 (by omega)]
    · rw [← c9_high, val_order _ _ hf q1, q2, Int.compare_eq_lt.2 (by omega)]
    · unfold flI; exact Int.ediv_nonneg l1 (by omega)
    · unfold flI; exact Int.ediv_lt_of_lt_mul p l2
  · have e1 := top_cmp s 0 hf (by omega) (by omega)
    have e2 := top_cmp s 60 hf (by omega) (by omega)
    rw [c_nought] at e1
    rw [c_sixty] at e2
    rw [e1] at g1
    rw [e2] at g2
    exfalso
    cases hg : sgB s <;> simp [hg] at g1 g2
  · have e1 := nan_order s 0 (.inl hf)
    rw [e1] at g1
    simp at g1
set_option exponentiation.threshold 2000 in
theorem sec_eq (s : Nat) (hf : szB s < 9218868437227405312) (h0 : 0 ≤ flI s ∧ flI s < 60) (g : Ieee.double.order s (floorB s) = some .eq) : Ieee.double.order (fI (flI s)) s = some .eq := by
  obtain ⟨a1, a2⟩ := fI_is (flI s) (by omega) (by omega)
  obtain ⟨b1, b2, _, _⟩ := floor_is s hf
  rw [val_order _ _ hf b1] at g
  have e := Int.compare_eq_eq.1 (Option.some.inj g)
  rw [val_order _ _ a1 hf, a2, e, b2, Int.compare_eq_eq.2 rfl]
end Go.Proofs.Ytimipkbingbifaa
