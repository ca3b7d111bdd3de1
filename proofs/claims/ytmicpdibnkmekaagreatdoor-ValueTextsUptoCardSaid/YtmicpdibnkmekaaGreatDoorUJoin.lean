/- The text of a double: what comes of the cases in which nothing is joined. -/
import Derived.Test.YtmicpdibnkmekaaGreatDoorURefE
namespace Go.Proofs.YtmicpdibnkmekaaGreatDoor
open Go Go.RowKit

theorem refText_nan (b : Nat) (hn : 9218868437227405312 < szB b) (w : World) :
    Calls Tryz.prog 70 #[.float .f64 b] w fun e w' => e = .returned (.string (str (textB b))) ∧ Below w.heap.size w w' := by
  have z3 : decide (9218868437227405312 < szB b) = true := decide_eq_true hn
  have ht : textB b = [110, 117, 108, 108] := by unfold textB; rw [if_pos hn]
  rw [ht]
  go_enter Tryz.func70, Tryz.ntmps70
  go_wp2_with fail
  refine (IsNaN_any b w).mono ?_
  rintro e w0 ⟨rfl, rfl⟩
  go_wp2_with fail
  go_ret
  exact ⟨rfl, Below.refl _ _⟩
theorem refText_zero (b : Nat) (hb : b < 18446744073709551616) (hz : szB b = 0) (w : World) :
    Calls Tryz.prog 70 #[.float .f64 b] w fun e w' => e = .returned (.string (str ((if negB b then [45] else []) ++ [48]))) ∧ Below w.heap.size w w' := by
  have z1 := eq_zero b
  have z2 : decide (szB b = 0) = true := decide_eq_true hz
  have z3 : decide (9218868437227405312 < szB b) = false := decide_eq_false (by omega)
  cases hN : negB b
  · go_enter Tryz.func70, Tryz.ntmps70
    go_wp2_with fail
    refine (IsNaN_any b w).mono ?_
    rintro e w0 ⟨rfl, rfl⟩
    go_wp2_with fail
    refine (Signbit_any b hb w).mono ?_
    rintro e w0 ⟨rfl, rfl⟩
    rw [hN]
    go_wp2_with fail
    go_ret
    exact ⟨by simp only [lit0, lit48, str_app]; rfl, Below.refl _ _⟩
  · go_enter Tryz.func70, Tryz.ntmps70
    go_wp2_with fail
    refine (IsNaN_any b w).mono ?_
    rintro e w0 ⟨rfl, rfl⟩
    go_wp2_with fail
    refine (Signbit_any b hb w).mono ?_
    rintro e w0 ⟨rfl, rfl⟩
    rw [hN]
    go_wp2_with fail
    go_ret
    exact ⟨by simp only [lit45, lit48, str_app]; rfl, Below.refl _ _⟩
end Go.Proofs.YtmicpdibnkmekaaGreatDoor
namespace Go.Proofs.YtmicpdibnkmekaaGreatDoor
open Go Go.RowKit

def sgnL (neg : Bool) : List UInt8 := if neg then [45] else []
/-- The text of digits d and an exponent x. -/
def tOf (neg : Bool) (d : List UInt8) (x : Int) : List UInt8 := if -4 ≤ x ∧ x ≤ (d.length : Int) + 14 then fText neg d (x + 1) else eText neg d x
theorem t_A (neg : Bool) (d : List UInt8) (x : Int) (k : Nat) (h3 : x - (d.length : Int) + 1 = (k : Int)) (h0 : 1 ≤ d.length) (h2 : x ≤ (d.length : Int) + 14) : tOf neg d x = sgnL neg ++ (d ++ List.replicate k 48) := by
  unfold tOf
  rw [if_pos ⟨by omega, h2⟩]
  unfold fText
  rw [if_pos (show (d.length : Int) ≤ x + 1 by omega)]
  have e : (x + 1).toNat - d.length = k := by omega
  rw [e]; rfl
theorem t_B (neg : Bool) (d : List UInt8) (x : Int) (k : Nat) (h3 : x = (k : Int)) (hk : k + 1 < d.length) : tOf neg d x = sgnL neg ++ (d.take (k + 1) ++ [46] ++ d.drop (k + 1)) := by
  unfold tOf
  rw [if_pos ⟨by omega, by omega⟩]
  unfold fText
  rw [if_neg (show ¬ (d.length : Int) ≤ x + 1 by omega), if_pos (show 0 < x + 1 by omega)]
  have e : (x + 1).toNat = k + 1 := by omega
  rw [e, List.append_assoc]; rfl
theorem t_C (neg : Bool) (d : List UInt8) (x : Int) (k : Nat) (h3 : -x - 1 = (k : Int)) (h0 : 1 ≤ d.length) (h1 : -4 ≤ x) : tOf neg d x = sgnL neg ++ ([48, 46] ++ List.replicate k 48 ++ d) := by
  unfold tOf
  rw [if_pos ⟨h1, by omega⟩]
  unfold fText
  rw [if_neg (show ¬ (d.length : Int) ≤ x + 1 by omega), if_neg (show ¬ 0 < x + 1 by omega)]
  have e : (-(x + 1)).toNat = k := by omega
  rw [e]; rfl
theorem t_E (neg : Bool) (d : List UInt8) (x : Int) (h : ¬ (-4 ≤ x ∧ x ≤ (d.length : Int) + 14)) : tOf neg d x = eText neg d x := by unfold tOf; rw [if_neg h]
theorem e_N1 (neg : Bool) (d : List UInt8) (x : Int) (k : Nat) (h3 : -x = (k : Int)) (h1 : 1 ≤ k) (hk : k < 10) : eText neg d x = sgnL neg ++ (d.take 1 ++ (if d.length ≤ 1 then [] else 46 :: d.drop 1) ++ [101] ++ [45] ++ 48 :: Lib.decDigits k) := by
  unfold eText
  have e : x.natAbs = k := by omega
  rw [e, expD_is k (by omega), if_pos hk, if_pos (by omega : x < 0)]
  unfold sgnL
  simp only [List.append_assoc]
theorem e_N2 (neg : Bool) (d : List UInt8) (x : Int) (k : Nat) (h3 : -x = (k : Int)) (hk : 10 ≤ k) (hk2 : k < 500) : eText neg d x = sgnL neg ++ (d.take 1 ++ (if d.length ≤ 1 then [] else 46 :: d.drop 1) ++ [101] ++ [45] ++ Lib.decDigits k) := by
  unfold eText
  have e : x.natAbs = k := by omega
  rw [e, expD_is k hk2, if_neg (by omega : ¬ k < 10), if_pos (by omega : x < 0)]
  unfold sgnL
  simp only [List.append_assoc]
theorem e_P (neg : Bool) (d : List UInt8) (x : Int) (k : Nat) (h3 : x = (k : Int)) (hk : 10 ≤ k) (hk2 : k < 500) : eText neg d x = sgnL neg ++ (d.take 1 ++ (if d.length ≤ 1 then [] else 46 :: d.drop 1) ++ [101] ++ [43] ++ Lib.decDigits k) := by
  unfold eText
  have e : x.natAbs = k := by omega
  rw [e, expD_is k hk2, if_neg (by omega : ¬ k < 10), if_neg (by omega : ¬ x < 0)]
  unfold sgnL
  simp only [List.append_assoc]

theorem refText_T_fin (b : Nat) (hb : b < 18446744073709551616) (hf : szB b < 9218868437227405312) (hz : szB b ≠ 0) (w : World) (hW : NumW w) :
    Calls Tryz.prog 70 #[.float .f64 b] w fun e w' => e = .returned (.string (str (tOf (negB b) (digF b) (expF b)))) ∧ Below w.heap.size w w' := by
  obtain ⟨_, p2, p3, _, _, p6, p7⟩ := parts_of b hf
  obtain ⟨d, hd⟩ : ∃ d, digF b = d := ⟨_, rfl⟩
  obtain ⟨x, hx⟩ : ∃ x, expF b = x := ⟨_, rfl⟩
  rw [hd, hx]
  rw [hd] at p2 p3
  rw [hx] at p6 p7
  by_cases hlong : -4 ≤ x ∧ x ≤ (d.length : Int) + 14
  · by_cases hA : (d.length : Int) - 1 ≤ x
    · obtain ⟨k, h3⟩ := Int.eq_ofNat_of_zero_le (by omega : 0 ≤ x - (d.length : Int) + 1)
      rw [t_A _ d x k h3 p2 hlong.2]
      cases hN : negB b
      · exact refText_A_p_fin b hb hf hz hN d x d.length hd hx rfl p2 p3 k h3 (by omega) hlong.1 hlong.2 w hW
      · exact refText_A_m_fin b hb hf hz hN d x d.length hd hx rfl p2 p3 k h3 (by omega) hlong.1 hlong.2 w hW
    · by_cases h0 : 0 ≤ x
      · obtain ⟨k, h3⟩ := Int.eq_ofNat_of_zero_le h0
        rw [t_B _ d x k h3 (by omega)]
        cases hN : negB b
        · exact refText_B_p_fin b hb hf hz hN d x d.length hd hx rfl p2 p3 k h3 (by omega) w hW
        · exact refText_B_m_fin b hb hf hz hN d x d.length hd hx rfl p2 p3 k h3 (by omega) w hW
      · obtain ⟨k, h3⟩ := Int.eq_ofNat_of_zero_le (by omega : 0 ≤ -x - 1)
        rw [t_C _ d x k h3 p2 hlong.1]
        cases hN : negB b
        · exact refText_C_p_fin b hb hf hz hN d x d.length hd hx rfl p2 p3 k h3 (by omega) hlong.1 (by omega) w hW
        · exact refText_C_m_fin b hb hf hz hN d x d.length hd hx rfl p2 p3 k h3 (by omega) hlong.1 (by omega) w hW
  · rw [t_E _ d x hlong]
    by_cases hneg : x < -4
    · obtain ⟨k, h3⟩ := Int.eq_ofNat_of_zero_le (by omega : 0 ≤ -x)
      by_cases hk : k < 10
      · rw [e_N1 _ d x k h3 (by omega) hk]
        by_cases hl : d.length = 1
        · rw [if_pos (by omega : d.length ≤ 1), List.append_nil]
          cases hN : negB b
          · exact refText_EN11_p_fin b hb hf hz hN d x d.length hd hx rfl p2 p3 hl k h3 hk hneg w hW
          · exact refText_EN11_m_fin b hb hf hz hN d x d.length hd hx rfl p2 p3 hl k h3 hk hneg w hW
        · rw [if_neg (by omega : ¬ d.length ≤ 1)]
          cases hN : negB b
          · exact refText_EN12_p_fin b hb hf hz hN d x d.length hd hx rfl p2 p3 (by omega) k h3 hk hneg w hW
          · exact refText_EN12_m_fin b hb hf hz hN d x d.length hd hx rfl p2 p3 (by omega) k h3 hk hneg w hW
      · rw [e_N2 _ d x k h3 (by omega) (by omega)]
        by_cases hl : d.length = 1
        · rw [if_pos (by omega : d.length ≤ 1), List.append_nil]
          cases hN : negB b
          · exact refText_EN21_p_fin b hb hf hz hN d x d.length hd hx rfl p2 p3 hl k h3 (by omega) (by omega) w hW
          · exact refText_EN21_m_fin b hb hf hz hN d x d.length hd hx rfl p2 p3 hl k h3 (by omega) (by omega) w hW
        · rw [if_neg (by omega : ¬ d.length ≤ 1)]
          cases hN : negB b
          · exact refText_EN22_p_fin b hb hf hz hN d x d.length hd hx rfl p2 p3 (by omega) k h3 (by omega) (by omega) w hW
          · exact refText_EN22_m_fin b hb hf hz hN d x d.length hd hx rfl p2 p3 (by omega) k h3 (by omega) (by omega) w hW
    · obtain ⟨k, h3⟩ := Int.eq_ofNat_of_zero_le (by omega : 0 ≤ x)
      rw [e_P _ d x k h3 (by omega) (by omega)]
      by_cases hl : d.length = 1
      · rw [if_pos (by omega : d.length ≤ 1), List.append_nil]
        cases hN : negB b
        · exact refText_EP1_p_fin b hb hf hz hN d x d.length hd hx rfl p2 p3 hl k h3 (by omega) (by omega) w hW
        · exact refText_EP1_m_fin b hb hf hz hN d x d.length hd hx rfl p2 p3 hl k h3 (by omega) (by omega) w hW
      · rw [if_neg (by omega : ¬ d.length ≤ 1)]
        cases hN : negB b
        · exact refText_EP2_p_fin b hb hf hz hN d x d.length hd hx rfl p2 p3 (by omega) k h3 (by omega) (by omega) w hW
        · exact refText_EP2_m_fin b hb hf hz hN d x d.length hd hx rfl p2 p3 (by omega) k h3 (by omega) (by omega) w hW

theorem refText_T_inf (b : Nat) (hb : b < 18446744073709551616) (hf : szB b = 9218868437227405312) (w : World) (hW : NumW w) :
    Calls Tryz.prog 70 #[.float .f64 b] w fun e w' => e = .returned (.string (str (tOf (negB b) (digF 9218868437227405311) (expF 9218868437227405311)))) ∧ Below w.heap.size w w' := by
  obtain ⟨_, p2, p3, _, _, p6, p7⟩ := parts_of 9218868437227405311 (by decide)
  obtain ⟨d, hd⟩ : ∃ d, digF 9218868437227405311 = d := ⟨_, rfl⟩
  obtain ⟨x, hx⟩ : ∃ x, expF 9218868437227405311 = x := ⟨_, rfl⟩
  rw [hd, hx]
  rw [hd] at p2 p3
  rw [hx] at p6 p7
  by_cases hlong : -4 ≤ x ∧ x ≤ (d.length : Int) + 14
  · by_cases hA : (d.length : Int) - 1 ≤ x
    · obtain ⟨k, h3⟩ := Int.eq_ofNat_of_zero_le (by omega : 0 ≤ x - (d.length : Int) + 1)
      rw [t_A _ d x k h3 p2 hlong.2]
      cases hN : negB b
      · exact refText_A_p_inf b hb hf hN d x d.length hd hx rfl p2 p3 k h3 (by omega) hlong.1 hlong.2 w hW
      · exact refText_A_m_inf b hb hf hN d x d.length hd hx rfl p2 p3 k h3 (by omega) hlong.1 hlong.2 w hW
    · by_cases h0 : 0 ≤ x
      · obtain ⟨k, h3⟩ := Int.eq_ofNat_of_zero_le h0
        rw [t_B _ d x k h3 (by omega)]
        cases hN : negB b
        · exact refText_B_p_inf b hb hf hN d x d.length hd hx rfl p2 p3 k h3 (by omega) w hW
        · exact refText_B_m_inf b hb hf hN d x d.length hd hx rfl p2 p3 k h3 (by omega) w hW
      · obtain ⟨k, h3⟩ := Int.eq_ofNat_of_zero_le (by omega : 0 ≤ -x - 1)
        rw [t_C _ d x k h3 p2 hlong.1]
        cases hN : negB b
        · exact refText_C_p_inf b hb hf hN d x d.length hd hx rfl p2 p3 k h3 (by omega) hlong.1 (by omega) w hW
        · exact refText_C_m_inf b hb hf hN d x d.length hd hx rfl p2 p3 k h3 (by omega) hlong.1 (by omega) w hW
  · rw [t_E _ d x hlong]
    by_cases hneg : x < -4
    · obtain ⟨k, h3⟩ := Int.eq_ofNat_of_zero_le (by omega : 0 ≤ -x)
      by_cases hk : k < 10
      · rw [e_N1 _ d x k h3 (by omega) hk]
        by_cases hl : d.length = 1
        · rw [if_pos (by omega : d.length ≤ 1), List.append_nil]
          cases hN : negB b
          · exact refText_EN11_p_inf b hb hf hN d x d.length hd hx rfl p2 p3 hl k h3 hk hneg w hW
          · exact refText_EN11_m_inf b hb hf hN d x d.length hd hx rfl p2 p3 hl k h3 hk hneg w hW
        · rw [if_neg (by omega : ¬ d.length ≤ 1)]
          cases hN : negB b
          · exact refText_EN12_p_inf b hb hf hN d x d.length hd hx rfl p2 p3 (by omega) k h3 hk hneg w hW
          · exact refText_EN12_m_inf b hb hf hN d x d.length hd hx rfl p2 p3 (by omega) k h3 hk hneg w hW
      · rw [e_N2 _ d x k h3 (by omega) (by omega)]
        by_cases hl : d.length = 1
        · rw [if_pos (by omega : d.length ≤ 1), List.append_nil]
          cases hN : negB b
          · exact refText_EN21_p_inf b hb hf hN d x d.length hd hx rfl p2 p3 hl k h3 (by omega) (by omega) w hW
          · exact refText_EN21_m_inf b hb hf hN d x d.length hd hx rfl p2 p3 hl k h3 (by omega) (by omega) w hW
        · rw [if_neg (by omega : ¬ d.length ≤ 1)]
          cases hN : negB b
          · exact refText_EN22_p_inf b hb hf hN d x d.length hd hx rfl p2 p3 (by omega) k h3 (by omega) (by omega) w hW
          · exact refText_EN22_m_inf b hb hf hN d x d.length hd hx rfl p2 p3 (by omega) k h3 (by omega) (by omega) w hW
    · obtain ⟨k, h3⟩ := Int.eq_ofNat_of_zero_le (by omega : 0 ≤ x)
      rw [e_P _ d x k h3 (by omega) (by omega)]
      by_cases hl : d.length = 1
      · rw [if_pos (by omega : d.length ≤ 1), List.append_nil]
        cases hN : negB b
        · exact refText_EP1_p_inf b hb hf hN d x d.length hd hx rfl p2 p3 hl k h3 (by omega) (by omega) w hW
        · exact refText_EP1_m_inf b hb hf hN d x d.length hd hx rfl p2 p3 hl k h3 (by omega) (by omega) w hW
      · rw [if_neg (by omega : ¬ d.length ≤ 1)]
        cases hN : negB b
        · exact refText_EP2_p_inf b hb hf hN d x d.length hd hx rfl p2 p3 (by omega) k h3 (by omega) (by omega) w hW
        · exact refText_EP2_m_inf b hb hf hN d x d.length hd hx rfl p2 p3 (by omega) k h3 (by omega) (by omega) w hW

theorem ex_sz (b : Nat) (_hb : b < 18446744073709551616) : exB (szB b) = exB b ∧ mtB (szB b) = mtB b := by
  unfold exB mtB szB
  omega
theorem text_of (c : Nat) (hc : c < 18446744073709551616) (hnz : ¬ zeroB c) : (if longB c then fOf c else eOf c) = tOf (negB c) (digF c) (expF c) := by
  obtain ⟨e1, e2⟩ := ex_sz c hc
  have hz : ¬ zeroB (szB c) := by unfold zeroB; rw [e1, e2]; exact hnz
  have d1 : digF c = digB c := by unfold digF; rw [if_neg hz]; unfold digB; rw [e1, e2]
  have x1 : expF c = dpB c - 1 := by unfold expF; rw [if_neg hz]; unfold dpB; rw [e1, e2]
  unfold longB tOf fOf eOf
  rw [if_neg hnz, if_neg hnz, d1, x1]
  have e3 : dpB c - 1 + 1 = dpB c := by omega
  rw [e3]
  by_cases h1 : -4 ≤ dpB c - 1
  · by_cases h2 : dpB c - 1 ≤ ((digB c).length : Int) + 14
    · have hb : (decide (-4 ≤ dpB c - 1) && decide (dpB c - 1 ≤ ((digB c).length : Int) + 14)) = true := by rw [decide_eq_true h1, decide_eq_true h2]; rfl
      rw [if_pos hb, if_pos ⟨h1, h2⟩]
    · have hb : ¬ ((decide (-4 ≤ dpB c - 1) && decide (dpB c - 1 ≤ ((digB c).length : Int) + 14)) = true) := by rw [decide_eq_false h2, Bool.and_false]; exact Bool.false_ne_true
      rw [if_neg hb, if_neg (fun h => h2 h.2)]
  · have hb : ¬ ((decide (-4 ≤ dpB c - 1) && decide (dpB c - 1 ≤ ((digB c).length : Int) + 14)) = true) := by rw [decide_eq_false h1, Bool.false_and]; exact Bool.false_ne_true
    rw [if_neg hb, if_neg (fun h => h1 h.1)]
theorem clamp_fin (b : Nat) (hb : b < 18446744073709551616) (hf : szB b < 9218868437227405312) : clampB b = b := by
  have hm : minB b = b := by
    unfold minB
    by_cases h : sv b < 9218868437227405311
    · rw [if_pos h]
    · rw [if_neg h]
      unfold sv at h
      unfold szB at h hf
      split at h <;> omega
  unfold clampB
  rw [hm]
  by_cases h : -9218868437227405311 < sv b
  · rw [if_pos h]
  · rw [if_neg h]
    by_cases h2 : sv b = -9218868437227405311
    · rw [if_pos h2]
    · exfalso
      unfold sv at h h2
      split at h <;> split at h2 <;> omega
theorem clamp_inf (b : Nat) (hb : b < 18446744073709551616) (hf : szB b = 9218868437227405312) : clampB b = if negB b then 18442240474082181119 else 9218868437227405311 := by
  have hc : b = 9218868437227405312 ∨ b = 18442240474082181120 := by unfold szB at hf; omega
  rcases hc with rfl | rfl <;> decide
theorem z2 : szB 18442240474082181119 = szB 9218868437227405311 := by decide
theorem refText_any (b : Nat) (hb : b < 18446744073709551616) (w : World) (hW : NumW w) :
    Calls Tryz.prog 70 #[.float .f64 b] w fun e w' => e = .returned (.string (str (textB b))) ∧ Below w.heap.size w w' := by
  rcases Nat.lt_or_ge 9218868437227405312 (szB b) with hn | hn
  · exact refText_nan b hn w
  · rcases Nat.lt_or_ge (szB b) 9218868437227405312 with hf | hf
    · by_cases hz : szB b = 0
      · have e : textB b = (if negB b then [45] else []) ++ [48] := by
          have hc : b = 0 ∨ b = 9223372036854775808 := by unfold szB at hz; omega
          rcases hc with rfl | rfl <;> decide +kernel
        rw [e]
        exact refText_zero b hb hz w
      · have hnz : ¬ zeroB b := by
          obtain ⟨e1, e2⟩ := ex_sz b hb
          unfold zeroB
          rw [← e1, ← e2]
          intro h
          have hlt : szB b < 9223372036854775808 := Nat.mod_lt _ (by omega)
          unfold exB mtB at h
          omega
        have e : textB b = tOf (negB b) (digF b) (expF b) := by
          unfold textB
          rw [if_neg (by omega), clamp_fin b hb hf]
          exact text_of b hb hnz
        rw [e]
        exact refText_T_fin b hb hf hz w hW
    · have hi : szB b = 9218868437227405312 := by omega
      have e : textB b = tOf (negB b) (digF 9218868437227405311) (expF 9218868437227405311) := by
        unfold textB
        rw [if_neg (by omega), clamp_inf b hb hi]
        have q1 := text_of 9218868437227405311 (by omega) (by decide)
        have q2 := text_of 18442240474082181119 (by omega) (by decide)
        have s1 : (if (false : Bool) = true then (18442240474082181119 : Nat) else 9218868437227405311) = 9218868437227405311 := rfl
        have s2 : (if (true : Bool) = true then (18442240474082181119 : Nat) else 9218868437227405311) = 18442240474082181119 := rfl
        have n1 : negB 9218868437227405311 = false := by decide
        have n2 : negB 18442240474082181119 = true := by decide
        have d2 : digF 18442240474082181119 = digF 9218868437227405311 := by unfold digF; rw [z2]
        have x2 : expF 18442240474082181119 = expF 9218868437227405311 := by unfold expF; rw [z2]
        rw [n1] at q1
        rw [n2, d2, x2] at q2
        cases hN : negB b
        · rw [s1]
          exact q1
        · rw [s2]
          exact q2
      rw [e]
      exact refText_T_inf b hb hi w hW
end Go.Proofs.YtmicpdibnkmekaaGreatDoor
