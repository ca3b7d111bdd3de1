/- The text of a double: the document's walk, with an exponent, case by case. -/
import Derived.Test.YtmicpdibnkmekaaGreatDoorURef
import Derived.Lib.AppendIntMem
namespace Go.Proofs.YtmicpdibnkmekaaGreatDoor
open Go Go.RowKit
set_option maxRecDepth 100000 in
set_option maxHeartbeats 2000000 in
theorem refText_EN11_p_fin (b : Nat) (hb : b < 18446744073709551616) (hf : szB b < 9218868437227405312) (hz : szB b ≠ 0) (hN : negB b = false) (d : List UInt8) (x : Int) (n : Nat) (hd : digF b = d) (hx : expF b = x) (hn : d.length = n) (_hn0 : 1 ≤ n) (_hn2 : n ≤ 20) (hl : n = 1) (k : Nat) (h3 : -x = (k : Int)) (hk : k < 10) (h1 : x < -4) (w : World) (hW : NumW w) :
    Calls Tryz.prog 70 #[.float .f64 b] w fun e w' => e = .returned (.string (str ([] ++ (d.take 1 ++ [101] ++ [45] ++ 48 :: Lib.decDigits k)))) ∧ Below w.heap.size w w' := by
  have z1 := eq_zero b
  have z2 : decide (szB b = 0) = false := decide_eq_false (by omega)
  have z3 : decide (9218868437227405312 < szB b) = false := decide_eq_false (by omega)
  have z4 : decide (szB b = 9218868437227405312) = false := decide_eq_false (by omega)
  have hD := refDigits_nz b hb hf hz w hW
  rw [hd, hx] at hD
  have e1 : (⟨d.toArray⟩ : ByteArray) = str d := rfl
  rw [e1] at hD
  have hs := str_size d
  rw [hn] at hs
  have hi : (str (Lib.decDigits k)).size ≤ 20 := by rw [str_size, Lib.decDigits_length]; exact nine_digits k (by omega)
  have n1 : (1 : Int) ≤ (n : Int) := by omega
  have l1 : (n : Int) = 1 := by omega
  have g1 : x < 0 := by omega
  have g2 : (k : Int) < 10 := by omega
  go_enter Tryz.func70, Tryz.ntmps70
  go_wp2_with fail
  refine (IsNaN_any b w).mono ?_
  rintro e w0 ⟨rfl, rfl⟩
  go_wp2_with fail
  refine (Signbit_any b hb w).mono ?_
  rintro e w0 ⟨rfl, rfl⟩
  rw [hN]
  go_wp2_with fail
  refine (IsInf_any b hb w).mono ?_
  rintro e w0 ⟨rfl, rfl⟩
  go_wp2_with fail
  refine hD.mono ?_
  rintro e w1 ⟨rfl, hb1⟩
  clear hD
  go_wp2_with fail
  refine (Tryz.strconv_Itoa (k : Int) (by omega) (by omega) w1 (hW.below hb1).tabs.ten).mono ?_
  rintro e w2 ⟨rfl, k2, os2, rfl⟩
  rw [Lib.itoa_nonneg]
  have hb2 := hb1.trans ((Lib.below_grow w1.heap.size w1 (Nat.le_refl _) k2 os2).mono hb1.size)
  have e2 : (⟨(Lib.decDigits k).toArray⟩ : ByteArray) = str (Lib.decDigits k) := rfl
  rw [e2]
  go_wp2_with fail
  go_ret
  refine ⟨?_, hb2⟩
  simp only [lit0, lit45, lit48, lit101, str_app, str_take, List.nil_append, List.append_assoc, List.cons_append]
  rfl
set_option maxRecDepth 100000 in
set_option maxHeartbeats 2000000 in
theorem refText_EN21_p_fin (b : Nat) (hb : b < 18446744073709551616) (hf : szB b < 9218868437227405312) (hz : szB b ≠ 0) (hN : negB b = false) (d : List UInt8) (x : Int) (n : Nat) (hd : digF b = d) (hx : expF b = x) (hn : d.length = n) (_hn0 : 1 ≤ n) (_hn2 : n ≤ 20) (hl : n = 1) (k : Nat) (h3 : -x = (k : Int)) (hk : 10 ≤ k) (hk2 : k < 500) (w : World) (hW : NumW w) :
    Calls Tryz.prog 70 #[.float .f64 b] w fun e w' => e = .returned (.string (str ([] ++ (d.take 1 ++ [101] ++ [45] ++ Lib.decDigits k)))) ∧ Below w.heap.size w w' := by
  have z1 := eq_zero b
  have z2 : decide (szB b = 0) = false := decide_eq_false (by omega)
  have z3 : decide (9218868437227405312 < szB b) = false := decide_eq_false (by omega)
  have z4 : decide (szB b = 9218868437227405312) = false := decide_eq_false (by omega)
  have hD := refDigits_nz b hb hf hz w hW
  rw [hd, hx] at hD
  have e1 : (⟨d.toArray⟩ : ByteArray) = str d := rfl
  rw [e1] at hD
  have hs := str_size d
  rw [hn] at hs
  have hi : (str (Lib.decDigits k)).size ≤ 20 := by rw [str_size, Lib.decDigits_length]; exact nine_digits k (by omega)
  have n1 : (1 : Int) ≤ (n : Int) := by omega
  have l1 : (n : Int) = 1 := by omega
  have h1 : x < -4 := by omega
  have g1 : x < 0 := by omega
  have g2 : (10 : Int) ≤ (k : Int) := by omega
  go_enter Tryz.func70, Tryz.ntmps70
  go_wp2_with fail
  refine (IsNaN_any b w).mono ?_
  rintro e w0 ⟨rfl, rfl⟩
  go_wp2_with fail
  refine (Signbit_any b hb w).mono ?_
  rintro e w0 ⟨rfl, rfl⟩
  rw [hN]
  go_wp2_with fail
  refine (IsInf_any b hb w).mono ?_
  rintro e w0 ⟨rfl, rfl⟩
  go_wp2_with fail
  refine hD.mono ?_
  rintro e w1 ⟨rfl, hb1⟩
  clear hD
  go_wp2_with fail
  refine (Tryz.strconv_Itoa (k : Int) (by omega) (by omega) w1 (hW.below hb1).tabs.ten).mono ?_
  rintro e w2 ⟨rfl, k2, os2, rfl⟩
  rw [Lib.itoa_nonneg]
  have hb2 := hb1.trans ((Lib.below_grow w1.heap.size w1 (Nat.le_refl _) k2 os2).mono hb1.size)
  have e2 : (⟨(Lib.decDigits k).toArray⟩ : ByteArray) = str (Lib.decDigits k) := rfl
  rw [e2]
  go_wp2_with fail
  go_ret
  refine ⟨?_, hb2⟩
  simp only [lit0, lit45, lit101, str_app, str_take, List.nil_append, List.append_assoc, List.cons_append]
  rfl
set_option maxRecDepth 100000 in
set_option maxHeartbeats 2000000 in
theorem refText_EP1_p_fin (b : Nat) (hb : b < 18446744073709551616) (hf : szB b < 9218868437227405312) (hz : szB b ≠ 0) (hN : negB b = false) (d : List UInt8) (x : Int) (n : Nat) (hd : digF b = d) (hx : expF b = x) (hn : d.length = n) (_hn0 : 1 ≤ n) (_hn2 : n ≤ 20) (hl : n = 1) (k : Nat) (h3 : x = (k : Int)) (h1 : (n : Int) + 14 < (k : Int)) (hk2 : k < 500) (w : World) (hW : NumW w) :
    Calls Tryz.prog 70 #[.float .f64 b] w fun e w' => e = .returned (.string (str ([] ++ (d.take 1 ++ [101] ++ [43] ++ Lib.decDigits k)))) ∧ Below w.heap.size w w' := by
  have z1 := eq_zero b
  have z2 : decide (szB b = 0) = false := decide_eq_false (by omega)
  have z3 : decide (9218868437227405312 < szB b) = false := decide_eq_false (by omega)
  have z4 : decide (szB b = 9218868437227405312) = false := decide_eq_false (by omega)
  have hD := refDigits_nz b hb hf hz w hW
  rw [hd, hx] at hD
  have e1 : (⟨d.toArray⟩ : ByteArray) = str d := rfl
  rw [e1] at hD
  have hs := str_size d
  rw [hn] at hs
  have hi : (str (Lib.decDigits k)).size ≤ 20 := by rw [str_size, Lib.decDigits_length]; exact nine_digits k (by omega)
  have n1 : (1 : Int) ≤ (n : Int) := by omega
  have l1 : (n : Int) = 1 := by omega
  subst h3
  have g0 : (-4 : Int) ≤ (k : Int) := by omega
  have g1 : (0 : Int) ≤ (k : Int) := by omega
  have g2 : (10 : Int) ≤ (k : Int) := by omega
  go_enter Tryz.func70, Tryz.ntmps70
  go_wp2_with fail
  refine (IsNaN_any b w).mono ?_
  rintro e w0 ⟨rfl, rfl⟩
  go_wp2_with fail
  refine (Signbit_any b hb w).mono ?_
  rintro e w0 ⟨rfl, rfl⟩
  rw [hN]
  go_wp2_with fail
  refine (IsInf_any b hb w).mono ?_
  rintro e w0 ⟨rfl, rfl⟩
  go_wp2_with fail
  refine hD.mono ?_
  rintro e w1 ⟨rfl, hb1⟩
  clear hD
  go_wp2_with fail
  refine (Tryz.strconv_Itoa (k : Int) (by omega) (by omega) w1 (hW.below hb1).tabs.ten).mono ?_
  rintro e w2 ⟨rfl, k2, os2, rfl⟩
  rw [Lib.itoa_nonneg]
  have hb2 := hb1.trans ((Lib.below_grow w1.heap.size w1 (Nat.le_refl _) k2 os2).mono hb1.size)
  have e2 : (⟨(Lib.decDigits k).toArray⟩ : ByteArray) = str (Lib.decDigits k) := rfl
  rw [e2]
  go_wp2_with fail
  go_ret
  refine ⟨?_, hb2⟩
  simp only [lit0, lit43, lit101, str_app, str_take, List.nil_append, List.append_assoc, List.cons_append]
  rfl
set_option maxRecDepth 100000 in
set_option maxHeartbeats 2000000 in
theorem refText_EN12_p_fin (b : Nat) (hb : b < 18446744073709551616) (hf : szB b < 9218868437227405312) (hz : szB b ≠ 0) (hN : negB b = false) (d : List UInt8) (x : Int) (n : Nat) (hd : digF b = d) (hx : expF b = x) (hn : d.length = n) (hn0 : 1 ≤ n) (hn2 : n ≤ 20) (hl : 1 < n) (k : Nat) (h3 : -x = (k : Int)) (hk : k < 10) (h1 : x < -4) (w : World) (hW : NumW w) :
    Calls Tryz.prog 70 #[.float .f64 b] w fun e w' => e = .returned (.string (str ([] ++ (d.take 1 ++ 46 :: d.drop 1 ++ [101] ++ [45] ++ 48 :: Lib.decDigits k)))) ∧ Below w.heap.size w w' := by
  have z1 := eq_zero b
  have z2 : decide (szB b = 0) = false := decide_eq_false (by omega)
  have z3 : decide (9218868437227405312 < szB b) = false := decide_eq_false (by omega)
  have z4 : decide (szB b = 9218868437227405312) = false := decide_eq_false (by omega)
  have hD := refDigits_nz b hb hf hz w hW
  rw [hd, hx] at hD
  have e1 : (⟨d.toArray⟩ : ByteArray) = str d := rfl
  rw [e1] at hD
  have hs := str_size d
  rw [hn] at hs
  have hi : (str (Lib.decDigits k)).size ≤ 20 := by rw [str_size, Lib.decDigits_length]; exact nine_digits k (by omega)
  have n1 : (1 : Int) ≤ (n : Int) := by omega
  have l1 : (1 : Int) < (n : Int) := by omega
  have g1 : x < 0 := by omega
  have g2 : (k : Int) < 10 := by omega
  go_enter Tryz.func70, Tryz.ntmps70
  go_wp2_with fail
  refine (IsNaN_any b w).mono ?_
  rintro e w0 ⟨rfl, rfl⟩
  go_wp2_with fail
  refine (Signbit_any b hb w).mono ?_
  rintro e w0 ⟨rfl, rfl⟩
  rw [hN]
  go_wp2_with fail
  refine (IsInf_any b hb w).mono ?_
  rintro e w0 ⟨rfl, rfl⟩
  go_wp2_with fail
  refine hD.mono ?_
  rintro e w1 ⟨rfl, hb1⟩
  clear hD
  go_wp2_with fail
  refine (Tryz.strconv_Itoa (k : Int) (by omega) (by omega) w1 (hW.below hb1).tabs.ten).mono ?_
  rintro e w2 ⟨rfl, k2, os2, rfl⟩
  rw [Lib.itoa_nonneg]
  have hb2 := hb1.trans ((Lib.below_grow w1.heap.size w1 (Nat.le_refl _) k2 os2).mono hb1.size)
  have e2 : (⟨(Lib.decDigits k).toArray⟩ : ByteArray) = str (Lib.decDigits k) := rfl
  rw [e2]
  go_wp2_with fail
  go_ret
  refine ⟨?_, hb2⟩
  simp only [lit0, lit45, lit46, lit48, lit101, str_app, str_take, str_drop d _ n hn, List.nil_append, List.append_assoc, List.cons_append]
  rfl
set_option maxRecDepth 100000 in
set_option maxHeartbeats 2000000 in
theorem refText_EN22_p_fin (b : Nat) (hb : b < 18446744073709551616) (hf : szB b < 9218868437227405312) (hz : szB b ≠ 0) (hN : negB b = false) (d : List UInt8) (x : Int) (n : Nat) (hd : digF b = d) (hx : expF b = x) (hn : d.length = n) (hn0 : 1 ≤ n) (hn2 : n ≤ 20) (hl : 1 < n) (k : Nat) (h3 : -x = (k : Int)) (hk : 10 ≤ k) (hk2 : k < 500) (w : World) (hW : NumW w) :
    Calls Tryz.prog 70 #[.float .f64 b] w fun e w' => e = .returned (.string (str ([] ++ (d.take 1 ++ 46 :: d.drop 1 ++ [101] ++ [45] ++ Lib.decDigits k)))) ∧ Below w.heap.size w w' := by
  have z1 := eq_zero b
  have z2 : decide (szB b = 0) = false := decide_eq_false (by omega)
  have z3 : decide (9218868437227405312 < szB b) = false := decide_eq_false (by omega)
  have z4 : decide (szB b = 9218868437227405312) = false := decide_eq_false (by omega)
  have hD := refDigits_nz b hb hf hz w hW
  rw [hd, hx] at hD
  have e1 : (⟨d.toArray⟩ : ByteArray) = str d := rfl
  rw [e1] at hD
  have hs := str_size d
  rw [hn] at hs
  have hi : (str (Lib.decDigits k)).size ≤ 20 := by rw [str_size, Lib.decDigits_length]; exact nine_digits k (by omega)
  have n1 : (1 : Int) ≤ (n : Int) := by omega
  have l1 : (1 : Int) < (n : Int) := by omega
  have h1 : x < -4 := by omega
  have g1 : x < 0 := by omega
  have g2 : (10 : Int) ≤ (k : Int) := by omega
  go_enter Tryz.func70, Tryz.ntmps70
  go_wp2_with fail
  refine (IsNaN_any b w).mono ?_
  rintro e w0 ⟨rfl, rfl⟩
  go_wp2_with fail
  refine (Signbit_any b hb w).mono ?_
  rintro e w0 ⟨rfl, rfl⟩
  rw [hN]
  go_wp2_with fail
  refine (IsInf_any b hb w).mono ?_
  rintro e w0 ⟨rfl, rfl⟩
  go_wp2_with fail
  refine hD.mono ?_
  rintro e w1 ⟨rfl, hb1⟩
  clear hD
  go_wp2_with fail
  refine (Tryz.strconv_Itoa (k : Int) (by omega) (by omega) w1 (hW.below hb1).tabs.ten).mono ?_
  rintro e w2 ⟨rfl, k2, os2, rfl⟩
  rw [Lib.itoa_nonneg]
  have hb2 := hb1.trans ((Lib.below_grow w1.heap.size w1 (Nat.le_refl _) k2 os2).mono hb1.size)
  have e2 : (⟨(Lib.decDigits k).toArray⟩ : ByteArray) = str (Lib.decDigits k) := rfl
  rw [e2]
  go_wp2_with fail
  go_ret
  refine ⟨?_, hb2⟩
  simp only [lit0, lit45, lit46, lit101, str_app, str_take, str_drop d _ n hn, List.nil_append, List.append_assoc, List.cons_append]
  rfl
set_option maxRecDepth 100000 in
set_option maxHeartbeats 2000000 in
theorem refText_EP2_p_fin (b : Nat) (hb : b < 18446744073709551616) (hf : szB b < 9218868437227405312) (hz : szB b ≠ 0) (hN : negB b = false) (d : List UInt8) (x : Int) (n : Nat) (hd : digF b = d) (hx : expF b = x) (hn : d.length = n) (hn0 : 1 ≤ n) (hn2 : n ≤ 20) (hl : 1 < n) (k : Nat) (h3 : x = (k : Int)) (h1 : (n : Int) + 14 < (k : Int)) (hk2 : k < 500) (w : World) (hW : NumW w) :
    Calls Tryz.prog 70 #[.float .f64 b] w fun e w' => e = .returned (.string (str ([] ++ (d.take 1 ++ 46 :: d.drop 1 ++ [101] ++ [43] ++ Lib.decDigits k)))) ∧ Below w.heap.size w w' := by
  have z1 := eq_zero b
  have z2 : decide (szB b = 0) = false := decide_eq_false (by omega)
  have z3 : decide (9218868437227405312 < szB b) = false := decide_eq_false (by omega)
  have z4 : decide (szB b = 9218868437227405312) = false := decide_eq_false (by omega)
  have hD := refDigits_nz b hb hf hz w hW
  rw [hd, hx] at hD
  have e1 : (⟨d.toArray⟩ : ByteArray) = str d := rfl
  rw [e1] at hD
  have hs := str_size d
  rw [hn] at hs
  have hi : (str (Lib.decDigits k)).size ≤ 20 := by rw [str_size, Lib.decDigits_length]; exact nine_digits k (by omega)
  have n1 : (1 : Int) ≤ (n : Int) := by omega
  have l1 : (1 : Int) < (n : Int) := by omega
  subst h3
  have g0 : (-4 : Int) ≤ (k : Int) := by omega
  have g1 : (0 : Int) ≤ (k : Int) := by omega
  have g2 : (10 : Int) ≤ (k : Int) := by omega
  go_enter Tryz.func70, Tryz.ntmps70
  go_wp2_with fail
  refine (IsNaN_any b w).mono ?_
  rintro e w0 ⟨rfl, rfl⟩
  go_wp2_with fail
  refine (Signbit_any b hb w).mono ?_
  rintro e w0 ⟨rfl, rfl⟩
  rw [hN]
  go_wp2_with fail
  refine (IsInf_any b hb w).mono ?_
  rintro e w0 ⟨rfl, rfl⟩
  go_wp2_with fail
  refine hD.mono ?_
  rintro e w1 ⟨rfl, hb1⟩
  clear hD
  go_wp2_with fail
  refine (Tryz.strconv_Itoa (k : Int) (by omega) (by omega) w1 (hW.below hb1).tabs.ten).mono ?_
  rintro e w2 ⟨rfl, k2, os2, rfl⟩
  rw [Lib.itoa_nonneg]
  have hb2 := hb1.trans ((Lib.below_grow w1.heap.size w1 (Nat.le_refl _) k2 os2).mono hb1.size)
  have e2 : (⟨(Lib.decDigits k).toArray⟩ : ByteArray) = str (Lib.decDigits k) := rfl
  rw [e2]
  go_wp2_with fail
  go_ret
  refine ⟨?_, hb2⟩
  simp only [lit0, lit43, lit46, lit101, str_app, str_take, str_drop d _ n hn, List.nil_append, List.append_assoc, List.cons_append]
  rfl
set_option maxRecDepth 100000 in
set_option maxHeartbeats 2000000 in
theorem refText_EN11_m_fin (b : Nat) (hb : b < 18446744073709551616) (hf : szB b < 9218868437227405312) (hz : szB b ≠ 0) (hN : negB b = true) (d : List UInt8) (x : Int) (n : Nat) (hd : digF b = d) (hx : expF b = x) (hn : d.length = n) (_hn0 : 1 ≤ n) (_hn2 : n ≤ 20) (hl : n = 1) (k : Nat) (h3 : -x = (k : Int)) (hk : k < 10) (h1 : x < -4) (w : World) (hW : NumW w) :
    Calls Tryz.prog 70 #[.float .f64 b] w fun e w' => e = .returned (.string (str ([45] ++ (d.take 1 ++ [101] ++ [45] ++ 48 :: Lib.decDigits k)))) ∧ Below w.heap.size w w' := by
  have z1 := eq_zero b
  have z2 : decide (szB b = 0) = false := decide_eq_false (by omega)
  have z3 : decide (9218868437227405312 < szB b) = false := decide_eq_false (by omega)
  have z4 : decide (szB b = 9218868437227405312) = false := decide_eq_false (by omega)
  have hD := refDigits_nz b hb hf hz w hW
  rw [hd, hx] at hD
  have e1 : (⟨d.toArray⟩ : ByteArray) = str d := rfl
  rw [e1] at hD
  have hs := str_size d
  rw [hn] at hs
  have hi : (str (Lib.decDigits k)).size ≤ 20 := by rw [str_size, Lib.decDigits_length]; exact nine_digits k (by omega)
  have n1 : (1 : Int) ≤ (n : Int) := by omega
  have l1 : (n : Int) = 1 := by omega
  have g1 : x < 0 := by omega
  have g2 : (k : Int) < 10 := by omega
  go_enter Tryz.func70, Tryz.ntmps70
  go_wp2_with fail
  refine (IsNaN_any b w).mono ?_
  rintro e w0 ⟨rfl, rfl⟩
  go_wp2_with fail
  refine (Signbit_any b hb w).mono ?_
  rintro e w0 ⟨rfl, rfl⟩
  rw [hN]
  go_wp2_with fail
  refine (IsInf_any b hb w).mono ?_
  rintro e w0 ⟨rfl, rfl⟩
  go_wp2_with fail
  refine hD.mono ?_
  rintro e w1 ⟨rfl, hb1⟩
  clear hD
  go_wp2_with fail
  refine (Tryz.strconv_Itoa (k : Int) (by omega) (by omega) w1 (hW.below hb1).tabs.ten).mono ?_
  rintro e w2 ⟨rfl, k2, os2, rfl⟩
  rw [Lib.itoa_nonneg]
  have hb2 := hb1.trans ((Lib.below_grow w1.heap.size w1 (Nat.le_refl _) k2 os2).mono hb1.size)
  have e2 : (⟨(Lib.decDigits k).toArray⟩ : ByteArray) = str (Lib.decDigits k) := rfl
  rw [e2]
  go_wp2_with fail
  go_ret
  refine ⟨?_, hb2⟩
  simp only [lit45, lit48, lit101, str_app, str_take, List.nil_append, List.append_assoc, List.cons_append]
  rfl
set_option maxRecDepth 100000 in
set_option maxHeartbeats 2000000 in
theorem refText_EN21_m_fin (b : Nat) (hb : b < 18446744073709551616) (hf : szB b < 9218868437227405312) (hz : szB b ≠ 0) (hN : negB b = true) (d : List UInt8) (x : Int) (n : Nat) (hd : digF b = d) (hx : expF b = x) (hn : d.length = n) (_hn0 : 1 ≤ n) (_hn2 : n ≤ 20) (hl : n = 1) (k : Nat) (h3 : -x = (k : Int)) (hk : 10 ≤ k) (hk2 : k < 500) (w : World) (hW : NumW w) :
    Calls Tryz.prog 70 #[.float .f64 b] w fun e w' => e = .returned (.string (str ([45] ++ (d.take 1 ++ [101] ++ [45] ++ Lib.decDigits k)))) ∧ Below w.heap.size w w' := by
  have z1 := eq_zero b
  have z2 : decide (szB b = 0) = false := decide_eq_false (by omega)
  have z3 : decide (9218868437227405312 < szB b) = false := decide_eq_false (by omega)
  have z4 : decide (szB b = 9218868437227405312) = false := decide_eq_false (by omega)
  have hD := refDigits_nz b hb hf hz w hW
  rw [hd, hx] at hD
  have e1 : (⟨d.toArray⟩ : ByteArray) = str d := rfl
  rw [e1] at hD
  have hs := str_size d
  rw [hn] at hs
  have hi : (str (Lib.decDigits k)).size ≤ 20 := by rw [str_size, Lib.decDigits_length]; exact nine_digits k (by omega)
  have n1 : (1 : Int) ≤ (n : Int) := by omega
  have l1 : (n : Int) = 1 := by omega
  have h1 : x < -4 := by omega
  have g1 : x < 0 := by omega
  have g2 : (10 : Int) ≤ (k : Int) := by omega
  go_enter Tryz.func70, Tryz.ntmps70
  go_wp2_with fail
  refine (IsNaN_any b w).mono ?_
  rintro e w0 ⟨rfl, rfl⟩
  go_wp2_with fail
  refine (Signbit_any b hb w).mono ?_
  rintro e w0 ⟨rfl, rfl⟩
  rw [hN]
  go_wp2_with fail
  refine (IsInf_any b hb w).mono ?_
  rintro e w0 ⟨rfl, rfl⟩
  go_wp2_with fail
  refine hD.mono ?_
  rintro e w1 ⟨rfl, hb1⟩
  clear hD
  go_wp2_with fail
  refine (Tryz.strconv_Itoa (k : Int) (by omega) (by omega) w1 (hW.below hb1).tabs.ten).mono ?_
  rintro e w2 ⟨rfl, k2, os2, rfl⟩
  rw [Lib.itoa_nonneg]
  have hb2 := hb1.trans ((Lib.below_grow w1.heap.size w1 (Nat.le_refl _) k2 os2).mono hb1.size)
  have e2 : (⟨(Lib.decDigits k).toArray⟩ : ByteArray) = str (Lib.decDigits k) := rfl
  rw [e2]
  go_wp2_with fail
  go_ret
  refine ⟨?_, hb2⟩
  simp only [lit45, lit101, str_app, str_take, List.nil_append, List.append_assoc, List.cons_append]
  rfl
set_option maxRecDepth 100000 in
set_option maxHeartbeats 2000000 in
theorem refText_EP1_m_fin (b : Nat) (hb : b < 18446744073709551616) (hf : szB b < 9218868437227405312) (hz : szB b ≠ 0) (hN : negB b = true) (d : List UInt8) (x : Int) (n : Nat) (hd : digF b = d) (hx : expF b = x) (hn : d.length = n) (_hn0 : 1 ≤ n) (_hn2 : n ≤ 20) (hl : n = 1) (k : Nat) (h3 : x = (k : Int)) (h1 : (n : Int) + 14 < (k : Int)) (hk2 : k < 500) (w : World) (hW : NumW w) :
    Calls Tryz.prog 70 #[.float .f64 b] w fun e w' => e = .returned (.string (str ([45] ++ (d.take 1 ++ [101] ++ [43] ++ Lib.decDigits k)))) ∧ Below w.heap.size w w' := by
  have z1 := eq_zero b
  have z2 : decide (szB b = 0) = false := decide_eq_false (by omega)
  have z3 : decide (9218868437227405312 < szB b) = false := decide_eq_false (by omega)
  have z4 : decide (szB b = 9218868437227405312) = false := decide_eq_false (by omega)
  have hD := refDigits_nz b hb hf hz w hW
  rw [hd, hx] at hD
  have e1 : (⟨d.toArray⟩ : ByteArray) = str d := rfl
  rw [e1] at hD
  have hs := str_size d
  rw [hn] at hs
  have hi : (str (Lib.decDigits k)).size ≤ 20 := by rw [str_size, Lib.decDigits_length]; exact nine_digits k (by omega)
  have n1 : (1 : Int) ≤ (n : Int) := by omega
  have l1 : (n : Int) = 1 := by omega
  subst h3
  have g0 : (-4 : Int) ≤ (k : Int) := by omega
  have g1 : (0 : Int) ≤ (k : Int) := by omega
  have g2 : (10 : Int) ≤ (k : Int) := by omega
  go_enter Tryz.func70, Tryz.ntmps70
  go_wp2_with fail
  refine (IsNaN_any b w).mono ?_
  rintro e w0 ⟨rfl, rfl⟩
  go_wp2_with fail
  refine (Signbit_any b hb w).mono ?_
  rintro e w0 ⟨rfl, rfl⟩
  rw [hN]
  go_wp2_with fail
  refine (IsInf_any b hb w).mono ?_
  rintro e w0 ⟨rfl, rfl⟩
  go_wp2_with fail
  refine hD.mono ?_
  rintro e w1 ⟨rfl, hb1⟩
  clear hD
  go_wp2_with fail
  refine (Tryz.strconv_Itoa (k : Int) (by omega) (by omega) w1 (hW.below hb1).tabs.ten).mono ?_
  rintro e w2 ⟨rfl, k2, os2, rfl⟩
  rw [Lib.itoa_nonneg]
  have hb2 := hb1.trans ((Lib.below_grow w1.heap.size w1 (Nat.le_refl _) k2 os2).mono hb1.size)
  have e2 : (⟨(Lib.decDigits k).toArray⟩ : ByteArray) = str (Lib.decDigits k) := rfl
  rw [e2]
  go_wp2_with fail
  go_ret
  refine ⟨?_, hb2⟩
  simp only [lit43, lit45, lit101, str_app, str_take, List.nil_append, List.append_assoc, List.cons_append]
  rfl
set_option maxRecDepth 100000 in
set_option maxHeartbeats 2000000 in
theorem refText_EN12_m_fin (b : Nat) (hb : b < 18446744073709551616) (hf : szB b < 9218868437227405312) (hz : szB b ≠ 0) (hN : negB b = true) (d : List UInt8) (x : Int) (n : Nat) (hd : digF b = d) (hx : expF b = x) (hn : d.length = n) (hn0 : 1 ≤ n) (hn2 : n ≤ 20) (hl : 1 < n) (k : Nat) (h3 : -x = (k : Int)) (hk : k < 10) (h1 : x < -4) (w : World) (hW : NumW w) :
    Calls Tryz.prog 70 #[.float .f64 b] w fun e w' => e = .returned (.string (str ([45] ++ (d.take 1 ++ 46 :: d.drop 1 ++ [101] ++ [45] ++ 48 :: Lib.decDigits k)))) ∧ Below w.heap.size w w' := by
  have z1 := eq_zero b
  have z2 : decide (szB b = 0) = false := decide_eq_false (by omega)
  have z3 : decide (9218868437227405312 < szB b) = false := decide_eq_false (by omega)
  have z4 : decide (szB b = 9218868437227405312) = false := decide_eq_false (by omega)
  have hD := refDigits_nz b hb hf hz w hW
  rw [hd, hx] at hD
  have e1 : (⟨d.toArray⟩ : ByteArray) = str d := rfl
  rw [e1] at hD
  have hs := str_size d
  rw [hn] at hs
  have hi : (str (Lib.decDigits k)).size ≤ 20 := by rw [str_size, Lib.decDigits_length]; exact nine_digits k (by omega)
  have n1 : (1 : Int) ≤ (n : Int) := by omega
  have l1 : (1 : Int) < (n : Int) := by omega
  have g1 : x < 0 := by omega
  have g2 : (k : Int) < 10 := by omega
  go_enter Tryz.func70, Tryz.ntmps70
  go_wp2_with fail
  refine (IsNaN_any b w).mono ?_
  rintro e w0 ⟨rfl, rfl⟩
  go_wp2_with fail
  refine (Signbit_any b hb w).mono ?_
  rintro e w0 ⟨rfl, rfl⟩
  rw [hN]
  go_wp2_with fail
  refine (IsInf_any b hb w).mono ?_
  rintro e w0 ⟨rfl, rfl⟩
  go_wp2_with fail
  refine hD.mono ?_
  rintro e w1 ⟨rfl, hb1⟩
  clear hD
  go_wp2_with fail
  refine (Tryz.strconv_Itoa (k : Int) (by omega) (by omega) w1 (hW.below hb1).tabs.ten).mono ?_
  rintro e w2 ⟨rfl, k2, os2, rfl⟩
  rw [Lib.itoa_nonneg]
  have hb2 := hb1.trans ((Lib.below_grow w1.heap.size w1 (Nat.le_refl _) k2 os2).mono hb1.size)
  have e2 : (⟨(Lib.decDigits k).toArray⟩ : ByteArray) = str (Lib.decDigits k) := rfl
  rw [e2]
  go_wp2_with fail
  go_ret
  refine ⟨?_, hb2⟩
  simp only [lit45, lit46, lit48, lit101, str_app, str_take, str_drop d _ n hn, List.nil_append, List.append_assoc, List.cons_append]
  rfl
set_option maxRecDepth 100000 in
set_option maxHeartbeats 2000000 in
theorem refText_EN22_m_fin (b : Nat) (hb : b < 18446744073709551616) (hf : szB b < 9218868437227405312) (hz : szB b ≠ 0) (hN : negB b = true) (d : List UInt8) (x : Int) (n : Nat) (hd : digF b = d) (hx : expF b = x) (hn : d.length = n) (hn0 : 1 ≤ n) (hn2 : n ≤ 20) (hl : 1 < n) (k : Nat) (h3 : -x = (k : Int)) (hk : 10 ≤ k) (hk2 : k < 500) (w : World) (hW : NumW w) :
    Calls Tryz.prog 70 #[.float .f64 b] w fun e w' => e = .returned (.string (str ([45] ++ (d.take 1 ++ 46 :: d.drop 1 ++ [101] ++ [45] ++ Lib.decDigits k)))) ∧ Below w.heap.size w w' := by
  have z1 := eq_zero b
  have z2 : decide (szB b = 0) = false := decide_eq_false (by omega)
  have z3 : decide (9218868437227405312 < szB b) = false := decide_eq_false (by omega)
  have z4 : decide (szB b = 9218868437227405312) = false := decide_eq_false (by omega)
  have hD := refDigits_nz b hb hf hz w hW
  rw [hd, hx] at hD
  have e1 : (⟨d.toArray⟩ : ByteArray) = str d := rfl
  rw [e1] at hD
  have hs := str_size d
  rw [hn] at hs
  have hi : (str (Lib.decDigits k)).size ≤ 20 := by rw [str_size, Lib.decDigits_length]; exact nine_digits k (by omega)
  have n1 : (1 : Int) ≤ (n : Int) := by omega
  have l1 : (1 : Int) < (n : Int) := by omega
  have h1 : x < -4 := by omega
  have g1 : x < 0 := by omega
  have g2 : (10 : Int) ≤ (k : Int) := by omega
  go_enter Tryz.func70, Tryz.ntmps70
  go_wp2_with fail
  refine (IsNaN_any b w).mono ?_
  rintro e w0 ⟨rfl, rfl⟩
  go_wp2_with fail
  refine (Signbit_any b hb w).mono ?_
  rintro e w0 ⟨rfl, rfl⟩
  rw [hN]
  go_wp2_with fail
  refine (IsInf_any b hb w).mono ?_
  rintro e w0 ⟨rfl, rfl⟩
  go_wp2_with fail
  refine hD.mono ?_
  rintro e w1 ⟨rfl, hb1⟩
  clear hD
  go_wp2_with fail
  refine (Tryz.strconv_Itoa (k : Int) (by omega) (by omega) w1 (hW.below hb1).tabs.ten).mono ?_
  rintro e w2 ⟨rfl, k2, os2, rfl⟩
  rw [Lib.itoa_nonneg]
  have hb2 := hb1.trans ((Lib.below_grow w1.heap.size w1 (Nat.le_refl _) k2 os2).mono hb1.size)
  have e2 : (⟨(Lib.decDigits k).toArray⟩ : ByteArray) = str (Lib.decDigits k) := rfl
  rw [e2]
  go_wp2_with fail
  go_ret
  refine ⟨?_, hb2⟩
  simp only [lit45, lit46, lit101, str_app, str_take, str_drop d _ n hn, List.nil_append, List.append_assoc, List.cons_append]
  rfl
set_option maxRecDepth 100000 in
set_option maxHeartbeats 2000000 in
theorem refText_EP2_m_fin (b : Nat) (hb : b < 18446744073709551616) (hf : szB b < 9218868437227405312) (hz : szB b ≠ 0) (hN : negB b = true) (d : List UInt8) (x : Int) (n : Nat) (hd : digF b = d) (hx : expF b = x) (hn : d.length = n) (hn0 : 1 ≤ n) (hn2 : n ≤ 20) (hl : 1 < n) (k : Nat) (h3 : x = (k : Int)) (h1 : (n : Int) + 14 < (k : Int)) (hk2 : k < 500) (w : World) (hW : NumW w) :
    Calls Tryz.prog 70 #[.float .f64 b] w fun e w' => e = .returned (.string (str ([45] ++ (d.take 1 ++ 46 :: d.drop 1 ++ [101] ++ [43] ++ Lib.decDigits k)))) ∧ Below w.heap.size w w' := by
  have z1 := eq_zero b
  have z2 : decide (szB b = 0) = false := decide_eq_false (by omega)
  have z3 : decide (9218868437227405312 < szB b) = false := decide_eq_false (by omega)
  have z4 : decide (szB b = 9218868437227405312) = false := decide_eq_false (by omega)
  have hD := refDigits_nz b hb hf hz w hW
  rw [hd, hx] at hD
  have e1 : (⟨d.toArray⟩ : ByteArray) = str d := rfl
  rw [e1] at hD
  have hs := str_size d
  rw [hn] at hs
  have hi : (str (Lib.decDigits k)).size ≤ 20 := by rw [str_size, Lib.decDigits_length]; exact nine_digits k (by omega)
  have n1 : (1 : Int) ≤ (n : Int) := by omega
  have l1 : (1 : Int) < (n : Int) := by omega
  subst h3
  have g0 : (-4 : Int) ≤ (k : Int) := by omega
  have g1 : (0 : Int) ≤ (k : Int) := by omega
  have g2 : (10 : Int) ≤ (k : Int) := by omega
  go_enter Tryz.func70, Tryz.ntmps70
  go_wp2_with fail
  refine (IsNaN_any b w).mono ?_
  rintro e w0 ⟨rfl, rfl⟩
  go_wp2_with fail
  refine (Signbit_any b hb w).mono ?_
  rintro e w0 ⟨rfl, rfl⟩
  rw [hN]
  go_wp2_with fail
  refine (IsInf_any b hb w).mono ?_
  rintro e w0 ⟨rfl, rfl⟩
  go_wp2_with fail
  refine hD.mono ?_
  rintro e w1 ⟨rfl, hb1⟩
  clear hD
  go_wp2_with fail
  refine (Tryz.strconv_Itoa (k : Int) (by omega) (by omega) w1 (hW.below hb1).tabs.ten).mono ?_
  rintro e w2 ⟨rfl, k2, os2, rfl⟩
  rw [Lib.itoa_nonneg]
  have hb2 := hb1.trans ((Lib.below_grow w1.heap.size w1 (Nat.le_refl _) k2 os2).mono hb1.size)
  have e2 : (⟨(Lib.decDigits k).toArray⟩ : ByteArray) = str (Lib.decDigits k) := rfl
  rw [e2]
  go_wp2_with fail
  go_ret
  refine ⟨?_, hb2⟩
  simp only [lit43, lit45, lit46, lit101, str_app, str_take, str_drop d _ n hn, List.nil_append, List.append_assoc, List.cons_append]
  rfl
set_option maxRecDepth 100000 in
set_option maxHeartbeats 2000000 in
theorem refText_EN11_p_inf (b : Nat) (hb : b < 18446744073709551616) (hf : szB b = 9218868437227405312) (hN : negB b = false) (d : List UInt8) (x : Int) (n : Nat) (hd : digF 9218868437227405311 = d) (hx : expF 9218868437227405311 = x) (hn : d.length = n) (_hn0 : 1 ≤ n) (_hn2 : n ≤ 20) (hl : n = 1) (k : Nat) (h3 : -x = (k : Int)) (hk : k < 10) (h1 : x < -4) (w : World) (hW : NumW w) :
    Calls Tryz.prog 70 #[.float .f64 b] w fun e w' => e = .returned (.string (str ([] ++ (d.take 1 ++ [101] ++ [45] ++ 48 :: Lib.decDigits k)))) ∧ Below w.heap.size w w' := by
  have z1 := eq_zero b
  have z2 : decide (szB b = 0) = false := decide_eq_false (by omega)
  have z3 : decide (9218868437227405312 < szB b) = false := decide_eq_false (by omega)
  have z4 : decide (szB b = 9218868437227405312) = true := decide_eq_true hf
  have hD := refDigits_nz 9218868437227405311 (by omega) (by decide) (by decide) w hW
  rw [hd, hx] at hD
  have e1 : (⟨d.toArray⟩ : ByteArray) = str d := rfl
  rw [e1] at hD
  have hs := str_size d
  rw [hn] at hs
  have hi : (str (Lib.decDigits k)).size ≤ 20 := by rw [str_size, Lib.decDigits_length]; exact nine_digits k (by omega)
  have n1 : (1 : Int) ≤ (n : Int) := by omega
  have l1 : (n : Int) = 1 := by omega
  have g1 : x < 0 := by omega
  have g2 : (k : Int) < 10 := by omega
  go_enter Tryz.func70, Tryz.ntmps70
  go_wp2_with fail
  refine (IsNaN_any b w).mono ?_
  rintro e w0 ⟨rfl, rfl⟩
  go_wp2_with fail
  refine (Signbit_any b hb w).mono ?_
  rintro e w0 ⟨rfl, rfl⟩
  rw [hN]
  go_wp2_with fail
  refine (IsInf_any b hb w).mono ?_
  rintro e w0 ⟨rfl, rfl⟩
  go_wp2_with fail
  refine hD.mono ?_
  rintro e w1 ⟨rfl, hb1⟩
  clear hD
  go_wp2_with fail
  refine (Tryz.strconv_Itoa (k : Int) (by omega) (by omega) w1 (hW.below hb1).tabs.ten).mono ?_
  rintro e w2 ⟨rfl, k2, os2, rfl⟩
  rw [Lib.itoa_nonneg]
  have hb2 := hb1.trans ((Lib.below_grow w1.heap.size w1 (Nat.le_refl _) k2 os2).mono hb1.size)
  have e2 : (⟨(Lib.decDigits k).toArray⟩ : ByteArray) = str (Lib.decDigits k) := rfl
  rw [e2]
  go_wp2_with fail
  go_ret
  refine ⟨?_, hb2⟩
  simp only [lit0, lit45, lit48, lit101, str_app, str_take, List.nil_append, List.append_assoc, List.cons_append]
  rfl
set_option maxRecDepth 100000 in
set_option maxHeartbeats 2000000 in
theorem refText_EN21_p_inf (b : Nat) (hb : b < 18446744073709551616) (hf : szB b = 9218868437227405312) (hN : negB b = false) (d : List UInt8) (x : Int) (n : Nat) (hd : digF 9218868437227405311 = d) (hx : expF 9218868437227405311 = x) (hn : d.length = n) (_hn0 : 1 ≤ n) (_hn2 : n ≤ 20) (hl : n = 1) (k : Nat) (h3 : -x = (k : Int)) (hk : 10 ≤ k) (hk2 : k < 500) (w : World) (hW : NumW w) :
    Calls Tryz.prog 70 #[.float .f64 b] w fun e w' => e = .returned (.string (str ([] ++ (d.take 1 ++ [101] ++ [45] ++ Lib.decDigits k)))) ∧ Below w.heap.size w w' := by
  have z1 := eq_zero b
  have z2 : decide (szB b = 0) = false := decide_eq_false (by omega)
  have z3 : decide (9218868437227405312 < szB b) = false := decide_eq_false (by omega)
  have z4 : decide (szB b = 9218868437227405312) = true := decide_eq_true hf
  have hD := refDigits_nz 9218868437227405311 (by omega) (by decide) (by decide) w hW
  rw [hd, hx] at hD
  have e1 : (⟨d.toArray⟩ : ByteArray) = str d := rfl
  rw [e1] at hD
  have hs := str_size d
  rw [hn] at hs
  have hi : (str (Lib.decDigits k)).size ≤ 20 := by rw [str_size, Lib.decDigits_length]; exact nine_digits k (by omega)
  have n1 : (1 : Int) ≤ (n : Int) := by omega
  have l1 : (n : Int) = 1 := by omega
  have h1 : x < -4 := by omega
  have g1 : x < 0 := by omega
  have g2 : (10 : Int) ≤ (k : Int) := by omega
  go_enter Tryz.func70, Tryz.ntmps70
  go_wp2_with fail
  refine (IsNaN_any b w).mono ?_
  rintro e w0 ⟨rfl, rfl⟩
  go_wp2_with fail
  refine (Signbit_any b hb w).mono ?_
  rintro e w0 ⟨rfl, rfl⟩
  rw [hN]
  go_wp2_with fail
  refine (IsInf_any b hb w).mono ?_
  rintro e w0 ⟨rfl, rfl⟩
  go_wp2_with fail
  refine hD.mono ?_
  rintro e w1 ⟨rfl, hb1⟩
  clear hD
  go_wp2_with fail
  refine (Tryz.strconv_Itoa (k : Int) (by omega) (by omega) w1 (hW.below hb1).tabs.ten).mono ?_
  rintro e w2 ⟨rfl, k2, os2, rfl⟩
  rw [Lib.itoa_nonneg]
  have hb2 := hb1.trans ((Lib.below_grow w1.heap.size w1 (Nat.le_refl _) k2 os2).mono hb1.size)
  have e2 : (⟨(Lib.decDigits k).toArray⟩ : ByteArray) = str (Lib.decDigits k) := rfl
  rw [e2]
  go_wp2_with fail
  go_ret
  refine ⟨?_, hb2⟩
  simp only [lit0, lit45, lit101, str_app, str_take, List.nil_append, List.append_assoc, List.cons_append]
  rfl
set_option maxRecDepth 100000 in
set_option maxHeartbeats 2000000 in
theorem refText_EP1_p_inf (b : Nat) (hb : b < 18446744073709551616) (hf : szB b = 9218868437227405312) (hN : negB b = false) (d : List UInt8) (x : Int) (n : Nat) (hd : digF 9218868437227405311 = d) (hx : expF 9218868437227405311 = x) (hn : d.length = n) (_hn0 : 1 ≤ n) (_hn2 : n ≤ 20) (hl : n = 1) (k : Nat) (h3 : x = (k : Int)) (h1 : (n : Int) + 14 < (k : Int)) (hk2 : k < 500) (w : World) (hW : NumW w) :
    Calls Tryz.prog 70 #[.float .f64 b] w fun e w' => e = .returned (.string (str ([] ++ (d.take 1 ++ [101] ++ [43] ++ Lib.decDigits k)))) ∧ Below w.heap.size w w' := by
  have z1 := eq_zero b
  have z2 : decide (szB b = 0) = false := decide_eq_false (by omega)
  have z3 : decide (9218868437227405312 < szB b) = false := decide_eq_false (by omega)
  have z4 : decide (szB b = 9218868437227405312) = true := decide_eq_true hf
  have hD := refDigits_nz 9218868437227405311 (by omega) (by decide) (by decide) w hW
  rw [hd, hx] at hD
  have e1 : (⟨d.toArray⟩ : ByteArray) = str d := rfl
  rw [e1] at hD
  have hs := str_size d
  rw [hn] at hs
  have hi : (str (Lib.decDigits k)).size ≤ 20 := by rw [str_size, Lib.decDigits_length]; exact nine_digits k (by omega)
  have n1 : (1 : Int) ≤ (n : Int) := by omega
  have l1 : (n : Int) = 1 := by omega
  subst h3
  have g0 : (-4 : Int) ≤ (k : Int) := by omega
  have g1 : (0 : Int) ≤ (k : Int) := by omega
  have g2 : (10 : Int) ≤ (k : Int) := by omega
  go_enter Tryz.func70, Tryz.ntmps70
  go_wp2_with fail
  refine (IsNaN_any b w).mono ?_
  rintro e w0 ⟨rfl, rfl⟩
  go_wp2_with fail
  refine (Signbit_any b hb w).mono ?_
  rintro e w0 ⟨rfl, rfl⟩
  rw [hN]
  go_wp2_with fail
  refine (IsInf_any b hb w).mono ?_
  rintro e w0 ⟨rfl, rfl⟩
  go_wp2_with fail
  refine hD.mono ?_
  rintro e w1 ⟨rfl, hb1⟩
  clear hD
  go_wp2_with fail
  refine (Tryz.strconv_Itoa (k : Int) (by omega) (by omega) w1 (hW.below hb1).tabs.ten).mono ?_
  rintro e w2 ⟨rfl, k2, os2, rfl⟩
  rw [Lib.itoa_nonneg]
  have hb2 := hb1.trans ((Lib.below_grow w1.heap.size w1 (Nat.le_refl _) k2 os2).mono hb1.size)
  have e2 : (⟨(Lib.decDigits k).toArray⟩ : ByteArray) = str (Lib.decDigits k) := rfl
  rw [e2]
  go_wp2_with fail
  go_ret
  refine ⟨?_, hb2⟩
  simp only [lit0, lit43, lit101, str_app, str_take, List.nil_append, List.append_assoc, List.cons_append]
  rfl
set_option maxRecDepth 100000 in
set_option maxHeartbeats 2000000 in
theorem refText_EN12_p_inf (b : Nat) (hb : b < 18446744073709551616) (hf : szB b = 9218868437227405312) (hN : negB b = false) (d : List UInt8) (x : Int) (n : Nat) (hd : digF 9218868437227405311 = d) (hx : expF 9218868437227405311 = x) (hn : d.length = n) (hn0 : 1 ≤ n) (hn2 : n ≤ 20) (hl : 1 < n) (k : Nat) (h3 : -x = (k : Int)) (hk : k < 10) (h1 : x < -4) (w : World) (hW : NumW w) :
    Calls Tryz.prog 70 #[.float .f64 b] w fun e w' => e = .returned (.string (str ([] ++ (d.take 1 ++ 46 :: d.drop 1 ++ [101] ++ [45] ++ 48 :: Lib.decDigits k)))) ∧ Below w.heap.size w w' := by
  have z1 := eq_zero b
  have z2 : decide (szB b = 0) = false := decide_eq_false (by omega)
  have z3 : decide (9218868437227405312 < szB b) = false := decide_eq_false (by omega)
  have z4 : decide (szB b = 9218868437227405312) = true := decide_eq_true hf
  have hD := refDigits_nz 9218868437227405311 (by omega) (by decide) (by decide) w hW
  rw [hd, hx] at hD
  have e1 : (⟨d.toArray⟩ : ByteArray) = str d := rfl
  rw [e1] at hD
  have hs := str_size d
  rw [hn] at hs
  have hi : (str (Lib.decDigits k)).size ≤ 20 := by rw [str_size, Lib.decDigits_length]; exact nine_digits k (by omega)
  have n1 : (1 : Int) ≤ (n : Int) := by omega
  have l1 : (1 : Int) < (n : Int) := by omega
  have g1 : x < 0 := by omega
  have g2 : (k : Int) < 10 := by omega
  go_enter Tryz.func70, Tryz.ntmps70
  go_wp2_with fail
  refine (IsNaN_any b w).mono ?_
  rintro e w0 ⟨rfl, rfl⟩
  go_wp2_with fail
  refine (Signbit_any b hb w).mono ?_
  rintro e w0 ⟨rfl, rfl⟩
  rw [hN]
  go_wp2_with fail
  refine (IsInf_any b hb w).mono ?_
  rintro e w0 ⟨rfl, rfl⟩
  go_wp2_with fail
  refine hD.mono ?_
  rintro e w1 ⟨rfl, hb1⟩
  clear hD
  go_wp2_with fail
  refine (Tryz.strconv_Itoa (k : Int) (by omega) (by omega) w1 (hW.below hb1).tabs.ten).mono ?_
  rintro e w2 ⟨rfl, k2, os2, rfl⟩
  rw [Lib.itoa_nonneg]
  have hb2 := hb1.trans ((Lib.below_grow w1.heap.size w1 (Nat.le_refl _) k2 os2).mono hb1.size)
  have e2 : (⟨(Lib.decDigits k).toArray⟩ : ByteArray) = str (Lib.decDigits k) := rfl
  rw [e2]
  go_wp2_with fail
  go_ret
  refine ⟨?_, hb2⟩
  simp only [lit0, lit45, lit46, lit48, lit101, str_app, str_take, str_drop d _ n hn, List.nil_append, List.append_assoc, List.cons_append]
  rfl
set_option maxRecDepth 100000 in
set_option maxHeartbeats 2000000 in
theorem refText_EN22_p_inf (b : Nat) (hb : b < 18446744073709551616) (hf : szB b = 9218868437227405312) (hN : negB b = false) (d : List UInt8) (x : Int) (n : Nat) (hd : digF 9218868437227405311 = d) (hx : expF 9218868437227405311 = x) (hn : d.length = n) (hn0 : 1 ≤ n) (hn2 : n ≤ 20) (hl : 1 < n) (k : Nat) (h3 : -x = (k : Int)) (hk : 10 ≤ k) (hk2 : k < 500) (w : World) (hW : NumW w) :
    Calls Tryz.prog 70 #[.float .f64 b] w fun e w' => e = .returned (.string (str ([] ++ (d.take 1 ++ 46 :: d.drop 1 ++ [101] ++ [45] ++ Lib.decDigits k)))) ∧ Below w.heap.size w w' := by
  have z1 := eq_zero b
  have z2 : decide (szB b = 0) = false := decide_eq_false (by omega)
  have z3 : decide (9218868437227405312 < szB b) = false := decide_eq_false (by omega)
  have z4 : decide (szB b = 9218868437227405312) = true := decide_eq_true hf
  have hD := refDigits_nz 9218868437227405311 (by omega) (by decide) (by decide) w hW
  rw [hd, hx] at hD
  have e1 : (⟨d.toArray⟩ : ByteArray) = str d := rfl
  rw [e1] at hD
  have hs := str_size d
  rw [hn] at hs
  have hi : (str (Lib.decDigits k)).size ≤ 20 := by rw [str_size, Lib.decDigits_length]; exact nine_digits k (by omega)
  have n1 : (1 : Int) ≤ (n : Int) := by omega
  have l1 : (1 : Int) < (n : Int) := by omega
  have h1 : x < -4 := by omega
  have g1 : x < 0 := by omega
  have g2 : (10 : Int) ≤ (k : Int) := by omega
  go_enter Tryz.func70, Tryz.ntmps70
  go_wp2_with fail
  refine (IsNaN_any b w).mono ?_
  rintro e w0 ⟨rfl, rfl⟩
  go_wp2_with fail
  refine (Signbit_any b hb w).mono ?_
  rintro e w0 ⟨rfl, rfl⟩
  rw [hN]
  go_wp2_with fail
  refine (IsInf_any b hb w).mono ?_
  rintro e w0 ⟨rfl, rfl⟩
  go_wp2_with fail
  refine hD.mono ?_
  rintro e w1 ⟨rfl, hb1⟩
  clear hD
  go_wp2_with fail
  refine (Tryz.strconv_Itoa (k : Int) (by omega) (by omega) w1 (hW.below hb1).tabs.ten).mono ?_
  rintro e w2 ⟨rfl, k2, os2, rfl⟩
  rw [Lib.itoa_nonneg]
  have hb2 := hb1.trans ((Lib.below_grow w1.heap.size w1 (Nat.le_refl _) k2 os2).mono hb1.size)
  have e2 : (⟨(Lib.decDigits k).toArray⟩ : ByteArray) = str (Lib.decDigits k) := rfl
  rw [e2]
  go_wp2_with fail
  go_ret
  refine ⟨?_, hb2⟩
  simp only [lit0, lit45, lit46, lit101, str_app, str_take, str_drop d _ n hn, List.nil_append, List.append_assoc, List.cons_append]
  rfl
set_option maxRecDepth 100000 in
set_option maxHeartbeats 2000000 in
theorem refText_EP2_p_inf (b : Nat) (hb : b < 18446744073709551616) (hf : szB b = 9218868437227405312) (hN : negB b = false) (d : List UInt8) (x : Int) (n : Nat) (hd : digF 9218868437227405311 = d) (hx : expF 9218868437227405311 = x) (hn : d.length = n) (hn0 : 1 ≤ n) (hn2 : n ≤ 20) (hl : 1 < n) (k : Nat) (h3 : x = (k : Int)) (h1 : (n : Int) + 14 < (k : Int)) (hk2 : k < 500) (w : World) (hW : NumW w) :
    Calls Tryz.prog 70 #[.float .f64 b] w fun e w' => e = .returned (.string (str ([] ++ (d.take 1 ++ 46 :: d.drop 1 ++ [101] ++ [43] ++ Lib.decDigits k)))) ∧ Below w.heap.size w w' := by
  have z1 := eq_zero b
  have z2 : decide (szB b = 0) = false := decide_eq_false (by omega)
  have z3 : decide (9218868437227405312 < szB b) = false := decide_eq_false (by omega)
  have z4 : decide (szB b = 9218868437227405312) = true := decide_eq_true hf
  have hD := refDigits_nz 9218868437227405311 (by omega) (by decide) (by decide) w hW
  rw [hd, hx] at hD
  have e1 : (⟨d.toArray⟩ : ByteArray) = str d := rfl
  rw [e1] at hD
  have hs := str_size d
  rw [hn] at hs
  have hi : (str (Lib.decDigits k)).size ≤ 20 := by rw [str_size, Lib.decDigits_length]; exact nine_digits k (by omega)
  have n1 : (1 : Int) ≤ (n : Int) := by omega
  have l1 : (1 : Int) < (n : Int) := by omega
  subst h3
  have g0 : (-4 : Int) ≤ (k : Int) := by omega
  have g1 : (0 : Int) ≤ (k : Int) := by omega
  have g2 : (10 : Int) ≤ (k : Int) := by omega
  go_enter Tryz.func70, Tryz.ntmps70
  go_wp2_with fail
  refine (IsNaN_any b w).mono ?_
  rintro e w0 ⟨rfl, rfl⟩
  go_wp2_with fail
  refine (Signbit_any b hb w).mono ?_
  rintro e w0 ⟨rfl, rfl⟩
  rw [hN]
  go_wp2_with fail
  refine (IsInf_any b hb w).mono ?_
  rintro e w0 ⟨rfl, rfl⟩
  go_wp2_with fail
  refine hD.mono ?_
  rintro e w1 ⟨rfl, hb1⟩
  clear hD
  go_wp2_with fail
  refine (Tryz.strconv_Itoa (k : Int) (by omega) (by omega) w1 (hW.below hb1).tabs.ten).mono ?_
  rintro e w2 ⟨rfl, k2, os2, rfl⟩
  rw [Lib.itoa_nonneg]
  have hb2 := hb1.trans ((Lib.below_grow w1.heap.size w1 (Nat.le_refl _) k2 os2).mono hb1.size)
  have e2 : (⟨(Lib.decDigits k).toArray⟩ : ByteArray) = str (Lib.decDigits k) := rfl
  rw [e2]
  go_wp2_with fail
  go_ret
  refine ⟨?_, hb2⟩
  simp only [lit0, lit43, lit46, lit101, str_app, str_take, str_drop d _ n hn, List.nil_append, List.append_assoc, List.cons_append]
  rfl
set_option maxRecDepth 100000 in
set_option maxHeartbeats 2000000 in
theorem refText_EN11_m_inf (b : Nat) (hb : b < 18446744073709551616) (hf : szB b = 9218868437227405312) (hN : negB b = true) (d : List UInt8) (x : Int) (n : Nat) (hd : digF 9218868437227405311 = d) (hx : expF 9218868437227405311 = x) (hn : d.length = n) (_hn0 : 1 ≤ n) (_hn2 : n ≤ 20) (hl : n = 1) (k : Nat) (h3 : -x = (k : Int)) (hk : k < 10) (h1 : x < -4) (w : World) (hW : NumW w) :
    Calls Tryz.prog 70 #[.float .f64 b] w fun e w' => e = .returned (.string (str ([45] ++ (d.take 1 ++ [101] ++ [45] ++ 48 :: Lib.decDigits k)))) ∧ Below w.heap.size w w' := by
  have z1 := eq_zero b
  have z2 : decide (szB b = 0) = false := decide_eq_false (by omega)
  have z3 : decide (9218868437227405312 < szB b) = false := decide_eq_false (by omega)
  have z4 : decide (szB b = 9218868437227405312) = true := decide_eq_true hf
  have hD := refDigits_nz 9218868437227405311 (by omega) (by decide) (by decide) w hW
  rw [hd, hx] at hD
  have e1 : (⟨d.toArray⟩ : ByteArray) = str d := rfl
  rw [e1] at hD
  have hs := str_size d
  rw [hn] at hs
  have hi : (str (Lib.decDigits k)).size ≤ 20 := by rw [str_size, Lib.decDigits_length]; exact nine_digits k (by omega)
  have n1 : (1 : Int) ≤ (n : Int) := by omega
  have l1 : (n : Int) = 1 := by omega
  have g1 : x < 0 := by omega
  have g2 : (k : Int) < 10 := by omega
  go_enter Tryz.func70, Tryz.ntmps70
  go_wp2_with fail
  refine (IsNaN_any b w).mono ?_
  rintro e w0 ⟨rfl, rfl⟩
  go_wp2_with fail
  refine (Signbit_any b hb w).mono ?_
  rintro e w0 ⟨rfl, rfl⟩
  rw [hN]
  go_wp2_with fail
  refine (IsInf_any b hb w).mono ?_
  rintro e w0 ⟨rfl, rfl⟩
  go_wp2_with fail
  refine hD.mono ?_
  rintro e w1 ⟨rfl, hb1⟩
  clear hD
  go_wp2_with fail
  refine (Tryz.strconv_Itoa (k : Int) (by omega) (by omega) w1 (hW.below hb1).tabs.ten).mono ?_
  rintro e w2 ⟨rfl, k2, os2, rfl⟩
  rw [Lib.itoa_nonneg]
  have hb2 := hb1.trans ((Lib.below_grow w1.heap.size w1 (Nat.le_refl _) k2 os2).mono hb1.size)
  have e2 : (⟨(Lib.decDigits k).toArray⟩ : ByteArray) = str (Lib.decDigits k) := rfl
  rw [e2]
  go_wp2_with fail
  go_ret
  refine ⟨?_, hb2⟩
  simp only [lit45, lit48, lit101, str_app, str_take, List.nil_append, List.append_assoc, List.cons_append]
  rfl
set_option maxRecDepth 100000 in
set_option maxHeartbeats 2000000 in
theorem refText_EN21_m_inf (b : Nat) (hb : b < 18446744073709551616) (hf : szB b = 9218868437227405312) (hN : negB b = true) (d : List UInt8) (x : Int) (n : Nat) (hd : digF 9218868437227405311 = d) (hx : expF 9218868437227405311 = x) (hn : d.length = n) (_hn0 : 1 ≤ n) (_hn2 : n ≤ 20) (hl : n = 1) (k : Nat) (h3 : -x = (k : Int)) (hk : 10 ≤ k) (hk2 : k < 500) (w : World) (hW : NumW w) :
    Calls Tryz.prog 70 #[.float .f64 b] w fun e w' => e = .returned (.string (str ([45] ++ (d.take 1 ++ [101] ++ [45] ++ Lib.decDigits k)))) ∧ Below w.heap.size w w' := by
  have z1 := eq_zero b
  have z2 : decide (szB b = 0) = false := decide_eq_false (by omega)
  have z3 : decide (9218868437227405312 < szB b) = false := decide_eq_false (by omega)
  have z4 : decide (szB b = 9218868437227405312) = true := decide_eq_true hf
  have hD := refDigits_nz 9218868437227405311 (by omega) (by decide) (by decide) w hW
  rw [hd, hx] at hD
  have e1 : (⟨d.toArray⟩ : ByteArray) = str d := rfl
  rw [e1] at hD
  have hs := str_size d
  rw [hn] at hs
  have hi : (str (Lib.decDigits k)).size ≤ 20 := by rw [str_size, Lib.decDigits_length]; exact nine_digits k (by omega)
  have n1 : (1 : Int) ≤ (n : Int) := by omega
  have l1 : (n : Int) = 1 := by omega
  have h1 : x < -4 := by omega
  have g1 : x < 0 := by omega
  have g2 : (10 : Int) ≤ (k : Int) := by omega
  go_enter Tryz.func70, Tryz.ntmps70
  go_wp2_with fail
  refine (IsNaN_any b w).mono ?_
  rintro e w0 ⟨rfl, rfl⟩
  go_wp2_with fail
  refine (Signbit_any b hb w).mono ?_
  rintro e w0 ⟨rfl, rfl⟩
  rw [hN]
  go_wp2_with fail
  refine (IsInf_any b hb w).mono ?_
  rintro e w0 ⟨rfl, rfl⟩
  go_wp2_with fail
  refine hD.mono ?_
  rintro e w1 ⟨rfl, hb1⟩
  clear hD
  go_wp2_with fail
  refine (Tryz.strconv_Itoa (k : Int) (by omega) (by omega) w1 (hW.below hb1).tabs.ten).mono ?_
  rintro e w2 ⟨rfl, k2, os2, rfl⟩
  rw [Lib.itoa_nonneg]
  have hb2 := hb1.trans ((Lib.below_grow w1.heap.size w1 (Nat.le_refl _) k2 os2).mono hb1.size)
  have e2 : (⟨(Lib.decDigits k).toArray⟩ : ByteArray) = str (Lib.decDigits k) := rfl
  rw [e2]
  go_wp2_with fail
  go_ret
  refine ⟨?_, hb2⟩
  simp only [lit45, lit101, str_app, str_take, List.nil_append, List.append_assoc, List.cons_append]
  rfl
set_option maxRecDepth 100000 in
set_option maxHeartbeats 2000000 in
theorem refText_EP1_m_inf (b : Nat) (hb : b < 18446744073709551616) (hf : szB b = 9218868437227405312) (hN : negB b = true) (d : List UInt8) (x : Int) (n : Nat) (hd : digF 9218868437227405311 = d) (hx : expF 9218868437227405311 = x) (hn : d.length = n) (_hn0 : 1 ≤ n) (_hn2 : n ≤ 20) (hl : n = 1) (k : Nat) (h3 : x = (k : Int)) (h1 : (n : Int) + 14 < (k : Int)) (hk2 : k < 500) (w : World) (hW : NumW w) :
    Calls Tryz.prog 70 #[.float .f64 b] w fun e w' => e = .returned (.string (str ([45] ++ (d.take 1 ++ [101] ++ [43] ++ Lib.decDigits k)))) ∧ Below w.heap.size w w' := by
  have z1 := eq_zero b
  have z2 : decide (szB b = 0) = false := decide_eq_false (by omega)
  have z3 : decide (9218868437227405312 < szB b) = false := decide_eq_false (by omega)
  have z4 : decide (szB b = 9218868437227405312) = true := decide_eq_true hf
  have hD := refDigits_nz 9218868437227405311 (by omega) (by decide) (by decide) w hW
  rw [hd, hx] at hD
  have e1 : (⟨d.toArray⟩ : ByteArray) = str d := rfl
  rw [e1] at hD
  have hs := str_size d
  rw [hn] at hs
  have hi : (str (Lib.decDigits k)).size ≤ 20 := by rw [str_size, Lib.decDigits_length]; exact nine_digits k (by omega)
  have n1 : (1 : Int) ≤ (n : Int) := by omega
  have l1 : (n : Int) = 1 := by omega
  subst h3
  have g0 : (-4 : Int) ≤ (k : Int) := by omega
  have g1 : (0 : Int) ≤ (k : Int) := by omega
  have g2 : (10 : Int) ≤ (k : Int) := by omega
  go_enter Tryz.func70, Tryz.ntmps70
  go_wp2_with fail
  refine (IsNaN_any b w).mono ?_
  rintro e w0 ⟨rfl, rfl⟩
  go_wp2_with fail
  refine (Signbit_any b hb w).mono ?_
  rintro e w0 ⟨rfl, rfl⟩
  rw [hN]
  go_wp2_with fail
  refine (IsInf_any b hb w).mono ?_
  rintro e w0 ⟨rfl, rfl⟩
  go_wp2_with fail
  refine hD.mono ?_
  rintro e w1 ⟨rfl, hb1⟩
  clear hD
  go_wp2_with fail
  refine (Tryz.strconv_Itoa (k : Int) (by omega) (by omega) w1 (hW.below hb1).tabs.ten).mono ?_
  rintro e w2 ⟨rfl, k2, os2, rfl⟩
  rw [Lib.itoa_nonneg]
  have hb2 := hb1.trans ((Lib.below_grow w1.heap.size w1 (Nat.le_refl _) k2 os2).mono hb1.size)
  have e2 : (⟨(Lib.decDigits k).toArray⟩ : ByteArray) = str (Lib.decDigits k) := rfl
  rw [e2]
  go_wp2_with fail
  go_ret
  refine ⟨?_, hb2⟩
  simp only [lit43, lit45, lit101, str_app, str_take, List.nil_append, List.append_assoc, List.cons_append]
  rfl
set_option maxRecDepth 100000 in
set_option maxHeartbeats 2000000 in
theorem refText_EN12_m_inf (b : Nat) (hb : b < 18446744073709551616) (hf : szB b = 9218868437227405312) (hN : negB b = true) (d : List UInt8) (x : Int) (n : Nat) (hd : digF 9218868437227405311 = d) (hx : expF 9218868437227405311 = x) (hn : d.length = n) (hn0 : 1 ≤ n) (hn2 : n ≤ 20) (hl : 1 < n) (k : Nat) (h3 : -x = (k : Int)) (hk : k < 10) (h1 : x < -4) (w : World) (hW : NumW w) :
    Calls Tryz.prog 70 #[.float .f64 b] w fun e w' => e = .returned (.string (str ([45] ++ (d.take 1 ++ 46 :: d.drop 1 ++ [101] ++ [45] ++ 48 :: Lib.decDigits k)))) ∧ Below w.heap.size w w' := by
  have z1 := eq_zero b
  have z2 : decide (szB b = 0) = false := decide_eq_false (by omega)
  have z3 : decide (9218868437227405312 < szB b) = false := decide_eq_false (by omega)
  have z4 : decide (szB b = 9218868437227405312) = true := decide_eq_true hf
  have hD := refDigits_nz 9218868437227405311 (by omega) (by decide) (by decide) w hW
  rw [hd, hx] at hD
  have e1 : (⟨d.toArray⟩ : ByteArray) = str d := rfl
  rw [e1] at hD
  have hs := str_size d
  rw [hn] at hs
  have hi : (str (Lib.decDigits k)).size ≤ 20 := by rw [str_size, Lib.decDigits_length]; exact nine_digits k (by omega)
  have n1 : (1 : Int) ≤ (n : Int) := by omega
  have l1 : (1 : Int) < (n : Int) := by omega
  have g1 : x < 0 := by omega
  have g2 : (k : Int) < 10 := by omega
  go_enter Tryz.func70, Tryz.ntmps70
  go_wp2_with fail
  refine (IsNaN_any b w).mono ?_
  rintro e w0 ⟨rfl, rfl⟩
  go_wp2_with fail
  refine (Signbit_any b hb w).mono ?_
  rintro e w0 ⟨rfl, rfl⟩
  rw [hN]
  go_wp2_with fail
  refine (IsInf_any b hb w).mono ?_
  rintro e w0 ⟨rfl, rfl⟩
  go_wp2_with fail
  refine hD.mono ?_
  rintro e w1 ⟨rfl, hb1⟩
  clear hD
  go_wp2_with fail
  refine (Tryz.strconv_Itoa (k : Int) (by omega) (by omega) w1 (hW.below hb1).tabs.ten).mono ?_
  rintro e w2 ⟨rfl, k2, os2, rfl⟩
  rw [Lib.itoa_nonneg]
  have hb2 := hb1.trans ((Lib.below_grow w1.heap.size w1 (Nat.le_refl _) k2 os2).mono hb1.size)
  have e2 : (⟨(Lib.decDigits k).toArray⟩ : ByteArray) = str (Lib.decDigits k) := rfl
  rw [e2]
  go_wp2_with fail
  go_ret
  refine ⟨?_, hb2⟩
  simp only [lit45, lit46, lit48, lit101, str_app, str_take, str_drop d _ n hn, List.nil_append, List.append_assoc, List.cons_append]
  rfl
set_option maxRecDepth 100000 in
set_option maxHeartbeats 2000000 in
theorem refText_EN22_m_inf (b : Nat) (hb : b < 18446744073709551616) (hf : szB b = 9218868437227405312) (hN : negB b = true) (d : List UInt8) (x : Int) (n : Nat) (hd : digF 9218868437227405311 = d) (hx : expF 9218868437227405311 = x) (hn : d.length = n) (hn0 : 1 ≤ n) (hn2 : n ≤ 20) (hl : 1 < n) (k : Nat) (h3 : -x = (k : Int)) (hk : 10 ≤ k) (hk2 : k < 500) (w : World) (hW : NumW w) :
    Calls Tryz.prog 70 #[.float .f64 b] w fun e w' => e = .returned (.string (str ([45] ++ (d.take 1 ++ 46 :: d.drop 1 ++ [101] ++ [45] ++ Lib.decDigits k)))) ∧ Below w.heap.size w w' := by
  have z1 := eq_zero b
  have z2 : decide (szB b = 0) = false := decide_eq_false (by omega)
  have z3 : decide (9218868437227405312 < szB b) = false := decide_eq_false (by omega)
  have z4 : decide (szB b = 9218868437227405312) = true := decide_eq_true hf
  have hD := refDigits_nz 9218868437227405311 (by omega) (by decide) (by decide) w hW
  rw [hd, hx] at hD
  have e1 : (⟨d.toArray⟩ : ByteArray) = str d := rfl
  rw [e1] at hD
  have hs := str_size d
  rw [hn] at hs
  have hi : (str (Lib.decDigits k)).size ≤ 20 := by rw [str_size, Lib.decDigits_length]; exact nine_digits k (by omega)
  have n1 : (1 : Int) ≤ (n : Int) := by omega
  have l1 : (1 : Int) < (n : Int) := by omega
  have h1 : x < -4 := by omega
  have g1 : x < 0 := by omega
  have g2 : (10 : Int) ≤ (k : Int) := by omega
  go_enter Tryz.func70, Tryz.ntmps70
  go_wp2_with fail
  refine (IsNaN_any b w).mono ?_
  rintro e w0 ⟨rfl, rfl⟩
  go_wp2_with fail
  refine (Signbit_any b hb w).mono ?_
  rintro e w0 ⟨rfl, rfl⟩
  rw [hN]
  go_wp2_with fail
  refine (IsInf_any b hb w).mono ?_
  rintro e w0 ⟨rfl, rfl⟩
  go_wp2_with fail
  refine hD.mono ?_
  rintro e w1 ⟨rfl, hb1⟩
  clear hD
  go_wp2_with fail
  refine (Tryz.strconv_Itoa (k : Int) (by omega) (by omega) w1 (hW.below hb1).tabs.ten).mono ?_
  rintro e w2 ⟨rfl, k2, os2, rfl⟩
  rw [Lib.itoa_nonneg]
  have hb2 := hb1.trans ((Lib.below_grow w1.heap.size w1 (Nat.le_refl _) k2 os2).mono hb1.size)
  have e2 : (⟨(Lib.decDigits k).toArray⟩ : ByteArray) = str (Lib.decDigits k) := rfl
  rw [e2]
  go_wp2_with fail
  go_ret
  refine ⟨?_, hb2⟩
  simp only [lit45, lit46, lit101, str_app, str_take, str_drop d _ n hn, List.nil_append, List.append_assoc, List.cons_append]
  rfl
set_option maxRecDepth 100000 in
set_option maxHeartbeats 2000000 in
theorem refText_EP2_m_inf (b : Nat) (hb : b < 18446744073709551616) (hf : szB b = 9218868437227405312) (hN : negB b = true) (d : List UInt8) (x : Int) (n : Nat) (hd : digF 9218868437227405311 = d) (hx : expF 9218868437227405311 = x) (hn : d.length = n) (hn0 : 1 ≤ n) (hn2 : n ≤ 20) (hl : 1 < n) (k : Nat) (h3 : x = (k : Int)) (h1 : (n : Int) + 14 < (k : Int)) (hk2 : k < 500) (w : World) (hW : NumW w) :
    Calls Tryz.prog 70 #[.float .f64 b] w fun e w' => e = .returned (.string (str ([45] ++ (d.take 1 ++ 46 :: d.drop 1 ++ [101] ++ [43] ++ Lib.decDigits k)))) ∧ Below w.heap.size w w' := by
  have z1 := eq_zero b
  have z2 : decide (szB b = 0) = false := decide_eq_false (by omega)
  have z3 : decide (9218868437227405312 < szB b) = false := decide_eq_false (by omega)
  have z4 : decide (szB b = 9218868437227405312) = true := decide_eq_true hf
  have hD := refDigits_nz 9218868437227405311 (by omega) (by decide) (by decide) w hW
  rw [hd, hx] at hD
  have e1 : (⟨d.toArray⟩ : ByteArray) = str d := rfl
  rw [e1] at hD
  have hs := str_size d
  rw [hn] at hs
  have hi : (str (Lib.decDigits k)).size ≤ 20 := by rw [str_size, Lib.decDigits_length]; exact nine_digits k (by omega)
  have n1 : (1 : Int) ≤ (n : Int) := by omega
  have l1 : (1 : Int) < (n : Int) := by omega
  subst h3
  have g0 : (-4 : Int) ≤ (k : Int) := by omega
  have g1 : (0 : Int) ≤ (k : Int) := by omega
  have g2 : (10 : Int) ≤ (k : Int) := by omega
  go_enter Tryz.func70, Tryz.ntmps70
  go_wp2_with fail
  refine (IsNaN_any b w).mono ?_
  rintro e w0 ⟨rfl, rfl⟩
  go_wp2_with fail
  refine (Signbit_any b hb w).mono ?_
  rintro e w0 ⟨rfl, rfl⟩
  rw [hN]
  go_wp2_with fail
  refine (IsInf_any b hb w).mono ?_
  rintro e w0 ⟨rfl, rfl⟩
  go_wp2_with fail
  refine hD.mono ?_
  rintro e w1 ⟨rfl, hb1⟩
  clear hD
  go_wp2_with fail
  refine (Tryz.strconv_Itoa (k : Int) (by omega) (by omega) w1 (hW.below hb1).tabs.ten).mono ?_
  rintro e w2 ⟨rfl, k2, os2, rfl⟩
  rw [Lib.itoa_nonneg]
  have hb2 := hb1.trans ((Lib.below_grow w1.heap.size w1 (Nat.le_refl _) k2 os2).mono hb1.size)
  have e2 : (⟨(Lib.decDigits k).toArray⟩ : ByteArray) = str (Lib.decDigits k) := rfl
  rw [e2]
  go_wp2_with fail
  go_ret
  refine ⟨?_, hb2⟩
  simp only [lit43, lit45, lit46, lit101, str_app, str_take, str_drop d _ n hn, List.nil_append, List.append_assoc, List.cons_append]
  rfl
end Go.Proofs.YtmicpdibnkmekaaGreatDoor
