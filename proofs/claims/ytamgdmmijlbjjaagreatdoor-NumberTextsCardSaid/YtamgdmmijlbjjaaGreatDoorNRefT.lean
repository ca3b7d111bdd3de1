/- The text of a double: the document's walk, case by case. -/
import Derived.Test.YtamgdmmijlbjjaaGreatDoorNZeros
namespace Go.Proofs.YtamgdmmijlbjjaaGreatDoor
open Go Go.RowKit

theorem str_size (l : List UInt8) : (str l).size = l.length := by simp [str, ByteArray.size]
theorem str_take (l : List UInt8) (j : Nat) : (str l).extract 0 j = str (l.take j) := by
  apply ByteArray.ext
  simp [str, ByteArray.data_extract]
theorem str_drop (l : List UInt8) (j n : Nat) (h : l.length = n) : (str l).extract j n = str (l.drop j) := by
  apply ByteArray.ext
  subst h
  simp [str, ByteArray.data_extract]
  rw [List.take_of_length_le (by simp)]
theorem lit0 : (⟨#[]⟩ : ByteArray) = str [] := rfl
theorem lit45 : (⟨#[45]⟩ : ByteArray) = str [45] := rfl
theorem lit43 : (⟨#[43]⟩ : ByteArray) = str [43] := rfl
theorem lit46 : (⟨#[46]⟩ : ByteArray) = str [46] := rfl
theorem lit48 : (⟨#[48]⟩ : ByteArray) = str [48] := rfl
theorem lit101 : (⟨#[101]⟩ : ByteArray) = str [101] := rfl
theorem lit4846 : (⟨#[48, 46]⟩ : ByteArray) = str [48, 46] := rfl
set_option maxRecDepth 100000 in
set_option maxHeartbeats 2000000 in
theorem refText_A_p_fin (b : Nat) (hb : b < 18446744073709551616) (hf : szB b < 9218868437227405312) (hz : szB b ≠ 0) (hN : negB b = false) (d : List UInt8) (x : Int) (n : Nat) (hd : digF b = d) (hx : expF b = x) (hn : d.length = n) (hn0 : 1 ≤ n) (hn2 : n ≤ 20) (k : Nat) (h3 : x - (n : Int) + 1 = (k : Int)) (hk : k ≤ 1000) (h1 : -4 ≤ x) (h2 : x ≤ (n : Int) + 14) (w : World) (hW : NumW w) :
    Calls Tryz.prog 16 #[.float .f64 b] w fun e w' => e = .returned (.string (str ([] ++ (d ++ List.replicate k 48)))) ∧ Below w.heap.size w w' := by
  have z1 := eq_zero b
  have z2 : decide (szB b = 0) = false := decide_eq_false (by omega)
  have z3 : decide (9218868437227405312 < szB b) = false := decide_eq_false (by omega)
  have z4 : decide (szB b = 9218868437227405312) = false := decide_eq_false (by omega)
  have hD := refDigits_nz b hb hf hz w hW
  rw [hd, hx] at hD
  have e1 : (⟨d.toArray⟩ : ByteArray) = str d := rfl
  rw [e1] at hD
  have hs := str_size d
  rw [hn] at hs
  have g1 : (n : Int) - 1 ≤ x := by omega
  have hr : (str (List.replicate k 48)).size = k := by rw [str_size, List.length_replicate]
  go_enter Tryz.func16, Tryz.ntmps16
  go_wp2_with fail
  refine (IsNaN_any b w).mono ?_
  rintro e w0 ⟨rfl, rfl⟩
  go_wp2_with fail
  refine (Signbit_any b hb w).mono ?_
  rintro e w0 ⟨rfl, rfl⟩
  rw [hN]
  go_wp2_with fail
  refine (IsInf_any b hb w).mono ?_
  rintro e w0 ⟨rfl, rfl⟩
  go_wp2_with fail
  refine hD.mono ?_
  rintro e w1 ⟨rfl, hb1⟩
  clear hD
  go_wp2_with fail
  refine (zeros_any k hk w1).mono ?_
  rintro e w2 ⟨rfl, hb2⟩
  go_wp2_with fail
  go_ret
  refine ⟨?_, hb1.trans (hb2.mono hb1.size)⟩
  simp only [lit0, str_app, List.nil_append]
  rfl
set_option maxRecDepth 100000 in
set_option maxHeartbeats 2000000 in
theorem refText_B_p_fin (b : Nat) (hb : b < 18446744073709551616) (hf : szB b < 9218868437227405312) (hz : szB b ≠ 0) (hN : negB b = false) (d : List UInt8) (x : Int) (n : Nat) (hd : digF b = d) (hx : expF b = x) (hn : d.length = n) (hn0 : 1 ≤ n) (hn2 : n ≤ 20) (k : Nat) (h3 : x = (k : Int)) (hk : k + 1 < n) (w : World) (hW : NumW w) :
    Calls Tryz.prog 16 #[.float .f64 b] w fun e w' => e = .returned (.string (str ([] ++ (d.take (k + 1) ++ [46] ++ d.drop (k + 1))))) ∧ Below w.heap.size w w' := by
  have z1 := eq_zero b
  have z2 : decide (szB b = 0) = false := decide_eq_false (by omega)
  have z3 : decide (9218868437227405312 < szB b) = false := decide_eq_false (by omega)
  have z4 : decide (szB b = 9218868437227405312) = false := decide_eq_false (by omega)
  have hD := refDigits_nz b hb hf hz w hW
  rw [hd, hx] at hD
  have e1 : (⟨d.toArray⟩ : ByteArray) = str d := rfl
  rw [e1] at hD
  have hs := str_size d
  rw [hn] at hs
  subst h3
  have g1 : (k : Int) < (n : Int) - 1 := by omega
  have g2 : (k : Int) ≤ (n : Int) + 14 := by omega
  have g3 : (0 : Int) ≤ (k : Int) := by omega
  have g4 : (k : Int) + 1 ≤ (n : Int) := by omega
  go_enter Tryz.func16, Tryz.ntmps16
  go_wp2_with fail
  refine (IsNaN_any b w).mono ?_
  rintro e w0 ⟨rfl, rfl⟩
  go_wp2_with fail
  refine (Signbit_any b hb w).mono ?_
  rintro e w0 ⟨rfl, rfl⟩
  rw [hN]
  go_wp2_with fail
  refine (IsInf_any b hb w).mono ?_
  rintro e w0 ⟨rfl, rfl⟩
  go_wp2_with fail
  refine hD.mono ?_
  rintro e w1 ⟨rfl, hb1⟩
  clear hD
  go_wp2_with fail
  go_quiet (fail)
  go_wp2_with fail
  go_ret
  refine ⟨?_, hb1.trans ⟨rfl, rfl, rfl, Nat.le_refl _, fun _ _ => rfl⟩⟩
  simp only [lit0, lit46, str_app, str_take, str_drop d _ n hn, List.nil_append, List.append_assoc]
  rfl
set_option maxRecDepth 100000 in
set_option maxHeartbeats 2000000 in
theorem refText_C_p_fin (b : Nat) (hb : b < 18446744073709551616) (hf : szB b < 9218868437227405312) (hz : szB b ≠ 0) (hN : negB b = false) (d : List UInt8) (x : Int) (n : Nat) (hd : digF b = d) (hx : expF b = x) (hn : d.length = n) (hn0 : 1 ≤ n) (hn2 : n ≤ 20) (k : Nat) (h3 : -x - 1 = (k : Int)) (hk : k ≤ 1000) (h1 : -4 ≤ x) (_h2 : x < 0) (w : World) (hW : NumW w) :
    Calls Tryz.prog 16 #[.float .f64 b] w fun e w' => e = .returned (.string (str ([] ++ ([48, 46] ++ List.replicate k 48 ++ d)))) ∧ Below w.heap.size w w' := by
  have z1 := eq_zero b
  have z2 : decide (szB b = 0) = false := decide_eq_false (by omega)
  have z3 : decide (9218868437227405312 < szB b) = false := decide_eq_false (by omega)
  have z4 : decide (szB b = 9218868437227405312) = false := decide_eq_false (by omega)
  have hD := refDigits_nz b hb hf hz w hW
  rw [hd, hx] at hD
  have e1 : (⟨d.toArray⟩ : ByteArray) = str d := rfl
  rw [e1] at hD
  have hs := str_size d
  rw [hn] at hs
  have g1 : x < (n : Int) - 1 := by omega
  have g2 : x ≤ (n : Int) + 14 := by omega
  have hr : (str (List.replicate k 48)).size = k := by rw [str_size, List.length_replicate]
  go_enter Tryz.func16, Tryz.ntmps16
  go_wp2_with fail
  refine (IsNaN_any b w).mono ?_
  rintro e w0 ⟨rfl, rfl⟩
  go_wp2_with fail
  refine (Signbit_any b hb w).mono ?_
  rintro e w0 ⟨rfl, rfl⟩
  rw [hN]
  go_wp2_with fail
  refine (IsInf_any b hb w).mono ?_
  rintro e w0 ⟨rfl, rfl⟩
  go_wp2_with fail
  refine hD.mono ?_
  rintro e w1 ⟨rfl, hb1⟩
  clear hD
  go_wp2_with fail
  refine (zeros_any k hk w1).mono ?_
  rintro e w2 ⟨rfl, hb2⟩
  go_wp2_with fail
  go_ret
  refine ⟨?_, hb1.trans (hb2.mono hb1.size)⟩
  simp only [lit0, lit4846, str_app, List.nil_append, List.append_assoc]
  rfl
set_option maxRecDepth 100000 in
set_option maxHeartbeats 2000000 in
theorem refText_A_m_fin (b : Nat) (hb : b < 18446744073709551616) (hf : szB b < 9218868437227405312) (hz : szB b ≠ 0) (hN : negB b = true) (d : List UInt8) (x : Int) (n : Nat) (hd : digF b = d) (hx : expF b = x) (hn : d.length = n) (hn0 : 1 ≤ n) (hn2 : n ≤ 20) (k : Nat) (h3 : x - (n : Int) + 1 = (k : Int)) (hk : k ≤ 1000) (h1 : -4 ≤ x) (h2 : x ≤ (n : Int) + 14) (w : World) (hW : NumW w) :
    Calls Tryz.prog 16 #[.float .f64 b] w fun e w' => e = .returned (.string (str ([45] ++ (d ++ List.replicate k 48)))) ∧ Below w.heap.size w w' := by
  have z1 := eq_zero b
  have z2 : decide (szB b = 0) = false := decide_eq_false (by omega)
  have z3 : decide (9218868437227405312 < szB b) = false := decide_eq_false (by omega)
  have z4 : decide (szB b = 9218868437227405312) = false := decide_eq_false (by omega)
  have hD := refDigits_nz b hb hf hz w hW
  rw [hd, hx] at hD
  have e1 : (⟨d.toArray⟩ : ByteArray) = str d := rfl
  rw [e1] at hD
  have hs := str_size d
  rw [hn] at hs
  have g1 : (n : Int) - 1 ≤ x := by omega
  have hr : (str (List.replicate k 48)).size = k := by rw [str_size, List.length_replicate]
  go_enter Tryz.func16, Tryz.ntmps16
  go_wp2_with fail
  refine (IsNaN_any b w).mono ?_
  rintro e w0 ⟨rfl, rfl⟩
  go_wp2_with fail
  refine (Signbit_any b hb w).mono ?_
  rintro e w0 ⟨rfl, rfl⟩
  rw [hN]
  go_wp2_with fail
  refine (IsInf_any b hb w).mono ?_
  rintro e w0 ⟨rfl, rfl⟩
  go_wp2_with fail
  refine hD.mono ?_
  rintro e w1 ⟨rfl, hb1⟩
  clear hD
  go_wp2_with fail
  refine (zeros_any k hk w1).mono ?_
  rintro e w2 ⟨rfl, hb2⟩
  go_wp2_with fail
  go_ret
  refine ⟨?_, hb1.trans (hb2.mono hb1.size)⟩
  simp only [lit45, str_app, List.append_assoc]
  rfl
set_option maxRecDepth 100000 in
set_option maxHeartbeats 2000000 in
theorem refText_B_m_fin (b : Nat) (hb : b < 18446744073709551616) (hf : szB b < 9218868437227405312) (hz : szB b ≠ 0) (hN : negB b = true) (d : List UInt8) (x : Int) (n : Nat) (hd : digF b = d) (hx : expF b = x) (hn : d.length = n) (hn0 : 1 ≤ n) (hn2 : n ≤ 20) (k : Nat) (h3 : x = (k : Int)) (hk : k + 1 < n) (w : World) (hW : NumW w) :
    Calls Tryz.prog 16 #[.float .f64 b] w fun e w' => e = .returned (.string (str ([45] ++ (d.take (k + 1) ++ [46] ++ d.drop (k + 1))))) ∧ Below w.heap.size w w' := by
  have z1 := eq_zero b
  have z2 : decide (szB b = 0) = false := decide_eq_false (by omega)
  have z3 : decide (9218868437227405312 < szB b) = false := decide_eq_false (by omega)
  have z4 : decide (szB b = 9218868437227405312) = false := decide_eq_false (by omega)
  have hD := refDigits_nz b hb hf hz w hW
  rw [hd, hx] at hD
  have e1 : (⟨d.toArray⟩ : ByteArray) = str d := rfl
  rw [e1] at hD
  have hs := str_size d
  rw [hn] at hs
  subst h3
  have g1 : (k : Int) < (n : Int) - 1 := by omega
  have g2 : (k : Int) ≤ (n : Int) + 14 := by omega
  have g3 : (0 : Int) ≤ (k : Int) := by omega
  have g4 : (k : Int) + 1 ≤ (n : Int) := by omega
  go_enter Tryz.func16, Tryz.ntmps16
  go_wp2_with fail
  refine (IsNaN_any b w).mono ?_
  rintro e w0 ⟨rfl, rfl⟩
  go_wp2_with fail
  refine (Signbit_any b hb w).mono ?_
  rintro e w0 ⟨rfl, rfl⟩
  rw [hN]
  go_wp2_with fail
  refine (IsInf_any b hb w).mono ?_
  rintro e w0 ⟨rfl, rfl⟩
  go_wp2_with fail
  refine hD.mono ?_
  rintro e w1 ⟨rfl, hb1⟩
  clear hD
  go_wp2_with fail
  go_quiet (fail)
  go_wp2_with fail
  go_ret
  refine ⟨?_, hb1.trans ⟨rfl, rfl, rfl, Nat.le_refl _, fun _ _ => rfl⟩⟩
  simp only [lit45, lit46, str_app, str_take, str_drop d _ n hn, List.append_assoc]
  rfl
set_option maxRecDepth 100000 in
set_option maxHeartbeats 2000000 in
theorem refText_C_m_fin (b : Nat) (hb : b < 18446744073709551616) (hf : szB b < 9218868437227405312) (hz : szB b ≠ 0) (hN : negB b = true) (d : List UInt8) (x : Int) (n : Nat) (hd : digF b = d) (hx : expF b = x) (hn : d.length = n) (hn0 : 1 ≤ n) (hn2 : n ≤ 20) (k : Nat) (h3 : -x - 1 = (k : Int)) (hk : k ≤ 1000) (h1 : -4 ≤ x) (_h2 : x < 0) (w : World) (hW : NumW w) :
    Calls Tryz.prog 16 #[.float .f64 b] w fun e w' => e = .returned (.string (str ([45] ++ ([48, 46] ++ List.replicate k 48 ++ d)))) ∧ Below w.heap.size w w' := by
  have z1 := eq_zero b
  have z2 : decide (szB b = 0) = false := decide_eq_false (by omega)
  have z3 : decide (9218868437227405312 < szB b) = false := decide_eq_false (by omega)
  have z4 : decide (szB b = 9218868437227405312) = false := decide_eq_false (by omega)
  have hD := refDigits_nz b hb hf hz w hW
  rw [hd, hx] at hD
  have e1 : (⟨d.toArray⟩ : ByteArray) = str d := rfl
  rw [e1] at hD
  have hs := str_size d
  rw [hn] at hs
  have g1 : x < (n : Int) - 1 := by omega
  have g2 : x ≤ (n : Int) + 14 := by omega
  have hr : (str (List.replicate k 48)).size = k := by rw [str_size, List.length_replicate]
  go_enter Tryz.func16, Tryz.ntmps16
  go_wp2_with fail
  refine (IsNaN_any b w).mono ?_
  rintro e w0 ⟨rfl, rfl⟩
  go_wp2_with fail
  refine (Signbit_any b hb w).mono ?_
  rintro e w0 ⟨rfl, rfl⟩
  rw [hN]
  go_wp2_with fail
  refine (IsInf_any b hb w).mono ?_
  rintro e w0 ⟨rfl, rfl⟩
  go_wp2_with fail
  refine hD.mono ?_
  rintro e w1 ⟨rfl, hb1⟩
  clear hD
  go_wp2_with fail
  refine (zeros_any k hk w1).mono ?_
  rintro e w2 ⟨rfl, hb2⟩
  go_wp2_with fail
  go_ret
  refine ⟨?_, hb1.trans (hb2.mono hb1.size)⟩
  simp only [lit45, lit4846, str_app, List.append_assoc]
  rfl
set_option maxRecDepth 100000 in
set_option maxHeartbeats 2000000 in
theorem refText_A_p_inf (b : Nat) (hb : b < 18446744073709551616) (hf : szB b = 9218868437227405312) (hN : negB b = false) (d : List UInt8) (x : Int) (n : Nat) (hd : digF 9218868437227405311 = d) (hx : expF 9218868437227405311 = x) (hn : d.length = n) (hn0 : 1 ≤ n) (hn2 : n ≤ 20) (k : Nat) (h3 : x - (n : Int) + 1 = (k : Int)) (hk : k ≤ 1000) (h1 : -4 ≤ x) (h2 : x ≤ (n : Int) + 14) (w : World) (hW : NumW w) :
    Calls Tryz.prog 16 #[.float .f64 b] w fun e w' => e = .returned (.string (str ([] ++ (d ++ List.replicate k 48)))) ∧ Below w.heap.size w w' := by
  have z1 := eq_zero b
  have z2 : decide (szB b = 0) = false := decide_eq_false (by omega)
  have z3 : decide (9218868437227405312 < szB b) = false := decide_eq_false (by omega)
  have z4 : decide (szB b = 9218868437227405312) = true := decide_eq_true hf
  have hD := refDigits_nz 9218868437227405311 (by omega) (by decide) (by decide) w hW
  rw [hd, hx] at hD
  have e1 : (⟨d.toArray⟩ : ByteArray) = str d := rfl
  rw [e1] at hD
  have hs := str_size d
  rw [hn] at hs
  have g1 : (n : Int) - 1 ≤ x := by omega
  have hr : (str (List.replicate k 48)).size = k := by rw [str_size, List.length_replicate]
  go_enter Tryz.func16, Tryz.ntmps16
  go_wp2_with fail
  refine (IsNaN_any b w).mono ?_
  rintro e w0 ⟨rfl, rfl⟩
  go_wp2_with fail
  refine (Signbit_any b hb w).mono ?_
  rintro e w0 ⟨rfl, rfl⟩
  rw [hN]
  go_wp2_with fail
  refine (IsInf_any b hb w).mono ?_
  rintro e w0 ⟨rfl, rfl⟩
  go_wp2_with fail
  refine hD.mono ?_
  rintro e w1 ⟨rfl, hb1⟩
  clear hD
  go_wp2_with fail
  refine (zeros_any k hk w1).mono ?_
  rintro e w2 ⟨rfl, hb2⟩
  go_wp2_with fail
  go_ret
  refine ⟨?_, hb1.trans (hb2.mono hb1.size)⟩
  simp only [lit0, str_app, List.nil_append]
  rfl
set_option maxRecDepth 100000 in
set_option maxHeartbeats 2000000 in
theorem refText_B_p_inf (b : Nat) (hb : b < 18446744073709551616) (hf : szB b = 9218868437227405312) (hN : negB b = false) (d : List UInt8) (x : Int) (n : Nat) (hd : digF 9218868437227405311 = d) (hx : expF 9218868437227405311 = x) (hn : d.length = n) (hn0 : 1 ≤ n) (hn2 : n ≤ 20) (k : Nat) (h3 : x = (k : Int)) (hk : k + 1 < n) (w : World) (hW : NumW w) :
    Calls Tryz.prog 16 #[.float .f64 b] w fun e w' => e = .returned (.string (str ([] ++ (d.take (k + 1) ++ [46] ++ d.drop (k + 1))))) ∧ Below w.heap.size w w' := by
  have z1 := eq_zero b
  have z2 : decide (szB b = 0) = false := decide_eq_false (by omega)
  have z3 : decide (9218868437227405312 < szB b) = false := decide_eq_false (by omega)
  have z4 : decide (szB b = 9218868437227405312) = true := decide_eq_true hf
  have hD := refDigits_nz 9218868437227405311 (by omega) (by decide) (by decide) w hW
  rw [hd, hx] at hD
  have e1 : (⟨d.toArray⟩ : ByteArray) = str d := rfl
  rw [e1] at hD
  have hs := str_size d
  rw [hn] at hs
  subst h3
  have g1 : (k : Int) < (n : Int) - 1 := by omega
  have g2 : (k : Int) ≤ (n : Int) + 14 := by omega
  have g3 : (0 : Int) ≤ (k : Int) := by omega
  have g4 : (k : Int) + 1 ≤ (n : Int) := by omega
  go_enter Tryz.func16, Tryz.ntmps16
  go_wp2_with fail
  refine (IsNaN_any b w).mono ?_
  rintro e w0 ⟨rfl, rfl⟩
  go_wp2_with fail
  refine (Signbit_any b hb w).mono ?_
  rintro e w0 ⟨rfl, rfl⟩
  rw [hN]
  go_wp2_with fail
  refine (IsInf_any b hb w).mono ?_
  rintro e w0 ⟨rfl, rfl⟩
  go_wp2_with fail
  refine hD.mono ?_
  rintro e w1 ⟨rfl, hb1⟩
  clear hD
  go_wp2_with fail
  go_quiet (fail)
  go_wp2_with fail
  go_ret
  refine ⟨?_, hb1.trans ⟨rfl, rfl, rfl, Nat.le_refl _, fun _ _ => rfl⟩⟩
  simp only [lit0, lit46, str_app, str_take, str_drop d _ n hn, List.nil_append, List.append_assoc]
  rfl
set_option maxRecDepth 100000 in
set_option maxHeartbeats 2000000 in
theorem refText_C_p_inf (b : Nat) (hb : b < 18446744073709551616) (hf : szB b = 9218868437227405312) (hN : negB b = false) (d : List UInt8) (x : Int) (n : Nat) (hd : digF 9218868437227405311 = d) (hx : expF 9218868437227405311 = x) (hn : d.length = n) (hn0 : 1 ≤ n) (hn2 : n ≤ 20) (k : Nat) (h3 : -x - 1 = (k : Int)) (hk : k ≤ 1000) (h1 : -4 ≤ x) (_h2 : x < 0) (w : World) (hW : NumW w) :
    Calls Tryz.prog 16 #[.float .f64 b] w fun e w' => e = .returned (.string (str ([] ++ ([48, 46] ++ List.replicate k 48 ++ d)))) ∧ Below w.heap.size w w' := by
  have z1 := eq_zero b
  have z2 : decide (szB b = 0) = false := decide_eq_false (by omega)
  have z3 : decide (9218868437227405312 < szB b) = false := decide_eq_false (by omega)
  have z4 : decide (szB b = 9218868437227405312) = true := decide_eq_true hf
  have hD := refDigits_nz 9218868437227405311 (by omega) (by decide) (by decide) w hW
  rw [hd, hx] at hD
  have e1 : (⟨d.toArray⟩ : ByteArray) = str d := rfl
  rw [e1] at hD
  have hs := str_size d
  rw [hn] at hs
  have g1 : x < (n : Int) - 1 := by omega
  have g2 : x ≤ (n : Int) + 14 := by omega
  have hr : (str (List.replicate k 48)).size = k := by rw [str_size, List.length_replicate]
  go_enter Tryz.func16, Tryz.ntmps16
  go_wp2_with fail
  refine (IsNaN_any b w).mono ?_
  rintro e w0 ⟨rfl, rfl⟩
  go_wp2_with fail
  refine (Signbit_any b hb w).mono ?_
  rintro e w0 ⟨rfl, rfl⟩
  rw [hN]
  go_wp2_with fail
  refine (IsInf_any b hb w).mono ?_
  rintro e w0 ⟨rfl, rfl⟩
  go_wp2_with fail
  refine hD.mono ?_
  rintro e w1 ⟨rfl, hb1⟩
  clear hD
  go_wp2_with fail
  refine (zeros_any k hk w1).mono ?_
  rintro e w2 ⟨rfl, hb2⟩
  go_wp2_with fail
  go_ret
  refine ⟨?_, hb1.trans (hb2.mono hb1.size)⟩
  simp only [lit0, lit4846, str_app, List.nil_append, List.append_assoc]
  rfl
set_option maxRecDepth 100000 in
set_option maxHeartbeats 2000000 in
theorem refText_A_m_inf (b : Nat) (hb : b < 18446744073709551616) (hf : szB b = 9218868437227405312) (hN : negB b = true) (d : List UInt8) (x : Int) (n : Nat) (hd : digF 9218868437227405311 = d) (hx : expF 9218868437227405311 = x) (hn : d.length = n) (hn0 : 1 ≤ n) (hn2 : n ≤ 20) (k : Nat) (h3 : x - (n : Int) + 1 = (k : Int)) (hk : k ≤ 1000) (h1 : -4 ≤ x) (h2 : x ≤ (n : Int) + 14) (w : World) (hW : NumW w) :
    Calls Tryz.prog 16 #[.float .f64 b] w fun e w' => e = .returned (.string (str ([45] ++ (d ++ List.replicate k 48)))) ∧ Below w.heap.size w w' := by
  have z1 := eq_zero b
  have z2 : decide (szB b = 0) = false := decide_eq_false (by omega)
  have z3 : decide (9218868437227405312 < szB b) = false := decide_eq_false (by omega)
  have z4 : decide (szB b = 9218868437227405312) = true := decide_eq_true hf
  have hD := refDigits_nz 9218868437227405311 (by omega) (by decide) (by decide) w hW
  rw [hd, hx] at hD
  have e1 : (⟨d.toArray⟩ : ByteArray) = str d := rfl
  rw [e1] at hD
  have hs := str_size d
  rw [hn] at hs
  have g1 : (n : Int) - 1 ≤ x := by omega
  have hr : (str (List.replicate k 48)).size = k := by rw [str_size, List.length_replicate]
  go_enter Tryz.func16, Tryz.ntmps16
  go_wp2_with fail
  refine (IsNaN_any b w).mono ?_
  rintro e w0 ⟨rfl, rfl⟩
  go_wp2_with fail
  refine (Signbit_any b hb w).mono ?_
  rintro e w0 ⟨rfl, rfl⟩
  rw [hN]
  go_wp2_with fail
  refine (IsInf_any b hb w).mono ?_
  rintro e w0 ⟨rfl, rfl⟩
  go_wp2_with fail
  refine hD.mono ?_
  rintro e w1 ⟨rfl, hb1⟩
  clear hD
  go_wp2_with fail
  refine (zeros_any k hk w1).mono ?_
  rintro e w2 ⟨rfl, hb2⟩
  go_wp2_with fail
  go_ret
  refine ⟨?_, hb1.trans (hb2.mono hb1.size)⟩
  simp only [lit45, str_app, List.append_assoc]
  rfl
set_option maxRecDepth 100000 in
set_option maxHeartbeats 2000000 in
theorem refText_B_m_inf (b : Nat) (hb : b < 18446744073709551616) (hf : szB b = 9218868437227405312) (hN : negB b = true) (d : List UInt8) (x : Int) (n : Nat) (hd : digF 9218868437227405311 = d) (hx : expF 9218868437227405311 = x) (hn : d.length = n) (hn0 : 1 ≤ n) (hn2 : n ≤ 20) (k : Nat) (h3 : x = (k : Int)) (hk : k + 1 < n) (w : World) (hW : NumW w) :
    Calls Tryz.prog 16 #[.float .f64 b] w fun e w' => e = .returned (.string (str ([45] ++ (d.take (k + 1) ++ [46] ++ d.drop (k + 1))))) ∧ Below w.heap.size w w' := by
  have z1 := eq_zero b
  have z2 : decide (szB b = 0) = false := decide_eq_false (by omega)
  have z3 : decide (9218868437227405312 < szB b) = false := decide_eq_false (by omega)
  have z4 : decide (szB b = 9218868437227405312) = true := decide_eq_true hf
  have hD := refDigits_nz 9218868437227405311 (by omega) (by decide) (by decide) w hW
  rw [hd, hx] at hD
  have e1 : (⟨d.toArray⟩ : ByteArray) = str d := rfl
  rw [e1] at hD
  have hs := str_size d
  rw [hn] at hs
  subst h3
  have g1 : (k : Int) < (n : Int) - 1 := by omega
  have g2 : (k : Int) ≤ (n : Int) + 14 := by omega
  have g3 : (0 : Int) ≤ (k : Int) := by omega
  have g4 : (k : Int) + 1 ≤ (n : Int) := by omega
  go_enter Tryz.func16, Tryz.ntmps16
  go_wp2_with fail
  refine (IsNaN_any b w).mono ?_
  rintro e w0 ⟨rfl, rfl⟩
  go_wp2_with fail
  refine (Signbit_any b hb w).mono ?_
  rintro e w0 ⟨rfl, rfl⟩
  rw [hN]
  go_wp2_with fail
  refine (IsInf_any b hb w).mono ?_
  rintro e w0 ⟨rfl, rfl⟩
  go_wp2_with fail
  refine hD.mono ?_
  rintro e w1 ⟨rfl, hb1⟩
  clear hD
  go_wp2_with fail
  go_quiet (fail)
  go_wp2_with fail
  go_ret
  refine ⟨?_, hb1.trans ⟨rfl, rfl, rfl, Nat.le_refl _, fun _ _ => rfl⟩⟩
  simp only [lit45, lit46, str_app, str_take, str_drop d _ n hn, List.append_assoc]
  rfl
set_option maxRecDepth 100000 in
set_option maxHeartbeats 2000000 in
theorem refText_C_m_inf (b : Nat) (hb : b < 18446744073709551616) (hf : szB b = 9218868437227405312) (hN : negB b = true) (d : List UInt8) (x : Int) (n : Nat) (hd : digF 9218868437227405311 = d) (hx : expF 9218868437227405311 = x) (hn : d.length = n) (hn0 : 1 ≤ n) (hn2 : n ≤ 20) (k : Nat) (h3 : -x - 1 = (k : Int)) (hk : k ≤ 1000) (h1 : -4 ≤ x) (_h2 : x < 0) (w : World) (hW : NumW w) :
    Calls Tryz.prog 16 #[.float .f64 b] w fun e w' => e = .returned (.string (str ([45] ++ ([48, 46] ++ List.replicate k 48 ++ d)))) ∧ Below w.heap.size w w' := by
  have z1 := eq_zero b
  have z2 : decide (szB b = 0) = false := decide_eq_false (by omega)
  have z3 : decide (9218868437227405312 < szB b) = false := decide_eq_false (by omega)
  have z4 : decide (szB b = 9218868437227405312) = true := decide_eq_true hf
  have hD := refDigits_nz 9218868437227405311 (by omega) (by decide) (by decide) w hW
  rw [hd, hx] at hD
  have e1 : (⟨d.toArray⟩ : ByteArray) = str d := rfl
  rw [e1] at hD
  have hs := str_size d
  rw [hn] at hs
  have g1 : x < (n : Int) - 1 := by omega
  have g2 : x ≤ (n : Int) + 14 := by omega
  have hr : (str (List.replicate k 48)).size = k := by rw [str_size, List.length_replicate]
  go_enter Tryz.func16, Tryz.ntmps16
  go_wp2_with fail
  refine (IsNaN_any b w).mono ?_
  rintro e w0 ⟨rfl, rfl⟩
  go_wp2_with fail
  refine (Signbit_any b hb w).mono ?_
  rintro e w0 ⟨rfl, rfl⟩
  rw [hN]
  go_wp2_with fail
  refine (IsInf_any b hb w).mono ?_
  rintro e w0 ⟨rfl, rfl⟩
  go_wp2_with fail
  refine hD.mono ?_
  rintro e w1 ⟨rfl, hb1⟩
  clear hD
  go_wp2_with fail
  refine (zeros_any k hk w1).mono ?_
  rintro e w2 ⟨rfl, hb2⟩
  go_wp2_with fail
  go_ret
  refine ⟨?_, hb1.trans (hb2.mono hb1.size)⟩
  simp only [lit45, lit4846, str_app, List.append_assoc]
  rfl
end Go.Proofs.YtamgdmmijlbjjaaGreatDoor
