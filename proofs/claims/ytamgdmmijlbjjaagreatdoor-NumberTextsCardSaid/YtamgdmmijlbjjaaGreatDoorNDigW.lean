/- The digits of a double: the program's walk. -/
import Derived.Test.YtamgdmmijlbjjaaGreatDoorNText
import Derived.Test.YtamgdmmijlbjjaaGreatDoorShelf
namespace Go.Proofs.YtamgdmmijlbjjaaGreatDoor
open Go Go.RowKit

structure NumW (w : World) : Prop where
  tabs : NumTabs w
  max : ∃ m, w.cell? ⟨2, 0, none⟩ = some (.int .i64 m)
theorem NumW.below {w w' : World} (h : NumW w) (hb : Below w.heap.size w w') : NumW w' := by
  refine ⟨h.tabs.below hb, ?_⟩
  obtain ⟨m, hm⟩ := h.max
  exact ⟨m, by rw [hb.cell (p := ⟨2, 0, none⟩) (by have := h.tabs.size; show 2 < _; omega)]; exact hm⟩
/-- The digits of a double, and its exponent. -/
def digF (b : Nat) : List UInt8 := if zeroB (szB b) then [48] else digB (szB b)
def expF (b : Nat) : Int := if zeroB (szB b) then 0 else dpB (szB b) - 1
def preF (b : Nat) : List UInt8 := (digF b).take 1 ++ (if (digF b).length ≤ 1 then [] else 46 :: (digF b).drop 1)
def postF (b : Nat) : List UInt8 := (if expF b < 0 then [45] else [43]) ++ expD (expF b).natAbs
theorem sz_twice (b : Nat) : szB (szB b) = szB b := by unfold szB; omega
theorem dec_all (ex mt : Nat) (h : ¬ (ex = 0 ∧ mt = 0)) (hx : ex ≤ 2046) (hm : mt < 4503599627370496) : 1 ≤ (decOf ex mt).1 ∧ (decOf ex mt).1 < 18446744073709551616 ∧ -360 ≤ (decOf ex mt).2 ∧ (decOf ex mt).2 ≤ 360 := by
  by_cases he : ex = 0
  · subst he
    exact (dec_sub mt (by omega) hm).1
  · exact (dec_normal ex mt (by omega) hx hm).1
theorem parts_of (b : Nat) (h : szB b < 9218868437227405312) : eOf (szB b) = preF b ++ 101 :: postF b ∧ 1 ≤ (digF b).length ∧ (digF b).length ≤ 20 ∧ (∀ c ∈ digF b, 48 ≤ c.toNat ∧ c.toNat ≤ 57) ∧ (digF b = [48] ∨ ∃ p c, digF b = p ++ [c] ∧ c ≠ 48) ∧ -400 ≤ expF b ∧ expF b ≤ 400 := by
  have hlt : szB b < 9223372036854775808 := Nat.mod_lt _ (by omega)
  have hn : negB (szB b) = false := by unfold negB; rw [decide_eq_false_iff_not]; omega
  by_cases hz : zeroB (szB b)
  · have e1 : digF b = [48] := by unfold digF; rw [if_pos hz]
    have e2 : expF b = 0 := by unfold expF; rw [if_pos hz]
    refine ⟨?_, by rw [e1]; decide, by rw [e1]; decide, by rw [e1]; decide, .inl e1, by omega, by omega⟩
    unfold eOf preF postF
    rw [if_pos hz, hn, e1, e2]
    decide
  · have e1 : digF b = digB (szB b) := by unfold digF; rw [if_neg hz]
    have e2 : expF b = dpB (szB b) - 1 := by unfold expF; rw [if_neg hz]
    have hx : exB (szB b) ≤ 2046 := by unfold exB; omega
    have hm : mtB (szB b) < 4503599627370496 := Nat.mod_lt _ (by omega)
    obtain ⟨d1, d2, d3, d4⟩ := dec_all _ _ hz hx hm
    have s1 := strip_pos _ d1
    have s2 := strip_le (Lib.decDigits (decOf (exB (szB b)) (mtB (szB b))).1)
    have s3 := nine_digits _ d2
    rw [Lib.decDigits_length] at s2
    have hlen : (digB (szB b)).length = stripN (Lib.decDigits (decOf (exB (szB b)) (mtB (szB b))).1) := by
      unfold digB
      rw [List.length_take, Lib.decDigits_length]
      omega
    refine ⟨?_, by rw [e1]; omega, by rw [e1]; omega, ?_, ?_, ?_, ?_⟩
    · unfold eOf preF postF
      rw [if_neg hz, hn, e1, e2]
      unfold eText
      simp only [Bool.false_eq_true, if_false, List.nil_append, List.append_assoc, List.cons_append]
    · rw [e1]
      intro c hc
      exact dec_digit _ c (List.mem_of_mem_take hc)
    · rw [e1]
      exact .inr (strip_last _ s1)
    · rw [e2]; unfold dpB; omega
    · rw [e2]; unfold dpB; omega
theorem contains_low {l : List UInt8} (h : ∀ c ∈ l, 48 ≤ c.toNat ∧ c.toNat ≤ 57) (x : UInt8) (hx : x.toNat < 48 ∨ 57 < x.toNat) : x ∉ l := by
  intro hm
  have := h x hm
  omega
theorem pre_no (b : Nat) (h : szB b < 9218868437227405312) : (101 : UInt8) ∉ preF b := by
  obtain ⟨_, _, _, hd, _⟩ := parts_of b h
  have h101 := contains_low hd 101 (.inr (by decide))
  unfold preF
  intro hm
  rcases List.mem_append.1 hm with hm | hm
  · exact h101 (List.mem_of_mem_take hm)
  · split at hm
    · cases hm
    · rcases List.mem_cons.1 hm with e | hm
      · exact absurd e (by decide)
      · exact h101 (List.mem_of_mem_drop hm)
theorem pre_len (b : Nat) (h : szB b < 9218868437227405312) : (preF b).length ≤ 30 ∧ (postF b).length ≤ 4 := by
  obtain ⟨_, h1, h2, hd, _, x1, x2⟩ := parts_of b h
  refine ⟨?_, (exp_reads _ x1 x2).2⟩
  unfold preF
  rw [List.length_append, List.length_take]
  split
  · simp; omega
  · rw [List.length_cons, List.length_drop]; omega

set_option maxRecDepth 100000 in
set_option maxHeartbeats 1000000 in
theorem Digits_fin (b : Nat) (hb : b < 18446744073709551616) (hf : szB b < 9218868437227405312) (w : World) (hW : NumW w) :
    Calls Tryz.prog 13 #[.float .f64 b] w fun e w' => e = .returned (.tuple #[.string ⟨(digF b).toArray⟩, .int .i64 (expF b)]) ∧ Below w.heap.size w w' := by
  obtain ⟨p1, p2, p3, p4, _, p6, p7⟩ := parts_of b hf
  have hno := pre_no b hf
  obtain ⟨l1, l2⟩ := pre_len b hf
  obtain ⟨c1, c2⟩ := cut_one (preF b) (postF b) 101 hno
  have hat := (exp_reads _ p6 p7).1
  have hout := point_out (digF b) p2 (contains_low p4 46 (.inl (by decide)))
  have hlt : szB b < 9223372036854775808 := Nat.mod_lt _ (by omega)
  have hx : exB (szB b) ≤ 2046 := by unfold exB; omega
  have hd : decide (szB b < 9218868437227405312) = true := decide_eq_true hf
  have hAbs := Abs_any b
  rw [absB_is b hb] at hAbs
  go_enter Tryz.func13, Tryz.ntmps13
  go_wp2_with fail
  refine (isFinite_any b hb w).mono ?_
  rintro e w0 ⟨rfl, rfl⟩
  go_wp2_with fail
  refine (hAbs w).mono ?_
  rintro e w0 ⟨rfl, rfl⟩
  go_wp2_with fail
  refine (form_e (szB b) (by omega) hx w hW.tabs).mono ?_
  rintro e w1 ⟨rfl, hb1⟩
  have hW1 := hW.below hb1
  obtain ⟨m, hm⟩ := hW1.max
  rw [p1]
  go_wp2_with fail
  have hcut := Tryz.strings_Cut ⟨(preF b ++ 101 :: postF b).toArray⟩ ⟨#[101]⟩ m w1 (by simp [ByteArray.size]; omega) hm
  have hc2 : Lib.cut (⟨(preF b ++ 101 :: postF b).toArray⟩ : ByteArray).data.toList (⟨#[101]⟩ : ByteArray).data.toList = (preF b, postF b, true) := by exact c2
  rw [hc2] at hcut
  refine hcut.mono ?_
  rintro e w2 ⟨rfl, n2, rfl⟩
  have hb2 : Below w.heap.size w (w1.drewN n2) := hb1.trans ⟨rfl, rfl, rfl, Nat.le_refl _, fun _ _ => rfl⟩
  go_wp2_with fail
  refine (Tryz.strconv_Atoi ⟨(postF b).toArray⟩ (expF b) (by simp [ByteArray.size]; omega) (by exact hat) _).mono ?_
  rintro e w3 ⟨rfl, t3, rfl⟩
  have hb3 : Below w.heap.size w (Lib.bytesWorld (w1.drewN n2) 5 t3) := hb2.trans ((Lib.bytesWorld_below _ _ _).mono hb2.size)
  obtain ⟨m3, hm3⟩ := (hW.below hb3).max
  go_wp2_with fail
  have hrep := Tryz.strings_Replace ⟨(preF b).toArray⟩ ⟨#[46]⟩ ⟨#[]⟩ 1 m3 _ (by simp [ByteArray.size]; omega) hm3 (by decide) (by simp [ByteArray.size]; omega)
  have hr2 : Lib.replace (⟨(preF b).toArray⟩ : ByteArray).data.toList (⟨#[46]⟩ : ByteArray).data.toList (⟨#[]⟩ : ByteArray).data.toList 1 = digF b := by exact hout
  rw [hr2] at hrep
  refine hrep.mono ?_
  rintro e w4 ⟨rfl, hb4⟩
  go_wp2_with fail
  go_ret2
  exact ⟨rfl, hb3.trans (hb4.mono hb3.size)⟩
/-- .. of any double: of what is not finite, a nought. -/
def digA (b : Nat) : List UInt8 := if szB b < 9218868437227405312 then digF b else [48]
def expA (b : Nat) : Int := if szB b < 9218868437227405312 then expF b else 0
theorem Digits_any (b : Nat) (hb : b < 18446744073709551616) (w : World) (hW : NumW w) :
    Calls Tryz.prog 13 #[.float .f64 b] w fun e w' => e = .returned (.tuple #[.string ⟨(digA b).toArray⟩, .int .i64 (expA b)]) ∧ Below w.heap.size w w' := by
  unfold digA expA
  by_cases hf : szB b < 9218868437227405312
  · rw [if_pos hf, if_pos hf]
    exact Digits_fin b hb hf w hW
  · rw [if_neg hf, if_neg hf]
    have hd : decide (szB b < 9218868437227405312) = false := decide_eq_false hf
    go_enter Tryz.func13, Tryz.ntmps13
    go_wp2_with fail
    refine (isFinite_any b hb w).mono ?_
    rintro e w0 ⟨rfl, rfl⟩
    go_wp2_with fail
    go_ret2
    exact ⟨rfl, Below.refl _ _⟩
end Go.Proofs.YtamgdmmijlbjjaaGreatDoor
