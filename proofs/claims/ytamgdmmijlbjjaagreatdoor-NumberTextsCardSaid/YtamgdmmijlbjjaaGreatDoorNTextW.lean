/- The text of a double: the program's walk. -/
import Derived.Test.YtamgdmmijlbjjaaGreatDoorNDigW
namespace Go.Proofs.YtamgdmmijlbjjaaGreatDoor
open Go Go.RowKit

def minB (b : Nat) : Nat := if sv b < 9218868437227405311 then b else 9218868437227405311
def clampB (b : Nat) : Nat := if -9218868437227405311 < sv (minB b) then minB b else if sv (minB b) = -9218868437227405311 then minB b else 18442240474082181119
theorem run_min_float {P : Program} {w : World} (ts : Array TypeId) (t : TypeId) (b : Nat) (hb : b < 18446744073709551616) (h : szB b ≤ 9218868437227405312) : (Builtin.min_ ts t #[.float .f64 b, .float .f64 9218868437227405311]).run P w = .ok (.float .f64 (minB b)) w := by
  have e := ordF_is b 9218868437227405311 h (by decide)
  have s1 : sv 9218868437227405311 = 9218868437227405311 := by decide
  rw [s1] at e
  unfold minB
  rcases Int.lt_trichotomy (sv b) 9218868437227405311 with h1 | h1 | h1
  · rw [Int.compare_eq_lt.2 h1] at e
    rw [if_pos h1]
    simp [Builtin.min_, Builtin.min2, e]
  · rw [Int.compare_eq_eq.2 h1] at e
    rw [if_neg (by omega)]
    have hb2 : b = 9218868437227405311 := by
      unfold sv szB at h1
      split at h1 <;> omega
    subst hb2
    simp [Builtin.min_, Builtin.min2, e]
  · rw [Int.compare_eq_gt.2 h1] at e
    rw [if_neg (by omega)]
    simp [Builtin.min_, Builtin.min2, e]
theorem run_max_float {P : Program} {w : World} (ts : Array TypeId) (t : TypeId) (b : Nat) (_hb : b < 18446744073709551616) (h : szB b ≤ 9218868437227405312) : (Builtin.max_ ts t #[.float .f64 18442240474082181119, .float .f64 b]).run P w = .ok (.float .f64 (if -9218868437227405311 < sv b then b else if sv b = -9218868437227405311 then b else 18442240474082181119)) w := by
  have e := ordF_is 18442240474082181119 b (by decide) h
  have s1 : sv 18442240474082181119 = -9218868437227405311 := by decide
  rw [s1] at e
  rcases Int.lt_trichotomy (-9218868437227405311) (sv b) with h1 | h1 | h1
  · rw [Int.compare_eq_lt.2 h1] at e
    rw [if_pos h1]
    simp [Builtin.max_, Builtin.max2, e]
  · rw [Int.compare_eq_eq.2 h1] at e
    rw [if_neg (by omega), if_pos h1.symm]
    have hn : (FloatKind.f64.decode 18442240474082181119).neg = true := by decide +kernel
    simp [Builtin.max_, Builtin.max2, e, hn]
  · rw [Int.compare_eq_gt.2 h1] at e
    rw [if_neg (by omega), if_neg (by omega)]
    simp [Builtin.max_, Builtin.max2, e]
theorem min_in (b : Nat) (hb : b < 18446744073709551616) (h : szB b ≤ 9218868437227405312) : minB b < 18446744073709551616 ∧ szB (minB b) ≤ 9218868437227405312 := by
  unfold minB
  split
  · exact ⟨hb, h⟩
  · exact ⟨by omega, by decide⟩
theorem clamp_in (b : Nat) (hb : b < 18446744073709551616) (h : szB b ≤ 9218868437227405312) : clampB b < 18446744073709551616 ∧ szB (clampB b) < 9218868437227405312 := by
  have hm := min_in b hb h
  have hs : sv (minB b) ≤ 9218868437227405311 := by
    unfold minB
    split
    · omega
    · decide
  unfold clampB
  split
  · refine ⟨hm.1, ?_⟩
    rename_i h1
    unfold sv at h1 hs
    split at h1 <;> split at hs <;> omega
  · split
    · refine ⟨hm.1, ?_⟩
      rename_i h1
      unfold sv at h1
      split at h1 <;> omega
    · exact ⟨by omega, by decide⟩
def longB (b : Nat) : Bool := decide (-4 ≤ expF b) && decide (expF b ≤ ((digF b).length : Int) + 14)
def textB (b : Nat) : List UInt8 := if 9218868437227405312 < szB b then [110, 117, 108, 108] else if longB (clampB b) then fOf (clampB b) else eOf (clampB b)

set_option maxRecDepth 100000 in
set_option maxHeartbeats 1000000 in
theorem Text_any (b : Nat) (hb : b < 18446744073709551616) (w : World) (hW : NumW w) :
    Calls Tryz.prog 15 #[.float .f64 b] w fun e w' => e = .returned (.string ⟨(textB b).toArray⟩) ∧ Below w.heap.size w w' := by
  by_cases hn : 9218868437227405312 < szB b
  · have hd : decide (szB b ≤ 9218868437227405312) = false := decide_eq_false (by omega)
    have ht : textB b = [110, 117, 108, 108] := by unfold textB; rw [if_pos hn]
    rw [ht]
    go_enter Tryz.func15, Tryz.ntmps15
    go_wp2_with fail
    refine (isNumber_any b hb w).mono ?_
    rintro e w0 ⟨rfl, rfl⟩
    go_wp2_with fail
    go_ret
    exact ⟨rfl, Below.refl _ _⟩
  · have hd : decide (szB b ≤ 9218868437227405312) = true := decide_eq_true (by omega)
    have hm1 := fun ts t => @run_min_float Tryz.prog w ts t b hb (by omega)
    have hmi := min_in b hb (by omega)
    have hm2 := fun ts t => @run_max_float Tryz.prog w ts t (minB b) hmi.1 hmi.2
    have hci := clamp_in b hb (by omega)
    have hcl : (if -9218868437227405311 < sv (minB b) then minB b else if sv (minB b) = -9218868437227405311 then minB b else 18442240474082181119) = clampB b := rfl
    rw [hcl] at hm2
    have ht : textB b = if longB (clampB b) then fOf (clampB b) else eOf (clampB b) := by unfold textB; rw [if_neg hn]
    rw [ht]
    obtain ⟨c, hc⟩ : ∃ c, clampB b = c := ⟨_, rfl⟩
    rw [hc] at hm2 hci ⊢
    clear hcl ht hc
    have hx : exB c ≤ 2046 := by
      have h2 := hci.2
      unfold szB at h2
      unfold exB; omega
    obtain ⟨_, _, p3, _, _, p6, p7⟩ := parts_of c hci.2
    have hsz : ((⟨(digF c).toArray⟩ : ByteArray).size : Int) = ((digF c).length : Int) := by simp [ByteArray.size]
    have hL : longB c = (decide (-4 ≤ expF c) && decide (expF c ≤ ((digF c).length : Int) + 14)) := rfl
    by_cases h1 : -4 ≤ expF c
    · have d1 : decide (-4 ≤ expF c) = true := decide_eq_true h1
      by_cases h2 : expF c ≤ ((digF c).length : Int) + 14
      · have d2 : decide (expF c ≤ ((digF c).length : Int) + 14) = true := decide_eq_true h2
        rw [hL, d1, d2, Bool.and_true, if_pos rfl]
        go_enter Tryz.func15, Tryz.ntmps15
        go_wp2_with fail
        refine (isNumber_any b hb w).mono ?_
        rintro e w0 ⟨rfl, rfl⟩
        go_wp2_with fail
        refine (Digits_fin c hci.1 hci.2 w hW).mono ?_
        rintro e w1 ⟨rfl, hb1⟩
        go_wp2_with fail
        refine (form_f c hci.1 hx w1 (hW.tabs.below hb1)).mono ?_
        rintro e w2 ⟨rfl, hb2⟩
        go_wp2_with fail
        go_ret
        exact ⟨rfl, hb1.trans (hb2.mono hb1.size)⟩
      · have d2 : decide (expF c ≤ ((digF c).length : Int) + 14) = false := decide_eq_false h2
        rw [hL, d1, d2, Bool.and_false, if_neg (by simp)]
        go_enter Tryz.func15, Tryz.ntmps15
        go_wp2_with fail
        refine (isNumber_any b hb w).mono ?_
        rintro e w0 ⟨rfl, rfl⟩
        go_wp2_with fail
        refine (Digits_fin c hci.1 hci.2 w hW).mono ?_
        rintro e w1 ⟨rfl, hb1⟩
        go_wp2_with fail
        refine (form_e c hci.1 hx w1 (hW.tabs.below hb1)).mono ?_
        rintro e w2 ⟨rfl, hb2⟩
        go_wp2_with fail
        go_ret
        exact ⟨rfl, hb1.trans (hb2.mono hb1.size)⟩
    · have d1 : decide (-4 ≤ expF c) = false := decide_eq_false h1
      rw [hL, d1, Bool.false_and, if_neg (by simp)]
      go_enter Tryz.func15, Tryz.ntmps15
      go_wp2_with fail
      refine (isNumber_any b hb w).mono ?_
      rintro e w0 ⟨rfl, rfl⟩
      go_wp2_with fail
      refine (Digits_fin c hci.1 hci.2 w hW).mono ?_
      rintro e w1 ⟨rfl, hb1⟩
      go_wp2_with fail
      refine (form_e c hci.1 hx w1 (hW.tabs.below hb1)).mono ?_
      rintro e w2 ⟨rfl, hb2⟩
      go_wp2_with fail
      go_ret
      exact ⟨rfl, hb1.trans (hb2.mono hb1.size)⟩
end Go.Proofs.YtamgdmmijlbjjaaGreatDoor
