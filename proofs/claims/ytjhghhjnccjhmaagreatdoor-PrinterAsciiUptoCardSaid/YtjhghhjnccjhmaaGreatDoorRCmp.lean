/- Comparing two texts. -/
import Derived.Test.YtjhghhjnccjhmaaGreatDoorQKeys
import Derived.Test.YtjhghhjnccjhmaaGreatDoorROrd
namespace Go.Proofs.YtjhghhjnccjhmaaGreatDoor
open Go Go.RowKit

/-- The order of two texts, as a number. -/
def cmpK (a b : ByteArray) : Int := if leK b a = false then -1 else if leK a b = false then 1 else 0
theorem less_leK (a b : ByteArray) : Op.bytesLess a.toList b.toList = !leK b a := by
  rw [bytesLess_is, Lib.toList_data, Lib.toList_data]
  show decide (a.data.toList < b.data.toList) = !decide _
  rw [← decide_not]
  congr 1
  simp
set_option maxHeartbeats 400000 in
theorem cmpNaN_any (x : ByteArray) (w : World) : Calls Tryz.prog 97 #[.string x] w fun e w' => e = .returned (.bool false) ∧ w' = w := by
  go_enter Tryz.func97, Tryz.ntmps97
  go_wp2_with fail
  go_ret
  exact ⟨by simp, rfl⟩
set_option maxHeartbeats 400000 in
theorem cmpStr_any (x y : ByteArray) (w : World) : Calls Tryz.prog 71 #[.string x, .string y] w fun e w' => e = .returned (.int .i64 (cmpK x y)) ∧ w' = w := by
  have h1 := fun z W => cmpNaN_any z W
  have hxy := less_leK x y
  have hyx := less_leK y x
  have H1 := Lib.hid h1
  clear h1
  cases ha : leK y x with
  | false =>
    have hc : cmpK x y = -1 := by unfold cmpK; rw [if_pos ha]
    rw [ha, Bool.not_false] at hxy
    rw [hc]
    clear hyx ha hc
    go_enter Tryz.func71, Tryz.ntmps71
    go_wp2_with fail
    refine (H1.out x w).mono ?_
    rintro e w1 ⟨rfl, rfl⟩
    go_wp2_with fail
    refine (H1.out y _).mono ?_
    rintro e w2 ⟨rfl, rfl⟩
    go_wp2_with fail
    go_ret
    exact ⟨rfl, rfl⟩
  | true =>
    rw [ha, Bool.not_true] at hxy
    cases hb : leK x y with
    | false =>
      have hc : cmpK x y = 1 := by unfold cmpK; rw [if_neg (by rw [ha]; decide), if_pos hb]
      have hne : (x.toList == y.toList) = false := by
        rw [beq_eq_false_iff_ne]
        intro e
        rw [ByteArray.toList_eq, ByteArray.toList_eq] at e
        have e2 : x = y := toList_inj e
        rw [e2] at ha hb
        rw [ha] at hb
        cases hb
      rw [hc]
      clear ha hb hc hyx
      go_enter Tryz.func71, Tryz.ntmps71
      go_wp2_with fail
      refine (H1.out x w).mono ?_
      rintro e w1 ⟨rfl, rfl⟩
      go_wp2_with fail
      refine (H1.out y _).mono ?_
      rintro e w2 ⟨rfl, rfl⟩
      go_wp2_with fail
      go_ret
      exact ⟨rfl, rfl⟩
    | true =>
      have hc : cmpK x y = 0 := by unfold cmpK; rw [if_neg (by rw [ha]; decide), if_neg (by rw [hb]; decide)]
      have heq : (x.toList == y.toList) = true := by rw [leK_anti x y hb ha]; simp
      rw [hc]
      clear ha hb hc hyx
      go_enter Tryz.func71, Tryz.ntmps71
      go_wp2_with fail
      refine (H1.out x w).mono ?_
      rintro e w1 ⟨rfl, rfl⟩
      go_wp2_with fail
      refine (H1.out y _).mono ?_
      rintro e w2 ⟨rfl, rfl⟩
      go_wp2_with fail
      go_ret
      exact ⟨rfl, rfl⟩
end Go.Proofs.YtjhghhjnccjhmaaGreatDoor
