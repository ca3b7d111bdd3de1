/- A number's text for ParseFloat, at the two numbers of the heads. -/
import Derived.Test.YtamgdmmijlbjjaaGreatDoorNRead
import Derived.Deep.RegionHeld3
import Derived.Lib.AppendIntMem
namespace Go.Proofs.YtamgdmmijlbjjaaGreatDoor
open Go Go.RowKit

set_option maxRecDepth 100000 in
set_option maxHeartbeats 2000000 in
theorem text_750 (w : World) :
    Calls Tryz.prog 124 #[.agg #[.string ⟨#[43]⟩, .string ⟨#[55, 53, 48]⟩, .int .i64 1]] w fun e w' => e = .returned (.string ⟨#[43, 48, 46, 55, 53, 48, 101, 49]⟩) ∧ Below w.heap.size w w' := by
  have f1 := fun W => Tryz.strconv_FormatInt_10_small 1 (by decide) W
  have e1 : (⟨(Lib.decDigits 1).toArray⟩ : ByteArray) = ⟨#[49]⟩ := by kernel_rfl
  rw [e1] at f1
  go_enter Tryz.func124, Tryz.ntmps124
  go_wp2_with fail
  go_quiet ((go_at_call 181; exact Calls.quiet_of_same (f1 _)))
  go_wp2_with fail
  go_ret
  exact ⟨by kernel_rfl, below_drewN' ((Below.refl w.heap.size w).alloc (Nat.le_refl _) _) _⟩
theorem below_trans1 {w w1 W : World} (h : Below w.heap.size w w1) (h2 : Below w1.heap.size w1 W) : Below w.heap.size w W := h.trans (h2.mono h.size)
set_option maxRecDepth 100000 in
set_option maxHeartbeats 2000000 in
theorem text_1000 (w : World) (ht : ∀ W, Below w.heap.size w W → Lib.TabIs Tryz.prog W "internal/strconv.uint64pow10" .u64 Lib.pow10Tab) :
    Calls Tryz.prog 124 #[.agg #[.string ⟨#[]⟩, .string ⟨#[49]⟩, .int .i64 1001]] w fun e w' => e = .returned (.string ⟨#[48, 46, 49, 101, 49, 48, 48, 48]⟩) ∧ Below w.heap.size w w' := by
  have f2 : ∀ W, Below w.heap.size w W → Calls Tryz.prog 181 #[.int .i64 1000, .int .i64 10] W fun e w' => e = .returned (.string ⟨#[49, 48, 48, 48]⟩) ∧ Below W.heap.size W w' := by
    intro W hW
    have e1 : (⟨(Lib.itoa 1000).toArray⟩ : ByteArray) = ⟨#[49, 48, 48, 48]⟩ := by kernel_rfl
    have f0 := Tryz.strconv_FormatInt_10 1000 (by decide) (by decide) W (ht W hW)
    rw [e1] at f0
    refine f0.mono ?_
    rintro e w' ⟨rfl, k, os, rfl⟩
    exact ⟨rfl, Lib.below_grow W.heap.size W (Nat.le_refl _) k os⟩
  have hmx : (max (-1000) (min 1001 1000) : Int) = 1000 := by decide
  have HB0 : Below w.heap.size w (w.alloc (Obj.cells #[Value.string { data := #[] }, Value.string { data := #[49] }, Value.int IntKind.i64 1001] 116)) := (Below.refl _ _).alloc (Nat.le_refl _) _
  go_enter Tryz.func124, Tryz.ntmps124
  go_wp2_with fail
  clear hmx
  go_region_held3 (fun W => Below w.heap.size w W ∧ W.cell? ⟨w.heap.size, 0, none⟩ = some (.string ⟨#[]⟩) ∧ W.cell? ⟨w.heap.size, 1, none⟩ = some (.string ⟨#[49]⟩) ∧ w.heap.size < W.heap.size)
    (first
      | exact ⟨HB0.drew, by simp, by simp, by simp⟩
      | exact ⟨below_drewN' HB0 1, by simp, by simp, by simp⟩
      | go_keep
      | (go_split_ands
         refine ⟨?_, ?_, ?_, ?_⟩
         · exact Below.drew (by assumption)
         · (simp; assumption)
         · (simp; assumption)
         · (simp; assumption))
      | (go_split_ands
         refine ⟨below_trans1 (by assumption) hb1, ?_, ?_, ?_⟩
         · (rw [hb1.cell (by assumption)]; assumption)
         · (rw [hb1.cell (by assumption)]; assumption)
         · exact Nat.lt_of_lt_of_le (by assumption) hb1.size))
    ((go_at_call 181; refine (f2 _ ?_).mono ?_; (first | assumption | exact (by assumption : _ ∧ _).1); rintro e w1 ⟨rfl, hb1⟩))
  all_goals go_wp2_with fail
  all_goals go_ret
  all_goals exact ⟨by kernel_rfl, below_trans1 HB0.drew hb1⟩
end Go.Proofs.YtamgdmmijlbjjaaGreatDoor
