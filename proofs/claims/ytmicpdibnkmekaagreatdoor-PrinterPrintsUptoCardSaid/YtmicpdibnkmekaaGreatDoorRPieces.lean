/- PrinterPieces: its walk. -/
import Derived.Test.YtmicpdibnkmekaaGreatDoorRHeadsW
import Derived.Test.YtmicpdibnkmekaaGreatDoorRPlain
import Derived.Test.YtmicpdibnkmekaaGreatDoorQRightR
import Derived.Deep.RegionHeld3
namespace Go.Proofs.YtmicpdibnkmekaaGreatDoor
open Go Go.RowKit

set_option maxHeartbeats 1000000 in
theorem refRightT_any (m : Nat) (v : V) (lv kv : Value) (w : World) (h : At w w.heap.size m v lv kv) :
    Calls Tryz.prog 5 #[.agg (cellsV v lv kv)] w fun e w' => e = .returned (.bool (rightV 10000 v)) ∧ Below w.heap.size w w' := by
  have hsf := run_store_float Tryz.prog
  obtain ⟨i0, hi0, hz0, hz1, hz2⟩ := info_parts infoVal
  have hr := fun o => refRight_any3 m v lv kv 10000 (w.alloc o) (Nat.le_refl _) (At.more (by simp) _ _ _ _ (h.below ((Below.refl w.heap.size w).alloc (Nat.le_refl _) o)))
  obtain ⟨a1, n1, k1, a2, n2, k2, rfl, rfl⟩ := h.slices
  unfold cellsV at hr ⊢
  have HR := Lib.hid hr
  clear hr h
  go_enter Tryz.func5, Tryz.ntmps5
  go_wp2_with fail
  refine (HR.out _).mono ?_
  rintro e w1 ⟨rfl, hb1⟩
  go_wp2_with fail
  go_ret
  exact ⟨rfl, ((Below.refl w.heap.size w).alloc (Nat.le_refl _) _).trans (hb1.mono (by simp))⟩
set_option maxRecDepth 100000 in
set_option maxHeartbeats 1000000 in
theorem refColour_any (k : Int) (h0 : 0 ≤ k) (h6 : k ≤ 6) (x1 x2 x3 x4 : Value) (w : World) : Calls Tryz.prog 85 #[.agg #[.int .i64 k, x1, x2, x3, x4]] w fun e w' => e = .returned (.string (colT k)) ∧ Below w.heap.size w w' := by
  have hk : k = 0 ∨ k = 1 ∨ k = 2 ∨ k = 3 ∨ k = 4 ∨ k = 5 ∨ k = 6 := by omega
  clear h0 h6
  rcases hk with rfl | rfl | rfl | rfl | rfl | rfl | rfl
  all_goals
    go_enter Tryz.func85, Tryz.ntmps85
    go_wp2_with fail
    go_ret
    first | exact ⟨rfl, Below.refl _ _⟩ | exact ⟨rfl, (Below.refl _ _).alloc (Nat.le_refl _) _⟩
theorem kind_of {d : Nat} {v : V} (h : rightV d v = true) : 0 ≤ v.k ∧ v.k ≤ 6 := by
  cases d with
  | zero => cases h
  | succ d =>
    have h : (headOK v && v.l.all (fun x => rightV d x)) = true := h
    rw [Bool.and_eq_true, headOK_iff] at h
    exact h.1.1
end Go.Proofs.YtmicpdibnkmekaaGreatDoor
