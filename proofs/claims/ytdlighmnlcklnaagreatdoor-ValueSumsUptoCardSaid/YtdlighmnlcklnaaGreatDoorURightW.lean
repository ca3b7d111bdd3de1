/- ValueRight: its walk. -/
import Derived.Test.YtdlighmnlcklnaaGreatDoorUHeadsL
import Derived.Test.YtdlighmnlcklnaaGreatDoorULarge
namespace Go.Proofs.YtdlighmnlcklnaaGreatDoor
open Go Go.RowKit

set_option maxHeartbeats 1000000 in
theorem refRightT_any (m : Nat) (v : V) (lv kv : Value) (w : World) (h : At w w.heap.size m v lv kv) :
    Calls Tryz.prog 5 #[.agg (cellsV v lv kv)] w fun e w' => e = .returned (.bool (rightV 10000 v)) ∧ Below w.heap.size w w' := by
  have hsf := run_store_float Tryz.prog
  obtain ⟨i0, hi0, hz0, hz1, hz2⟩ := info_parts infoVal
  have hr := fun o => refRight_any3 m v lv kv 10000 (w.alloc o) (Nat.le_refl _) (At.more (by simp) _ _ _ _ (h.below ((Below.refl w.heap.size w).alloc (Nat.le_refl _) o)))
  obtain ⟨a1, n1, k1, a2, n2, k2, rfl, rfl⟩ := h.slices
  unfold cellsV at hr ⊢
  have HR := Lib.hid hr
  clear hr h
  go_enter Tryz.func5, Tryz.ntmps5
  go_wp2_with fail
  refine (HR.out _).mono ?_
  rintro e w1 ⟨rfl, hb1⟩
  go_wp2_with fail
  go_ret
  exact ⟨rfl, ((Below.refl w.heap.size w).alloc (Nat.le_refl _) _).trans (hb1.mono (by simp))⟩

end Go.Proofs.YtdlighmnlcklnaaGreatDoor
