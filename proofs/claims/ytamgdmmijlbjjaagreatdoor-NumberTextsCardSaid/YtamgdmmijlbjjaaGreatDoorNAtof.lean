/- ParseFloat at the two texts of the heads. -/
import Derived.Test.YtamgdmmijlbjjaaGreatDoorNRF
import Derived.Test.YtamgdmmijlbjjaaGreatDoorNSmall
import Derived.WalkLawsBesides
import Derived.Laws.Externs
namespace Go.Proofs.YtamgdmmijlbjjaaGreatDoor
open Go Go.RowKit

/-- What ParseFloat's tables hold, in memory. -/
structure AtofW (w : World) : Prop where
  opt : w.cell? ⟨3, 0, none⟩ = some (.bool true)
  info : w.cell? ⟨11, 0, none⟩ = some (.int .u64 52)
  pow : ∃ (b o len cap : Nat), w.cell? ⟨16, 0, none⟩ = some (.slice (some ⟨b, o, none⟩) len cap) ∧ 3 ≤ len ∧ len ≤ cap ∧ cap ≤ maxLen ∧ w.cell? ⟨b, o + 2, none⟩ = some (.float .f64 4636737291354636288)
set_option maxRecDepth 100000 in
set_option maxHeartbeats 2000000 in
theorem exact_750 (w : World) (hA : AtofW w) :
    Calls Tryz.prog 338 #[.int .u64 750, .int .i64 (-2), .bool false] w fun e w' => e = .returned (.tuple #[.float .f64 4620130267728707584, .bool true]) ∧ w = w' := by
  have ho := hA.opt
  have hi := hA.info
  obtain ⟨b, o, len, cap, hp, h1, h2, h3, h4⟩ := hA.pow
  unfold maxLen at h3
  have hc : ∀ W : World, (convert 22 23 (.int .u64 750)).run Tryz.prog W = .ok (.float .f64 4649808285585637376) W := fun _ => by kernel_rfl
  have hq : ∀ W : World, (binOp .quo 23 (.float .f64 4649808285585637376) (.float .f64 4636737291354636288)).run Tryz.prog W = .ok (.float .f64 4620130267728707584) W := fun _ => by kernel_rfl
  go_enter Tryz.func338, Tryz.ntmps338
  go_wp2
  go_ret2
  exact ⟨rfl, rfl⟩
theorem from_conv (b : Int) (w : World) : (callFunc 337 #[.int .u64 b]).run Tryz.prog w = .ok (.value (.float .f64 b.toNat)) w := by
  rw [run_callFunc_extern Tryz.func337 (by kernel_rfl) (by kernel_rfl) (by kernel_rfl) (e := Extern.MathFloatBits.float64frombits) (by kernel_rfl)]
  rfl
set_option maxRecDepth 100000 in
set_option maxHeartbeats 4000000 in
theorem atof_750 (w : World) (hA : AtofW w) :
    Calls Tryz.prog 307 #[.string ⟨#[43, 48, 46, 55, 53, 48, 101, 49]⟩] w fun e w' => e = .returned (.tuple #[.float .f64 4620130267728707584, .int .i64 8, .nilIface]) ∧ w = w' := by
  have ho := hA.opt
  go_enter Tryz.func307, Tryz.ntmps307
  go_wp2_with fail
  refine (special_750 w).mono ?_
  rintro e w' ⟨rfl, rfl⟩
  go_wp2_with fail
  refine (readFloat_750 w).mono ?_
  rintro e w' ⟨rfl, rfl⟩
  go_wp2_with fail
  refine (bool2u_any false w).mono ?_
  rintro e w' ⟨rfl, rfl⟩
  go_wp2_with fail
  refine (exact_750 w hA).mono ?_
  rintro e w' ⟨rfl, rfl⟩
  go_wp2_with fail
  go_ret3
  exact ⟨rfl, rfl⟩
set_option maxRecDepth 100000 in
set_option maxHeartbeats 4000000 in
theorem atof_1 (w : World) (hA : AtofW w) :
    Calls Tryz.prog 307 #[.string ⟨#[48, 46, 49, 101, 49, 48, 48, 48]⟩] w fun e w' => e = .returned (.tuple #[.float .f64 9218868437227405312, .int .i64 8, .iface 149 (.int .i64 1)]) ∧ w = w' := by
  have ho := hA.opt
  have hf := from_conv
  go_enter Tryz.func307, Tryz.ntmps307
  go_wp2_with fail
  refine (special_1 w).mono ?_
  rintro e w' ⟨rfl, rfl⟩
  go_wp2_with fail
  refine (readFloat_1 w).mono ?_
  rintro e w' ⟨rfl, rfl⟩
  go_wp2
  go_ret3
  exact ⟨rfl, rfl⟩
set_option maxRecDepth 100000 in
set_option maxHeartbeats 4000000 in
theorem parseF_750 (w : World) (hA : AtofW w) :
    Calls Tryz.prog 123 #[.string ⟨#[43, 48, 46, 55, 53, 48, 101, 49]⟩, .int .i64 64] w fun e w' => e = .returned (.tuple #[.float .f64 4620130267728707584, .nilIface]) ∧ w = w' := by
  go_enter Tryz.func123, Tryz.ntmps123
  go_wp2_with fail
  refine (Calls.mono (R := fun e w' => e = .returned (.tuple #[.float .f64 4620130267728707584, .nilIface]) ∧ w = w') ?_ ?_)
  · go_enter Tryz.func180, Tryz.ntmps180
    go_wp2_with fail
    refine (Calls.mono (R := fun e w' => e = .returned (.tuple #[.float .f64 4620130267728707584, .int .i64 8, .nilIface]) ∧ w = w') ?_ ?_)
    · go_enter Tryz.func248, Tryz.ntmps248
      go_wp2_with fail
      refine (atof_750 w hA).mono ?_
      rintro e w' ⟨rfl, rfl⟩
      go_wp2_with fail
      go_ret3
      exact ⟨rfl, rfl⟩
    rintro e w' ⟨rfl, rfl⟩
    go_wp2_with fail
    go_ret2
    exact ⟨rfl, rfl⟩
  rintro e w' ⟨rfl, rfl⟩
  go_wp2_with fail
  go_ret2
  exact ⟨rfl, rfl⟩
set_option maxRecDepth 100000 in
set_option maxHeartbeats 4000000 in
theorem parseF_1 (w : World) (hA : AtofW w) (ev : Value) (hv : w.cell? ⟨1, 0, none⟩ = some ev) (hev : ∃ te pe, ev = .iface te pe) :
    Calls Tryz.prog 123 #[.string ⟨#[48, 46, 49, 101, 49, 48, 48, 48]⟩, .int .i64 64] w fun e w' => ∃ N, e = .returned (.tuple #[.float .f64 9218868437227405312, .iface 152 (.pointer (some ⟨N, 0, none⟩))]) ∧ w.heap.size ≤ N ∧ w'.heap[N]? = some (.cells #[.string ⟨#[80, 97, 114, 115, 101, 70, 108, 111, 97, 116]⟩, .string ⟨#[48, 46, 49, 101, 49, 48, 48, 48]⟩, ev] 211 (0, 0)) ∧ Below w.heap.size w w' := by
  go_enter Tryz.func123, Tryz.ntmps123
  go_wp2_with fail
  refine (Calls.mono (R := fun e w' => e = .returned (.tuple #[.float .f64 9218868437227405312, .iface 149 (.int .i64 1)]) ∧ w = w') ?_ ?_)
  · go_enter Tryz.func180, Tryz.ntmps180
    go_wp2_with fail
    refine (Calls.mono (R := fun e w' => e = .returned (.tuple #[.float .f64 9218868437227405312, .int .i64 8, .iface 149 (.int .i64 1)]) ∧ w = w') ?_ ?_)
    · go_enter Tryz.func248, Tryz.ntmps248
      go_wp2_with fail
      refine (atof_1 w hA).mono ?_
      rintro e w' ⟨rfl, rfl⟩
      go_wp2_with fail
      go_ret3
      exact ⟨rfl, rfl⟩
    rintro e w' ⟨rfl, rfl⟩
    go_wp2_with fail
    go_ret2
    exact ⟨rfl, rfl⟩
  rintro e w' ⟨rfl, rfl⟩
  go_wp2_with fail
  refine (Tryz.strconv_toError_range _ ⟨#[48, 46, 49, 101, 49, 48, 48, 48]⟩ 0 64 ev w (by decide) hv (.inr hev)).mono ?_
  rintro e w1 ⟨N, rfl, hN, hc, hb⟩
  go_wp2_with fail
  go_ret2
  exact ⟨N, rfl, hN, hc, hb⟩
end Go.Proofs.YtamgdmmijlbjjaaGreatDoor
