/- strconv's small functions of numbers: contracts of one call each. -/
import Derived.Test.YtamgdmmijlbjjaaGreatDoorProg
import Derived.WalkKit
import Derived.ProofKit
import Derived.OpenShut
import Derived.Lib.Hide
import Derived.IntWalk
namespace Go.Proofs.YtamgdmmijlbjjaaGreatDoor
open Go Go.RowKit

def l10P (x : Int) : Int := x * 78913 / 262144
def l2P (x : Int) : Int := x * 108853 / 32768
def skewP (e : Int) : Int := (e * 631305 - 261663) / 2097152
def ceilU (x : Int) : Int := IntKind.u64.wrap (x + 3) / 4
def floorU (x : Int) : Int := x / 4
def roundU (x : Int) : Int := IntKind.u64.wrap (IntKind.u64.wrap (x + 1) + bits .and .u64 (x / 4) 1) / 4
def nudgeU (x d : Int) : Int := IntKind.u64.wrap (x + IntKind.u64.wrap d)

set_option maxHeartbeats 400000 in
theorem log10Pow2_any (x : Int) (h0 : -100000 ≤ x) (h1 : x ≤ 100000) (w : World) : Calls Tryz.prog 225 #[.int .i64 x] w fun e w' => e = .returned (.int .i64 (l10P x)) ∧ w = w' := by
  go_enter Tryz.func225, Tryz.ntmps225
  go_wp2
  go_ret
  exact ⟨rfl, rfl⟩
set_option maxHeartbeats 400000 in
theorem log2Pow10_any (x : Int) (h0 : -100000 ≤ x) (h1 : x ≤ 100000) (w : World) : Calls Tryz.prog 284 #[.int .i64 x] w fun e w' => e = .returned (.int .i64 (l2P x)) ∧ w = w' := by
  go_enter Tryz.func284, Tryz.ntmps284
  go_wp2
  go_ret
  exact ⟨rfl, rfl⟩
set_option maxHeartbeats 400000 in
theorem skewed_any (x : Int) (h0 : -100000 ≤ x) (h1 : x ≤ 100000) (w : World) : Calls Tryz.prog 282 #[.int .i64 x] w fun e w' => e = .returned (.int .i64 (skewP x)) ∧ w = w' := by
  go_enter Tryz.func282, Tryz.ntmps282
  go_wp2
  go_ret
  exact ⟨rfl, rfl⟩
theorem ceil_any (x : Int) (_h0 : 0 ≤ x) (_h1 : x < 18446744073709551616) (w : World) : Calls Tryz.prog 287 #[.int .u64 x] w fun e w' => e = .returned (.int .u64 (ceilU x)) ∧ w = w' := by
  go_enter Tryz.func287, Tryz.ntmps287
  go_wp2
  go_ret
  exact ⟨rfl, rfl⟩
theorem floor_any (x : Int) (h0 : 0 ≤ x) (h1 : x < 18446744073709551616) (w : World) : Calls Tryz.prog 288 #[.int .u64 x] w fun e w' => e = .returned (.int .u64 (floorU x)) ∧ w = w' := by
  go_enter Tryz.func288, Tryz.ntmps288
  go_wp2
  go_ret
  exact ⟨rfl, rfl⟩
theorem round_any (x : Int) (_h0 : 0 ≤ x) (_h1 : x < 18446744073709551616) (w : World) : Calls Tryz.prog 289 #[.int .u64 x] w fun e w' => e = .returned (.int .u64 (roundU x)) ∧ w = w' := by
  go_enter Tryz.func289, Tryz.ntmps289
  go_wp2
  go_ret
  exact ⟨rfl, rfl⟩
theorem nudge_any (x d : Int) (_h0 : 0 ≤ x) (_h1 : x < 18446744073709551616) (w : World) : Calls Tryz.prog 286 #[.int .u64 x, .int .i64 d] w fun e w' => e = .returned (.int .u64 (nudgeU x d)) ∧ w = w' := by
  go_enter Tryz.func286, Tryz.ntmps286
  go_wp2
  go_ret
  exact ⟨rfl, rfl⟩
theorem bool2u_any (b : Bool) (w : World) : Calls Tryz.prog 322 #[.bool b] w fun e w' => e = .returned (.int .u64 (if b then 1 else 0)) ∧ w = w' := by
  cases b
  all_goals
    go_enter Tryz.func322, Tryz.ntmps322
    go_wp2
    go_ret
    exact ⟨rfl, rfl⟩
theorem bool2u_w (b : Bool) (w : World) : Calls Tryz.prog 322 #[.bool b] w fun e w' => e = .returned (.int .u64 (if b then 1 else 0)) ∧ w' = w := (bool2u_any b w).mono fun _ _ ⟨a, b⟩ => ⟨a, b.symm⟩
end Go.Proofs.YtamgdmmijlbjjaaGreatDoor
