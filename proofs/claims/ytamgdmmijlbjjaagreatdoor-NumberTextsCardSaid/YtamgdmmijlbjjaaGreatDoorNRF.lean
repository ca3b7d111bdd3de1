/- strconv's reading, at the two texts of the heads. -/
import Derived.Test.YtamgdmmijlbjjaaGreatDoorNDec
import Derived.LoopTactic
import Derived.WalkMore
namespace Go.Proofs.YtamgdmmijlbjjaaGreatDoor
open Go Go.RowKit

set_option maxRecDepth 100000 in
set_option maxHeartbeats 4000000 in
theorem readFloat_1 (w : World) :
    Calls Tryz.prog 329 #[.string ⟨#[48, 46, 49, 101, 49, 48, 48, 48]⟩] w fun e w' => e = .returned (.tuple #[.int .u64 1, .int .i64 999, .bool false, .bool false, .bool false, .int .i64 8, .bool true]) ∧ w = w' := by
  have g0 : (⟨#[48, 46, 49, 101, 49, 48, 48, 48]⟩ : ByteArray)[0] = 48 := rfl
  have g1 : (⟨#[48, 46, 49, 101, 49, 48, 48, 48]⟩ : ByteArray)[1] = 46 := rfl
  have g2 : (⟨#[48, 46, 49, 101, 49, 48, 48, 48]⟩ : ByteArray)[2] = 49 := rfl
  have g3 : (⟨#[48, 46, 49, 101, 49, 48, 48, 48]⟩ : ByteArray)[3] = 101 := rfl
  have g4 : (⟨#[48, 46, 49, 101, 49, 48, 48, 48]⟩ : ByteArray)[4] = 49 := rfl
  have g5 : (⟨#[48, 46, 49, 101, 49, 48, 48, 48]⟩ : ByteArray)[5] = 48 := rfl
  have g6 : (⟨#[48, 46, 49, 101, 49, 48, 48, 48]⟩ : ByteArray)[6] = 48 := rfl
  have g7 : (⟨#[48, 46, 49, 101, 49, 48, 48, 48]⟩ : ByteArray)[7] = 48 := rfl
  go_enter Tryz.func329, Tryz.ntmps329
  go_wp2
  go_step3
  go_wp2
  go_step3
  go_wp2
  refine wp_loop_rounds 4 ?_
  rw [rounds_succ]
  go_wp2
  rw [rounds_succ]
  go_wp2
  rw [rounds_succ]
  go_wp2
  rw [rounds_succ]
  go_wp2
  refine wp_loop_rounds 5 ?_
  rw [rounds_succ]
  go_wp2
  rw [rounds_succ]
  go_wp2
  rw [rounds_succ]
  go_wp2
  rw [rounds_succ]
  go_wp2
  rw [rounds_succ]
  go_wp2
  rw [Exit.noGoto_ret]
  exact bodyPost_ret (v := .tuple #[.int .u64 1, .int .i64 999, .bool false, .bool false, .bool false, .int .i64 8, .bool true]) (by simp [results, Tryz.results329, go_sem]) rfl ⟨rfl, rfl⟩
set_option maxRecDepth 100000 in
set_option maxHeartbeats 1000000 in
theorem special_1 (w : World) :
    Calls Tryz.prog 328 #[.string ⟨#[48, 46, 49, 101, 49, 48, 48, 48]⟩] w fun e w' => e = .returned (.tuple #[.float .f64 0, .int .i64 0, .bool false]) ∧ w = w' := by
  have g0 : (⟨#[48, 46, 49, 101, 49, 48, 48, 48]⟩ : ByteArray)[0] = 48 := rfl
  have g1 : (⟨#[48, 46, 49, 101, 49, 48, 48, 48]⟩ : ByteArray)[1] = 46 := rfl
  have g2 : (⟨#[48, 46, 49, 101, 49, 48, 48, 48]⟩ : ByteArray)[2] = 49 := rfl
  have g3 : (⟨#[48, 46, 49, 101, 49, 48, 48, 48]⟩ : ByteArray)[3] = 101 := rfl
  have g4 : (⟨#[48, 46, 49, 101, 49, 48, 48, 48]⟩ : ByteArray)[4] = 49 := rfl
  have g5 : (⟨#[48, 46, 49, 101, 49, 48, 48, 48]⟩ : ByteArray)[5] = 48 := rfl
  have g6 : (⟨#[48, 46, 49, 101, 49, 48, 48, 48]⟩ : ByteArray)[6] = 48 := rfl
  have g7 : (⟨#[48, 46, 49, 101, 49, 48, 48, 48]⟩ : ByteArray)[7] = 48 := rfl
  go_enter Tryz.func328, Tryz.ntmps328
  go_wp2
  go_ret3
  exact ⟨rfl, rfl⟩
set_option maxRecDepth 100000 in
set_option maxHeartbeats 4000000 in
theorem readFloat_750 (w : World) :
    Calls Tryz.prog 329 #[.string ⟨#[43, 48, 46, 55, 53, 48, 101, 49]⟩] w fun e w' => e = .returned (.tuple #[.int .u64 750, .int .i64 (-2), .bool false, .bool false, .bool false, .int .i64 8, .bool true]) ∧ w = w' := by
  have g0 : (⟨#[43, 48, 46, 55, 53, 48, 101, 49]⟩ : ByteArray)[0] = 43 := rfl
  have g1 : (⟨#[43, 48, 46, 55, 53, 48, 101, 49]⟩ : ByteArray)[1] = 48 := rfl
  have g2 : (⟨#[43, 48, 46, 55, 53, 48, 101, 49]⟩ : ByteArray)[2] = 46 := rfl
  have g3 : (⟨#[43, 48, 46, 55, 53, 48, 101, 49]⟩ : ByteArray)[3] = 55 := rfl
  have g4 : (⟨#[43, 48, 46, 55, 53, 48, 101, 49]⟩ : ByteArray)[4] = 53 := rfl
  have g5 : (⟨#[43, 48, 46, 55, 53, 48, 101, 49]⟩ : ByteArray)[5] = 48 := rfl
  have g6 : (⟨#[43, 48, 46, 55, 53, 48, 101, 49]⟩ : ByteArray)[6] = 101 := rfl
  have g7 : (⟨#[43, 48, 46, 55, 53, 48, 101, 49]⟩ : ByteArray)[7] = 49 := rfl
  go_enter Tryz.func329, Tryz.ntmps329
  go_wp2
  go_step3
  go_wp2
  go_step3
  go_wp2
  refine wp_loop_rounds 6 ?_
  rw [rounds_succ]
  go_wp2
  rw [rounds_succ]
  go_wp2
  rw [rounds_succ]
  go_wp2
  rw [rounds_succ]
  go_wp2
  rw [rounds_succ]
  go_wp2
  rw [rounds_succ]
  go_wp2
  refine wp_loop_rounds 2 ?_
  rw [rounds_succ]
  go_wp2
  rw [rounds_succ]
  go_wp2
  rw [Exit.noGoto_ret]
  exact bodyPost_ret (v := .tuple #[.int .u64 750, .int .i64 (-2), .bool false, .bool false, .bool false, .int .i64 8, .bool true]) (by simp [results, Tryz.results329, go_sem]) rfl ⟨rfl, rfl⟩
set_option maxRecDepth 100000 in
set_option maxHeartbeats 1000000 in
theorem special_750 (w : World) :
    Calls Tryz.prog 328 #[.string ⟨#[43, 48, 46, 55, 53, 48, 101, 49]⟩] w fun e w' => e = .returned (.tuple #[.float .f64 0, .int .i64 0, .bool false]) ∧ w = w' := by
  have g0 : (⟨#[43, 48, 46, 55, 53, 48, 101, 49]⟩ : ByteArray)[0] = 43 := rfl
  have g1 : (⟨#[43, 48, 46, 55, 53, 48, 101, 49]⟩ : ByteArray)[1] = 48 := rfl
  have g2 : (⟨#[43, 48, 46, 55, 53, 48, 101, 49]⟩ : ByteArray)[2] = 46 := rfl
  have g3 : (⟨#[43, 48, 46, 55, 53, 48, 101, 49]⟩ : ByteArray)[3] = 55 := rfl
  have g4 : (⟨#[43, 48, 46, 55, 53, 48, 101, 49]⟩ : ByteArray)[4] = 53 := rfl
  have g5 : (⟨#[43, 48, 46, 55, 53, 48, 101, 49]⟩ : ByteArray)[5] = 48 := rfl
  have g6 : (⟨#[43, 48, 46, 55, 53, 48, 101, 49]⟩ : ByteArray)[6] = 101 := rfl
  have g7 : (⟨#[43, 48, 46, 55, 53, 48, 101, 49]⟩ : ByteArray)[7] = 49 := rfl
  have x1 : (⟨#[43, 48, 46, 55, 53, 48, 101, 49]⟩ : ByteArray).extract 1 8 = ⟨#[48, 46, 55, 53, 48, 101, 49]⟩ := rfl
  have h0 : (⟨#[48, 46, 55, 53, 48, 101, 49]⟩ : ByteArray)[0] = 48 := rfl
  have h1 : (⟨#[48, 46, 55, 53, 48, 101, 49]⟩ : ByteArray)[1] = 46 := rfl
  have h2 : (⟨#[48, 46, 55, 53, 48, 101, 49]⟩ : ByteArray)[2] = 55 := rfl
  have h3 : (⟨#[48, 46, 55, 53, 48, 101, 49]⟩ : ByteArray)[3] = 53 := rfl
  have h4 : (⟨#[48, 46, 55, 53, 48, 101, 49]⟩ : ByteArray)[4] = 48 := rfl
  have h5 : (⟨#[48, 46, 55, 53, 48, 101, 49]⟩ : ByteArray)[5] = 101 := rfl
  have h6 : (⟨#[48, 46, 55, 53, 48, 101, 49]⟩ : ByteArray)[6] = 49 := rfl
  have k0 : (⟨#[105, 110, 102, 105, 110, 105, 116, 121]⟩ : ByteArray)[0] = 105 := rfl
  have k1 : (⟨#[105, 110, 102, 105, 110, 105, 116, 121]⟩ : ByteArray)[1] = 110 := rfl
  have k2 : (⟨#[105, 110, 102, 105, 110, 105, 116, 121]⟩ : ByteArray)[2] = 102 := rfl
  have k3 : (⟨#[105, 110, 102, 105, 110, 105, 116, 121]⟩ : ByteArray)[3] = 105 := rfl
  have k4 : (⟨#[105, 110, 102, 105, 110, 105, 116, 121]⟩ : ByteArray)[4] = 110 := rfl
  have k5 : (⟨#[105, 110, 102, 105, 110, 105, 116, 121]⟩ : ByteArray)[5] = 105 := rfl
  have k6 : (⟨#[105, 110, 102, 105, 110, 105, 116, 121]⟩ : ByteArray)[6] = 116 := rfl
  have k7 : (⟨#[105, 110, 102, 105, 110, 105, 116, 121]⟩ : ByteArray)[7] = 121 := rfl
  go_enter Tryz.func328, Tryz.ntmps328
  go_wp2
  refine wp_loop_rounds 1 ?_
  rw [rounds_succ]
  go_wp2
  go_ret3
  exact ⟨rfl, rfl⟩
end Go.Proofs.YtamgdmmijlbjjaaGreatDoor
