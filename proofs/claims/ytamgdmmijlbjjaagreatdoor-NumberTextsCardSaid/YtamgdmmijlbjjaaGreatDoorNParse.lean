/- Parse at the three texts of the heads. -/
import Derived.Test.YtamgdmmijlbjjaaGreatDoorNIs
namespace Go.Proofs.YtamgdmmijlbjjaaGreatDoor
open Go Go.RowKit

set_option maxRecDepth 100000 in
set_option maxHeartbeats 2000000 in
theorem Parse_1e (w : World) :
    Calls Tryz.prog 66 #[.string ⟨#[49, 101]⟩] w fun e w' => e = .returned (.tuple #[.float .f64 0, .int .i64 20]) ∧ Below w.heap.size w w' := by
  go_enter Tryz.func66, Tryz.ntmps66
  go_wp2_with fail
  refine (read_1e w).mono ?_
  rintro e w1 ⟨rfl, b1⟩
  go_wp2_with fail
  go_ret2
  exact ⟨rfl, b1.alloc b1.size _⟩
set_option maxRecDepth 100000 in
set_option maxHeartbeats 2000000 in
theorem Parse_750 (w : World) (hA : ∀ W, Below w.heap.size w W → AtofW W) :
    Calls Tryz.prog 66 #[.string ⟨#[43, 48, 48, 55, 46, 53, 48]⟩] w fun e w' => e = .returned (.tuple #[.float .f64 4620130267728707584, .int .i64 0]) ∧ Below w.heap.size w w' := by
  go_enter Tryz.func66, Tryz.ntmps66
  go_wp2_with fail
  refine (read_00750 w).mono ?_
  rintro e w1 ⟨rfl, b1⟩
  have B1 := b1.alloc b1.size (Obj.cells #[.string ⟨#[43]⟩, .string ⟨#[55, 53, 48]⟩, .int .i64 1] 116)
  go_wp2_with fail
  refine (text_750 _).mono ?_
  rintro e w2 ⟨rfl, b2⟩
  have B2 := below_trans1 B1 b2
  go_wp2_with fail
  refine (parseF_750 w2 (hA w2 B2)).mono ?_
  rintro e w' ⟨rfl, rfl⟩
  go_wp2_with fail
  go_ret2
  exact ⟨rfl, B2⟩
set_option maxRecDepth 100000 in
set_option maxHeartbeats 2000000 in
theorem Parse_1000 (w : World) (hA : ∀ W, Below w.heap.size w W → AtofW W) (ht : ∀ W, Below w.heap.size w W → Lib.TabIs Tryz.prog W "internal/strconv.uint64pow10" .u64 Lib.pow10Tab) (b : Addr) (hv : ∀ W, Below w.heap.size w W → W.cell? ⟨1, 0, none⟩ = some (.iface 285 (.pointer (some b)))) :
    Calls Tryz.prog 66 #[.string ⟨#[49, 101, 49, 48, 48, 48]⟩] w fun e w' => e = .returned (.tuple #[.float .f64 9218868437227405312, .int .i64 0]) ∧ Below w.heap.size w w' := by
  go_enter Tryz.func66, Tryz.ntmps66
  go_wp2_with fail
  refine (read_1e1000 w).mono ?_
  rintro e w1 ⟨rfl, b1⟩
  have B1 := b1.alloc b1.size (Obj.cells #[.string ⟨#[]⟩, .string ⟨#[49]⟩, .int .i64 1001] 116)
  go_wp2_with fail
  refine (text_1000 _ (fun W hW => ht W (below_trans1 B1 hW))).mono ?_
  rintro e w2 ⟨rfl, b2⟩
  have B2 := below_trans1 B1 b2
  go_wp2_with fail
  refine (parseF_1 w2 (hA w2 B2) _ (hv w2 B2) ⟨_, _, rfl⟩).mono ?_
  rintro e w3 ⟨N, rfl, hN, hc, b3⟩
  have B3 := below_trans1 B2 b3
  have hv3 := hv w3 B3
  have c2 : w3.cell? ⟨N, 2, none⟩ = some (.iface 285 (.pointer (some b))) := by simp [World.cell?, hc]
  clear hc
  go_wp2_with fail
  refine (is_num N b w3 c2).mono ?_
  rintro e w' ⟨rfl, rfl⟩
  go_wp2_with fail
  go_ret2
  exact ⟨rfl, B3⟩
end Go.Proofs.YtamgdmmijlbjjaaGreatDoor
