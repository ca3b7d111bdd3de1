/- The program's sorted: the region that makes the new object, whatever its order. -/
import Derived.Test.YtkklfdfmfdnjoaaGreatDoorQSort
namespace Go.Proofs.YtkklfdfmfdnjoaaGreatDoor
open Go Go.RowKit

/-- A region of a function's code, by its number. -/
def regionAt (n : Nat) : Code → Option Code
  | .region i o d => if i = n then some (.region i o d) else none
  | .seq a b => match regionAt n a with
    | some c => some c
    | none => regionAt n b
  | .cond _ a b => match regionAt n a with
    | some c => some c
    | none => regionAt n b
  | .block _ c => regionAt n c
  | .scope c => regionAt n c
  | .loop c => regionAt n c
  | _ => none
noncomputable def sortRegion : Code := ((Tryz.f62.body.bind (regionAt 10)).getD .skip)
set_option maxRecDepth 1000000 in
set_option maxHeartbeats 3000000 in
theorem sort_region (w3 : World) (n P : Nat) (hn : n ≤ 1048576) (c0 c1 c2 c4 c5 c6 c7 c8 c9 c10 c11 c12 c13 c14 c15 c16 c17 c18 c19 c20 c21 c22 c23 c24 c25 c26 c27 c28 c29 c30 c31 c32 c33 c34 c35 c36 c37 c38 c39 c40 c41 c42 c43 c44 c45 c46 c47 c48 c49 c50 c51 c52 c53 c54 c55 c56 c57 c58 c59 c60 c61 c62 c63 : Value) :
    Code.wp Tryz.prog sortRegion (Exit.then (fun a w => ∃ (Q : Nat) (kb lb : Option Addr), a = ⟨#[c0, c1, c2, .slice (some ⟨P, 0, none⟩) n n, c4, .pointer (some ⟨Q, 0, none⟩), c6, c7, c8, c9, c10, c11, c12, c13, c14, c15, c16, c17, c18, c19, c20, c21, c22, c23, c24, c25, c26, c27, c28, .slice (some ⟨P, 0, none⟩) n n, .int .i64 (n : Int), .slice kb 0 n, .slice (some ⟨P, 0, none⟩) n n, .int .i64 (n : Int), .slice lb 0 n, .agg #[.int .i64 6, .float .f64 0, .string ⟨#[]⟩, .slice lb 0 n, .slice kb 0 n], c36, c37, c38, c39, c40, c41, c42, c43, c44, c45, c46, c47, c48, c49, c50, c51, c52, c53, c54, c55, c56, c57, c58, c59, c60, c61, c62, c63], []⟩ ∧ RS w3 Q [] [] [] (.slice lb 0 n) (.slice kb 0 n) w) (fun _ _ _ => False)) ⟨#[c0, c1, c2, .slice (some ⟨P, 0, none⟩) n n, c4, c5, c6, c7, c8, c9, c10, c11, c12, c13, c14, c15, c16, c17, c18, c19, c20, c21, c22, c23, c24, c25, c26, c27, c28, c29, c30, c31, c32, c33, c34, c35, c36, c37, c38, c39, c40, c41, c42, c43, c44, c45, c46, c47, c48, c49, c50, c51, c52, c53, c54, c55, c56, c57, c58, c59, c60, c61, c62, c63], []⟩ w3 := by
  have hsf := run_store_float Tryz.prog
  obtain ⟨i0, hi0, hz0, hz1, hz2⟩ := info_parts infoVal
  obtain ⟨is, his, hs0, hs1, hs2⟩ := info_parts infoStr
  have hmkK : ∀ u : World, (Instr.makeSlice 25 (.int .i64 0) (.int .i64 (n : Int))).run Tryz.prog u =
      .ok (.slice (some ⟨u.heap.size, 0, none⟩) 0 n) (u.alloc (.cells (madeCells #[.string ⟨#[]⟩] n) 9)) := fun u => by
    have h := run_make (P := Tryz.prog) u 25 9 is (.string ⟨#[]⟩) Tryz.underlying25 his hs0 .i64 .i64 0 (n : Int) (Int.le_refl _) (by omega) (by rw [hs2]; omega) (by omega)
    rw [Int.toNat_natCast] at h
    simpa [hs1, Value.cells] using h
  have hmkL : ∀ u : World, (Instr.makeSlice 24 (.int .i64 0) (.int .i64 (n : Int))).run Tryz.prog u =
      .ok (.slice (some ⟨u.heap.size, 0, none⟩) 0 n) (u.alloc (.cells (madeCells #[.int .i64 0, .float .f64 0, .string ⟨#[]⟩, .slice none 0 0, .slice none 0 0] (n * 5)) 27)) := fun u => by
    have h := run_make (P := Tryz.prog) u 24 27 i0 _ Tryz.underlying24 hi0 hz0 .i64 .i64 0 (n : Int) (Int.le_refl _) (by omega) (by rw [hz2]; omega) (by omega)
    rw [Int.toNat_natCast] at h
    simpa [hz1, Value.cells] using h
  conv => arg 2; whnf
  go_region
  all_goals
    first
      | exact ⟨_, _, _, rfl, RS.start (by omega) (three w3 _ _ _).2.2.1 (three w3 _ _ _).1 (size_madeCells _ _) (three w3 _ _ _).2.1 (size_madeCells _ _) (by omega) (by omega) (by omega) (by omega) (by omega) (by unfold maxLen; omega) (three w3 _ _ _).2.2.2⟩
      | exact ⟨_, _, _, rfl, RS.start (by omega) (three w3 _ _ _).2.1 (three w3 _ _ _).1 (size_madeCells _ _) (three w3 _ _ _).2.2.1 (size_madeCells _ _) (by omega) (by omega) (by omega) (by omega) (by omega) (by unfold maxLen; omega) (three w3 _ _ _).2.2.2⟩
      | exact ⟨_, _, _, rfl, RS.start (by omega) (three w3 _ _ _).2.2.1 (three w3 _ _ _).2.1 (size_madeCells _ _) (three w3 _ _ _).1 (size_madeCells _ _) (by omega) (by omega) (by omega) (by omega) (by omega) (by unfold maxLen; omega) (three w3 _ _ _).2.2.2⟩
      | exact ⟨_, _, _, rfl, RS.start (by omega) (three w3 _ _ _).2.1 (three w3 _ _ _).2.2.1 (size_madeCells _ _) (three w3 _ _ _).1 (size_madeCells _ _) (by omega) (by omega) (by omega) (by omega) (by omega) (by unfold maxLen; omega) (three w3 _ _ _).2.2.2⟩
      | exact ⟨_, _, _, rfl, RS.start (by omega) (three w3 _ _ _).1 (three w3 _ _ _).2.1 (size_madeCells _ _) (three w3 _ _ _).2.2.1 (size_madeCells _ _) (by omega) (by omega) (by omega) (by omega) (by omega) (by unfold maxLen; omega) (three w3 _ _ _).2.2.2⟩
      | exact ⟨_, _, _, rfl, RS.start (by omega) (three w3 _ _ _).1 (three w3 _ _ _).2.2.1 (size_madeCells _ _) (three w3 _ _ _).2.1 (size_madeCells _ _) (by omega) (by omega) (by omega) (by omega) (by omega) (by unfold maxLen; omega) (three w3 _ _ _).2.2.2⟩
end Go.Proofs.YtkklfdfmfdnjoaaGreatDoor
