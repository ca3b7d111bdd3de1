/- The calls that must come at any rate. -/
import Derived.Test.YtohjcimkpcpgbaaDoorHeadsA
namespace Go.Proofs.YtohjcimkpcpgbaaDoor
open Go Go.RowKit Go.WideShapes Go.Shelf

set_option maxRecDepth 100000 in
set_option maxHeartbeats 4000000 in
theorem heads_true (w : World) (hT : Lib.Utf8Tabs 0 1 w) :
    Calls Tryd.prog 19 #[] w fun e w' => e = .returned (.bool true) ∧ Below w.heap.size w w' := by
  go_enter Tryd.func19, Tryd.ntmps19
  go_wp2_with fail
  refine (Of_any [104, 233] _ _ (by decide) _ (by exact arr_lit _ #[.int .i64 104, .int .i64 233] _ 2 rfl) (by simp)).mono ?_
  rintro e w1 ⟨rfl, b1⟩
  rw [hOf]
  have B1 : Below w.heap.size w w1 := ((Below.refl _ w).alloc (Nat.le_refl _) _).trans (b1.mono (by simp only [World.size_alloc]; omega))
  clear b1
  have z1 := B1.size
  go_wp2_with fail
  refine (Of_any [55296] _ _ (by decide) _ (by exact arr_lit _ #[.int .i64 55296] _ 1 rfl) (by simp)).mono ?_
  rintro e w2 ⟨rfl, b2⟩
  rw [hOf2]
  have B2 : Below w.heap.size w w2 := (B1.alloc z1 _).trans (b2.mono (by simp only [World.size_alloc]; omega))
  clear b2
  have z2 := B2.size
  go_wp2_with fail
  refine (Repeat_any ⟨#[97, 98]⟩ 2 (by decide) (by decide) _).mono ?_
  rintro e w3 ⟨rfl, b3⟩
  rw [hRep]
  have B3 : Below w.heap.size w w3 := B2.trans (b3.mono (by omega))
  clear b3
  have z3 := B3.size
  go_wp2_with fail
  refine (Clean_any [97, 255, 98] _ _ (by decide) _ (by exact arr_lit _ #[.int .u8 97, .int .u8 255, .int .u8 98] _ 3 rfl) (by simp)).mono ?_
  rintro e w4 ⟨rfl, b4⟩
  rw [hClean]
  have B4 : Below w.heap.size w w4 := (B3.alloc z3 _).trans (b4.mono (by simp only [World.size_alloc]; omega))
  clear b4
  have z4 := B4.size
  go_wp2_with fail
  refine (Count_any ⟨#[97, 195, 169]⟩ (by decide) _).mono ?_
  rintro e w5 ⟨rfl, b5⟩
  rw [hCount]
  have B5 : Below w.heap.size w w5 := B4.trans (b5.mono (by omega))
  clear b5
  have z5 := B5.size
  go_wp2_with fail
  refine (Slice_any ⟨#[104, 195, 169, 108, 108, 111]⟩ 1 3 (by decide) (by decide) (by decide) _).mono ?_
  rintro e w6 ⟨rfl, b6⟩
  rw [hSlice]
  have B6 : Below w.heap.size w w6 := B5.trans (b6.mono (by omega))
  clear b6
  have z6 := B6.size
  go_wp2_with fail
  refine (Find_any ⟨#[97, 97, 97]⟩ ⟨#[97, 97]⟩ (by decide) (by decide) _ (Utf8Tabs_below hT (by first | exact B6 | exact B6.mono (by omega)))).mono ?_
  rintro e w7 ⟨v7, rfl, o7, b7⟩
  rw [hFind] at o7
  have B7 : Below w.heap.size w w7 := B6.trans (b7.mono (by omega))
  clear b7
  have z7 := B7.size
  have a7 := Arr.of_own o7 (Nat.le_refl _)
  go_wp2_with fail
  refine (refInts_any [0, 1] [0, 1] _ _ _ _ (by decide) _ (by exact (a7.below ((Below.refl _ w7).alloc (Nat.le_refl _) _))) (by exact arr_lit _ #[.int .i64 0, .int .i64 1] _ 2 rfl)).mono ?_
  rintro e w' ⟨rfl, r8, hr8⟩
  obtain ⟨w8, e8⟩ : ∃ x, x = w' := ⟨_, rfl⟩
  rw [← e8] at hr8 ⊢
  clear e8 w'
  have B8 : Below w.heap.size w w8 := by rw [hr8]; exact below_drewN (B7.alloc z7 _) _
  clear hr8
  have z8 := B8.size
  go_wp2_with fail
  refine (Split_any ⟨#[97, 44, 98, 44]⟩ ⟨#[44]⟩ (by decide) (by decide) _).mono ?_
  rintro e w9 ⟨v9, rfl, o9, b9⟩
  rw [hSplit] at o9
  have B9 : Below w.heap.size w w9 := B8.trans (b9.mono (by omega))
  clear b9
  have z9 := B9.size
  have a9 := Arr.of_own o9 (Nat.le_refl _)
  go_wp2_with fail
  refine (refTexts_any [⟨#[97]⟩, ⟨#[98]⟩, ⟨#[]⟩] [⟨#[97]⟩, ⟨#[98]⟩, ⟨#[]⟩] _ _ _ _ (by decide) _ (by exact (a9.below ((Below.refl _ w9).alloc (Nat.le_refl _) _))) (by exact arr_lit _ #[.string ⟨#[97]⟩, .string ⟨#[98]⟩, .string ⟨#[]⟩] _ 3 rfl)).mono ?_
  rintro e w' ⟨rfl, r10, hr10⟩
  obtain ⟨w10, e10⟩ : ∃ x, x = w' := ⟨_, rfl⟩
  rw [← e10] at hr10 ⊢
  clear e10 w'
  have B10 : Below w.heap.size w w10 := by rw [hr10]; exact below_drewN (B9.alloc z9 _) _
  clear hr10
  have z10 := B10.size
  go_wp2_with fail
  refine (Valid_any ⟨#[]⟩ (by decide) _).mono ?_
  rintro e w11 ⟨rfl, b11⟩
  rw [hValid]
  have B11 : Below w.heap.size w w11 := B10.trans (b11.mono (by omega))
  clear b11
  have z11 := B11.size
  go_wp2_with fail
  refine (Valid_any ⟨#[255]⟩ (by decide) _).mono ?_
  rintro e w12 ⟨rfl, b12⟩
  rw [hValid2]
  have B12 : Below w.heap.size w w12 := B11.trans (b12.mono (by omega))
  clear b12
  have z12 := B12.size
  go_wp2_with fail
  refine (Trim_any ⟨#[32, 97, 32]⟩ true false (by decide) _).mono ?_
  rintro e w13 ⟨rfl, b13⟩
  rw [hTrim]
  have B13 : Below w.heap.size w w13 := B12.trans (b13.mono (by omega))
  clear b13
  have z13 := B13.size
  go_wp2_with fail
  refine (Case_up ⟨#[97, 66]⟩ (by decide) _).mono ?_
  rintro e w14 ⟨rfl, b14⟩
  rw [hCase]
  have B14 : Below w.heap.size w w14 := B13.trans (b14.mono (by omega))
  clear b14
  have z14 := B14.size
  go_wp2_with fail
  go_ret
  exact ⟨rfl, B14⟩
end Go.Proofs.YtohjcimkpcpgbaaDoor
