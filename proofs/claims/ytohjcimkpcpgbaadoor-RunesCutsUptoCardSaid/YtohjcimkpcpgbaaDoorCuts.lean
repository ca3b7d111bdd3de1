/- RunesCuts: its walk. -/
import Derived.Test.YtohjcimkpcpgbaaDoorHeads
import Derived.Test.YtohjcimkpcpgbaaDoorTidy
namespace Go.Proofs.YtohjcimkpcpgbaaDoor
open Go Go.RowKit Go.WideShapes Go.Shelf

set_option maxRecDepth 100000 in
set_option maxHeartbeats 4000000 in
theorem cuts_true (s p : ByteArray) (a b : Int) (hm : s.size ≤ 100000000) (hpm : p.size ≤ 100000000) (ha : -9223372036854775808 ≤ a ∧ a ≤ 9223372036854775807) (hb : -9223372036854775808 ≤ b ∧ b ≤ 9223372036854775807) (w : World) (hT : Lib.Utf8Tabs 0 1 w) :
    Calls Tryd.prog 4 #[.string s, .string p, .int .i64 a, .int .i64 b] w fun e w' => e = .returned (.bool true) ∧ Below w.heap.size w w' := by
  go_enter Tryd.func4, Tryd.ntmps4
  go_wp2_with fail
  refine (Slice_any s a b (by omega) ha hb.2 _).mono ?_
  rintro e w1 ⟨rfl, B1⟩
  have z1 := B1.size
  obtain ⟨c, hc⟩ : ∃ c, sliceS s a b = c := ⟨_, rfl⟩
  have Hc := Lib.hid hc
  rw [hc]
  clear hc
  go_wp2_with fail
  refine (refSlice_any s a b (by omega) ha hb _).mono ?_
  rintro e w2 ⟨rfl, b2⟩
  have B2 : Below w.heap.size w w2 := B1.trans (b2.mono (by omega))
  clear b2
  have z2 := B2.size
  rw [Hc.out]
  go_wp2_with fail
  refine (Find_any s p (by omega) (by omega) _ (Utf8Tabs_below hT B2)).mono ?_
  rintro e w3 ⟨v3, rfl, o3, b3⟩
  have B3 : Below w.heap.size w w3 := B2.trans (b3.mono (by omega))
  clear b3
  have z3 := B3.size
  have a3 := Arr.of_own o3 (Nat.le_refl _)
  rw [cellsN_I] at a3
  go_wp2_with fail
  refine (refFind_any s p (by omega) (by omega) _).mono ?_
  rintro e w4 ⟨v4, rfl, o4, b4⟩
  have a3' := a3.below b4
  have B4 : Below w.heap.size w w4 := B3.trans (b4.mono (by omega))
  clear b4
  have z4 := B4.size
  have a4 := Arr.of_own o4 (Nat.le_refl _)
  rw [cellsN_I] at a4
  have hfl : ((findS s p).map fun (n : Nat) => (n : Int)).length ≤ 1000000000 := by have := findS_len s p; rw [List.length_map]; omega
  go_wp2_with fail
  refine (refInts_any _ _ _ _ _ _ hfl _ a3' a4).mono ?_
  rintro e w' ⟨rfl, r5, hr5⟩
  obtain ⟨w5, e5⟩ : ∃ x, x = w' := ⟨_, rfl⟩
  rw [← e5] at hr5 ⊢
  clear e5 w'
  rw [dec_self]
  have B5 : Below w.heap.size w w5 := by rw [hr5]; exact below_drewN B4 _
  clear hr5 a3 a3' a4 o3 o4
  have z5 := B5.size
  go_wp2_with fail
  refine (Split_any s p (by omega) (by omega) _).mono ?_
  rintro e w6 ⟨v6, rfl, o6, b6⟩
  have B6 : Below w.heap.size w w6 := B5.trans (b6.mono (by omega))
  clear b6
  have z6 := B6.size
  have a6 := Arr.of_own o6 (Nat.le_refl _)
  go_wp2_with fail
  refine (refSplit_any s p (by omega) (by omega) _).mono ?_
  rintro e w7 ⟨v7, rfl, o7, b7⟩
  have a6' := a6.below b7
  have B7 : Below w.heap.size w w7 := B6.trans (b7.mono (by omega))
  clear b7
  have z7 := B7.size
  have a7 := Arr.of_own o7 (Nat.le_refl _)
  have htl : (splitS s p).length ≤ 1000000000 := by have := split_len s p; omega
  go_wp2_with fail
  refine (refTexts_any _ _ _ _ _ _ htl _ a6' a7).mono ?_
  rintro e w' ⟨rfl, r8, hr8⟩
  obtain ⟨w8, e8⟩ : ∃ x, x = w' := ⟨_, rfl⟩
  rw [← e8] at hr8 ⊢
  clear e8 w'
  rw [dec_self]
  have B8 : Below w.heap.size w w8 := by rw [hr8]; exact below_drewN B7 _
  clear hr8 a6 a6' a7 o6 o7
  have z8 := B8.size
  go_wp2_with fail
  refine (heads_true _ (Utf8Tabs_below hT B8)).mono ?_
  rintro e w9 ⟨rfl, b9⟩
  have B9 : Below w.heap.size w w9 := B8.trans (b9.mono (by omega))
  go_wp2_with fail
  go_ret
  exact ⟨rfl, B9⟩
end Go.Proofs.YtohjcimkpcpgbaaDoor
