/- The program's Split, of every two texts. -/
import Derived.Test.YtohjcimkpcpgbaaDoorSplit
import Derived.Test.YtohjcimkpcpgbaaDoorPieces
namespace Go.Proofs.YtohjcimkpcpgbaaDoor
open Go Go.RowKit Go.WideShapes Go.Shelf

theorem none_list {s : ByteArray} (h : s.size = 0) : s.toList.isEmpty = true := by
  have h1 : s = ByteArray.empty := ByteArray.ext (by
    apply Array.eq_empty_of_size_eq_zero
    exact h)
  rw [h1, ByteArray.toList_eq]
  rfl

set_option maxRecDepth 100000 in
set_option maxHeartbeats 1000000 in
theorem Split_any (s p : ByteArray) (hm : s.size ≤ 1000000000) (hpm : p.size ≤ 1000000000) (w : World) :
    Calls Tryd.prog 25 #[.string s, .string p] w fun e w' => ∃ v, e = .returned v ∧ w'.ownsRow w.heap.size 9 1 v (splitS s p).length (cellsT (splitS s p)) ∧ Below w.heap.size w w' := by
  by_cases h2 : s.size = 0
  · have e2 := none_list h2
    have hs : splitS s p = [] := by
      by_cases h1 : p.size = 0
      · rw [split_pieces h1, st_nil s 0 (by omega)]
        rfl
      · exact split_none h1 h2
    rw [hs]
    refine (callsIn_wide (n := 6)).1 ?_
    refine callsIn_of_wp_marks Tryd.func25 rfl trivial ?_ rfl
    simp only [Tryd.ntmps25, List.size_toArray, List.length_cons, List.length_nil, Nat.reduceAdd, Nat.reduceSub, Array.replicate_succ, Array.replicate_zero, List.push_toArray, List.append_toArray, List.nil_append, List.cons_append]
    gi_wp2_with fail
    exact ⟨_, results_tmp rfl _ _ _, _, rfl, World.ownsRow_nil _ _ _ _, (Below.refl _ w).alloc (Nat.le_refl _) _⟩
  · by_cases h1 : p.size = 0
    · have e1 := none_list h1
      have e2 := nonempty_list h2
      rw [split_pieces h1]
      refine (callsIn_wide (n := 6)).1 ?_
      refine callsIn_of_wp_marks Tryd.func25 rfl trivial ?_ rfl
      simp only [Tryd.ntmps25, List.size_toArray, List.length_cons, List.length_nil, Nat.reduceAdd, Nat.reduceSub, Array.replicate_succ, Array.replicate_zero, List.push_toArray, List.append_toArray, List.nil_append, List.cons_append]
      gi_wp2_with fail
      refine ⟨trivial, ?_⟩
      refine (callsIn_wide.2 (Clone_any _ (by omega) _)).mono ?_
      rintro e w1 ⟨rfl, hb1⟩
      have cP : w1.cell? ⟨w.heap.size, 0, none⟩ = some (.string p) := by
        rw [hb1.cell (p := ⟨w.heap.size, 0, none⟩) (by simp)]
        exact cell_box _ _ _
      have cP2 : (w1.alloc (.cells #[.string s] 9)).cell? ⟨w.heap.size, 0, none⟩ = some (.string p) := cell_old _ cP
      gi_wp2_with fail
      refine ⟨trivial, ?_⟩
      refine (callsIn_wide.2 (pieces_any _ hm (by omega) _)).mono ?_
      rintro e w2 ⟨v, rfl, hown, hb2⟩
      gi_wp2_with fail
      refine ⟨_, results_tmp rfl _ _ _, _, rfl, own_lower hown ?_, ?_⟩
      · simp only [World.size_alloc]; have := hb1.size; simp only [World.size_alloc] at this; omega
      · have hbw : Below w.heap.size w w1 := ((Below.refl _ w).alloc (Nat.le_refl _) _).trans (hb1.mono (by simp))
        have hz : w.heap.size ≤ w1.heap.size := by have := hb1.size; simp only [World.size_alloc] at this; omega
        exact (hbw.alloc hz _).trans (hb2.mono (by simp only [World.size_alloc]; omega))
    · exact Split_parts s p hm hpm h1 h2 w
end Go.Proofs.YtohjcimkpcpgbaaDoor
