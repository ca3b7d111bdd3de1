/- The answers' Split by the empty text. -/
import Derived.Test.YtohjcimkpcpgbaaDoorRefF
import Derived.Deep.RegionHeld3
import Derived.WalkSpells
import Derived.IntWalk
import Derived.Deep.AppendLies
import Derived.Deep.OwnRows
namespace Go.Proofs.YtohjcimkpcpgbaaDoor
open Go Go.RowKit Go.WideShapes

set_option maxRecDepth 100000 in
set_option maxHeartbeats 3200000 in
theorem refSplit_pieces (s p : ByteArray) (hm : s.size ≤ 1000000000) (h1 : p.size = 0) (w : World) :
    Calls Tryd.prog 26 #[.string s, .string p] w fun e w' => ∃ v, e = .returned v ∧ w'.ownsRow w.heap.size 9 1 v (splitS s p).length (cellsT (splitS s p)) ∧ Below w.heap.size w w' := by
  obtain ⟨i0, hi0, hz0, hz1, hz2⟩ := info_parts infoStr
  have e1 := empty_list2 h1
  rw [split_pieces h1]
  have hz := st_len s 0
  have hrow := atP_row s
  obtain ⟨n, hn⟩ : ∃ n, (st s 0).length = n := ⟨_, rfl⟩
  rw [hn] at hz hrow ⊢
  have Hn := Lib.hid hn
  have Hrow := Lib.hid hrow
  clear hn hrow
  go_enter Tryd.func26, Tryd.ntmps26
  go_wp2_with (go_at_call 41; refine (refStarts_any s hm _).mono ?_; rintro e w1 ⟨v, rfl, hown0, hb1⟩; rw [List.length_append, Hn.out] at hown0; obtain ⟨g, cap, rfl, hg⟩ := own_block hown0 (by simp))
  have hglt := (hown0.lt g rfl).2
  have Hown0 := Lib.hid hown0
  clear hown0
  go_loopw [5, 7] (fun v i wr => ∃ k : Nat, i = .int .i64 k ∧ k ≤ n ∧ wr.ownsRow w1.heap.size 9 1 v k (cellsT (piecesTo s k)) ∧ Below w1.heap.size w1 wr) (fun _ i _ => n - (intOf i).toNat)
  case atStart => exact ⟨0, rfl, Nat.zero_le _, World.ownsRow_nil _ _ _ _, Below.refl _ _⟩
  case round =>
    obtain ⟨k, rfl, hk, hown, hb⟩ := hrel
    by_cases hlt : k < n
    · have c1 : wr.cell? ⟨g, k, none⟩ = some (.int .i64 (atP s k : Int)) := by
        rw [hb.cell (p := ⟨g, k, none⟩) hglt, Hown0.out.cellAt k (by simp; omega)]
        exact Hrow.out k (by omega)
      have c2 : wr.cell? ⟨g, k + 1, none⟩ = some (.int .i64 (atP s (k + 1) : Int)) := by
        rw [hb.cell (p := ⟨g, k + 1, none⟩) hglt, Hown0.out.cellAt (k + 1) (by simp; omega)]
        exact Hrow.out (k + 1) (by omega)
      have m1 := atP_mono s (show k < k + 1 by omega)
      have m2 := atP_le s (k + 1)
      have hsn := piecesTo_snoc s k
      obtain ⟨a, ha⟩ : ∃ a, atP s k = a := ⟨_, rfl⟩
      obtain ⟨b, hb2⟩ : ∃ b, atP s (k + 1) = b := ⟨_, rfl⟩
      rw [ha] at c1 m1 hsn
      rw [hb2] at c2 m1 m2 hsn
      have Hsn := Lib.hid hsn
      clear ha hb2 hsn
      have hglw : g < w1.heap.size := hglt
      have hag : u5.ownBlock ≠ some g := by
        intro hc
        have := (hown.lt g hc).1
        omega
      have j0 : (0 : Int) ≤ (k : Int) := by omega
      have j1 : (k : Int) < (n : Int) + 1 := by omega
      have j2 : (k : Int) + 1 < (n : Int) + 1 := by omega
      have j3 : (k : Int) < (n : Int) := by omega
      have hbs := hb.size
      have q1 : IntKind.i64.wrap ((k : Int) + 1) = (k : Int) + 1 := IntWalk.i64_in _ (by omega)
      have q2 : (0 : Int) ≤ (k : Int) + 1 := by omega
      have q3 : ((k : Int) + 1).toNat = k + 1 := by omega
      go_wp2
      go_region_held3 (fun w' => w'.cell? ⟨g, k, none⟩ = some (.int .i64 (a : Int)) ∧ w'.cell? ⟨g, k + 1, none⟩ = some (.int .i64 (b : Int)))
        (first
          | go_keep
          | (go_split_ands
             refine ⟨?_, ?_⟩
             · (rw [hgrow.cell_far _ (by simp; omega) (Ne.symm hag)]; assumption)
             · (rw [hgrow.cell_far _ (by simp; omega) (Ne.symm hag)]; assumption)))
        ((refine step_append_lies _ (by rfl) _ _ _ (by rfl) w1.heap.size 9 i0 _ 1 16 Tryd.underlying39 hi0 hz0 hz1 hz2 rfl (by omega) u5 k (cellsT (piecesTo s k)) (by rfl) ((hown.alloc _).drew)
            ⟨wr.heap.size, 0, none⟩ 1 1 [.string (s.extract a b)] (by rfl) (by rfl) (World.news_of_block (cs := #[.string (s.extract a b)]) (t := 9) (fr := (0, 0)) (heap_alloc_new wr _)) (by simp [Value.oneCell'])
            (by omega) (by unfold maxLen; omega) (by omega) (by simp; omega) (wr.heap.size + 1) (by simp) ?_; intro gg cap w2 hown1 hgrow hat hlt2))
      go_wp2
      refine ⟨⟨k + 1, by go_num, by omega, by rw [Hsn.out, cellsT_snoc]; exact hown1, ?_⟩, by simp [intOf]; omega⟩
      exact ((hb.alloc hbs _).drew).grown hgrow (by simp; omega) (fun j hj => (hown.lt j hj).1)
    · obtain rfl : k = n := by omega
      go_wp2
      go_ret
      exact ⟨_, rfl, by rw [piecesTo_len]; exact own_lower hown hb1.size, hb1.trans (hb.mono hb1.size)⟩
/-- SPLIT, THE ANSWERS', AT EVERY TWO TEXTS. -/
theorem refSplit_any (s p : ByteArray) (hm : s.size ≤ 1000000000) (hp : p.size ≤ 1000000000) (w : World) :
    Calls Tryd.prog 26 #[.string s, .string p] w fun e w' => ∃ v, e = .returned v ∧ w'.ownsRow w.heap.size 9 1 v (splitS s p).length (cellsT (splitS s p)) ∧ Below w.heap.size w w' := by
  by_cases h : p.size = 0
  · exact refSplit_pieces s p hm h w
  · exact refSplit_parts s p hm hp h w
end Go.Proofs.YtohjcimkpcpgbaaDoor
