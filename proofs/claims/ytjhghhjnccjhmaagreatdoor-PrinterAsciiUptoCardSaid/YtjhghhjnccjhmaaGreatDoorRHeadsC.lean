/- What must come at any rate: its calls. -/
import Derived.Test.YtjhghhjnccjhmaaGreatDoorRHeads
namespace Go.Proofs.YtjhghhjnccjhmaaGreatDoor
open Go Go.RowKit

theorem right_leaf (k : Int) (h0 : 0 ≤ k) (h6 : k ≤ 5) (_h4 : k ≠ 4) (d : Nat) (f : Nat) (hf : k = 3 ∨ zeroV f = true) : rightV (d + 1) (leafV k f ⟨#[]⟩) = true := by
  have hk : okK (sortK ([] : List ByteArray)) = true := by simp [sortK, okK]
  show (headOK (leafV k f ⟨#[]⟩) && ([] : List V).all _) = true
  rw [List.all_nil, Bool.and_true, headOK_iff]
  exact ⟨⟨h0, by show k ≤ 6; omega⟩, hf, Or.inr (by rw [ByteArray.toList_eq]; rfl), Or.inr rfl, Or.inl (by show k ≠ 6; omega), Or.inr rfl, by kernel_rfl, hk⟩
theorem right_in : rightV 2 inV = true := by
  have hk : okK (sortK [(⟨#[97]⟩ : ByteArray)]) = true := by rw [sortK_small _ (by decide)]; kernel_rfl
  show (headOK inV && [leafV 5 0 ⟨#[]⟩].all (fun x => rightV 1 x)) = true
  rw [Bool.and_eq_true]
  refine ⟨?_, by rw [List.all_cons, List.all_nil, Bool.and_true]; exact right_leaf 5 (by decide) (by decide) (by decide) 0 0 (Or.inr (by kernel_rfl))⟩
  rw [headOK_iff]
  exact ⟨⟨by show (0 : Int) ≤ 6; decide, by show (6 : Int) ≤ 6; decide⟩, Or.inr (by kernel_rfl), Or.inr (by rw [ByteArray.toList_eq]; rfl), Or.inl (by show (5 : Int) ≤ 6; decide), Or.inr rfl, Or.inl rfl, by kernel_rfl, hk⟩
theorem right_head : rightV 3 headV = true := by
  have hk : okK (sortK ([] : List ByteArray)) = true := by simp [sortK, okK]
  show (headOK headV && [numV 4607182418800017408, inV].all (fun x => rightV 2 x)) = true
  rw [Bool.and_eq_true]
  refine ⟨?_, by
    rw [List.all_cons, List.all_cons, List.all_nil, Bool.and_true, right_in, Bool.and_true]
    exact right_leaf 3 (by decide) (by decide) (by decide) 1 4607182418800017408 (Or.inl rfl)⟩
  rw [headOK_iff]
  exact ⟨⟨by show (0 : Int) ≤ 5; decide, by show (5 : Int) ≤ 6; decide⟩, Or.inr (by kernel_rfl), Or.inr (by rw [ByteArray.toList_eq]; rfl), Or.inl (by show (5 : Int) ≤ 5; decide), Or.inl (by show (5 : Int) ≠ 6; decide), Or.inr rfl, by kernel_rfl, hk⟩
theorem caps_two (g : Nat) (n : Nat) (hn : n ≤ 2) : Caps (.slice (some ⟨g, 0, none⟩) n n) := fun A k c e => by cases e; exact ⟨Nat.le_refl _, by unfold maxLen; omega, fun e => by cases e⟩
set_option maxHeartbeats 1000000 in
theorem head_at {W : World} {ng g1 gk : Nat} (hg : W.heap[ng]? = some (.cells #[.int .i64 3, .float .f64 4607182418800017408, .string ⟨#[]⟩, .slice none 0 0, .slice none 0 0, .int .i64 6, .float .f64 0, .string ⟨#[]⟩, .slice (some ⟨g1, 0, none⟩) 1 1, .slice (some ⟨gk, 0, none⟩) 1 1] 27 (0, 0)))
    (h1 : W.heap[g1]? = some (.cells #[.int .i64 5, .float .f64 0, .string ⟨#[]⟩, .slice none 0 0, .slice none 0 0] 27 (0, 0)))
    (hk : W.heap[gk]? = some (.cells #[.string ⟨#[97]⟩] 9 (0, 0))) : At W W.heap.size 3 headV (.slice (some ⟨ng, 0, none⟩) 2 2) nilS := by
  have l1 := (Array.getElem?_eq_some_iff.1 hg).1
  have l2 := (Array.getElem?_eq_some_iff.1 h1).1
  have l3 := (Array.getElem?_eq_some_iff.1 hk).1
  have hc : ∀ j u, (#[Value.int .i64 3, .float .f64 4607182418800017408, .string ⟨#[]⟩, .slice none 0 0, .slice none 0 0, .int .i64 6, .float .f64 0, .string ⟨#[]⟩, .slice (some ⟨g1, 0, none⟩) 1 1, .slice (some ⟨gk, 0, none⟩) 1 1])[j]? = some u → W.cell? ⟨ng, j, none⟩ = some u := fun j u h => by rw [cell_of_row W ng j _ _ _ hg]; exact h
  obtain ⟨c0, c1, c2, c3, c4, _⟩ := row5 h1
  have hin : At W W.heap.size 2 inV (.slice (some ⟨g1, 0, none⟩) 1 1) (.slice (some ⟨gk, 0, none⟩) 1 1) := by
    refine ⟨⟨by show (_ : Int) ≤ 6; decide, by show (6 : Int) ≤ _; decide, by show (0 : Nat) < _; decide, by show (0 : Nat) ≤ _; decide, by show (1 : Nat) ≤ _; decide, by show (1 : Nat) ≤ _; decide, by show (1 : Nat) ≤ _; decide⟩, ⟨⟨some ⟨gk, 0, none⟩, 1, rfl, fun _ => ⟨⟨gk, 0, none⟩, rfl, l3, fun j u hu => ?_⟩⟩, caps_two gk 1 (by decide)⟩, caps_two g1 1 (by decide), some ⟨g1, 0, none⟩, 1, g1, 0, rfl, fun _ => ⟨rfl, l2⟩, fun i hi => ?_⟩
    · have hj : j = 0 := by
        have := (List.getElem?_eq_some_iff.1 hu).1
        have : j < 1 := this
        omega
      subst hj
      have hu : some (Value.string ⟨#[97]⟩) = some u := hu
      cases hu
      show W.cell? ⟨gk, 0, none⟩ = _
      rw [cell_of_row W gk 0 _ _ _ hk]; rfl
    · have hi0 : i = 0 := by
        have : i < 1 := hi
        omega
      subst hi0
      exact ⟨.slice none 0 0, .slice none 0 0, ⟨c0, c1, c2, c3, c4⟩, leaf_at W W.heap.size 0 5 0 ⟨#[]⟩ (by decide) (by decide) (by decide)⟩
  refine ⟨⟨by show (_ : Int) ≤ 5; decide, by show (5 : Int) ≤ _; decide, by show (0 : Nat) < _; decide, by show (0 : Nat) ≤ _; decide, by show (2 : Nat) ≤ _; decide, by show (0 : Nat) ≤ _; decide, by show (0 : Nat) ≤ _; decide⟩, ⟨⟨none, 0, rfl, fun h => absurd h (by decide)⟩, caps_nil⟩, caps_two ng 2 (by decide), some ⟨ng, 0, none⟩, 2, ng, 0, rfl, fun _ => ⟨rfl, l1⟩, fun i hi => ?_⟩
  have hi2 : i = 0 ∨ i = 1 := by
    have : i < 2 := hi
    omega
  rcases hi2 with rfl | rfl
  · exact ⟨.slice none 0 0, .slice none 0 0, ⟨hc 0 _ rfl, hc 1 _ rfl, hc 2 _ rfl, hc 3 _ rfl, hc 4 _ rfl⟩, leaf_at W W.heap.size 1 3 4607182418800017408 ⟨#[]⟩ (by decide) (by decide) (by decide)⟩
  · exact ⟨_, _, ⟨hc 5 _ rfl, hc 6 _ rfl, hc 7 _ rfl, hc 8 _ rfl, hc 9 _ rfl⟩, hin⟩
theorem head_print1 (ng : Nat) (W : World) (hN : NumW W) (hat : At W W.heap.size 3 headV (.slice (some ⟨ng, 0, none⟩) 2 2) nilS) :
    Calls Tryz.prog 10 #[.agg #[.int .i64 5, .float .f64 0, .string ⟨#[]⟩, .slice (some ⟨ng, 0, none⟩) 2 2, .slice none 0 0], .agg #[.int .i64 2, .bool false, .bool false, .bool false, .bool false]] W fun e w' =>
      e = .returned (.tuple #[.string ⟨#[91, 10, 32, 32, 49, 44, 10, 32, 32, 123, 10, 32, 32, 32, 32, 34, 97, 34, 58, 32, 91, 93, 10, 32, 32, 125, 10, 93]⟩, .int .i64 0]) ∧ Below W.heap.size W w' := by
  have h := Print_any y1 (order_F y1 rfl) (by decide) (by decide) 3 (by decide) headV 3 _ _ W hN hat right_head
  rw [out1] at h
  exact h
theorem head_print2 (W : World) (hN : NumW W) :
    Calls Tryz.prog 10 #[.agg #[.int .i64 0, .float .f64 0, .string ⟨#[]⟩, .slice none 0 0, .slice none 0 0], .agg #[.int .i64 0, .bool false, .bool false, .bool false, .bool true]] W fun e w' =>
      e = .returned (.tuple #[.string ⟨#[27, 91, 49, 59, 51, 48, 109, 110, 117, 108, 108, 27, 91, 48, 109]⟩, .int .i64 0]) ∧ Below W.heap.size W w' := by
  have h := Print_any y2 (order_F y2 rfl) (by decide) (by decide) 1 (by decide) (leafV 0 0 ⟨#[]⟩) 1 nilS nilS W hN (leaf_at W W.heap.size 0 0 0 ⟨#[]⟩ (by decide) (by decide) (by decide)) (right_leaf 0 (by decide) (by decide) (by decide) 0 0 (Or.inr (by kernel_rfl)))
  rw [out2] at h
  exact h
theorem head_print3 (ng : Nat) (W : World) :
    Calls Tryz.prog 10 #[.agg #[.int .i64 5, .float .f64 0, .string ⟨#[]⟩, .slice (some ⟨ng, 0, none⟩) 2 2, .slice none 0 0], .agg #[.int .i64 8, .bool false, .bool false, .bool false, .bool false]] W fun e w' =>
      e = .returned (.tuple #[.string ⟨#[]⟩, .int .i64 2]) ∧ Below W.heap.size W w' :=
  Print_bad y3 (by decide) (Or.inr (by decide)) 5 0 ⟨#[]⟩ _ _ W
theorem head_escape (W : World) (hN : NumW W) :
    Calls Tryz.prog 14 #[.string ⟨#[240, 159, 152, 128]⟩, .bool true] W fun e w' => e = .returned (.string ⟨#[34, 92, 117, 100, 56, 51, 100, 92, 117, 100, 101, 48, 48, 34]⟩) ∧ Below W.heap.size W w' := by
  have h := Escape_any ⟨#[240, 159, 152, 128]⟩ true (by decide) good1 W hN
  rw [esc1] at h
  exact h
theorem head_colour (ng : Nat) (W : World) :
    Calls Tryz.prog 16 #[.agg #[.int .i64 5, .float .f64 0, .string ⟨#[]⟩, .slice (some ⟨ng, 0, none⟩) 2 2, .slice none 0 0]] W fun e w' => e = .returned (.string ⟨#[49, 59, 51, 57]⟩) ∧ Below W.heap.size W w' :=
  Colour_any 5 (by decide) (by decide) _ _ _ _ W
end Go.Proofs.YtjhghhjnccjhmaaGreatDoor
