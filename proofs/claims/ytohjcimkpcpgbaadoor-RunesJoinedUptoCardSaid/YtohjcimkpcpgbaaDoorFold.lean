/- What a loop over the places makes of them: the parts between them, the numbers of the pieces that begin there; in plain Lean. -/
import Derived.Test.YtohjcimkpcpgbaaDoorRefF
import Derived.Test.YtohjcimkpcpgbaaDoorOcc
namespace Go.Proofs.YtohjcimkpcpgbaaDoor
open Go Go.RowKit Go.WideShapes

/-- One place more, while parts are cut. -/
def cutStep (s p : ByteArray) (z : Nat × List ByteArray) (x : Nat) : Nat × List ByteArray := if x < z.1 then z else (x + p.size, z.2 ++ [s.extract z.1 x])
/-- The parts from a place on. -/
def runC (s p : ByteArray) : List Nat → Nat → List ByteArray
  | [], a => [s.extract a s.size]
  | x :: r, a => if x < a then runC s p r a else s.extract a x :: runC s p r (x + p.size)
theorem cut_run (s p : ByteArray) : ∀ (l : List Nat) (z : Nat × List ByteArray), (l.foldl (cutStep s p) z).2 ++ [s.extract (l.foldl (cutStep s p) z).1 s.size] = z.2 ++ runC s p l z.1
  | [], z => rfl
  | x :: r, z => by
    rw [List.foldl_cons, cut_run s p r]
    unfold cutStep
    by_cases h : x < z.1
    · rw [if_pos h]; show _ = z.2 ++ (if x < z.1 then _ else _); rw [if_pos h]
    · rw [if_neg h]; show _ = z.2 ++ (if x < z.1 then _ else _); rw [if_neg h]; simp
/-- The places from one on. -/
def occF (s p : ByteArray) (i : Nat) : List Nat := (List.range' i (s.size + 1 - p.size - i)).filter fun k => stands s k p
theorem occF_cons {s p : ByteArray} {i : Nat} (h : i + p.size ≤ s.size) : occF s p i = if stands s i p then i :: occF s p (i + 1) else occF s p (i + 1) := by
  unfold occF
  obtain ⟨f, hf⟩ : ∃ f, s.size + 1 - p.size - i = f + 1 := ⟨s.size + 1 - p.size - i - 1, by omega⟩
  rw [hf, List.range'_succ, show s.size + 1 - p.size - (i + 1) = f from by omega, List.filter_cons]
theorem occF_nil {s p : ByteArray} {i : Nat} (h : ¬ i + p.size ≤ s.size) : occF s p i = [] := by unfold occF; rw [show s.size + 1 - p.size - i = 0 from by omega]; rfl
theorem occF_zero (s p : ByteArray) : occF s p 0 = occE s p s.size := by unfold occF occE; rw [List.range_eq_range', Nat.sub_zero]
theorem no_stand {s p : ByteArray} {i : Nat} (hi : ¬ i + p.size ≤ s.size) (hi2 : i ≤ s.size) : stands s i p = false := by
  cases h : stands s i p
  · rfl
  · have := stands_le h; omega
theorem runC_sp (s p : ByteArray) (hp : 0 < p.size) : ∀ (k i a : Nat), s.size - i ≤ k → a ≤ s.size → i ≤ s.size → runC s p (occF s p i) a = sp s p a (max a i) := by
  intro k
  induction k with
  | zero =>
    intro i a h1 h2 h3
    rw [occF_nil (by omega), show max a i = s.size from by omega, sp_end (by omega)]
    rfl
  | succ k ih =>
    intro i a h1 h2 h3
    by_cases hi : i < s.size
    · by_cases hf : i + p.size ≤ s.size
      · rw [occF_cons hf]
        cases hst : stands s i p
        · rw [if_neg (by simp), ih (i + 1) a (by omega) h2 (by omega)]
          by_cases hia : i < a
          · rw [show max a (i + 1) = max a i from by omega]
          · rw [show max a i = i from by omega, show max a (i + 1) = i + 1 from by omega, sp_miss hp hi hst]
        · rw [if_pos rfl]
          show (if i < a then _ else _) = _
          by_cases hia : i < a
          · rw [if_pos hia, ih (i + 1) a (by omega) h2 (by omega), show max a (i + 1) = max a i from by omega]
          · rw [if_neg hia, ih (i + 1) (i + p.size) (by omega) hf (by omega), show max a i = i from by omega, show max (i + p.size) (i + 1) = i + p.size from by omega, sp_hit hp hi hst]
      · have h4 := ih (i + 1) a (by omega) h2 (by omega)
        rw [occF_nil (by omega)] at h4
        rw [occF_nil hf, h4]
        by_cases hia : i < a
        · rw [show max a (i + 1) = max a i from by omega]
        · rw [show max a i = i from by omega, show max a (i + 1) = i + 1 from by omega, sp_miss hp hi (no_stand hf h3)]
    · rw [occF_nil (by omega), show max a i = s.size from by omega, sp_end (by omega)]
      rfl
/-- THE PARTS: what the loop has, and the rest, are what Split gives. -/
theorem cut_all (s p : ByteArray) (hp : 0 < p.size) : ((occE s p s.size).foldl (cutStep s p) (0, [])).2 ++ [s.extract ((occE s p s.size).foldl (cutStep s p) (0, [])).1 s.size] = sp s p 0 0 := by
  rw [cut_run, ← occF_zero, runC_sp s p hp _ 0 0 (Nat.le_refl _) (Nat.zero_le _) (Nat.zero_le _)]
  rfl
theorem cut_le (s p : ByteArray) : ∀ (l : List Nat) (z : Nat × List ByteArray), (∀ x ∈ l, x + p.size ≤ s.size) → z.1 ≤ s.size → (l.foldl (cutStep s p) z).1 ≤ s.size
  | [], z, _, h => h
  | x :: r, z, hl, h => by
    rw [List.foldl_cons]
    refine cut_le s p r _ (fun y hy => hl y (List.mem_cons_of_mem _ hy)) ?_
    unfold cutStep
    split
    · exact h
    · exact hl x (List.mem_cons_self ..)
theorem cut_len (s p : ByteArray) : ∀ (l : List Nat) (z : Nat × List ByteArray), (l.foldl (cutStep s p) z).2.length ≤ z.2.length + l.length
  | [], z => by simp
  | x :: r, z => by
    rw [List.foldl_cons]
    have := cut_len s p r (cutStep s p z x)
    have h2 : (cutStep s p z x).2.length ≤ z.2.length + 1 := by
      unfold cutStep
      split
      · omega
      · simp
    rw [List.length_cons]
    omega
end Go.Proofs.YtohjcimkpcpgbaaDoor
