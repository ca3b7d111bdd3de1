/- What a loop over the places makes of them: the numbers of the pieces that begin there; in plain Lean. -/
import Derived.Test.YtohjcimkpcpgbaaDoorFold
import Derived.Test.YtohjcimkpcpgbaaDoorPieces
namespace Go.Proofs.YtohjcimkpcpgbaaDoor
open Go Go.RowKit Go.WideShapes

/-- How many pieces begin below a place. -/
def cnt (s : ByteArray) : Nat → Nat
  | 0 => 0
  | m + 1 => if atP s (cnt s m) = m then cnt s m + 1 else cnt s m
theorem atP_up (s : ByteArray) {i j : Nat} (h : i ≤ j) : atP s i ≤ atP s j := by
  by_cases hj : j < (st s 0).length
  · by_cases e : i = j
    · rw [e]; exact Nat.le_refl _
    · exact Nat.le_of_lt (atP_strict s (by omega) hj)
  · rw [atP_end (by omega : (st s 0).length ≤ j)]
    exact atP_le s i
theorem cnt_inv (s : ByteArray) : ∀ m, m ≤ s.size → (∀ k, k < cnt s m → atP s k < m) ∧ m ≤ atP s (cnt s m)
  | 0, _ => ⟨fun k hk => absurd hk (Nat.not_lt_zero k), Nat.zero_le _⟩
  | m + 1, hm => by
    obtain ⟨h1, h2⟩ := cnt_inv s m (by omega)
    have he : cnt s (m + 1) = if atP s (cnt s m) = m then cnt s m + 1 else cnt s m := rfl
    by_cases h : atP s (cnt s m) = m
    · rw [he, if_pos h]
      refine ⟨fun k hk => ?_, ?_⟩
      · have := atP_up s (show k ≤ cnt s m by omega)
        omega
      · by_cases hn : cnt s m + 1 < (st s 0).length
        · have := atP_strict s (show cnt s m < cnt s m + 1 by omega) hn
          omega
        · rw [atP_end (by omega : (st s 0).length ≤ cnt s m + 1)]
          exact hm
    · rw [he, if_neg h]
      exact ⟨fun k hk => Nat.lt_succ_of_lt (h1 k hk), by omega⟩
theorem cnt_iff {s : ByteArray} {x k : Nat} (hx : x ≤ s.size) : atP s k < x ↔ k < cnt s x := by
  obtain ⟨h1, h2⟩ := cnt_inv s x hx
  refine ⟨fun h => ?_, h1 k⟩
  by_cases hk : k < cnt s x
  · exact hk
  · have := atP_up s (show cnt s x ≤ k by omega)
    omega
theorem cnt_le_n {s : ByteArray} {x : Nat} (hx : x ≤ s.size) : cnt s x ≤ (st s 0).length := by
  by_cases h : cnt s x ≤ (st s 0).length
  · exact h
  · have := (cnt_iff hx).2 (show (st s 0).length < cnt s x by omega)
    rw [atP_end (Nat.le_refl _)] at this
    omega
theorem cnt_mono (s : ByteArray) {x y : Nat} (h : x ≤ y) : cnt s x ≤ cnt s y := by
  induction h with
  | refl => exact Nat.le_refl _
  | @step m _ ih =>
    refine Nat.le_trans ih ?_
    show cnt s m ≤ if atP s (cnt s m) = m then cnt s m + 1 else cnt s m
    split
    · exact Nat.le_succ _
    · exact Nat.le_refl _
/-- One place more, while pieces are counted. -/
def locStep (s : ByteArray) (z : Nat × List Nat) (x : Nat) : Nat × List Nat := (max z.1 (cnt s x), if atP s (max z.1 (cnt s x)) = x then z.2 ++ [max z.1 (cnt s x)] else z.2)
/-- The piece that begins at a place. -/
def locOf (s : ByteArray) (x : Nat) : Option Nat := if atP s (cnt s x) = x then some (cnt s x) else none
theorem loc_fold (s : ByteArray) : ∀ (l : List Nat) (z : Nat × List Nat), l.Pairwise (· ≤ ·) → (∀ x ∈ l, z.1 ≤ cnt s x) → (l.foldl (locStep s) z).2 = z.2 ++ l.filterMap (locOf s)
  | [], z, _, _ => by simp
  | x :: r, z, hp, hz => by
    have h1 := hz x (List.mem_cons_self ..)
    have hm : max z.1 (cnt s x) = cnt s x := by omega
    rw [List.foldl_cons, loc_fold s r _ (List.pairwise_cons.1 hp).2 (fun y hy => by
      show max z.1 (cnt s x) ≤ _
      rw [hm]
      exact cnt_mono s ((List.pairwise_cons.1 hp).1 y hy))]
    rw [List.filterMap_cons]
    unfold locStep locOf
    simp only [hm]
    by_cases he : atP s (cnt s x) = x
    · simp [he]
    · simp [he]
theorem loc_range (s p : ByteArray) : ∀ m, m ≤ s.size → ((List.range m).filter fun k => stands s k p).filterMap (locOf s) = findTo s p (cnt s m)
  | 0, _ => rfl
  | m + 1, hm => by
    rw [List.range_succ, List.filter_append, List.filterMap_append, loc_range s p m (by omega)]
    have he : cnt s (m + 1) = if atP s (cnt s m) = m then cnt s m + 1 else cnt s m := rfl
    by_cases h : atP s (cnt s m) = m
    · rw [he, if_pos h]
      cases hs : stands s m p
      · rw [findTo_no (by rw [h]; exact hs)]
        simp [hs]
      · rw [findTo_yes (by rw [h]; exact hs)]
        simp [hs, locOf, h]
    · rw [he, if_neg h]
      cases hs : stands s m p
      · simp [hs]
      · simp [hs, locOf, h]
theorem findTo_tail (s p : ByteArray) (a : Nat) : ∀ d, (∀ k, a ≤ k → stands s (atP s k) p = false) → findTo s p (a + d) = findTo s p a
  | 0, _ => rfl
  | d + 1, h => by rw [← Nat.add_assoc, findTo_no (h _ (by omega)), findTo_tail s p a d h]
theorem loc_all (s p : ByteArray) (hp : 0 < p.size) : ((occE s p s.size).foldl (locStep s) (0, [])).2 = findS s p := by
  rw [findS_all (by omega)]
  have hm : s.size + 1 - p.size ≤ s.size := by omega
  rw [loc_fold s _ _ ?_ (fun x _ => Nat.zero_le _)]
  · unfold occE
    rw [loc_range s p _ hm, List.nil_append]
    have hle := cnt_le_n hm
    obtain ⟨d, hd⟩ : ∃ d, (st s 0).length = cnt s (s.size + 1 - p.size) + d := ⟨(st s 0).length - cnt s (s.size + 1 - p.size), by omega⟩
    rw [hd, findTo_tail s p _ d]
    intro k hk
    refine no_stand (fun h => ?_) (atP_le s k)
    have := (cnt_iff hm (k := k)).1 (by omega)
    omega
  · unfold occE
    exact ((List.pairwise_lt_range).imp (fun h => Nat.le_of_lt h)).filter _
theorem loc_len (s : ByteArray) : ∀ (l : List Nat) (z : Nat × List Nat), (l.foldl (locStep s) z).2.length ≤ z.2.length + l.length
  | [], z => Nat.le_refl _
  | x :: r, z => by
    rw [List.foldl_cons]
    refine Nat.le_trans (loc_len s r _) ?_
    rw [List.length_cons]
    unfold locStep
    simp only
    split
    · simp; omega
    · omega
theorem loc_le (s : ByteArray) : ∀ (l : List Nat) (z : Nat × List Nat), (∀ x ∈ l, x ≤ s.size) → z.1 ≤ (st s 0).length → (l.foldl (locStep s) z).1 ≤ (st s 0).length
  | [], z, _, h => h
  | x :: r, z, hl, h => by
    rw [List.foldl_cons]
    refine loc_le s r _ (fun y hy => hl y (List.mem_cons_of_mem _ hy)) ?_
    have := cnt_le_n (hl x (List.mem_cons_self ..))
    show max z.1 (cnt s x) ≤ _
    omega
end Go.Proofs.YtohjcimkpcpgbaaDoor
