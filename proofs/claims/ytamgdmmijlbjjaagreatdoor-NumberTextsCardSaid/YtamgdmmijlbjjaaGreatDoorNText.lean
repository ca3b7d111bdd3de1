/- The parts of a double's text: digits, where it is cut, what its exponent reads as. Plain Lean. -/
import Derived.Test.YtamgdmmijlbjjaaGreatDoorNIntW
import Derived.Lib.Replace
import Derived.Lib.Atoi
namespace Go.Proofs.YtamgdmmijlbjjaaGreatDoor
open Go Go.RowKit

theorem dec_digit (d : Nat) : ∀ x ∈ Lib.decDigits d, 48 ≤ x.toNat ∧ x.toNat ≤ 57 := by
  induction d using Nat.strongRecOn with
  | _ d ih =>
    have hd : ∀ k : Nat, k < 10 → 48 ≤ (UInt8.ofNat (48 + k)).toNat ∧ (UInt8.ofNat (48 + k)).toNat ≤ 57 := by
      intro k hk
      rw [UInt8.toNat_ofNat']
      omega
    by_cases h10 : d < 10
    · have e : Lib.decDigits d = [UInt8.ofNat (48 + d)] := by rw [Lib.decDigits, dif_pos h10]
      rw [e]
      intro x hx
      rw [List.mem_singleton] at hx
      rw [hx]
      exact hd d h10
    · have e : Lib.decDigits d = Lib.decDigits (d / 10) ++ [UInt8.ofNat (48 + d % 10)] := by rw [Lib.decDigits, dif_neg h10]
      rw [e]
      intro x hx
      rcases List.mem_append.1 hx with h | h
      · exact ih (d / 10) (by omega) x h
      · rw [List.mem_singleton] at h
        rw [h]
        exact hd _ (Nat.mod_lt _ (by omega))
theorem drop_head (l : List UInt8) : l.dropWhile (· == 48) = [] ∨ ∃ c r, l.dropWhile (· == 48) = c :: r ∧ c ≠ 48 := by
  induction l with
  | nil => exact .inl rfl
  | cons a t ih =>
    by_cases h : a = 48
    · subst h
      exact ih
    · refine .inr ⟨a, t, ?_, h⟩
      rw [List.dropWhile_cons]
      rw [if_neg (by simpa using h)]
theorem strip_last (l : List UInt8) (h : 1 ≤ stripN l) : ∃ p c, l.take (stripN l) = p ++ [c] ∧ c ≠ 48 := by
  have hs : (l.reverse.dropWhile (· == 48)).reverse <+: l := by
    have := (List.dropWhile_suffix (l := l.reverse) (· == 48))
    have h2 := List.reverse_prefix.2 this
    rwa [List.reverse_reverse] at h2
  have ht : l.take (stripN l) = (l.reverse.dropWhile (· == 48)).reverse := by
    have := List.prefix_iff_eq_take.1 hs
    rw [List.length_reverse] at this
    exact this.symm
  rw [ht]
  rcases drop_head l.reverse with h0 | ⟨c, r, e, hc⟩
  · unfold stripN at h
    rw [h0] at h
    exact absurd h (by simp)
  · rw [e]
    exact ⟨r.reverse, c, by simp, hc⟩
theorem cut_one (pre post : List UInt8) (c : UInt8) (h : c ∉ pre) : Lib.index (pre ++ c :: post) [c] = (pre.length : Int) ∧ Lib.cut (pre ++ c :: post) [c] = (pre, post, true) := by
  have hi : Lib.index (pre ++ c :: post) [c] = (pre.length : Int) := by
    refine Lib.index_first (by simp) ?_ ?_
    · unfold Lib.occAt
      rw [List.drop_left]
      simp
    · intro j hj
      unfold Lib.occAt
      have e : (pre ++ c :: post).drop j = pre[j] :: ((pre ++ c :: post).drop (j + 1)) := by
        rw [List.drop_eq_getElem_cons (by simp; omega), List.getElem_append_left hj]
      rw [e]
      have hne : c ≠ pre[j] := fun e => h (by rw [e]; exact List.getElem_mem hj)
      show ((c == pre[j]) && _) = false
      rw [beq_eq_false_iff_ne.2 hne, Bool.false_and]
  refine ⟨hi, ?_⟩
  unfold Lib.cut
  rw [hi, if_pos (by omega), Int.toNat_natCast, List.take_left, List.length_singleton, ← List.drop_drop, List.drop_left]
  rfl
theorem index_absent (l : List UInt8) (c : UInt8) (h : c ∉ l) : Lib.index l [c] = -1 := by
  refine Lib.index_none fun j hj => ?_
  unfold Lib.occAt
  rcases Nat.lt_or_ge j l.length with hl | hl
  · have e : l.drop j = l[j] :: l.drop (j + 1) := List.drop_eq_getElem_cons hl
    rw [e]
    have hne : c ≠ l[j] := fun e => h (by rw [e]; exact List.getElem_mem hl)
    show ((c == l[j]) && _) = false
    rw [beq_eq_false_iff_ne.2 hne, Bool.false_and]
  · rw [List.drop_of_length_le hl]
    rfl
/-- A point behind the first digit, taken out. -/
theorem point_out (l : List UInt8) (h1 : 1 ≤ l.length) (h : (46 : UInt8) ∉ l) : Lib.replace (l.take 1 ++ (if l.length ≤ 1 then [] else 46 :: l.drop 1)) [46] [] 1 = l := by
  unfold Lib.replace
  rw [if_neg (by decide)]
  obtain ⟨a, t, rfl⟩ : ∃ a t, l = a :: t := by
    cases l with
    | nil => simp at h1
    | cons a t => exact ⟨a, t, rfl⟩
  by_cases hl : (a :: t).length ≤ 1
  · obtain rfl : t = [] := by cases t with
      | nil => rfl
      | cons b u => simp at hl
    rw [if_pos hl]
    have ha : Lib.index [a] [46] = -1 := index_absent [a] 46 h
    have hc : Lib.count [a] [46] = 0 := by
      unfold Lib.count
      simp [Lib.countFrom, ha]
    simp only [List.take_succ_cons, List.take_zero, List.append_nil]
    unfold Lib.replaceNum
    rw [hc, if_pos (.inr (by omega))]
    rfl
  · rw [if_neg hl]
    have ha : (46 : UInt8) ∉ [a] := by
      intro hm
      exact h (by rw [List.mem_singleton] at hm; rw [hm]; exact List.mem_cons_self)
    have hi := (cut_one [a] t 46 ha).1
    have e : (a :: t).take 1 ++ 46 :: (a :: t).drop 1 = [a] ++ 46 :: t := rfl
    rw [e]
    have hc : 1 ≤ Lib.count ([a] ++ 46 :: t) [46] := by
      unfold Lib.count
      rw [Lib.countFrom, hi]
      rw [if_neg (by simp)]
      omega
    unfold Lib.replaceNum
    rw [if_neg (by omega)]
    have e1 : (1 : Int).toNat = 0 + 1 := rfl
    rw [e1, Lib.replaceK_hit _ _ _ _ 1 hi]
    rfl
theorem exp_plus : ∀ k : Fin 500, Lib.atoi (43 :: expD k.val) = some (k.val : Int) := by decide +kernel
theorem exp_minus : ∀ k : Fin 500, Lib.atoi (45 :: expD k.val) = some (-(k.val : Int)) := by decide +kernel
theorem exp_len : ∀ k : Fin 500, (expD k.val).length ≤ 3 := by decide +kernel
theorem exp_reads (x : Int) (h1 : -400 ≤ x) (h2 : x ≤ 400) : Lib.atoi ((if x < 0 then [45] else [43]) ++ expD x.natAbs) = some x ∧ ((if x < 0 then [45] else [43]) ++ expD x.natAbs).length ≤ 4 := by
  have hl := exp_len ⟨x.natAbs, by omega⟩
  simp only at hl
  by_cases h : x < 0
  · rw [if_pos h]
    have := exp_minus ⟨x.natAbs, by omega⟩
    simp only at this
    refine ⟨?_, by simp; omega⟩
    show Lib.atoi (45 :: expD x.natAbs) = some x
    rw [this]
    congr 1
    omega
  · rw [if_neg h]
    have := exp_plus ⟨x.natAbs, by omega⟩
    simp only at this
    refine ⟨?_, by simp; omega⟩
    show Lib.atoi (43 :: expD x.natAbs) = some x
    rw [this]
    congr 1
    omega
end Go.Proofs.YtamgdmmijlbjjaaGreatDoor
