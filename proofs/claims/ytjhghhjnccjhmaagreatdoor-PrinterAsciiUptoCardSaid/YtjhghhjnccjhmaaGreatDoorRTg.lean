/- A text without what stands between tokens: plain. -/
import Derived.Test.YtjhghhjnccjhmaaGreatDoorRPlain
import Derived.Test.YtjhghhjnccjhmaaGreatDoorRVal
namespace Go.Proofs.YtjhghhjnccjhmaaGreatDoor
open Go Go.RowKit

def blankB (c : UInt8) : Bool := decide (c = 32 ∨ c = 10 ∨ c = 9)
/-- What 'tight' keeps: within a string or not. -/
def tg : Bool → List UInt8 → List UInt8
  | _, [] => []
  | true, [92] => [92]
  | true, 92 :: d :: r => 92 :: d :: tg true r
  | i, c :: r => (if (if c = 34 then !i else i) || !blankB c then [c] else []) ++ tg (if c = 34 then !i else i) r
theorem tg_nil (i : Bool) : tg i [] = [] := by unfold tg; rfl
theorem tg_one : tg true [92] = [92] := by unfold tg; rfl
theorem tg_two (d : UInt8) (r : List UInt8) : tg true (92 :: d :: r) = 92 :: d :: tg true r := by
  rw [tg]
theorem tg_out (c : UInt8) (r : List UInt8) : tg false (c :: r) = (if (if c = 34 then true else false) || !blankB c then [c] else []) ++ tg (if c = 34 then true else false) r := by
  rw [tg]
  · rfl
  · intro h; cases h
  · intro d r h; cases h
theorem tg_in (c : UInt8) (r : List UInt8) (h : c ≠ 92) : tg true (c :: r) = (if (if c = 34 then false else true) || !blankB c then [c] else []) ++ tg (if c = 34 then false else true) r := by
  rw [tg]
  · rfl
  · intro _ e; first | exact h e | (intro _; exact h e)
  · intro d r _ e; first | exact h e | (intro _; exact h e)
/-- A piece that is gone through from outside a string to outside one. -/
def Closed (T U : List UInt8) : Prop := ∀ r, tg false (T ++ r) = U ++ tg false r
theorem Closed.nil : Closed [] [] := fun _ => rfl
theorem Closed.append {T U T' U' : List UInt8} (h : Closed T U) (k : Closed T' U') : Closed (T ++ T') (U ++ U') := fun r => by rw [List.append_assoc, h, k, List.append_assoc]
theorem Closed.one {c : UInt8} (h1 : c ≠ 34) (h2 : blankB c = false) : Closed [c] [c] := fun r => by
  show tg false (c :: r) = _
  rw [tg_out, if_neg h1, h2]
  rfl
theorem Closed.blank {c : UInt8} (h1 : c ≠ 34) (h2 : blankB c = true) : Closed [c] [] := fun r => by
  show tg false (c :: r) = _
  rw [tg_out, if_neg h1, h2]
  rfl
theorem Closed.same : ∀ {T : List UInt8}, (∀ c ∈ T, c ≠ 34 ∧ blankB c = false) → Closed T T
  | [], _ => Closed.nil
  | c :: T, h => by
    have h1 := h c (by simp)
    exact (Closed.one h1.1 h1.2).append (Closed.same (fun d hd => h d (by simp [hd])))
theorem Closed.blanks : ∀ {T : List UInt8}, (∀ c ∈ T, c ≠ 34 ∧ blankB c = true) → Closed T []
  | [], _ => Closed.nil
  | c :: T, h => by
    have h1 := h c (by simp)
    exact (Closed.blank h1.1 h1.2).append (Closed.blanks (fun d hd => h d (by simp [hd])))
/-- A piece within a string that stays there and is kept. -/
def Kept (T : List UInt8) : Prop := ∀ r, tg true (T ++ r) = T ++ tg true r
theorem Kept.nil : Kept [] := fun _ => rfl
theorem Kept.append {T U : List UInt8} (h : Kept T) (k : Kept U) : Kept (T ++ U) := fun r => by rw [List.append_assoc, h, k, List.append_assoc]
theorem Kept.one {c : UInt8} (h1 : c ≠ 34) (h2 : c ≠ 92) : Kept [c] := fun r => by
  show tg true (c :: r) = _
  rw [tg_in c r h2, if_neg h1]
  rfl
theorem Kept.two (d : UInt8) : Kept [92, d] := fun r => by
  show tg true (92 :: d :: r) = _
  rw [tg_two]
  rfl
theorem Kept.same : ∀ {T : List UInt8}, (∀ c ∈ T, c ≠ 34 ∧ c ≠ 92) → Kept T
  | [], _ => Kept.nil
  | c :: T, h => by
    have h1 := h c (by simp)
    exact (Kept.one h1.1 h1.2).append (Kept.same (fun d hd => h d (by simp [hd])))
theorem hex_kept : ∀ n : Fin 16, hexC n.val ≠ 34 ∧ hexC n.val ≠ 92 := by decide +kernel
theorem low_kept : ∀ n : Fin 128, n.val.toUInt8 ≠ 34 ∧ n.val.toUInt8 ≠ 92 ∨ n.val = 34 ∨ n.val = 92 := by decide +kernel
theorem escR_kept (p : Nat) (h2 : p ≤ 1114111) (h3 : p < 55296 ∨ 57343 < p) : Kept (escR (p : Int)) := by
  unfold escR
  by_cases h34 : (p : Int) = 34 ∨ (p : Int) = 92
  · rw [if_pos h34]; exact Kept.two _
  rw [if_neg h34]
  by_cases h8 : (p : Int) = 8
  · rw [if_pos h8]; exact Kept.two _
  rw [if_neg h8]
  by_cases h12 : (p : Int) = 12
  · rw [if_pos h12]; exact Kept.two _
  rw [if_neg h12]
  by_cases h10 : (p : Int) = 10
  · rw [if_pos h10]; exact Kept.two _
  rw [if_neg h10]
  by_cases h13 : (p : Int) = 13
  · rw [if_pos h13]; exact Kept.two _
  rw [if_neg h13]
  by_cases h9 : (p : Int) = 9
  · rw [if_pos h9]; exact Kept.two _
  rw [if_neg h9]
  by_cases hc : 32 ≤ (p : Int) ∧ (p : Int) ≠ 127
  · rw [if_pos hc]
    by_cases hl : p < 128
    · rw [enc_low p hl]
      have := low_kept ⟨p, hl⟩
      exact Kept.one (by rcases this with h | h | h; exact h.1; all_goals (simp at h; omega)) (by rcases this with h | h | h; exact h.2; all_goals (simp at h; omega))
    · refine Kept.same (fun c hcm => ?_)
      have := enc_high p (by omega) h2 h3 c hcm
      exact ⟨fun e => by rw [e] at this; exact absurd this (by decide), fun e => by rw [e] at this; exact absurd this (by decide)⟩
  · rw [if_neg hc]
    have hp : p < 128 := by omega
    have e1 : ((p : Int).toNat) = p := by simp
    rw [e1]
    have k1 := hex_kept ⟨p / 16 % 16, Nat.mod_lt _ (by decide)⟩
    have k2 := hex_kept ⟨p % 16, Nat.mod_lt _ (by decide)⟩
    have e2 : p / 16 % 16 = p / 16 := by omega
    simp only [e2] at k1
    exact (Kept.two 117).append (Kept.same (fun c hcm => by
      simp only [List.mem_cons, List.not_mem_nil, or_false] at hcm
      rcases hcm with rfl | rfl | rfl | rfl
      · exact ⟨by decide, by decide⟩
      · exact ⟨by decide, by decide⟩
      · exact k1
      · exact k2))
theorem body_kept (s : ByteArray) : Kept (bodyR s 0) := by
  have : ∀ l : List Nat, (∀ p ∈ l, p ≤ 1114111 ∧ (p < 55296 ∨ 57343 < p)) → Kept (l.flatMap fun p : Nat => escR ((p : Nat) : Int)) := by
    intro l
    induction l with
    | nil => intro _; exact Kept.nil
    | cons p l ih =>
      intro h
      rw [List.flatMap_cons]
      have h1 := h p (by simp)
      exact (escR_kept p h1.1 h1.2).append (ih (fun q hq => h q (by simp [hq])))
  refine this _ (fun p hp => ?_)
  unfold pts at hp
  rw [List.mem_map] at hp
  obtain ⟨x, _, rfl⟩ := hp
  exact dec_point s x
theorem Closed.quote (s : ByteArray) : Closed (quoteR s) (quoteR s) := fun r => by
  show tg false (34 :: ((bodyR s 0 ++ [34]) ++ r)) = _
  rw [tg_out, if_pos rfl, List.append_assoc, body_kept s]
  show [34] ++ (bodyR s 0 ++ tg true (34 :: r)) = _
  rw [tg_in 34 r (by decide), if_pos rfl]
  show [34] ++ (bodyR s 0 ++ ([34] ++ tg false r)) = _
  unfold quoteR
  simp
end Go.Proofs.YtjhghhjnccjhmaaGreatDoor
