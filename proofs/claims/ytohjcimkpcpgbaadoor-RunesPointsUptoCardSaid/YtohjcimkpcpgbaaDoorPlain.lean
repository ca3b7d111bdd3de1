/- Texts by their pieces, in plain Lean: where each piece begins, their code points; no program stands here. -/
import Derived.Lib.RuneCount
import Derived.Lib.RuneBytes
import Derived.Lib.DecodeN
namespace Go.Proofs.YtohjcimkpcpgbaaDoor
open Go

/-- Where the pieces begin, from a place on, by at most so many. -/
def stF (s : ByteArray) : Nat → Nat → List Nat
  | 0, _ => []
  | f + 1, pos => if pos < s.size then pos :: stF s f (pos + (Utf8.decode s pos).2) else []
def st (s : ByteArray) (pos : Nat) : List Nat := stF s (s.size - pos) pos

theorem wid (s : ByteArray) (pos : Nat) (h : pos < s.size) : 1 ≤ (Utf8.decode s pos).2 := Lib.decode_width_pos s pos h

theorem dec_fits (s : ByteArray) (pos : Nat) (h : pos < s.size) : pos + (Utf8.decode s pos).2 ≤ s.size ∧ (Utf8.decode s pos).2 ≤ 4 := by
  rw [Lib.decode_at]
  unfold Lib.decodeN
  repeat' split
  all_goals (simp only; omega)
theorem dec_point (s : ByteArray) (pos : Nat) : (Utf8.decode s pos).1 ≤ 1114111 ∧ ((Utf8.decode s pos).1 < 55296 ∨ 57343 < (Utf8.decode s pos).1) := by
  rw [Lib.decode_at]
  unfold Lib.decodeN
  repeat' split
  all_goals (simp only; omega)

theorem stF_more (s : ByteArray) : ∀ (f g pos : Nat), s.size - pos ≤ f → s.size - pos ≤ g → stF s f pos = stF s g pos := by
  intro f
  induction f with
  | zero =>
    intro g pos h1 _
    cases g with
    | zero => rfl
    | succ g => simp only [stF]; rw [if_neg (by omega)]
  | succ f ih =>
    intro g pos h1 h2
    by_cases hp : pos < s.size
    · cases g with
      | zero => omega
      | succ g =>
        have hw := wid s pos hp
        simp only [stF]
        rw [if_pos hp, if_pos hp, ih g _ (by omega) (by omega)]
    · cases g with
      | zero => simp only [stF]; rw [if_neg hp]
      | succ g => simp only [stF]; rw [if_neg hp, if_neg hp]

theorem st_cons (s : ByteArray) (pos : Nat) (h : pos < s.size) : st s pos = pos :: st s (pos + (Utf8.decode s pos).2) := by
  have hw := wid s pos h
  unfold st
  obtain ⟨f, hf⟩ : ∃ f, s.size - pos = f + 1 := ⟨s.size - pos - 1, by omega⟩
  rw [hf]
  simp only [stF]
  rw [if_pos h, stF_more s f (s.size - (pos + (Utf8.decode s pos).2)) _ (by omega) (by omega)]
theorem st_nil (s : ByteArray) (pos : Nat) (h : ¬ pos < s.size) : st s pos = [] := by
  unfold st
  rw [show s.size - pos = 0 from by omega]
  rfl
theorem st_length (s : ByteArray) : ∀ (k pos : Nat), s.size - pos ≤ k → (st s pos).length ≤ s.size - pos := by
  intro k
  induction k with
  | zero => intro pos h; rw [st_nil s pos (by omega)]; simp
  | succ k ih =>
    intro pos h
    by_cases hp : pos < s.size
    · have hw := wid s pos hp
      rw [st_cons s pos hp, List.length_cons]
      have := ih (pos + (Utf8.decode s pos).2) (by omega)
      omega
    · rw [st_nil s pos hp]; simp
theorem st_len (s : ByteArray) (pos : Nat) : (st s pos).length ≤ s.size - pos := st_length s _ pos (Nat.le_refl _)
/-- What lies in between: each begins within the text. -/
theorem st_mem (s : ByteArray) : ∀ (k pos : Nat), s.size - pos ≤ k → ∀ x ∈ st s pos, pos ≤ x ∧ x < s.size := by
  intro k
  induction k with
  | zero => intro pos h x hx; rw [st_nil s pos (by omega)] at hx; cases hx
  | succ k ih =>
    intro pos h x hx
    by_cases hp : pos < s.size
    · have hw := wid s pos hp
      rw [st_cons s pos hp] at hx
      rcases List.mem_cons.1 hx with rfl | hx
      · exact ⟨Nat.le_refl _, hp⟩
      · have := ih _ (by omega) x hx
        omega
    · rw [st_nil s pos hp] at hx; cases hx
theorem st_in (s : ByteArray) (pos x : Nat) (hx : x ∈ st s pos) : pos ≤ x ∧ x < s.size := st_mem s _ pos (Nat.le_refl _) x hx

/-- The pieces' code points. -/
def pts (s : ByteArray) (pos : Nat) : List Nat := (st s pos).map fun p => (Utf8.decode s p).1
theorem pts_cons (s : ByteArray) (pos : Nat) (h : pos < s.size) : pts s pos = (Utf8.decode s pos).1 :: pts s (pos + (Utf8.decode s pos).2) := by unfold pts; rw [st_cons s pos h]; rfl
theorem pts_nil (s : ByteArray) (pos : Nat) (h : ¬ pos < s.size) : pts s pos = [] := by unfold pts; rw [st_nil s pos h]; rfl
theorem pts_len (s : ByteArray) (pos : Nat) : (pts s pos).length ≤ s.size - pos := by unfold pts; rw [List.length_map]; exact st_len s pos
/-- Is what stands at a place a code point's bytes. -/
def good (s : ByteArray) (i : Nat) : Bool := decide (¬ ((Utf8.decode s i).1 = 65533 ∧ (Utf8.decode s i).2 = 1))
/-- Is each piece a code point's bytes. -/
def allGood (s : ByteArray) (pos : Nat) : Bool := (st s pos).all (good s)
theorem allGood_cons (s : ByteArray) (pos : Nat) (h : pos < s.size) : allGood s pos = (good s pos && allGood s (pos + (Utf8.decode s pos).2)) := by unfold allGood; rw [st_cons s pos h]; rfl
theorem allGood_nil (s : ByteArray) (pos : Nat) (h : ¬ pos < s.size) : allGood s pos = true := by unfold allGood; rw [st_nil s pos h]; rfl

/-- Is a number a code point. -/
def right (p : Int) : Bool := decide (0 ≤ p ∧ p ≤ 1114111 ∧ (p < 55296 ∨ 57343 < p))
/-- The text of code points: nothing, if one is none. -/
def textOf : List Int → Option (List UInt8)
  | [] => some []
  | p :: r => if right p then (textOf r).map (Lib.encodeRune p ++ ·) else none
def encAll (l : List Nat) : List UInt8 := l.flatMap fun (p : Nat) => Lib.encodeRune (p : Int)

/-- Blanks. -/
def blank (b : UInt8) : Bool := decide (b.toNat = 32 ∨ (9 ≤ b.toNat ∧ b.toNat ≤ 13))
end Go.Proofs.YtohjcimkpcpgbaaDoor
