/- What the program asks of the sign of a bad byte, in plain Lean; no program stands here. -/
import Derived.Test.YtohjcimkpcpgbaaDoorPlain
import Derived.Lib.Strings
import Derived.Lib.IndexBytes
namespace Go.Proofs.YtohjcimkpcpgbaaDoor
open Go

theorem hasPrefix_three (l : List UInt8) (a b c : UInt8) : Lib.hasPrefix l [a, b, c] = true ↔ l[0]? = some a ∧ l[1]? = some b ∧ l[2]? = some c := by
  unfold Lib.hasPrefix
  match l with
  | [] => simp [List.isPrefixOf]
  | [x] => simp [List.isPrefixOf]
  | [x, y] => simp [List.isPrefixOf]
  | x :: y :: z :: r =>
    simp [List.isPrefixOf]
    constructor
    · rintro ⟨h1, h2, h3⟩; exact ⟨h1.symm, h2.symm, h3.symm⟩
    · rintro ⟨h1, h2, h3⟩; exact ⟨h1.symm, h2.symm, h3.symm⟩
theorem byte_is (s : ByteArray) (i : Nat) (a : UInt8) : s.data.toList[i]? = some a ↔ i < s.size ∧ (s.get! i).toNat = a.toNat := by
  by_cases h : i < s.size
  · have h' : i < s.data.toList.length := by simpa using h
    have e : s.get! i = s.data.toList[i] := by
      show s.data[i]! = _
      rw [getElem!_pos s.data i h]
      rfl
    rw [List.getElem?_eq_getElem h', e]
    constructor
    · intro h2; injection h2 with h2; rw [h2]; exact ⟨h, rfl⟩
    · rintro ⟨_, h2⟩; rw [UInt8.toNat_inj.1 h2]
  · rw [List.getElem?_eq_none (by simp; omega)]
    constructor
    · intro h2; cases h2
    · rintro ⟨h2, _⟩; exact absurd h2 h
theorem bad_num (n b0 b1 b2 b3 : Nat) (h0 : b0 < 256) (_h1 : b1 < 256) (_h2 : b2 < 256) (_hp : 0 < n) (hd : (Lib.decodeN n b0 b1 b2 b3).1 = 65533) :
    (b0 = 239 ∧ (1 < n ∧ b1 = 191) ∧ (2 < n ∧ b2 = 189)) ↔ ¬ ((Lib.decodeN n b0 b1 b2 b3).1 = 65533 ∧ (Lib.decodeN n b0 b1 b2 b3).2 = 1) := by
  revert hd
  unfold Lib.decodeN
  repeat' split
  all_goals intro hd
  all_goals simp only at hd ⊢
  all_goals (constructor <;> intro h <;> first | omega | (simp at h; done) | (simp at h; omega) | (simp; omega))
theorem bad_prefix (s : ByteArray) (pos : Nat) (h : pos < s.size) (hd : (Utf8.decode s pos).1 = 65533) : Lib.hasPrefix (s.extract pos s.size).data.toList [239, 191, 189] = good s pos := by
  rw [Bool.eq_iff_iff, hasPrefix_three, Lib.extract_to_end, List.getElem?_drop, List.getElem?_drop, List.getElem?_drop, byte_is, byte_is, byte_is]
  unfold good
  rw [decide_eq_true_iff]
  rw [Lib.decode_at] at hd ⊢
  have := bad_num (s.size - pos) _ _ _ _ (s.get! pos).toNat_lt (s.get! (pos + 1)).toNat_lt (s.get! (pos + 2)).toNat_lt (by omega) hd
  rw [← this]
  have e1 : (239 : UInt8).toNat = 239 := rfl
  have e2 : (191 : UInt8).toNat = 191 := rfl
  have e3 : (189 : UInt8).toNat = 189 := rfl
  rw [e1, e2, e3, Nat.add_zero]
  constructor
  · rintro ⟨⟨a, b⟩, ⟨c, d⟩, ⟨e, f⟩⟩; exact ⟨b, ⟨by omega, d⟩, ⟨by omega, f⟩⟩
  · rintro ⟨b, ⟨c, d⟩, ⟨e, f⟩⟩; exact ⟨⟨h, b⟩, ⟨by omega, d⟩, ⟨by omega, f⟩⟩
/-- The bytes of a part of a text, from a place up to ahead of another. -/
def cut (s : ByteArray) (a b : Nat) : List UInt8 := (s.data.toList.drop a).take (b - a)
end Go.Proofs.YtohjcimkpcpgbaaDoor
