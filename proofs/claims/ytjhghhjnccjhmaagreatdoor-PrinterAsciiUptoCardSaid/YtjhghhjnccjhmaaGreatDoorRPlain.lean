/- A string's text: by bytes and by code points. -/
import Derived.Test.YtjhghhjnccjhmaaGreatDoorRRefU
import Derived.Test.YtjhghhjnccjhmaaGreatDoorREscW
import Derived.Lib.MapLaws
namespace Go.Proofs.YtjhghhjnccjhmaaGreatDoor
open Go Go.RowKit

theorem qB_high {c : UInt8} (h : 128 ≤ c.toNat) : qB c = [c] := by
  have hne : ∀ d : UInt8, d.toNat < 128 → c ≠ d := fun d hd e => by rw [e] at h; omega
  have h127 : ¬ (c.toNat < 32 ∨ c = 127) := fun e => e.elim (fun e => by omega) (fun e => hne _ (by decide) e)
  have h34 : ¬ (c = 34 ∨ c = 92) := fun e => e.elim (hne _ (by decide)) (hne _ (by decide))
  unfold qB
  rw [if_neg h34, if_neg (hne _ (by decide)), if_neg (hne _ (by decide)), if_neg (hne _ (by decide)), if_neg (hne _ (by decide)), if_neg (hne _ (by decide)), if_neg h127]
theorem flat_high : ∀ l : List UInt8, (∀ c ∈ l, 128 ≤ c.toNat) → l.flatMap qB = l
  | [], _ => rfl
  | c :: l, h => by
    rw [List.flatMap_cons, qB_high (h c (by simp)), flat_high l (fun d hd => h d (by simp [hd]))]
    rfl
theorem low_eq : ∀ n : Fin 128, ([n.val.toUInt8] : List UInt8).flatMap qB = escR (n.val : Int) := by decide +kernel
theorem enc_high (p : Nat) (h : 128 ≤ p) (h2 : p ≤ 1114111) (h3 : p < 55296 ∨ 57343 < p) : ∀ c ∈ Lib.encodeRune (p : Int), 128 ≤ c.toNat := by
  intro c hc
  unfold Lib.encodeRune at hc
  rw [List.mem_map] at hc
  obtain ⟨x, hx, rfl⟩ := hc
  have hb := Lib.encodeRuneZ_byte (p : Int) x hx
  have h128 : 128 ≤ x := by
    by_cases e1 : p ≤ 2047
    · rw [Lib.encodeRuneZ_two (by omega) (by omega)] at hx
      simp at hx
      omega
    · by_cases e2 : p ≤ 65535
      · rw [Lib.encodeRuneZ_three (by omega)] at hx
        simp at hx
        omega
      · rw [Lib.encodeRuneZ_four (by omega) (by omega)] at hx
        simp at hx
        omega
  obtain ⟨n, rfl⟩ := Int.eq_ofNat_of_zero_le hb.1
  show 128 ≤ ((n : Int).toNat.toUInt8).toNat
  rw [Int.toNat_natCast, UInt8.toNat_ofNat']
  omega
theorem enc_low (p : Nat) (h : p < 128) : Lib.encodeRune (p : Int) = [p.toUInt8] := by
  unfold Lib.encodeRune
  rw [Lib.encodeRuneZ_one (by omega) (by omega)]
  simp
theorem esc_enc (p : Nat) (h2 : p ≤ 1114111) (h3 : p < 55296 ∨ 57343 < p) : (Lib.encodeRune (p : Int)).flatMap qB = escR (p : Int) := by
  by_cases h : p < 128
  · rw [enc_low p h]
    exact low_eq ⟨p, h⟩
  · rw [flat_high _ (enc_high p (by omega) h2 h3)]
    unfold escR
    rw [if_neg (by omega), if_neg (by omega), if_neg (by omega), if_neg (by omega), if_neg (by omega), if_neg (by omega), if_pos (by omega)]
theorem body_eq (s : ByteArray) : ∀ (k pos : Nat), s.size - pos ≤ k → allGood s pos = true → (s.data.toList.drop pos).flatMap qB = bodyR s pos := by
  intro k
  induction k with
  | zero =>
    intro pos hk _
    rw [bodyR_nil s pos (by omega), List.drop_of_length_le (by simp; omega)]
    rfl
  | succ k ih =>
    intro pos hk hg
    by_cases hlt : pos < s.size
    · rw [allGood_cons s pos hlt, Bool.and_eq_true] at hg
      have hwd := wid s pos hlt
      have hf := dec_fits s pos hlt
      have hpt := dec_point s pos
      have hne : s.data.toList.drop pos ≠ [] := by
        intro e
        have := congrArg List.length e
        rw [List.length_drop] at this
        simp at this
        omega
      have hgd := hg.1
      unfold good at hgd
      rw [decide_eq_true_iff, ← Lib.decodeL_drop] at hgd
      have he := Lib.encode_decode _ hne hgd
      rw [Lib.decodeL_drop] at he
      rw [bodyR_cons s pos hlt, ← ih _ (by omega) hg.2, ← esc_enc _ hpt.1 hpt.2, he, ← List.flatMap_append, ← List.drop_drop, List.take_append_drop]
    · rw [bodyR_nil s pos hlt, List.drop_of_length_le (by simp; omega)]
      rfl
theorem quote_eq (s : ByteArray) (h : allGood s 0 = true) : quoteB s = quoteR s := by
  unfold quoteB quoteR qT
  have := body_eq s _ 0 (Nat.le_refl _) h
  rw [List.drop_zero] at this
  rw [List.take_of_length_le (by simp), this]
end Go.Proofs.YtjhghhjnccjhmaaGreatDoor
