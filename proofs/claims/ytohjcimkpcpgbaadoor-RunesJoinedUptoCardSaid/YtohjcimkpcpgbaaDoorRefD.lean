/- The answers' Slice, At, Repeat; the program's Repeat. -/
import Derived.Test.YtohjcimkpcpgbaaDoorClean
import Derived.Lib.Repeat
namespace Go.Proofs.YtohjcimkpcpgbaaDoor
open Go Go.RowKit Go.WideShapes

theorem extract_self (s : ByteArray) : s.extract 0 s.size = s := by
  apply bytes_inj
  rw [Lib.extract_data, List.drop_zero]
  exact List.take_of_length_le (by simp)
theorem extract_none (s : ByteArray) {a b : Nat} (h : b ≤ a) : s.extract a b = ⟨#[]⟩ := by
  apply bytes_inj
  rw [Lib.extract_data, show b - a = 0 from by omega]
  rfl
/-- Where piece k begins is what stands in the row of the beginnings, with the end behind. -/
theorem atP_row (s : ByteArray) (k : Nat) (h : k ≤ (st s 0).length) : (cellsN (st s 0 ++ [s.size]))[k]? = some (.int .i64 (atP s k : Int)) := by
  unfold cellsN atP
  rw [List.getElem?_map]
  by_cases hk : k < (st s 0).length
  · rw [List.getElem?_append_left hk, List.getElem?_eq_getElem hk]; rfl
  · rw [List.getElem?_append_right (by omega), List.getElem?_eq_none (l := st s 0) (by omega), show k - (st s 0).length = 0 from by omega]; rfl
theorem sliceS_clamped (s : ByteArray) (a b : Int) : sliceS s a b = if max 0 (min a ((st s 0).length : Int)) < max 0 (min b ((st s 0).length : Int)) then s.extract (atP s (max 0 (min a ((st s 0).length : Int))).toNat) (atP s (max 0 (min b ((st s 0).length : Int))).toNat) else ⟨#[]⟩ := by
  obtain ⟨n, hn⟩ : ∃ n, (st s 0).length = n := ⟨_, rfl⟩
  rw [hn]
  unfold sliceS
  by_cases h : max a 0 < b
  · rw [if_pos h]
    by_cases ha : max a 0 < (n : Int)
    · rw [if_pos (by omega), show (max 0 (min a (n : Int))).toNat = (max a 0).toNat from by omega]
      by_cases hb : b ≤ n
      · rw [show (max 0 (min b (n : Int))).toNat = b.toNat from by omega]
      · rw [show (max 0 (min b (n : Int))).toNat = n from by omega, atP_end (by omega : (st s 0).length ≤ n), atP_end (by omega : (st s 0).length ≤ b.toNat)]
    · rw [if_neg (by omega), atP_end (by omega : (st s 0).length ≤ (max a 0).toNat), atP_end (by omega : (st s 0).length ≤ b.toNat)]
      exact extract_none s (Nat.le_refl _)
  · rw [if_neg h, if_neg (by omega)]

set_option maxRecDepth 100000 in
set_option maxHeartbeats 1000000 in
theorem refSlice_any (s : ByteArray) (a b : Int) (hm : s.size ≤ 1000000000) (ha : -9223372036854775808 ≤ a ∧ a ≤ 9223372036854775807) (hb : -9223372036854775808 ≤ b ∧ b ≤ 9223372036854775807) (w : World) :
    Calls Tryd.prog 21 #[.string s, .int .i64 a, .int .i64 b] w fun e w' => e = .returned (.string (sliceS s a b)) ∧ Below w.heap.size w w' := by
  rw [sliceS_clamped]
  have hz := st_len s 0
  have hrow := atP_row s
  have hmono := @atP_mono s
  obtain ⟨n, hn⟩ : ∃ n, (st s 0).length = n := ⟨_, rfl⟩
  rw [hn] at hz hrow ⊢
  have Hn := Lib.hid hn
  have Hrow := Lib.hid hrow
  have Hmono := Lib.hid (fun i j => @hmono i j)
  clear hn hrow hmono
  obtain ⟨x, hx⟩ : ∃ x : Nat, max 0 (min a (n : Int)) = x := ⟨(max 0 (min a (n : Int))).toNat, by omega⟩
  obtain ⟨y, hy⟩ : ∃ y : Nat, max 0 (min b (n : Int)) = y := ⟨(max 0 (min b (n : Int))).toNat, by omega⟩
  have hxn : x ≤ n := by omega
  have hyn : y ≤ n := by omega
  rw [hx, hy, Int.toNat_natCast, Int.toNat_natCast]
  by_cases hxy : x < y
  · have hnxy : ¬ (y : Int) ≤ (x : Int) := by omega
    rw [if_pos (by omega)]
    have Hxy := Lib.hid hxy
    go_enter Tryd.func21, Tryd.ntmps21
    go_wp2_with (go_at_call 41; refine (refStarts_any s hm _).mono ?_; rintro e w1 ⟨v, rfl, hown, hb1⟩; rw [List.length_append, Hn.out] at hown; have hArr := Arr.of_own hown (Nat.le_refl _); obtain ⟨A, c, rfl⟩ := own_form hown)
    obtain ⟨A', c', hAc, hcells⟩ := hArr
    have hlen1 : (cellsN (st s 0 ++ [s.size])).length = n + 1 := by rw [cellsN_length, List.length_append, Hn.out]; rfl
    rw [hlen1] at hAc hcells
    injection hAc with hA1 hA2 hA3
    subst hA1
    obtain ⟨ad, rfl, _, hcell⟩ := hcells (by omega)
    have c1 := hcell x _ (Hrow.out x hxn)
    have c2 := hcell y _ (Hrow.out y hyn)
    have m1 := Hmono.out x y Hxy.out
    have m2 := atP_le s y
    clear hcell hcells hlen1 hown
    obtain ⟨p, hp⟩ : ∃ p, atP s x = p := ⟨_, rfl⟩
    obtain ⟨q, hq⟩ : ∃ q, atP s y = q := ⟨_, rfl⟩
    rw [hp] at c1 m1
    rw [hq] at c2 m1 m2
    have Hp := Lib.hid hp
    have Hq := Lib.hid hq
    clear hp hq
    go_quiet (fail)
    go_wp2
    go_ret
    exact ⟨by rw [Hp.out, Hq.out]; rfl, hb1.trans ⟨rfl, rfl, rfl, Nat.le_refl _, fun _ _ => rfl⟩⟩
  · have hnxy : (y : Int) ≤ (x : Int) := by omega
    rw [if_neg (by omega)]
    go_enter Tryd.func21, Tryd.ntmps21
    go_wp2_with (go_at_call 41; refine (refStarts_any s hm _).mono ?_; rintro e w1 ⟨v, rfl, hown, hb1⟩; rw [List.length_append, Hn.out] at hown; obtain ⟨A, c, rfl⟩ := own_form hown)
    go_ret
    exact ⟨rfl, hb1⟩
end Go.Proofs.YtohjcimkpcpgbaaDoor
