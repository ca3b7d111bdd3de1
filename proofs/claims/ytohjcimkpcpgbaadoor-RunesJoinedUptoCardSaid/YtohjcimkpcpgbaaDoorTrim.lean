/- The program's trimming of a text, and its copy of a text. -/
import Derived.Test.YtohjcimkpcpgbaaDoorRefB
import Derived.Test.YtohjcimkpcpgbaaDoorShelf
namespace Go.Proofs.YtohjcimkpcpgbaaDoor
open Go Go.RowKit Go.WideShapes

set_option maxHeartbeats 400000 in
theorem Clone_any (s : ByteArray) (hm : s.size ≤ 281474976710656) (w : World) :
    Calls Tryd.prog 42 #[.string s] w fun e w' => e = .returned (.string s) ∧ Below w.heap.size w w' := by
  go_enter Tryd.func42, Tryd.ntmps42
  go_wp2_with (go_at_call 55; refine (Tryd.stringslite_Clone _ _ hm).mono ?_; rintro e w' ⟨rfl, hb⟩)
  go_ret
  exact ⟨rfl, hb⟩
theorem drop_head {s : ByteArray} {k : Nat} (h : k < s.size) : s.data.toList.drop k = s[k] :: s.data.toList.drop (k + 1) := by
  have h' : k < s.data.toList.length := by simpa using h
  exact (List.getElem_cons_drop h').symm
theorem take_last {s : ByteArray} {k j : Nat} (h : k < j) (hj : j ≤ s.size) : ((s.data.toList.drop k).take (j - k)).reverse = s[j - 1] :: ((s.data.toList.drop k).take (j - 1 - k)).reverse := by
  have h' : j - 1 - k < (s.data.toList.drop k).length := by simp; omega
  have e : j - k = (j - 1 - k) + 1 := by omega
  rw [e, ← List.take_append_getElem h', List.reverse_append]
  simp
  have e2 : k + (j - 1 - k) = j - 1 := by omega
  simp only [e2]
  rfl
set_option maxHeartbeats 1000000 in
theorem Trim_ff (s : ByteArray) (hm : s.size ≤ 1000000000) (w : World) :
    Calls Tryd.prog 31 #[.string s, .bool false, .bool false] w fun e w' => e = .returned (.string ⟨(trimmed false false s.data.toList).toArray⟩) ∧ Below w.heap.size w w' := by
  go_enter Tryd.func31, Tryd.ntmps31
  go_wp2
  go_rounds 1
  refine wp_loop_rounds 1 ?_
  rw [rounds_succ]
  go_wp2_with (first | (go_at_call 48; refine (isBlank_any _ _).mono ?_; rintro e w' ⟨rfl, rfl⟩) | (go_at_call 42; refine (Clone_any _ (by first | (rw [ByteArray.size_extract]; omega) | omega) _).mono ?_; rintro e w' ⟨rfl, hcl⟩))
  go_ret
  refine ⟨?_, hcl⟩
  rw [← str_of (l := trimmed false false s.data.toList) (u := s) rfl]
  all_goals rfl
set_option maxHeartbeats 1000000 in
theorem Trim_ft (s : ByteArray) (hm : s.size ≤ 1000000000) (w : World) :
    Calls Tryd.prog 31 #[.string s, .bool false, .bool true] w fun e w' => e = .returned (.string ⟨(trimmed false true s.data.toList).toArray⟩) ∧ Below w.heap.size w w' := by
  go_enter Tryd.func31, Tryd.ntmps31
  go_wp2
  go_rounds 1
  go_loop [8] (fun b => ∃ j : Nat, b = .int .i64 j ∧ 0 ≤ j ∧ j ≤ s.size ∧ ((s.data.toList.drop 0).take (j - 0)).reverse.dropWhile blank = (s.data.toList.drop 0).reverse.dropWhile blank) (fun b => (intOf b).toNat)
  case atStart => exact ⟨s.size, rfl, Nat.zero_le _, Nat.le_refl _, by rw [List.take_of_length_le (by simp)]⟩
  case round =>
    obtain ⟨j, rfl, hkj, hjs, hu⟩ := hrel
    by_cases h0 : 0 < j
    · have hl := take_last h0 hjs
      have g0 : decide (0 < j) = true := decide_eq_true h0
      have i1 : ((j : Int) - 1) < (s.size : Int) := by omega
      have i2 : 0 ≤ ((j : Int) - 1) := by omega
      have i3 : ((j : Int) - 1).toNat = j - 1 := by omega
      cases hb : blank s[j - 1]
      · rw [hl, List.dropWhile_cons_of_neg (by simp [hb]), ← hl] at hu
        have HU := Lib.hid hu
        clear hu hl
        go_wp2_with (first | (go_at_call 48; refine (isBlank_any _ _).mono ?_; rintro e w' ⟨rfl, rfl⟩) | (go_at_call 42; refine (Clone_any _ (by first | (rw [ByteArray.size_extract]; omega) | omega) _).mono ?_; rintro e w' ⟨rfl, hcl⟩))
        all_goals go_ret
        all_goals refine ⟨?_, hcl⟩
        all_goals rw [← str_of (l := trimmed false true s.data.toList) (u := s.extract 0 j) (by rw [Lib.extract_data]; unfold trimmed; simp only [if_true, if_false, Bool.false_eq_true]; rw [List.drop_zero] at HU; rw [← HU.out, List.reverse_reverse]; rfl)]
        all_goals rfl
      · rw [hl, List.dropWhile_cons_of_pos hb] at hu
        have HU := Lib.hid hu
        clear hu hl
        go_wp2_with (first | (go_at_call 48; refine (isBlank_any _ _).mono ?_; rintro e w' ⟨rfl, rfl⟩) | (go_at_call 42; refine (Clone_any _ (by first | (rw [ByteArray.size_extract]; omega) | omega) _).mono ?_; rintro e w' ⟨rfl, hcl⟩))
        all_goals exact ⟨⟨j - 1, by rw [show ((j : Int) - 1) = ((j - 1 : Nat) : Int) from by omega], by omega, by omega, HU.out⟩, by simp [intOf]; omega⟩
    · have hl : ((s.data.toList.drop 0).take (j - 0)).reverse = [] := by rw [show j - 0 = 0 from by omega]; rfl
      have g0 : decide (0 < j) = false := decide_eq_false h0
      rw [hl, List.dropWhile_nil, ← hl] at hu
      have HU := Lib.hid hu
      clear hu hl
      go_wp2_with (first | (go_at_call 48; refine (isBlank_any _ _).mono ?_; rintro e w' ⟨rfl, rfl⟩) | (go_at_call 42; refine (Clone_any _ (by first | (rw [ByteArray.size_extract]; omega) | omega) _).mono ?_; rintro e w' ⟨rfl, hcl⟩))
      all_goals go_ret
      all_goals refine ⟨?_, hcl⟩
      all_goals rw [← str_of (l := trimmed false true s.data.toList) (u := s.extract 0 j) (by rw [Lib.extract_data]; unfold trimmed; simp only [if_true, if_false, Bool.false_eq_true]; rw [List.drop_zero] at HU; rw [← HU.out, List.reverse_reverse]; rfl)]
      all_goals rfl
set_option maxHeartbeats 1000000 in
theorem Trim_tf (s : ByteArray) (hm : s.size ≤ 1000000000) (w : World) :
    Calls Tryd.prog 31 #[.string s, .bool true, .bool false] w fun e w' => e = .returned (.string ⟨(trimmed true false s.data.toList).toArray⟩) ∧ Below w.heap.size w w' := by
  go_enter Tryd.func31, Tryd.ntmps31
  go_wp2
  go_loop [7] (fun a => ∃ k : Nat, a = .int .i64 k ∧ k ≤ s.size ∧ (s.data.toList.drop k).dropWhile blank = s.data.toList.dropWhile blank) (fun a => s.size - (intOf a).toNat)
  case atStart => exact ⟨0, rfl, Nat.zero_le _, rfl⟩
  case round =>
    obtain ⟨k, rfl, hks, ht⟩ := hrel
    by_cases h0 : k < s.size
    · have hl := drop_head h0
      have g0 : decide (k < s.size) = true := decide_eq_true h0
      cases hb : blank s[k]
      · rw [hl, List.dropWhile_cons_of_neg (by simp [hb]), ← hl] at ht
        have HT := Lib.hid ht
        clear ht hl
        go_wp2_with (first | (go_at_call 48; refine (isBlank_any _ _).mono ?_; rintro e w' ⟨rfl, rfl⟩) | (go_at_call 42; refine (Clone_any _ (by first | (rw [ByteArray.size_extract]; omega) | omega) _).mono ?_; rintro e w' ⟨rfl, hcl⟩))
        refine wp_loop_rounds 1 ?_
        rw [rounds_succ]
        go_wp2_with (first | (go_at_call 48; refine (isBlank_any _ _).mono ?_; rintro e w' ⟨rfl, rfl⟩) | (go_at_call 42; refine (Clone_any _ (by first | (rw [ByteArray.size_extract]; omega) | omega) _).mono ?_; rintro e w' ⟨rfl, hcl⟩))
        go_ret
        refine ⟨?_, hcl⟩
        rw [← str_of (l := trimmed true false s.data.toList) (u := s.extract k s.size) (by rw [Lib.extract_data]; unfold trimmed; simp only [if_true, if_false, Bool.false_eq_true]; rw [List.take_of_length_le (by simp)]; exact HT.out)]
        all_goals rfl
      · rw [hl, List.dropWhile_cons_of_pos hb] at ht
        have HT := Lib.hid ht
        clear ht hl
        go_wp2_with (first | (go_at_call 48; refine (isBlank_any _ _).mono ?_; rintro e w' ⟨rfl, rfl⟩) | (go_at_call 42; refine (Clone_any _ (by first | (rw [ByteArray.size_extract]; omega) | omega) _).mono ?_; rintro e w' ⟨rfl, hcl⟩))
        exact ⟨⟨k + 1, by go_num, by omega, HT.out⟩, by simp [intOf]; omega⟩
    · have hl : s.data.toList.drop k = [] := List.drop_of_length_le (by simp; omega)
      have g0 : decide (k < s.size) = false := decide_eq_false h0
      rw [hl, List.dropWhile_nil, ← hl] at ht
      have HT := Lib.hid ht
      clear ht hl
      go_wp2
      refine wp_loop_rounds 1 ?_
      rw [rounds_succ]
      go_wp2_with (first | (go_at_call 48; refine (isBlank_any _ _).mono ?_; rintro e w' ⟨rfl, rfl⟩) | (go_at_call 42; refine (Clone_any _ (by first | (rw [ByteArray.size_extract]; omega) | omega) _).mono ?_; rintro e w' ⟨rfl, hcl⟩))
      go_ret
      refine ⟨?_, hcl⟩
      rw [← str_of (l := trimmed true false s.data.toList) (u := s.extract k s.size) (by rw [Lib.extract_data]; unfold trimmed; simp only [if_true, if_false, Bool.false_eq_true]; rw [List.take_of_length_le (by simp)]; exact HT.out)]
      all_goals rfl
set_option maxHeartbeats 1000000 in
theorem Trim_tt (s : ByteArray) (hm : s.size ≤ 1000000000) (w : World) :
    Calls Tryd.prog 31 #[.string s, .bool true, .bool true] w fun e w' => e = .returned (.string ⟨(trimmed true true s.data.toList).toArray⟩) ∧ Below w.heap.size w w' := by
  go_enter Tryd.func31, Tryd.ntmps31
  go_wp2
  go_loop [7] (fun a => ∃ k : Nat, a = .int .i64 k ∧ k ≤ s.size ∧ (s.data.toList.drop k).dropWhile blank = s.data.toList.dropWhile blank) (fun a => s.size - (intOf a).toNat)
  case atStart => exact ⟨0, rfl, Nat.zero_le _, rfl⟩
  case round =>
    obtain ⟨k, rfl, hks, ht⟩ := hrel
    by_cases h0 : k < s.size
    · have hl := drop_head h0
      have g0 : decide (k < s.size) = true := decide_eq_true h0
      cases hb : blank s[k]
      · rw [hl, List.dropWhile_cons_of_neg (by simp [hb]), ← hl] at ht
        have HT := Lib.hid ht
        clear ht hl
        go_wp2_with (first | (go_at_call 48; refine (isBlank_any _ _).mono ?_; rintro e w' ⟨rfl, rfl⟩) | (go_at_call 42; refine (Clone_any _ (by first | (rw [ByteArray.size_extract]; omega) | omega) _).mono ?_; rintro e w' ⟨rfl, hcl⟩))
        go_loop [8] (fun b => ∃ j : Nat, b = .int .i64 j ∧ k ≤ j ∧ j ≤ s.size ∧ ((s.data.toList.drop k).take (j - k)).reverse.dropWhile blank = (s.data.toList.drop k).reverse.dropWhile blank) (fun b => (intOf b).toNat)
        case atStart => exact ⟨s.size, rfl, hks, Nat.le_refl _, by rw [List.take_of_length_le (by simp)]⟩
        case round =>
          obtain ⟨j, rfl, hkj, hjs, hu⟩ := hrel
          by_cases h0 : k < j
          · have hl := take_last h0 hjs
            have g0 : decide (k < j) = true := decide_eq_true h0
            have i1 : ((j : Int) - 1) < (s.size : Int) := by omega
            have i2 : 0 ≤ ((j : Int) - 1) := by omega
            have i3 : ((j : Int) - 1).toNat = j - 1 := by omega
            cases hb : blank s[j - 1]
            · rw [hl, List.dropWhile_cons_of_neg (by simp [hb]), ← hl] at hu
              have HU := Lib.hid hu
              clear hu hl
              go_wp2_with (first | (go_at_call 48; refine (isBlank_any _ _).mono ?_; rintro e w' ⟨rfl, rfl⟩) | (go_at_call 42; refine (Clone_any _ (by first | (rw [ByteArray.size_extract]; omega) | omega) _).mono ?_; rintro e w' ⟨rfl, hcl⟩))
              all_goals go_ret
              all_goals refine ⟨?_, hcl⟩
              all_goals rw [← str_of (l := trimmed true true s.data.toList) (u := s.extract k j) (by rw [Lib.extract_data]; unfold trimmed; simp only [if_true]; rw [← HT.out, ← HU.out, List.reverse_reverse])]
              all_goals rfl
            · rw [hl, List.dropWhile_cons_of_pos hb] at hu
              have HU := Lib.hid hu
              clear hu hl
              go_wp2_with (first | (go_at_call 48; refine (isBlank_any _ _).mono ?_; rintro e w' ⟨rfl, rfl⟩) | (go_at_call 42; refine (Clone_any _ (by first | (rw [ByteArray.size_extract]; omega) | omega) _).mono ?_; rintro e w' ⟨rfl, hcl⟩))
              all_goals exact ⟨⟨j - 1, by rw [show ((j : Int) - 1) = ((j - 1 : Nat) : Int) from by omega], by omega, by omega, HU.out⟩, by simp [intOf]; omega⟩
          · have hl : ((s.data.toList.drop k).take (j - k)).reverse = [] := by rw [show j - k = 0 from by omega]; rfl
            have g0 : decide (k < j) = false := decide_eq_false h0
            rw [hl, List.dropWhile_nil, ← hl] at hu
            have HU := Lib.hid hu
            clear hu hl
            go_wp2_with (first | (go_at_call 48; refine (isBlank_any _ _).mono ?_; rintro e w' ⟨rfl, rfl⟩) | (go_at_call 42; refine (Clone_any _ (by first | (rw [ByteArray.size_extract]; omega) | omega) _).mono ?_; rintro e w' ⟨rfl, hcl⟩))
            all_goals go_ret
            all_goals refine ⟨?_, hcl⟩
            all_goals rw [← str_of (l := trimmed true true s.data.toList) (u := s.extract k j) (by rw [Lib.extract_data]; unfold trimmed; simp only [if_true]; rw [← HT.out, ← HU.out, List.reverse_reverse])]
            all_goals rfl
      · rw [hl, List.dropWhile_cons_of_pos hb] at ht
        have HT := Lib.hid ht
        clear ht hl
        go_wp2_with (first | (go_at_call 48; refine (isBlank_any _ _).mono ?_; rintro e w' ⟨rfl, rfl⟩) | (go_at_call 42; refine (Clone_any _ (by first | (rw [ByteArray.size_extract]; omega) | omega) _).mono ?_; rintro e w' ⟨rfl, hcl⟩))
        exact ⟨⟨k + 1, by go_num, by omega, HT.out⟩, by simp [intOf]; omega⟩
    · have hl : s.data.toList.drop k = [] := List.drop_of_length_le (by simp; omega)
      have g0 : decide (k < s.size) = false := decide_eq_false h0
      rw [hl, List.dropWhile_nil, ← hl] at ht
      have HT := Lib.hid ht
      clear ht hl
      go_wp2
      go_loop [8] (fun b => ∃ j : Nat, b = .int .i64 j ∧ k ≤ j ∧ j ≤ s.size ∧ ((s.data.toList.drop k).take (j - k)).reverse.dropWhile blank = (s.data.toList.drop k).reverse.dropWhile blank) (fun b => (intOf b).toNat)
      case atStart => exact ⟨s.size, rfl, hks, Nat.le_refl _, by rw [List.take_of_length_le (by simp)]⟩
      case round =>
        obtain ⟨j, rfl, hkj, hjs, hu⟩ := hrel
        by_cases h0 : k < j
        · have hl := take_last h0 hjs
          have g0 : decide (k < j) = true := decide_eq_true h0
          have i1 : ((j : Int) - 1) < (s.size : Int) := by omega
          have i2 : 0 ≤ ((j : Int) - 1) := by omega
          have i3 : ((j : Int) - 1).toNat = j - 1 := by omega
          cases hb : blank s[j - 1]
          · rw [hl, List.dropWhile_cons_of_neg (by simp [hb]), ← hl] at hu
            have HU := Lib.hid hu
            clear hu hl
            go_wp2_with (first | (go_at_call 48; refine (isBlank_any _ _).mono ?_; rintro e w' ⟨rfl, rfl⟩) | (go_at_call 42; refine (Clone_any _ (by first | (rw [ByteArray.size_extract]; omega) | omega) _).mono ?_; rintro e w' ⟨rfl, hcl⟩))
            all_goals go_ret
            all_goals refine ⟨?_, hcl⟩
            all_goals rw [← str_of (l := trimmed true true s.data.toList) (u := s.extract k j) (by rw [Lib.extract_data]; unfold trimmed; simp only [if_true, if_false, Bool.false_eq_true]; rw [← HT.out, ← HU.out, List.reverse_reverse])]
            all_goals rfl
          · rw [hl, List.dropWhile_cons_of_pos hb] at hu
            have HU := Lib.hid hu
            clear hu hl
            go_wp2_with (first | (go_at_call 48; refine (isBlank_any _ _).mono ?_; rintro e w' ⟨rfl, rfl⟩) | (go_at_call 42; refine (Clone_any _ (by first | (rw [ByteArray.size_extract]; omega) | omega) _).mono ?_; rintro e w' ⟨rfl, hcl⟩))
            all_goals exact ⟨⟨j - 1, by rw [show ((j : Int) - 1) = ((j - 1 : Nat) : Int) from by omega], by omega, by omega, HU.out⟩, by simp [intOf]; omega⟩
        · have hl : ((s.data.toList.drop k).take (j - k)).reverse = [] := by rw [show j - k = 0 from by omega]; rfl
          have g0 : decide (k < j) = false := decide_eq_false h0
          rw [hl, List.dropWhile_nil, ← hl] at hu
          have HU := Lib.hid hu
          clear hu hl
          go_wp2_with (first | (go_at_call 48; refine (isBlank_any _ _).mono ?_; rintro e w' ⟨rfl, rfl⟩) | (go_at_call 42; refine (Clone_any _ (by first | (rw [ByteArray.size_extract]; omega) | omega) _).mono ?_; rintro e w' ⟨rfl, hcl⟩))
          all_goals go_ret
          all_goals refine ⟨?_, hcl⟩
          all_goals rw [← str_of (l := trimmed true true s.data.toList) (u := s.extract k j) (by rw [Lib.extract_data]; unfold trimmed; simp only [if_true]; rw [← HT.out, ← HU.out, List.reverse_reverse])]
          all_goals rfl
theorem Trim_any (s : ByteArray) (left right : Bool) (hm : s.size ≤ 1000000000) (w : World) :
    Calls Tryd.prog 31 #[.string s, .bool left, .bool right] w fun e w' => e = .returned (.string ⟨(trimmed left right s.data.toList).toArray⟩) ∧ Below w.heap.size w w' := by
  cases left <;> cases right
  · exact Trim_ff s hm w
  · exact Trim_ft s hm w
  · exact Trim_tf s hm w
  · exact Trim_tt s hm w
end Go.Proofs.YtohjcimkpcpgbaaDoor
