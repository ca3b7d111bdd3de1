/- The answers' trimming of a text. -/
import Derived.Test.YtohjcimkpcpgbaaDoorRefB
namespace Go.Proofs.YtohjcimkpcpgbaaDoor
open Go Go.RowKit Go.WideShapes

set_option maxHeartbeats 1000000 in
theorem refTrim_ff (s : ByteArray) (hm : s.size ≤ maxLen) (w : World) :
    Calls Tryd.prog 32 #[.string s, .bool false, .bool false] w fun e w' => e = .returned (.string ⟨(trimmed false false s.data.toList).toArray⟩) ∧ w = w' := by
  unfold maxLen at hm
  go_enter Tryd.func32, Tryd.ntmps32
  go_wp2
  go_rounds 1
  go_rounds 1
  go_ret
  exact ⟨by rw [← str_of (l := trimmed false false s.data.toList) (u := s) rfl]; rfl, rfl⟩
set_option maxHeartbeats 1000000 in
theorem refTrim_ft (s : ByteArray) (hm : s.size ≤ maxLen) (w : World) :
    Calls Tryd.prog 32 #[.string s, .bool false, .bool true] w fun e w' => e = .returned (.string ⟨(trimmed false true s.data.toList).toArray⟩) ∧ w = w' := by
  unfold maxLen at hm
  go_enter Tryd.func32, Tryd.ntmps32
  go_wp2
  go_rounds 1
  go_loop [0] (fun v => ∃ u : ByteArray, v = .string u ∧ u.size ≤ s.size ∧ u.data.toList.reverse.dropWhile blank = s.data.toList.reverse.dropWhile blank) (fun v => match v with | .string u => u.size | _ => 0)
  case atStart => exact ⟨s, rfl, Nat.le_refl _, rfl⟩
  case round =>
    obtain ⟨u, rfl, hlu, hu⟩ := hrel
    by_cases h0 : 0 < u.size
    · have hl := last_of h0
      have g0 : decide (0 < u.size) = true := decide_eq_true h0
      cases hb : blank u[u.size - 1]
      · rw [hl, List.dropWhile_cons_of_neg (by simp [hb]), ← hl] at hu
        have HU := Lib.hid hu
        clear hu hl
        go_wp2_with (go_at_call 49; refine (refBlank_any _ _).mono ?_; rintro e w' ⟨rfl, rfl⟩)
        all_goals go_ret
        all_goals refine ⟨?_, rfl⟩
        all_goals rw [← str_of (l := trimmed false true s.data.toList) (u := u) (by unfold trimmed; simp only [if_true, if_false, Bool.false_eq_true]; rw [← HU.out] <;> simp)]
        all_goals rfl
      · rw [hl, List.dropWhile_cons_of_pos hb] at hu
        have HU := Lib.hid hu
        clear hu hl
        go_wp2_with (go_at_call 49; refine (refBlank_any _ _).mono ?_; rintro e w' ⟨rfl, rfl⟩)
        all_goals exact ⟨⟨u.extract 0 (u.size - 1), rfl, by rw [ByteArray.size_extract]; omega, HU.out⟩, by simp [ByteArray.size_extract]; omega⟩
    · have hl : u.data.toList.reverse = [] := by
        have : u.data.toList.length = 0 := by rw [Array.length_toList]; show u.size = 0; omega
        rw [List.eq_nil_of_length_eq_zero this]; rfl
      have g0 : decide (0 < u.size) = false := decide_eq_false h0
      rw [hl, List.dropWhile_nil, ← hl] at hu
      have HU := Lib.hid hu
      clear hu hl
      go_wp2
      go_ret
      refine ⟨?_, rfl⟩
      rw [← str_of (l := trimmed false true s.data.toList) (u := u) (by unfold trimmed; simp only [if_true, if_false, Bool.false_eq_true]; rw [← HU.out] <;> simp)]
      all_goals rfl
set_option maxHeartbeats 1000000 in
theorem refTrim_tf (s : ByteArray) (hm : s.size ≤ maxLen) (w : World) :
    Calls Tryd.prog 32 #[.string s, .bool true, .bool false] w fun e w' => e = .returned (.string ⟨(trimmed true false s.data.toList).toArray⟩) ∧ w = w' := by
  unfold maxLen at hm
  go_enter Tryd.func32, Tryd.ntmps32
  go_wp2
  go_loop [0] (fun v => ∃ t : ByteArray, v = .string t ∧ t.size ≤ s.size ∧ t.data.toList.dropWhile blank = s.data.toList.dropWhile blank) (fun v => match v with | .string t => t.size | _ => 0)
  case atStart => exact ⟨s, rfl, Nat.le_refl _, rfl⟩
  case round =>
    obtain ⟨t, rfl, hlt, ht⟩ := hrel
    by_cases h0 : 0 < t.size
    · have hl := head_of h0
      have g0 : decide (0 < t.size) = true := decide_eq_true h0
      cases hb : blank t[0]
      · rw [hl, List.dropWhile_cons_of_neg (by simp [hb]), ← hl] at ht
        have HT := Lib.hid ht
        clear ht hl
        go_wp2_with (go_at_call 49; refine (refBlank_any _ _).mono ?_; rintro e w' ⟨rfl, rfl⟩)
        go_rounds 1
        go_ret
        refine ⟨?_, rfl⟩
        rw [← str_of (l := trimmed true false s.data.toList) (u := t) (by unfold trimmed; simp only [if_true, if_false, Bool.false_eq_true]; exact HT.out)]
        all_goals rfl
      · rw [hl, List.dropWhile_cons_of_pos hb] at ht
        have HT := Lib.hid ht
        clear ht hl
        go_wp2_with (go_at_call 49; refine (refBlank_any _ _).mono ?_; rintro e w' ⟨rfl, rfl⟩)
        exact ⟨⟨t.extract 1 t.size, rfl, by rw [ByteArray.size_extract]; omega, HT.out⟩, by simp [ByteArray.size_extract]; omega⟩
    · have hl : t.data.toList = [] := by
        have : t.data.toList.length = 0 := by rw [Array.length_toList]; show t.size = 0; omega
        exact List.eq_nil_of_length_eq_zero this
      have g0 : decide (0 < t.size) = false := decide_eq_false h0
      rw [hl, List.dropWhile_nil, ← hl] at ht
      have HT := Lib.hid ht
      clear ht hl
      go_wp2
      go_rounds 1
      go_ret
      refine ⟨?_, rfl⟩
      rw [← str_of (l := trimmed true false s.data.toList) (u := t) (by unfold trimmed; simp only [if_true, if_false, Bool.false_eq_true]; exact HT.out)]
      all_goals rfl
set_option maxHeartbeats 1000000 in
theorem refTrim_tt (s : ByteArray) (hm : s.size ≤ maxLen) (w : World) :
    Calls Tryd.prog 32 #[.string s, .bool true, .bool true] w fun e w' => e = .returned (.string ⟨(trimmed true true s.data.toList).toArray⟩) ∧ w = w' := by
  unfold maxLen at hm
  go_enter Tryd.func32, Tryd.ntmps32
  go_wp2
  go_loop [0] (fun v => ∃ t : ByteArray, v = .string t ∧ t.size ≤ s.size ∧ t.data.toList.dropWhile blank = s.data.toList.dropWhile blank) (fun v => match v with | .string t => t.size | _ => 0)
  case atStart => exact ⟨s, rfl, Nat.le_refl _, rfl⟩
  case round =>
    obtain ⟨t, rfl, hlt, ht⟩ := hrel
    by_cases h0 : 0 < t.size
    · have hl := head_of h0
      have g0 : decide (0 < t.size) = true := decide_eq_true h0
      cases hb : blank t[0]
      · rw [hl, List.dropWhile_cons_of_neg (by simp [hb]), ← hl] at ht
        have HT := Lib.hid ht
        clear ht hl
        go_wp2_with (go_at_call 49; refine (refBlank_any _ _).mono ?_; rintro e w' ⟨rfl, rfl⟩)
        go_loop [0] (fun v => ∃ u : ByteArray, v = .string u ∧ u.size ≤ t.size ∧ u.data.toList.reverse.dropWhile blank = t.data.toList.reverse.dropWhile blank) (fun v => match v with | .string u => u.size | _ => 0)
        case atStart => exact ⟨t, rfl, Nat.le_refl _, rfl⟩
        case round =>
          obtain ⟨u, rfl, hlu, hu⟩ := hrel
          by_cases h0 : 0 < u.size
          · have hl := last_of h0
            have g0 : decide (0 < u.size) = true := decide_eq_true h0
            cases hb : blank u[u.size - 1]
            · rw [hl, List.dropWhile_cons_of_neg (by simp [hb]), ← hl] at hu
              have HU := Lib.hid hu
              clear hu hl
              go_wp2_with (go_at_call 49; refine (refBlank_any _ _).mono ?_; rintro e w' ⟨rfl, rfl⟩)
              all_goals go_ret
              all_goals refine ⟨?_, rfl⟩
              all_goals rw [← str_of (l := trimmed true true s.data.toList) (u := u) (by unfold trimmed; simp only [if_true, if_false, Bool.false_eq_true]; rw [← HT.out, ← HU.out] <;> simp)]
              all_goals rfl
            · rw [hl, List.dropWhile_cons_of_pos hb] at hu
              have HU := Lib.hid hu
              clear hu hl
              go_wp2_with (go_at_call 49; refine (refBlank_any _ _).mono ?_; rintro e w' ⟨rfl, rfl⟩)
              all_goals exact ⟨⟨u.extract 0 (u.size - 1), rfl, by rw [ByteArray.size_extract]; omega, HU.out⟩, by simp [ByteArray.size_extract]; omega⟩
          · have hl : u.data.toList.reverse = [] := by
              have : u.data.toList.length = 0 := by rw [Array.length_toList]; show u.size = 0; omega
              rw [List.eq_nil_of_length_eq_zero this]; rfl
            have g0 : decide (0 < u.size) = false := decide_eq_false h0
            rw [hl, List.dropWhile_nil, ← hl] at hu
            have HU := Lib.hid hu
            clear hu hl
            go_wp2
            go_ret
            refine ⟨?_, rfl⟩
            rw [← str_of (l := trimmed true true s.data.toList) (u := u) (by unfold trimmed; simp only [if_true, if_false, Bool.false_eq_true]; rw [← HT.out, ← HU.out] <;> simp)]
            all_goals rfl
      · rw [hl, List.dropWhile_cons_of_pos hb] at ht
        have HT := Lib.hid ht
        clear ht hl
        go_wp2_with (go_at_call 49; refine (refBlank_any _ _).mono ?_; rintro e w' ⟨rfl, rfl⟩)
        exact ⟨⟨t.extract 1 t.size, rfl, by rw [ByteArray.size_extract]; omega, HT.out⟩, by simp [ByteArray.size_extract]; omega⟩
    · have hl : t.data.toList = [] := by
        have : t.data.toList.length = 0 := by rw [Array.length_toList]; show t.size = 0; omega
        exact List.eq_nil_of_length_eq_zero this
      have g0 : decide (0 < t.size) = false := decide_eq_false h0
      rw [hl, List.dropWhile_nil, ← hl] at ht
      have HT := Lib.hid ht
      clear ht hl
      go_wp2
      go_loop [0] (fun v => ∃ u : ByteArray, v = .string u ∧ u.size ≤ t.size ∧ u.data.toList.reverse.dropWhile blank = t.data.toList.reverse.dropWhile blank) (fun v => match v with | .string u => u.size | _ => 0)
      case atStart => exact ⟨t, rfl, Nat.le_refl _, rfl⟩
      case round =>
        obtain ⟨u, rfl, hlu, hu⟩ := hrel
        by_cases h0 : 0 < u.size
        · have hl := last_of h0
          have g0 : decide (0 < u.size) = true := decide_eq_true h0
          cases hb : blank u[u.size - 1]
          · rw [hl, List.dropWhile_cons_of_neg (by simp [hb]), ← hl] at hu
            have HU := Lib.hid hu
            clear hu hl
            go_wp2_with (go_at_call 49; refine (refBlank_any _ _).mono ?_; rintro e w' ⟨rfl, rfl⟩)
            all_goals go_ret
            all_goals refine ⟨?_, rfl⟩
            all_goals rw [← str_of (l := trimmed true true s.data.toList) (u := u) (by unfold trimmed; simp only [if_true, if_false, Bool.false_eq_true]; rw [← HT.out, ← HU.out] <;> simp)]
            all_goals rfl
          · rw [hl, List.dropWhile_cons_of_pos hb] at hu
            have HU := Lib.hid hu
            clear hu hl
            go_wp2_with (go_at_call 49; refine (refBlank_any _ _).mono ?_; rintro e w' ⟨rfl, rfl⟩)
            all_goals exact ⟨⟨u.extract 0 (u.size - 1), rfl, by rw [ByteArray.size_extract]; omega, HU.out⟩, by simp [ByteArray.size_extract]; omega⟩
        · have hl : u.data.toList.reverse = [] := by
            have : u.data.toList.length = 0 := by rw [Array.length_toList]; show u.size = 0; omega
            rw [List.eq_nil_of_length_eq_zero this]; rfl
          have g0 : decide (0 < u.size) = false := decide_eq_false h0
          rw [hl, List.dropWhile_nil, ← hl] at hu
          have HU := Lib.hid hu
          clear hu hl
          go_wp2
          go_ret
          refine ⟨?_, rfl⟩
          rw [← str_of (l := trimmed true true s.data.toList) (u := u) (by unfold trimmed; simp only [if_true, if_false, Bool.false_eq_true]; rw [← HT.out, ← HU.out] <;> simp)]
          all_goals rfl
theorem refTrim_any (s : ByteArray) (left right : Bool) (hm : s.size ≤ maxLen) (w : World) :
    Calls Tryd.prog 32 #[.string s, .bool left, .bool right] w fun e w' => e = .returned (.string ⟨(trimmed left right s.data.toList).toArray⟩) ∧ w = w' := by
  cases left <;> cases right
  · exact refTrim_ff s hm w
  · exact refTrim_ft s hm w
  · exact refTrim_tf s hm w
  · exact refTrim_tt s hm w
end Go.Proofs.YtohjcimkpcpgbaaDoor
