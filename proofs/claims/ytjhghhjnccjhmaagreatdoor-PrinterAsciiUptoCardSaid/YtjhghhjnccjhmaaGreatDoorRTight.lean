/- What the law leaves of a text: its walk. -/
import Derived.Test.YtjhghhjnccjhmaaGreatDoorRTgV
namespace Go.Proofs.YtjhghhjnccjhmaaGreatDoor
open Go Go.RowKit

theorem drop_cons (s : ByteArray) (k : Nat) (h : k < s.size) : s.data.toList.drop k = s[k] :: s.data.toList.drop (k + 1) := by
  have h1 : k < s.data.toList.length := by simpa using h
  rw [← List.getElem_cons_drop h1]
  rfl
theorem tg_len : ∀ (n : Nat) (i : Bool) (l : List UInt8), l.length ≤ n → (tg i l).length ≤ l.length := by
  intro n
  induction n with
  | zero => intro i l h; obtain rfl : l = [] := List.eq_nil_of_length_eq_zero (by omega)
            rw [tg_nil]; exact Nat.le_refl _
  | succ n ih =>
    intro i l h
    cases l with
    | nil => rw [tg_nil]; exact Nat.le_refl _
    | cons c r =>
      rw [List.length_cons] at h
      have one : ∀ (q j : Bool), ((if q = true then [c] else []) ++ tg j r).length ≤ (c :: r).length := by
        intro q j
        have := ih j r (by omega)
        rw [List.length_append, List.length_cons]
        split
        · simp; omega
        · simp; omega
      cases i with
      | false => rw [tg_out]; exact one _ _
      | true =>
        by_cases h92 : c = 92
        · subst h92
          cases r with
          | nil => rw [tg_one]; exact Nat.le_refl _
          | cons d r =>
            rw [tg_two]
            rw [List.length_cons] at h
            have := ih true r (by omega)
            simp only [List.length_cons]
            omega
        · rw [tg_in c r h92]; exact one _ _
theorem u8_ne (c d : UInt8) : (((c.toNat : Nat) : Int) != ((d.toNat : Nat) : Int)) = !decide (c = d) := by
  show (!(((c.toNat : Nat) : Int) == ((d.toNat : Nat) : Int))) = _
  rw [u8_eq]
theorem drop_end (s : ByteArray) (k : Nat) (h : s.size ≤ k) : s.data.toList.drop k = [] := List.drop_of_length_le (by simpa using h)
set_option maxRecDepth 100000 in
set_option maxHeartbeats 8000000 in
theorem tight_any (s : ByteArray) (hm : s.size ≤ 1000000000) (w : World) :
    Calls Tryz.prog 20 #[.string s] w fun e w' => e = .returned (.string ⟨(tg false s.data.toList).toArray⟩) ∧ Below w.heap.size w w' := by
  have htl := tg_len _ false s.data.toList (Nat.le_refl _)
  have hsz : s.data.toList.length = s.size := by simp
  rw [hsz] at htl
  clear hsz
  go_enter Tryz.func20, Tryz.ntmps20
  go_wp2_with fail
  go_loopw [3, 4, 5] (fun b q i wr => ∃ (k : Nat) (ib : Bool) (acc : List UInt8), q = .bool ib ∧ i = .int .i64 k ∧ k ≤ s.size + 1 ∧ Hid (acc ++ tg ib (s.data.toList.drop k) = tg false s.data.toList) ∧ wr.ownsRow w.heap.size 5 1 b acc.length (Lib.byteCells acc) ∧ Below w.heap.size w wr) (fun _ _ i _ => s.size + 2 - (intOf i).toNat)
  case atStart => exact ⟨0, false, [], rfl, rfl, by omega, Lib.hid (by rw [List.drop_zero]; rfl), World.ownsRow_nil _ _ _ _, Below.refl _ _⟩
  case round =>
    obtain ⟨k, ib, acc, rfl, rfl, hk, HE, hown, hb⟩ := hrel
    have hbz := hb.size
    have hal : acc.length ≤ s.size := by
      have := congrArg List.length HE.out
      rw [List.length_append] at this
      omega
    by_cases hlt : k < s.size
    · have hdc := drop_cons s k hlt
      have b92 : (((s[k].toNat : Nat) : Int) == 92) = decide (s[k] = 92) := u8_eq s[k] 92
      have b34 : (((s[k].toNat : Nat) : Int) == 34) = decide (s[k] = 34) := u8_eq s[k] 34
      have n32 : (((s[k].toNat : Nat) : Int) != 32) = !decide (s[k] = 32) := u8_ne s[k] 32
      have n10 : (((s[k].toNat : Nat) : Int) != 10) = !decide (s[k] = 10) := u8_ne s[k] 10
      have n9 : (((s[k].toNat : Nat) : Int) != 9) = !decide (s[k] = 9) := u8_ne s[k] 9
      have HDC := Lib.hid hdc
      have HOW := Lib.hid hown
      have HB := Lib.hid hb
      have i0 : (0 : Int) ≤ (k : Int) := by omega
      have i1 : (k : Int) < (s.size : Int) := by omega
      clear hdc hown hb
      cases ib with
      | true =>
        by_cases e92 : s[k] = 92
        · rw [decide_eq_true e92] at b92
          clear b34 n32 n10 n9
          by_cases hlt2 : k + 1 < s.size
          · have hdc2 := drop_cons s (k + 1) hlt2
            have HDC2 := Lib.hid hdc2
            have i2 : (0 : Int) ≤ (k : Int) + 1 := by omega
            have i3 : (k : Int) + 1 < (s.size : Int) := by omega
            have dk : decide ((k : Int) + 1 < (s.size : Int)) = true := by simp; omega
            have etn : ((k : Int) + 1).toNat = k + 1 := by omega
            have hal2 : acc.length + 1 ≤ s.size + 1 := by omega
            clear hdc2
            go_wp2_with (at_builtin; refine app_one rfl _ _ _ rfl w.heap.size 5 _ 1 Tryz.underlying42 infoU8 rfl _ _ _ rfl (by exact HOW.out) rfl rfl ?c1 ?c2 ?c3 ?_)
            case c1 => unfold maxLen; omega
            case c2 => omega
            case c3 => omega
            intro v1 x1 hown1 hg1 hb1
            have hz1 := hb1.size
            go_wp2_with (at_builtin; refine app_one rfl _ _ _ rfl w.heap.size 5 _ 1 Tryz.underlying42 infoU8 rfl _ _ _ rfl (by exact hown1) rfl rfl ?c1 ?c2 ?c3 ?_)
            case c1 => unfold maxLen; omega
            case c2 => omega
            case c3 => omega
            intro v2 x2 hown2 hg2 hb2
            go_wp2_with fail
            go_roundw
            case rel => exact ⟨k + 2, true, acc ++ [92, s[k + 1]], rfl, by go_num, by omega, Lib.hid (by rw [← HE.out, HDC.out, HDC2.out, e92, tg_two]; simp), by rw [List.length_append, Lib.byteCells_append]; exact hown2, HB.out.trans (hb1.trans hb2)⟩
            case measure => simp [intOf]; omega
          · have dk : decide ((k : Int) + 1 < (s.size : Int)) = false := by simp; omega
            have hde := drop_end s (k + 1) (by omega)
            have hde2 := drop_end s (k + 2) (by omega)
            have HDE := Lib.hid hde
            have HDE2 := Lib.hid hde2
            clear hde hde2
            go_wp2_with (at_builtin; refine app_one rfl _ _ _ rfl w.heap.size 5 _ 1 Tryz.underlying42 infoU8 rfl _ _ _ rfl (by exact HOW.out) rfl rfl ?c1 ?c2 ?c3 ?_)
            case c1 => unfold maxLen; omega
            case c2 => omega
            case c3 => omega
            intro v1 x1 hown1 hg1 hb1
            go_wp2_with fail
            go_roundw
            case rel => exact ⟨k + 2, true, acc ++ [92], rfl, by go_num, by omega, Lib.hid (by rw [← HE.out, HDC.out, HDE.out, HDE2.out, e92, tg_one, tg_nil]; simp), by rw [List.length_append, Lib.byteCells_append]; exact hown1, HB.out.trans hb1⟩
            case measure => simp [intOf]; omega
        · rw [decide_eq_false e92] at b92
          clear n32 n10 n9
          by_cases e34 : s[k] = 34
          · rw [decide_eq_true e34] at b34
            have m32 : (((s[k].toNat : Nat) : Int) != 32) = true := by rw [e34]; decide
            have m10 : (((s[k].toNat : Nat) : Int) != 10) = true := by rw [e34]; decide
            have m9 : (((s[k].toNat : Nat) : Int) != 9) = true := by rw [e34]; decide
            go_wp2_with (at_builtin; refine app_one rfl _ _ _ rfl w.heap.size 5 _ 1 Tryz.underlying42 infoU8 rfl _ _ _ rfl (by exact HOW.out) rfl rfl ?c1 ?c2 ?c3 ?_)
            case c1 => unfold maxLen; omega
            case c2 => omega
            case c3 => omega
            intro v1 x1 hown1 hg1 hb1
            go_wp2_with fail
            go_roundw
            case rel => exact ⟨k + 1, false, acc ++ [34], rfl, by go_num, by omega, Lib.hid (by rw [← HE.out, HDC.out, tg_in _ _ e92, if_pos e34, e34]; simp [blankB]), by rw [List.length_append, Lib.byteCells_append]; exact hown1, HB.out.trans hb1⟩
            case measure => simp [intOf]; omega
          · rw [decide_eq_false e34] at b34
            go_wp2_with (at_builtin; refine app_one rfl _ _ _ rfl w.heap.size 5 _ 1 Tryz.underlying42 infoU8 rfl _ _ _ rfl (by exact HOW.out) rfl rfl ?c1 ?c2 ?c3 ?_)
            case c1 => unfold maxLen; omega
            case c2 => omega
            case c3 => omega
            intro v1 x1 hown1 hg1 hb1
            go_wp2_with fail
            go_roundw
            case rel => exact ⟨k + 1, true, acc ++ [s[k]], rfl, by go_num, by omega, Lib.hid (by rw [← HE.out, HDC.out, tg_in _ _ e92, if_neg e34]; simp), by rw [List.length_append, Lib.byteCells_append]; exact hown1, HB.out.trans hb1⟩
            case measure => simp [intOf]; omega
      | false =>
        clear b92
        by_cases e34 : s[k] = 34
        · rw [decide_eq_true e34] at b34
          clear n32 n10 n9
          go_wp2_with (at_builtin; refine app_one rfl _ _ _ rfl w.heap.size 5 _ 1 Tryz.underlying42 infoU8 rfl _ _ _ rfl (by exact HOW.out) rfl rfl ?c1 ?c2 ?c3 ?_)
          case c1 => unfold maxLen; omega
          case c2 => omega
          case c3 => omega
          intro v1 x1 hown1 hg1 hb1
          go_wp2_with fail
          go_roundw
          case rel => exact ⟨k + 1, true, acc ++ [34], rfl, by go_num, by omega, Lib.hid (by rw [← HE.out, HDC.out, tg_out, if_pos e34, e34]; simp), by rw [List.length_append, Lib.byteCells_append]; exact hown1, HB.out.trans hb1⟩
          case measure => simp [intOf]; omega
        · rw [decide_eq_false e34] at b34
          by_cases hbk : s[k] = 32 ∨ s[k] = 10 ∨ s[k] = 9
          · have hbt : blankB s[k] = true := by unfold blankB; exact decide_eq_true hbk
            have HBT := Lib.hid hbt
            have hcs : (((s[k].toNat : Nat) : Int) != 32) = false ∨ ((((s[k].toNat : Nat) : Int) != 32) = true ∧ (((s[k].toNat : Nat) : Int) != 10) = false) ∨ ((((s[k].toNat : Nat) : Int) != 32) = true ∧ (((s[k].toNat : Nat) : Int) != 10) = true ∧ (((s[k].toNat : Nat) : Int) != 9) = false) := by
              rcases hbk with e | e | e
              · exact Or.inl (by rw [e]; decide)
              · exact Or.inr (Or.inl ⟨by rw [e]; decide, by rw [e]; decide⟩)
              · exact Or.inr (Or.inr ⟨by rw [e]; decide, by rw [e]; decide, by rw [e]; decide⟩)
            clear n32 n10 n9 hbk hbt
            rcases hcs with m1 | ⟨m1, m2⟩ | ⟨m1, m2, m3⟩
            all_goals
              go_wp2_with fail
              go_roundw
              case rel => exact ⟨k + 1, false, acc, rfl, by go_num, by omega, Lib.hid (by rw [← HE.out, HDC.out, tg_out, if_neg e34, HBT.out]; rfl), HOW.out, HB.out⟩
              case measure => simp [intOf]; omega
          · have hbt : blankB s[k] = false := by unfold blankB; exact decide_eq_false hbk
            have HBT := Lib.hid hbt
            rw [decide_eq_false (fun e => hbk (Or.inl e))] at n32
            rw [decide_eq_false (fun e => hbk (Or.inr (Or.inl e)))] at n10
            rw [decide_eq_false (fun e => hbk (Or.inr (Or.inr e)))] at n9
            have m32 : (((s[k].toNat : Nat) : Int) != 32) = true := n32
            have m10 : (((s[k].toNat : Nat) : Int) != 10) = true := n10
            have m9 : (((s[k].toNat : Nat) : Int) != 9) = true := n9
            clear n32 n10 n9 hbk hbt
            go_wp2_with (at_builtin; refine app_one rfl _ _ _ rfl w.heap.size 5 _ 1 Tryz.underlying42 infoU8 rfl _ _ _ rfl (by exact HOW.out) rfl rfl ?c1 ?c2 ?c3 ?_)
            case c1 => unfold maxLen; omega
            case c2 => omega
            case c3 => omega
            intro v1 x1 hown1 hg1 hb1
            go_wp2_with fail
            go_roundw
            case rel => exact ⟨k + 1, false, acc ++ [s[k]], rfl, by go_num, by omega, Lib.hid (by rw [← HE.out, HDC.out, tg_out, if_neg e34, HBT.out]; simp), by rw [List.length_append, Lib.byteCells_append]; exact hown1, HB.out.trans hb1⟩
            case measure => simp [intOf]; omega
    · have hde := drop_end s k (by omega)
      have he : acc = tg false s.data.toList := by have := HE.out; rw [hde, tg_nil, List.append_nil] at this; exact this
      have dk : decide ((k : Int) < (s.size : Int)) = false := by simp; omega
      have hst := arr_string (P := Tryz.prog) (Arr.of_own hown (Nat.le_refl _)) 42 9 5 Tryz.underlying42 Tryz.underlying5 Tryz.underlying9
      rw [he] at hst
      have HB := Lib.hid hb
      clear hde he hown hb HE
      go_wp2_with fail
      go_ret
      exact ⟨rfl, HB.out⟩
end Go.Proofs.YtjhghhjnccjhmaaGreatDoor
