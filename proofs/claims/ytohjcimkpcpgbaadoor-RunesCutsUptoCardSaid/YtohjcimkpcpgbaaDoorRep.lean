/- Repeat: of the answers and of the program. -/
import Derived.Test.YtohjcimkpcpgbaaDoorRefD
import Derived.Test.YtohjcimkpcpgbaaDoorCase
import Derived.Lib.AppendStr
namespace Go.Proofs.YtohjcimkpcpgbaaDoor
open Go Go.RowKit Go.WideShapes

/-- What Repeat gives: a text and 0, or nothing and 2. -/
def repS (s : ByteArray) (n : Int) : ByteArray × Int := if n < 0 ∨ (0 < s.size ∧ 1048576 / (s.size : Int) < n) then (⟨#[]⟩, 2) else (⟨(Lib.repeatL s.data.toList n.toNat).toArray⟩, 0)
theorem rep_bad {s : ByteArray} {n : Int} (h : n < 0 ∨ (0 < s.size ∧ 1048576 / (s.size : Int) < n)) : repS s n = (⟨#[]⟩, 2) := if_pos h
theorem rep_good {s : ByteArray} {n : Int} (h : ¬ (n < 0 ∨ (0 < s.size ∧ 1048576 / (s.size : Int) < n))) : repS s n = (⟨(Lib.repeatL s.data.toList n.toNat).toArray⟩, 0) := if_neg h
theorem rep_nil (c : Nat) : Lib.repeatL [] c = [] := by
  induction c with
  | zero => rfl
  | succ c ih => show [] ++ Lib.repeatL [] c = []; rw [ih]; rfl
theorem empty_list {s : ByteArray} (h : s.size = 0) : s.data.toList = [] := by
  apply List.eq_nil_of_length_eq_zero
  rw [Array.length_toList]
  exact h
theorem small_of {a : Nat} {n : Int} (h0 : 0 < a) (hn : 0 ≤ n) (h : n ≤ 1048576 / (a : Int)) : a * n.toNat ≤ 1048576 := by
  have h1 : n * a ≤ 1048576 := by
    have := Int.mul_le_mul_of_nonneg_right h (by omega : (0 : Int) ≤ (a : Int))
    have h2 := Int.ediv_mul_le 1048576 (by omega : (a : Int) ≠ 0)
    omega
  obtain ⟨m, rfl⟩ := Int.eq_ofNat_of_zero_le hn
  rw [Int.toNat_natCast]
  have h4 : (a : Int) * (m : Int) ≤ 1048576 := by rw [Int.mul_comm]; exact h1
  rw [← Int.natCast_mul] at h4
  omega

set_option maxHeartbeats 1000000 in
theorem Repeat_any (s : ByteArray) (n : Int) (hm : s.size ≤ 1000000000) (hn : -9223372036854775808 ≤ n ∧ n ≤ 9223372036854775807) (w : World) :
    Calls Tryd.prog 27 #[.string s, .int .i64 n] w fun e w' => e = .returned (.tuple #[.string (repS s n).1, .int .i64 (repS s n).2]) ∧ Below w.heap.size w w' := by
  by_cases h0 : n < 0
  · rw [rep_bad (Or.inl h0)]
    go_enter Tryd.func27, Tryd.ntmps27
    go_wp2
    go_ret2
    exact ⟨rfl, Below.refl _ _⟩
  · by_cases hz : s.size = 0
    · have hl := empty_list hz
      rw [rep_good (by omega)]
      have e1 : (s.toList == ([] : List UInt8)) = true := by rw [ByteArray.toList_eq, hl]; rfl
      have e2 : s.toList = [] := by rw [ByteArray.toList_eq, hl]
      rw [hl, rep_nil]
      obtain ⟨c, rfl⟩ := Int.eq_ofNat_of_zero_le (by omega : 0 ≤ n)
      have hrep := Tryd.strings_Repeat s c
      rw [hl, rep_nil] at hrep
      have Hrep := Lib.hid hrep
      have Hz := Lib.hid hz
      clear hl hrep hz
      go_enter Tryd.func27, Tryd.ntmps27
      go_wp2_with (first
        | (go_at_call 47; refine (Hrep.out _ (by omega) (by rw [Hz.out]; omega)).mono ?_; rintro e w1 ⟨rfl, hb1⟩)
        | (go_at_call 42; refine (Clone_any _ (by simp [ByteArray.size]) _).mono ?_; rintro e w2 ⟨rfl, hb2⟩))
      go_ret2
      exact ⟨rfl, hb1.trans (hb2.mono hb1.size)⟩
    · have e2 : s.toList ≠ [] := by
        rw [ByteArray.toList_eq]
        intro h
        apply hz
        have := congrArg List.length h
        rw [Array.length_toList] at this
        exact this
      have e3 : s.toList.isEmpty = false := by rw [List.isEmpty_eq_false_iff]; exact e2
      have hs1 : 1 ≤ (s.size : Int) := by omega
      by_cases hbig : 1048576 / (s.size : Int) < n
      · rw [rep_bad (Or.inr ⟨by omega, hbig⟩)]
        clear e2
        go_enter Tryd.func27, Tryd.ntmps27
        go_wp2
        go_ret2
        exact ⟨rfl, Below.refl _ _⟩
      · rw [rep_good (by omega)]
        have hsm := small_of (by omega : 0 < s.size) (by omega : 0 ≤ n) (by omega)
        obtain ⟨c, rfl⟩ := Int.eq_ofNat_of_zero_le (by omega : 0 ≤ n)
        rw [Int.toNat_natCast] at hsm ⊢
        have hlen : (⟨(Lib.repeatL s.data.toList c).toArray⟩ : ByteArray).size ≤ 281474976710656 := by
          rw [size_mk, Lib.repeatL_length, Nat.mul_comm, Array.length_toList]
          show s.size * c ≤ _
          omega
        have hsm2 := Lib.hid hsm
        clear e2 hsm
        go_enter Tryd.func27, Tryd.ntmps27
        go_wp2_with (first
          | (go_at_call 47; refine (Tryd.strings_Repeat s c _ (by omega) (by have := hsm2.out; omega)).mono ?_; rintro e w1 ⟨rfl, hb1⟩)
          | (go_at_call 42; refine (Clone_any _ hlen _).mono ?_; rintro e w2 ⟨rfl, hb2⟩))
        go_ret2
        exact ⟨rfl, hb1.trans (hb2.mono hb1.size)⟩

theorem rep_snoc (l : List UInt8) : ∀ c, Lib.repeatL l (c + 1) = Lib.repeatL l c ++ l
  | 0 => by show l ++ [] = [] ++ l; simp
  | c + 1 => by
    show l ++ Lib.repeatL l (c + 1) = (l ++ Lib.repeatL l c) ++ l
    rw [rep_snoc l c, List.append_assoc]
theorem strCells_bytes (s : ByteArray) : Lib.strCells s = Lib.byteCells s.data.toList := rfl

set_option maxHeartbeats 1000000 in
theorem refRepeat_any (s : ByteArray) (n : Int) (hm : s.size ≤ 1000000000) (hn : -9223372036854775808 ≤ n ∧ n ≤ 9223372036854775807) (w : World) :
    Calls Tryd.prog 28 #[.string s, .int .i64 n] w fun e w' => e = .returned (.tuple #[.string (repS s n).1, .int .i64 (repS s n).2]) ∧ Below w.heap.size w w' := by
  obtain ⟨i0, hi0, hz0, hz1, hz2⟩ := info_parts infoByte
  by_cases h0 : n < 0
  · rw [rep_bad (Or.inl h0)]
    go_enter Tryd.func28, Tryd.ntmps28
    go_wp2
    go_ret2
    exact ⟨rfl, Below.refl _ _⟩
  · by_cases hz : s.size = 0
    · have hl := empty_list hz
      rw [rep_good (by omega), hl, rep_nil]
      have e1 : ((s.size : Int) == 0) = true := by rw [hz]; rfl
      have e2 : decide (0 < s.size) = false := by rw [hz]; rfl
      clear hl
      go_enter Tryd.func28, Tryd.ntmps28
      go_wp2
      go_ret2
      exact ⟨rfl, Below.refl _ _⟩
    · have hs1 : 1 ≤ (s.size : Int) := by omega
      have e1 : ((s.size : Int) == 0) = false := by rw [beq_eq_false_iff_ne]; omega
      by_cases hbig : 1048576 / (s.size : Int) < n
      · rw [rep_bad (Or.inr ⟨by omega, hbig⟩)]
        go_enter Tryd.func28, Tryd.ntmps28
        go_wp2
        go_ret2
        exact ⟨rfl, Below.refl _ _⟩
      · rw [rep_good (by omega)]
        have hsm := small_of (by omega : 0 < s.size) (by omega : 0 ≤ n) (by omega)
        obtain ⟨c, rfl⟩ := Int.eq_ofNat_of_zero_le (by omega : 0 ≤ n)
        rw [Int.toNat_natCast] at hsm ⊢
        have hsm2 := Lib.hid hsm
        clear hsm
        go_enter Tryd.func28, Tryd.ntmps28
        go_wp2
        go_loopw [6, 7] (fun b i wr => ∃ k : Nat, i = .int .i64 k ∧ k ≤ c ∧ wr.ownsRow w.heap.size 5 1 b (Lib.repeatL s.data.toList k).length (Lib.byteCells (Lib.repeatL s.data.toList k)) ∧ Below w.heap.size w wr) (fun _ i _ => c - (intOf i).toNat)
        case atStart => exact ⟨0, rfl, Nat.zero_le _, World.ownsRow_nil _ _ _ _, Below.refl _ _⟩
        case round =>
          obtain ⟨k, rfl, hk, hown, hb⟩ := hrel
          by_cases hlt : k < c
          · have hle : (Lib.repeatL s.data.toList k).length + s.size ≤ 1048576 := by
              rw [Lib.repeatL_length, Array.length_toList]
              show k * s.size + s.size ≤ _
              have h1 : (k + 1) * s.size ≤ c * s.size := Nat.mul_le_mul_right _ hlt
              have h2 := hsm2.out
              rw [Nat.mul_comm] at h2
              rw [Nat.succ_mul] at h1
              omega
            go_wp2_with (at_builtin; refine Lib.wpList_append_own_string _ rfl _ _ 22 9 rfl w.heap.size 5 i0 Tryd.underlying22 Tryd.underlying9 hi0 hz0 hz1 hz2 _ _ _ rfl (by exact hown) s rfl ?c1 ?c2 ?c3 ?_)
            case c1 => unfold maxLen; omega
            case c2 => omega
            case c3 => exact hb.size
            intro v' w1 hown1 hg1 _
            go_wp2
            go_roundw
            case rel =>
              refine ⟨k + 1, by go_num, by omega, ?_, hb.grown hg1 hb.size (fun j hj => (hown.lt j hj).1)⟩
              rw [rep_snoc, List.length_append, Lib.byteCells_append, ← strCells_bytes]
              exact hown1
            case measure => simp [intOf]; omega
          · obtain rfl : k = c := by omega
            have hst := arr_string (P := Tryd.prog) (Arr.of_own hown (Nat.le_refl _)) 22 9 5 Tryd.underlying22 Tryd.underlying5 Tryd.underlying9
            clear hown
            go_wp2
            go_ret2
            exact ⟨rfl, hb⟩
end Go.Proofs.YtohjcimkpcpgbaaDoor
