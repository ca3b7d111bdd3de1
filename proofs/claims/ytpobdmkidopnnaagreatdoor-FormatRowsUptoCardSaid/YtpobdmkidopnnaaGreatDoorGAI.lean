/- The answers' way of reading one piece of a text: what it gives is the model's own decoding. -/
import Derived.Test.YtpobdmkidopnnaaGreatDoorGAA
import Derived.WalkKit
import Derived.Handy
import Derived.Lib.DecodeN
namespace Go.Proofs.YtpobdmkidopnnaaGreatDoor
open Go.RowKit
theorem and192 : ∀ n : Fin 256, bits .and .u8 (n.val : Int) 192 = ((n.val / 64 * 64 : Nat) : Int) := by decide +kernel
theorem and224 : ∀ n : Fin 256, bits .and .u8 (n.val : Int) 224 = ((n.val / 32 * 32 : Nat) : Int) := by decide +kernel
theorem and240 : ∀ n : Fin 256, bits .and .u8 (n.val : Int) 240 = ((n.val / 16 * 16 : Nat) : Int) := by decide +kernel
theorem and248 : ∀ n : Fin 256, bits .and .u8 (n.val : Int) 248 = ((n.val / 8 * 8 : Nat) : Int) := by decide +kernel
theorem mask192 (b : UInt8) : bits .and .u8 (b.toNat : Int) 192 = ((b.toNat / 64 * 64 : Nat) : Int) := and192 ⟨b.toNat, b.toNat_lt⟩
theorem mask224 (b : UInt8) : bits .and .u8 (b.toNat : Int) 224 = ((b.toNat / 32 * 32 : Nat) : Int) := and224 ⟨b.toNat, b.toNat_lt⟩
theorem mask240 (b : UInt8) : bits .and .u8 (b.toNat : Int) 240 = ((b.toNat / 16 * 16 : Nat) : Int) := and240 ⟨b.toNat, b.toNat_lt⟩
theorem mask248 (b : UInt8) : bits .and .u8 (b.toNat : Int) 248 = ((b.toNat / 8 * 8 : Nat) : Int) := and248 ⟨b.toNat, b.toNat_lt⟩
theorem or64 {x y : Int} (hx : 0 ≤ x) (hm : x % 64 = 0) (hl : x < 4294967296) (h0 : 0 ≤ y) (h1 : y < 64) : bits .or .i64 x y = x + y :=
  bits_join .i64 40 (by decide) (fun n h0 h1 => by rw [IntKind.wrap_i64]; omega) 6 x y hx (by simpa using hm) (by omega) h0 (by simpa using h1) (by omega)

theorem tri {x y : Int} {z g : Bool} {d : Nat × Nat} (h1 : x = (d.1 : Int)) (h2 : y = (d.2 : Int)) (h3 : z = g) :
    Ending.returned (.tuple #[.int .i64 x, .int .i64 y, .bool z]) = .returned (.tuple #[.int .i64 d.1, .int .i64 d.2, .bool g]) := by subst h1; subst h2; subst h3; rfl
theorem get_at (s : ByteArray) (i : Nat) (h : i < s.size) : s.get! i = s[i] := by
  exact getElem!_pos s.data i h

set_option maxHeartbeats 400000 in
theorem more_any (b : UInt8) (w : World) : Calls Tryz.prog 102 #[.int .u8 b.toNat] w fun e w' => e = .returned (.bool (decide (b.toNat / 64 = 2))) ∧ w = w' := by
  have h := mask192 b
  go_enter Tryz.func102, Tryz.ntmps102
  go_wp2
  go_ret
  refine ⟨?_, rfl⟩
  simp
  congr 1
  apply Bool.eq_iff_iff.2
  simp
  omega


set_option maxRecDepth 100000 in
set_option maxHeartbeats 2000000 in
theorem piece_one (s : ByteArray) (i : Nat) (h : i < s.size) (_hm : s.size ≤ maxLen) (h1 : s[i].toNat < 128) (w : World) : Calls Tryz.prog 56 #[.string s, .int .i64 i] w fun e w' => e = .returned (.tuple #[.int .i64 (Utf8.decode s i).1, .int .i64 (Utf8.decode s i).2, .bool (good s i)]) ∧ w = w' := by
  have g0 := get_at s i h
  have b0 := s[i].toNat_lt
  have hd := Lib.decode_at s i
  rw [g0] at hd
  have Hd := Lib.hid hd
  clear hd g0
  go_enter Tryz.func56, Tryz.ntmps56
  go_wp2
  all_goals go_ret3
  all_goals (refine ⟨tri ?_ ?_ ?_, rfl⟩)
  all_goals (try unfold good)
  all_goals (rw [Hd.out]; clear Hd; unfold Lib.decodeN)
  all_goals try (simp only [Bool.not_eq_true', Bool.not_eq_false', beq_eq_false_iff_ne, beq_iff_eq, ne_eq, decide_eq_false_iff_not, decide_eq_true_eq] at *)
  all_goals (repeat' split)
  all_goals first | omega | (simp; done) | (simp; omega)

set_option maxRecDepth 100000 in
set_option maxHeartbeats 2000000 in
theorem piece_two (s : ByteArray) (i : Nat) (h : i < s.size) (hm : s.size ≤ maxLen) (h1 : 128 ≤ s[i].toNat) (h2 : s[i].toNat / 32 = 6) (w : World) : Calls Tryz.prog 56 #[.string s, .int .i64 i] w fun e w' => e = .returned (.tuple #[.int .i64 (Utf8.decode s i).1, .int .i64 (Utf8.decode s i).2, .bool (good s i)]) ∧ w = w' := by
  unfold maxLen at hm
  have k224 := mask224 s[i]
  have g0 := get_at s i h
  have b0 := s[i].toNat_lt
  have hd := Lib.decode_at s i
  rw [g0] at hd
  by_cases hn : i + 1 < s.size
  · have hn1 : i + 1 < s.size := by omega
    have m1 := mask192 s[i + 1]
    have g1 := get_at s (i + 1) hn1
    have b1 := s[i + 1].toNat_lt
    have o1 : bits .or .i64 (((s[i].toNat : Int) % 32) * 64) ((s[i + 1].toNat : Int) % 64) = (((s[i].toNat : Int) % 32) * 64) + ((s[i + 1].toNat : Int) % 64) := or64 (by omega) (by omega) (by omega) (by omega) (by omega)
    rw [g1] at hd
    have Hd := Lib.hid hd
    clear hd g0 g1
    go_enter Tryz.func56, Tryz.ntmps56
    go_wp2
    go_rounds 2
    all_goals go_ret3
    all_goals (refine ⟨tri ?_ ?_ ?_, rfl⟩)
    all_goals (try unfold good)
    all_goals (rw [Hd.out]; clear Hd; unfold Lib.decodeN)
    all_goals try (simp only [Bool.not_eq_true', Bool.not_eq_false', beq_eq_false_iff_ne, beq_iff_eq, ne_eq] at *)
    all_goals (repeat' split)
    all_goals first | omega | (simp; done) | (simp; omega)
  · have Hd := Lib.hid hd
    clear hd g0
    go_enter Tryz.func56, Tryz.ntmps56
    go_wp2
    all_goals go_ret3
    all_goals (refine ⟨tri ?_ ?_ ?_, rfl⟩)
    all_goals (try unfold good)
    all_goals (rw [Hd.out]; clear Hd; unfold Lib.decodeN)
    all_goals try (simp only [Bool.not_eq_true', Bool.not_eq_false', beq_eq_false_iff_ne, beq_iff_eq, ne_eq, decide_eq_false_iff_not, decide_eq_true_eq] at *)
    all_goals (repeat' split)
    all_goals first | omega | (simp; done) | (simp; omega)

set_option maxRecDepth 100000 in
set_option maxHeartbeats 2000000 in
theorem piece_three (s : ByteArray) (i : Nat) (h : i < s.size) (hm : s.size ≤ maxLen) (h1 : 128 ≤ s[i].toNat) (h2 : s[i].toNat / 16 = 14) (w : World) : Calls Tryz.prog 56 #[.string s, .int .i64 i] w fun e w' => e = .returned (.tuple #[.int .i64 (Utf8.decode s i).1, .int .i64 (Utf8.decode s i).2, .bool (good s i)]) ∧ w = w' := by
  unfold maxLen at hm
  have k224 := mask224 s[i]
  have k240 := mask240 s[i]
  have g0 := get_at s i h
  have b0 := s[i].toNat_lt
  have hd := Lib.decode_at s i
  rw [g0] at hd
  by_cases hn : i + 2 < s.size
  · have hn1 : i + 1 < s.size := by omega
    have m1 := mask192 s[i + 1]
    have g1 := get_at s (i + 1) hn1
    have b1 := s[i + 1].toNat_lt
    have hn2 : i + 2 < s.size := by omega
    have m2 := mask192 s[i + 2]
    have g2 := get_at s (i + 2) hn2
    have b2 := s[i + 2].toNat_lt
    have o1 : bits .or .i64 (((s[i].toNat : Int) % 16) * 64) ((s[i + 1].toNat : Int) % 64) = (((s[i].toNat : Int) % 16) * 64) + ((s[i + 1].toNat : Int) % 64) := or64 (by omega) (by omega) (by omega) (by omega) (by omega)
    have o2 : bits .or .i64 (((((s[i].toNat : Int) % 16) * 64) + ((s[i + 1].toNat : Int) % 64)) * 64) ((s[i + 2].toNat : Int) % 64) = (((((s[i].toNat : Int) % 16) * 64) + ((s[i + 1].toNat : Int) % 64)) * 64) + ((s[i + 2].toNat : Int) % 64) := or64 (by omega) (by omega) (by omega) (by omega) (by omega)
    rw [g1, g2] at hd
    have Hd := Lib.hid hd
    clear hd g0 g1 g2
    go_enter Tryz.func56, Tryz.ntmps56
    go_wp2
    go_rounds 3
    all_goals go_ret3
    all_goals (refine ⟨tri ?_ ?_ ?_, rfl⟩)
    all_goals (try unfold good)
    all_goals (rw [Hd.out]; clear Hd; unfold Lib.decodeN)
    all_goals try (simp only [Bool.not_eq_true', Bool.not_eq_false', beq_eq_false_iff_ne, beq_iff_eq, ne_eq, decide_eq_false_iff_not, decide_eq_true_eq] at *)
    all_goals (repeat' split)
    all_goals first | omega | (simp; done) | (simp; omega)
  · have Hd := Lib.hid hd
    clear hd g0
    go_enter Tryz.func56, Tryz.ntmps56
    go_wp2
    all_goals go_ret3
    all_goals (refine ⟨tri ?_ ?_ ?_, rfl⟩)
    all_goals (try unfold good)
    all_goals (rw [Hd.out]; clear Hd; unfold Lib.decodeN)
    all_goals try (simp only [beq_eq_false_iff_ne, ne_eq] at *)
    all_goals (repeat' split)
    all_goals first | omega | (simp; done) | (simp; omega)

set_option maxRecDepth 100000 in
set_option maxHeartbeats 2000000 in
theorem piece_four (s : ByteArray) (i : Nat) (h : i < s.size) (hm : s.size ≤ maxLen) (h1 : 128 ≤ s[i].toNat) (h2 : s[i].toNat / 8 = 30) (w : World) : Calls Tryz.prog 56 #[.string s, .int .i64 i] w fun e w' => e = .returned (.tuple #[.int .i64 (Utf8.decode s i).1, .int .i64 (Utf8.decode s i).2, .bool (good s i)]) ∧ w = w' := by
  unfold maxLen at hm
  have k224 := mask224 s[i]
  have k240 := mask240 s[i]
  have k248 := mask248 s[i]
  have g0 := get_at s i h
  have b0 := s[i].toNat_lt
  have hd := Lib.decode_at s i
  rw [g0] at hd
  by_cases hn : i + 3 < s.size
  · have hn1 : i + 1 < s.size := by omega
    have m1 := mask192 s[i + 1]
    have g1 := get_at s (i + 1) hn1
    have b1 := s[i + 1].toNat_lt
    have hn2 : i + 2 < s.size := by omega
    have m2 := mask192 s[i + 2]
    have g2 := get_at s (i + 2) hn2
    have b2 := s[i + 2].toNat_lt
    have hn3 : i + 3 < s.size := by omega
    have m3 := mask192 s[i + 3]
    have g3 := get_at s (i + 3) hn3
    have b3 := s[i + 3].toNat_lt
    have o1 : bits .or .i64 (((s[i].toNat : Int) % 8) * 64) ((s[i + 1].toNat : Int) % 64) = (((s[i].toNat : Int) % 8) * 64) + ((s[i + 1].toNat : Int) % 64) := or64 (by omega) (by omega) (by omega) (by omega) (by omega)
    have o2 : bits .or .i64 (((((s[i].toNat : Int) % 8) * 64) + ((s[i + 1].toNat : Int) % 64)) * 64) ((s[i + 2].toNat : Int) % 64) = (((((s[i].toNat : Int) % 8) * 64) + ((s[i + 1].toNat : Int) % 64)) * 64) + ((s[i + 2].toNat : Int) % 64) := or64 (by omega) (by omega) (by omega) (by omega) (by omega)
    have o3 : bits .or .i64 (((((((s[i].toNat : Int) % 8) * 64) + ((s[i + 1].toNat : Int) % 64)) * 64) + ((s[i + 2].toNat : Int) % 64)) * 64) ((s[i + 3].toNat : Int) % 64) = (((((((s[i].toNat : Int) % 8) * 64) + ((s[i + 1].toNat : Int) % 64)) * 64) + ((s[i + 2].toNat : Int) % 64)) * 64) + ((s[i + 3].toNat : Int) % 64) := or64 (by omega) (by omega) (by omega) (by omega) (by omega)
    rw [g1, g2, g3] at hd
    have Hd := Lib.hid hd
    clear hd g0 g1 g2 g3
    go_enter Tryz.func56, Tryz.ntmps56
    go_wp2
    go_rounds 4
    all_goals go_ret3
    all_goals (refine ⟨tri ?_ ?_ ?_, rfl⟩)
    all_goals (try unfold good)
    all_goals (rw [Hd.out]; clear Hd; unfold Lib.decodeN)
    all_goals try (simp only [Bool.not_eq_true', Bool.not_eq_false', beq_eq_false_iff_ne, beq_iff_eq, ne_eq, decide_eq_false_iff_not, decide_eq_true_eq] at *)
    all_goals (repeat' split)
    all_goals first | omega | (simp; done) | (simp; omega)
  · have Hd := Lib.hid hd
    clear hd g0
    go_enter Tryz.func56, Tryz.ntmps56
    go_wp2
    all_goals go_ret3
    all_goals (refine ⟨tri ?_ ?_ ?_, rfl⟩)
    all_goals (try unfold good)
    all_goals (rw [Hd.out]; clear Hd; unfold Lib.decodeN)
    all_goals try (simp only [beq_eq_false_iff_ne, ne_eq] at *)
    all_goals (repeat' split)
    all_goals first | omega | (simp; done) | (simp; omega)

set_option maxRecDepth 100000 in
set_option maxHeartbeats 2000000 in
theorem piece_bad (s : ByteArray) (i : Nat) (h : i < s.size) (_hm : s.size ≤ maxLen) (h1 : 128 ≤ s[i].toNat) (h2 : s[i].toNat / 32 ≠ 6) (h3 : s[i].toNat / 16 ≠ 14) (h4 : s[i].toNat / 8 ≠ 30) (w : World) : Calls Tryz.prog 56 #[.string s, .int .i64 i] w fun e w' => e = .returned (.tuple #[.int .i64 (Utf8.decode s i).1, .int .i64 (Utf8.decode s i).2, .bool (good s i)]) ∧ w = w' := by
  have k224 := mask224 s[i]
  have k240 := mask240 s[i]
  have k248 := mask248 s[i]
  have g0 := get_at s i h
  have b0 := s[i].toNat_lt
  have hd := Lib.decode_at s i
  rw [g0] at hd
  have Hd := Lib.hid hd
  clear hd g0
  go_enter Tryz.func56, Tryz.ntmps56
  go_wp2
  all_goals go_ret3
  all_goals (refine ⟨tri ?_ ?_ ?_, rfl⟩)
  all_goals (try unfold good)
  all_goals (rw [Hd.out]; clear Hd; unfold Lib.decodeN)
  all_goals try (simp only [beq_eq_false_iff_ne, ne_eq] at *)
  all_goals (repeat' split)
  all_goals first | omega | (simp; done) | (simp; omega)

/-- ONE PIECE, AT EVERY PLACE OF EVERY TEXT: the model's own decoding. -/
theorem piece_any (s : ByteArray) (i : Nat) (h : i < s.size) (hm : s.size ≤ maxLen) (w : World) : Calls Tryz.prog 56 #[.string s, .int .i64 i] w fun e w' => e = .returned (.tuple #[.int .i64 (Utf8.decode s i).1, .int .i64 (Utf8.decode s i).2, .bool (good s i)]) ∧ w = w' := by
  by_cases h1 : s[i].toNat < 128
  · exact piece_one s i h hm h1 w
  · by_cases h2 : s[i].toNat / 32 = 6
    · exact piece_two s i h hm (by omega) h2 w
    · by_cases h3 : s[i].toNat / 16 = 14
      · exact piece_three s i h hm (by omega) h3 w
      · by_cases h4 : s[i].toNat / 8 = 30
        · exact piece_four s i h hm (by omega) h4 w
        · exact piece_bad s i h hm (by omega) h2 h3 h4 w
end Go.Proofs.YtpobdmkidopnnaaGreatDoor
