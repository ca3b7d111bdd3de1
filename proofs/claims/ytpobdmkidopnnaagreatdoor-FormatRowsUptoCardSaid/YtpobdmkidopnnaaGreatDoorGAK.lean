/- The program's functions that go through a text's code points: Count, Points, Valid. -/
import Derived.Test.YtpobdmkidopnnaaGreatDoorGAJ
import Derived.Test.YtpobdmkidopnnaaGreatDoorShelf
import Derived.Lib.OthersKept
import Derived.Test.YtpobdmkidopnnaaGreatDoorGAA
import Derived.Lib.RuneBytes
import Derived.Test.YtpobdmkidopnnaaGreatDoorProg
import Derived.WalkKit
import Derived.Shelf.Strings.BuilderK
import Derived.Shelf.Strings.BuilderRune
import Derived.Lib.ConvBytes
import Derived.Lib.SlBytesRow
import Derived.Laws.BytesArg
import Derived.Lib.Repeat
import Derived.Lib.AppendStr
namespace Go.Proofs.YtpobdmkidopnnaaGreatDoor
open Go Go.RowKit

set_option maxHeartbeats 1000000 in
theorem Count_any (s : ByteArray) (hm : s.size ≤ 1000000000) (w : World) :
    Calls Tryz.prog 287 #[.string s] w fun e w' => e = .returned (.int .i64 (st s 0).length) ∧ Below w.heap.size w w' := by
  go_enter Tryz.func287, Tryz.ntmps287
  go_wp2
  go_loopw [3] (fun n wr => ∃ (pos : Nat) (k : Nat), n = .int .i64 k ∧ k ≤ pos ∧ pos ≤ s.size ∧ k + (st s pos).length = (st s 0).length ∧ wr.heap[w.heap.size]? = some (.stringIter s pos) ∧ Below w.heap.size w wr) (fun _ wr => s.size - wr.iterPos w.heap.size)
  case atStart =>
    refine ⟨0, 0, rfl, Nat.le_refl _, Nat.zero_le _, by omega, ?_, (Below.refl _ w).alloc (Nat.le_refl _) _⟩
    have := World.iter_heap w s 0
    simpa using this
  case round =>
    obtain ⟨pos, k, rfl, hk, hp, he, hit, hb⟩ := hrel
    by_cases hlt : pos < s.size
    · have hnx : ∀ ty, (Instr.next (.pointer (some ⟨w.heap.size, 0, none⟩)) true ty).run Tryz.prog wr = _ := fun ty => Lib.run_next_any_at wr w.heap.size s pos ty hit hlt
      have hwd := wid s pos hlt
      have hf := dec_fits s pos hlt
      have hit2 := Lib.iterAt_heap wr w.heap.size s pos (pos + (Utf8.decode s pos).2) hit
      have hb2 := Lib.below_iterAt hb (k := w.heap.size) (Nat.le_refl _) s (pos + (Utf8.decode s pos).2)
      rw [st_cons s pos hlt, List.length_cons] at he
      have Hit := Lib.hid hit
      have Hit2 := Lib.hid hit2
      have He := Lib.hid he
      clear hit hit2 he
      go_wp2
      go_roundw
      case rel => exact ⟨pos + (Utf8.decode s pos).2, k + 1, by go_num, by omega, hf.1, by have := He.out; omega, Hit2.out, hb2⟩
      case measure => simp only [World.iterPos, Hit2.out, Hit.out]; omega
    · have hnx : ∀ ty, (Instr.next (.pointer (some ⟨w.heap.size, 0, none⟩)) true ty).run Tryz.prog wr = _ := fun ty => Lib.run_next_end_at wr w.heap.size s pos ty hit hlt
      rw [st_nil s pos hlt, List.length_nil, Nat.add_zero] at he
      have He := Lib.hid he
      clear he hit
      go_wp2
      go_ret
      exact ⟨by rw [← He.out]; rfl, hb⟩

end Go.Proofs.YtpobdmkidopnnaaGreatDoor
namespace Go.Proofs.YtpobdmkidopnnaaGreatDoor
open Go Go.RowKit Go.WideShapes

set_option maxHeartbeats 400000 in
theorem Clone_any (s : ByteArray) (hm : s.size ≤ 281474976710656) (w : World) :
    Calls Tryz.prog 54 #[.string s] w fun e w' => e = .returned (.string s) ∧ Below w.heap.size w w' := by
  go_enter Tryz.func54, Tryz.ntmps54
  go_wp2_with (go_at_call 99; refine (Tryz.stringslite_Clone _ _ hm).mono ?_; rintro e w' ⟨rfl, hb⟩)
  go_ret
  exact ⟨rfl, hb⟩
theorem drop_headT {s : ByteArray} {k : Nat} (h : k < s.size) : s.data.toList.drop k = s[k] :: s.data.toList.drop (k + 1) := by
  have h' : k < s.data.toList.length := by simpa using h
  exact (List.getElem_cons_drop h').symm
theorem take_last {s : ByteArray} {k j : Nat} (h : k < j) (hj : j ≤ s.size) : ((s.data.toList.drop k).take (j - k)).reverse = s[j - 1] :: ((s.data.toList.drop k).take (j - 1 - k)).reverse := by
  have h' : j - 1 - k < (s.data.toList.drop k).length := by simp; omega
  have e : j - k = (j - 1 - k) + 1 := by omega
  rw [e, ← List.take_append_getElem h', List.reverse_append]
  simp
  have e2 : k + (j - 1 - k) = j - 1 := by omega
  simp only [e2]
  rfl
end Go.Proofs.YtpobdmkidopnnaaGreatDoor
namespace Go.Proofs.YtpobdmkidopnnaaGreatDoor
open Go Go.RowKit

theorem HasBad_any (s : ByteArray) (pos : Nat) (h : pos < s.size) (hd : (Utf8.decode s pos).1 = 65533) (w : World) :
    Calls Tryz.prog 329 #[.string (s.extract pos s.size), .string ⟨#[239, 191, 189]⟩] w fun e w' => e = .returned (.bool (good s pos)) ∧ w' = w := by
  have h1 := Tryz.strings_HasPrefix (s.extract pos s.size) ⟨#[239, 191, 189]⟩ w
  rw [show (⟨#[239, 191, 189]⟩ : ByteArray).data.toList = [239, 191, 189] from rfl, bad_prefix s pos h hd] at h1
  exact h1
theorem good_of (s : ByteArray) (pos : Nat) (hd : (Utf8.decode s pos).1 ≠ 65533) : good s pos = true := decide_eq_true (fun h => hd h.1)

/-- Where piece number k begins: the end, if there is none. -/
def atP (s : ByteArray) (k : Nat) : Nat := ((st s 0)[k]?).getD s.size
theorem atP_of {s : ByteArray} {pos : Nat} {pre : List Nat} (h : pre ++ st s pos = st s 0) (hp : pos < s.size) : atP s pre.length = pos := by
  unfold atP
  rw [← h, List.getElem?_append_right (Nat.le_refl _), Nat.sub_self, st_cons s pos hp]
  rfl
theorem atP_end {s : ByteArray} {k : Nat} (h : (st s 0).length ≤ k) : atP s k = s.size := by
  unfold atP
  rw [List.getElem?_eq_none h]
  rfl
theorem atP_le (s : ByteArray) (k : Nat) : atP s k ≤ s.size := by
  unfold atP
  by_cases h : k < (st s 0).length
  · rw [List.getElem?_eq_getElem h]
    have := (st_in s 0 _ (List.getElem_mem h)).2
    simp only [Option.getD_some]
    omega
  · rw [List.getElem?_eq_none (by omega)]
    exact Nat.le_refl _
theorem st_sorted (s : ByteArray) : ∀ (k pos : Nat), s.size - pos ≤ k → (st s pos).Pairwise (· < ·) := by
  intro k
  induction k with
  | zero => intro pos h; rw [st_nil s pos (by omega)]; exact List.Pairwise.nil
  | succ k ih =>
    intro pos h
    by_cases hp : pos < s.size
    · have hw := wid s pos hp
      rw [st_cons s pos hp]
      refine List.Pairwise.cons (fun x hx => ?_) (ih _ (by omega))
      have := st_in s _ x hx
      omega
    · rw [st_nil s pos hp]; exact List.Pairwise.nil
theorem atP_mono (s : ByteArray) {i j : Nat} (h : i < j) : atP s i ≤ atP s j := by
  by_cases hj : j < (st s 0).length
  · have hi : i < (st s 0).length := by omega
    have := List.pairwise_iff_getElem.1 (st_sorted s _ 0 (Nat.le_refl _)) i j hi hj h
    unfold atP
    rw [List.getElem?_eq_getElem hi, List.getElem?_eq_getElem hj]
    simp only [Option.getD_some]
    omega
  · rw [atP_end (by omega : (st s 0).length ≤ j)]
    exact atP_le s i
/-- The bytes of pieces from one number up to ahead of another. -/
def sliceS (s : ByteArray) (a b : Int) : ByteArray := if max a 0 < b then s.extract (atP s (max a 0).toNat) (atP s b.toNat) else ⟨#[]⟩

set_option maxHeartbeats 1000000 in
theorem Slice_in (s : ByteArray) (f t : Nat) (hm : s.size ≤ 1000000000) (hft : f < t) (_ht : t ≤ 9223372036854775807) (w : World) :
    Calls Tryz.prog 288 #[.string s, .int .i64 f, .int .i64 t] w fun e w' => e = .returned (.string (s.extract (atP s f) (atP s t))) ∧ Below w.heap.size w w' := by
  go_enter Tryz.func288, Tryz.ntmps288
  have hnf : ¬ t ≤ f := by omega
  have Hft := Lib.hid hft
  have hmono := Lib.hid (atP_mono s hft)
  go_wp2
  go_loopw [7, 8, 9] (fun a b k wr => ∃ (pos : Nat) (pre : List Nat), k = .int .i64 (pre.length : Int) ∧ pre.length ≤ t ∧ pre.length ≤ pos ∧ pos ≤ s.size ∧ pre ++ st s pos = st s 0 ∧ b = .int .i64 (s.size : Int) ∧ (∃ aN : Nat, a = .int .i64 (aN : Int) ∧ (f < pre.length → aN = atP s f) ∧ (pre.length ≤ f → aN = s.size)) ∧ wr.heap[w.heap.size]? = some (.stringIter s pos) ∧ Below w.heap.size w wr) (fun _ _ _ wr => s.size - wr.iterPos w.heap.size)
  case atStart =>
    refine ⟨0, [], rfl, Nat.zero_le _, Nat.le_refl _, Nat.zero_le _, rfl, rfl, ⟨s.size, rfl, fun h => absurd h (by simp), fun _ => rfl⟩, ?_, (Below.refl _ w).alloc (Nat.le_refl _) _⟩
    have := World.iter_heap w s 0
    simpa using this
  case round =>
    obtain ⟨pos, pre, rfl, hkt, hkp, hp, he, rfl, ⟨aN, rfl, ha1, ha2⟩, hit, hb⟩ := hrel
    obtain ⟨k, hk⟩ : ∃ k, pre.length = k := ⟨_, rfl⟩
    rw [hk] at hkt hkp ha1 ha2 ⊢
    by_cases hlt : pos < s.size
    · have hnx : ∀ ty, (Instr.next (.pointer (some ⟨w.heap.size, 0, none⟩)) true ty).run Tryz.prog wr = _ := fun ty => Lib.run_next_any_at wr w.heap.size s pos ty hit hlt
      have hwd := wid s pos hlt
      have hf := dec_fits s pos hlt
      have hit2 := Lib.iterAt_heap wr w.heap.size s pos (pos + (Utf8.decode s pos).2) hit
      have hb2 := Lib.below_iterAt hb (k := w.heap.size) (Nat.le_refl _) s (pos + (Utf8.decode s pos).2)
      have hat := atP_of he hlt
      have He2 : Hid ((pre ++ [pos]) ++ st s (pos + (Utf8.decode s pos).2) = st s 0) := by
        have := he
        rw [st_cons s pos hlt] at this
        rw [List.append_assoc]
        exact this
      rw [hk] at hat
      have Hit := Lib.hid hit
      have Hit2 := Lib.hid hit2
      have Hk := Lib.hid hk
      have Hat := Lib.hid hat
      have HA1 := Lib.hid ha1
      have HA2 := Lib.hid ha2
      clear hit hit2 he hk hat ha1 ha2
      by_cases hkt2 : k = t
      · have k1 : ((k : Int) == (f : Int)) = false := by rw [beq_eq_false_iff_ne]; have := Hft.out; omega
        have k2 : ((k : Int) == (t : Int)) = true := by rw [beq_iff_eq]; omega
        have e1 : aN = atP s f := HA1.out (by have := Hft.out; omega)
        have e2 : pos = atP s t := by rw [← Hat.out, hkt2]
        have hap : aN ≤ pos := by rw [e1, e2]; exact hmono.out
        have E1 := Lib.hid e1
        have E2 := Lib.hid e2
        clear hkt2 e1 e2
        go_wp2_with (go_at_call 54; refine (Clone_any _ (by rw [ByteArray.size_extract]; omega) _).mono ?_; rintro e w' ⟨rfl, hcl⟩)
        go_ret
        exact ⟨by rw [← E1.out, ← E2.out]; rfl, hb2.trans (hcl.mono hb2.size)⟩
      · have k2 : ((k : Int) == (t : Int)) = false := by rw [beq_eq_false_iff_ne]; omega
        by_cases hkf : k = f
        · have k1 : ((k : Int) == (f : Int)) = true := by rw [beq_iff_eq]; omega
          have Hkf := Lib.hid hkf
          clear hkf
          go_wp2
          go_roundw
          case rel => exact ⟨pos + (Utf8.decode s pos).2, pre ++ [pos], by rw [List.length_append, Hk.out]; go_num, by rw [List.length_append, Hk.out]; simp; omega, by rw [List.length_append, Hk.out]; simp; omega, hf.1, He2.out, rfl, ⟨pos, rfl, fun _ => by rw [← Hkf.out, Hat.out], fun h => by rw [List.length_append, Hk.out] at h; simp at h; have := Hkf.out; omega⟩, Hit2.out, hb2⟩
          case measure => simp only [World.iterPos, Hit2.out, Hit.out]; omega
        · have k1 : ((k : Int) == (f : Int)) = false := by rw [beq_eq_false_iff_ne]; omega
          go_wp2
          go_roundw
          case rel => exact ⟨pos + (Utf8.decode s pos).2, pre ++ [pos], by rw [List.length_append, Hk.out]; go_num, by rw [List.length_append, Hk.out]; simp; omega, by rw [List.length_append, Hk.out]; simp; omega, hf.1, He2.out, rfl, ⟨aN, rfl, fun h => by rw [List.length_append, Hk.out] at h; simp at h; exact HA1.out (by omega), fun h => by rw [List.length_append, Hk.out] at h; simp at h; exact HA2.out (by omega)⟩, Hit2.out, hb2⟩
          case measure => simp only [World.iterPos, Hit2.out, Hit.out]; omega
    · have hnx : ∀ ty, (Instr.next (.pointer (some ⟨w.heap.size, 0, none⟩)) true ty).run Tryz.prog wr = _ := fun ty => Lib.run_next_end_at wr w.heap.size s pos ty hit hlt
      rw [st_nil s pos hlt, List.append_nil] at he
      have hlen : (st s 0).length = k := by rw [← he]; exact hk
      have e2 : s.size = atP s t := (atP_end (by omega)).symm
      have e1 : aN = atP s f := by
        by_cases hfk : f < k
        · exact ha1 hfk
        · rw [ha2 (by omega)]; exact (atP_end (by omega)).symm
      have hap : aN ≤ s.size := by rw [e1]; exact atP_le s f
      have E1 := Lib.hid e1
      have E2 := Lib.hid e2
      clear he hit hk hlen e1 e2 ha1 ha2
      go_wp2_with (go_at_call 54; refine (Clone_any _ (by rw [ByteArray.size_extract]; omega) _).mono ?_; rintro e w' ⟨rfl, hcl⟩)
      go_ret
      exact ⟨by rw [← E1.out, ← E2.out]; rfl, hb.trans (hcl.mono hb.size)⟩
set_option maxHeartbeats 1000000 in
theorem Slice_neg (s : ByteArray) (a : Int) (t : Nat) (ha0 : a < 0) (hm : s.size ≤ 1000000000) (hft : 0 < t) (ht : t ≤ 9223372036854775807) (w : World) :
    Calls Tryz.prog 288 #[.string s, .int .i64 a, .int .i64 t] w fun e w' => e = .returned (.string (s.extract (atP s 0) (atP s t))) ∧ Below w.heap.size w w' := by
  go_enter Tryz.func288, Tryz.ntmps288
  have hnf : ¬ (t : Int) ≤ 0 := by omega
  have hmx : max a 0 = 0 := by omega
  have Hft := Lib.hid hft
  have hmono := Lib.hid (atP_mono s hft)
  go_wp2
  go_loopw [7, 8, 9] (fun a b k wr => ∃ (pos : Nat) (pre : List Nat), k = .int .i64 (pre.length : Int) ∧ pre.length ≤ t ∧ pre.length ≤ pos ∧ pos ≤ s.size ∧ pre ++ st s pos = st s 0 ∧ b = .int .i64 (s.size : Int) ∧ (∃ aN : Nat, a = .int .i64 (aN : Int) ∧ (0 < pre.length → aN = atP s 0) ∧ (pre.length ≤ 0 → aN = s.size)) ∧ wr.heap[w.heap.size]? = some (.stringIter s pos) ∧ Below w.heap.size w wr) (fun _ _ _ wr => s.size - wr.iterPos w.heap.size)
  case atStart =>
    refine ⟨0, [], rfl, Nat.zero_le _, Nat.le_refl _, Nat.zero_le _, rfl, rfl, ⟨s.size, rfl, fun h => absurd h (by simp), fun _ => rfl⟩, ?_, (Below.refl _ w).alloc (Nat.le_refl _) _⟩
    have := World.iter_heap w s 0
    simpa using this
  case round =>
    obtain ⟨pos, pre, rfl, hkt, hkp, hp, he, rfl, ⟨aN, rfl, ha1, ha2⟩, hit, hb⟩ := hrel
    obtain ⟨k, hk⟩ : ∃ k, pre.length = k := ⟨_, rfl⟩
    rw [hk] at hkt hkp ha1 ha2 ⊢
    by_cases hlt : pos < s.size
    · have hnx : ∀ ty, (Instr.next (.pointer (some ⟨w.heap.size, 0, none⟩)) true ty).run Tryz.prog wr = _ := fun ty => Lib.run_next_any_at wr w.heap.size s pos ty hit hlt
      have hwd := wid s pos hlt
      have hf := dec_fits s pos hlt
      have hit2 := Lib.iterAt_heap wr w.heap.size s pos (pos + (Utf8.decode s pos).2) hit
      have hb2 := Lib.below_iterAt hb (k := w.heap.size) (Nat.le_refl _) s (pos + (Utf8.decode s pos).2)
      have hat := atP_of he hlt
      have He2 : Hid ((pre ++ [pos]) ++ st s (pos + (Utf8.decode s pos).2) = st s 0) := by
        have := he
        rw [st_cons s pos hlt] at this
        rw [List.append_assoc]
        exact this
      rw [hk] at hat
      have Hit := Lib.hid hit
      have Hit2 := Lib.hid hit2
      have Hk := Lib.hid hk
      have Hat := Lib.hid hat
      have HA1 := Lib.hid ha1
      have HA2 := Lib.hid ha2
      clear hit hit2 he hk hat ha1 ha2
      by_cases hkt2 : k = t
      · have k1 : ((k : Int) == 0) = false := by rw [beq_eq_false_iff_ne]; have := Hft.out; omega
        have k2 : ((k : Int) == (t : Int)) = true := by rw [beq_iff_eq]; omega
        have e1 : aN = atP s 0 := HA1.out (by have := Hft.out; omega)
        have e2 : pos = atP s t := by rw [← Hat.out, hkt2]
        have hap : aN ≤ pos := by rw [e1, e2]; exact hmono.out
        have E1 := Lib.hid e1
        have E2 := Lib.hid e2
        clear hkt2 e1 e2
        go_wp2_with (go_at_call 54; refine (Clone_any _ (by rw [ByteArray.size_extract]; omega) _).mono ?_; rintro e w' ⟨rfl, hcl⟩)
        go_ret
        exact ⟨by rw [← E1.out, ← E2.out]; rfl, hb2.trans (hcl.mono hb2.size)⟩
      · have k2 : ((k : Int) == (t : Int)) = false := by rw [beq_eq_false_iff_ne]; omega
        by_cases hkf : k = 0
        · have k1 : ((k : Int) == 0) = true := by rw [beq_iff_eq]; omega
          have Hkf := Lib.hid hkf
          clear hkf
          go_wp2
          go_roundw
          case rel => exact ⟨pos + (Utf8.decode s pos).2, pre ++ [pos], by rw [List.length_append, Hk.out]; go_num, by rw [List.length_append, Hk.out]; simp; omega, by rw [List.length_append, Hk.out]; simp; omega, hf.1, He2.out, rfl, ⟨pos, rfl, fun _ => by rw [← Hkf.out, Hat.out], fun h => by rw [List.length_append, Hk.out] at h; simp at h <;> (have := Hkf.out; omega)⟩, Hit2.out, hb2⟩
          case measure => simp only [World.iterPos, Hit2.out, Hit.out]; omega
        · have k1 : ((k : Int) == 0) = false := by rw [beq_eq_false_iff_ne]; omega
          go_wp2
          go_roundw
          case rel => exact ⟨pos + (Utf8.decode s pos).2, pre ++ [pos], by rw [List.length_append, Hk.out]; go_num, by rw [List.length_append, Hk.out]; simp; omega, by rw [List.length_append, Hk.out]; simp; omega, hf.1, He2.out, rfl, ⟨aN, rfl, fun h => by rw [List.length_append, Hk.out] at h; simp at h; exact HA1.out (by omega), fun h => by rw [List.length_append, Hk.out] at h; simp at h <;> exact HA2.out (by omega)⟩, Hit2.out, hb2⟩
          case measure => simp only [World.iterPos, Hit2.out, Hit.out]; omega
    · have hnx : ∀ ty, (Instr.next (.pointer (some ⟨w.heap.size, 0, none⟩)) true ty).run Tryz.prog wr = _ := fun ty => Lib.run_next_end_at wr w.heap.size s pos ty hit hlt
      rw [st_nil s pos hlt, List.append_nil] at he
      have hlen : (st s 0).length = k := by rw [← he]; exact hk
      have e2 : s.size = atP s t := (atP_end (by omega)).symm
      have e1 : aN = atP s 0 := by
        by_cases hfk : 0 < k
        · exact ha1 hfk
        · rw [ha2 (by omega)]; exact (atP_end (by omega)).symm
      have hap : aN ≤ s.size := by rw [e1]; exact atP_le s 0
      have E1 := Lib.hid e1
      have E2 := Lib.hid e2
      clear he hit hk hlen e1 e2 ha1 ha2
      go_wp2_with (go_at_call 54; refine (Clone_any _ (by rw [ByteArray.size_extract]; omega) _).mono ?_; rintro e w' ⟨rfl, hcl⟩)
      go_ret
      exact ⟨by rw [← E1.out, ← E2.out]; rfl, hb.trans (hcl.mono hb.size)⟩

set_option maxHeartbeats 400000 in
theorem Slice_none (s : ByteArray) (a b : Int) (ha : -9223372036854775808 ≤ a ∧ a ≤ 9223372036854775807) (h : ¬ max a 0 < b) (w : World) :
    Calls Tryz.prog 288 #[.string s, .int .i64 a, .int .i64 b] w fun e w' => e = .returned (.string ⟨#[]⟩) ∧ Below w.heap.size w w' := by
  by_cases h0 : 0 ≤ a
  · have h1 : b ≤ a := by omega
    go_enter Tryz.func288, Tryz.ntmps288
    go_wp2
    go_ret
    exact ⟨rfl, Below.refl _ _⟩
  · have h1 : b ≤ 0 := by omega
    have hmx : max a 0 = 0 := by omega
    go_enter Tryz.func288, Tryz.ntmps288
    go_wp2
    go_ret
    exact ⟨rfl, Below.refl _ _⟩
/-- SLICE, AT EVERY TEXT AND EVERY TWO NUMBERS. -/
theorem Slice_any (s : ByteArray) (a b : Int) (hm : s.size ≤ 1000000000) (ha : -9223372036854775808 ≤ a ∧ a ≤ 9223372036854775807) (hb : b ≤ 9223372036854775807) (w : World) :
    Calls Tryz.prog 288 #[.string s, .int .i64 a, .int .i64 b] w fun e w' => e = .returned (.string (sliceS s a b)) ∧ Below w.heap.size w w' := by
  by_cases h : max a 0 < b
  · unfold sliceS
    rw [if_pos h]
    obtain ⟨t, ht⟩ := Int.eq_ofNat_of_zero_le (show 0 ≤ b by omega)
    subst ht
    by_cases h0 : 0 ≤ a
    · obtain ⟨f, hf⟩ := Int.eq_ofNat_of_zero_le h0
      subst hf
      have := Slice_in s f t hm (by omega) (by omega) w
      rw [show (max (f : Int) 0).toNat = f from by omega, Int.toNat_natCast]
      exact this
    · have := Slice_neg s a t (by omega) hm (by omega) (by omega) w
      rw [show (max a 0).toNat = 0 from by omega, Int.toNat_natCast]
      exact this
  · unfold sliceS
    rw [if_neg h]
    exact Slice_none s a b ha h w
end Go.Proofs.YtpobdmkidopnnaaGreatDoor
namespace Go.Proofs.YtpobdmkidopnnaaGreatDoor
open Go Go.RowKit Go.WideShapes

theorem orI {x y : Int} (i : Nat) (_hi : i ≤ 8) (hx : 0 ≤ x) (hm : x % 2 ^ i = 0) (hl : x < 4294967296) (h0 : 0 ≤ y) (h1 : y < 2 ^ i) (h2 : y < 4294967296) : bits .or .i64 x y = x + y :=
  bits_join .i64 40 (by decide) (fun n h0 h1 => by rw [IntKind.wrap_i64]; omega) i x y hx hm (by omega) h0 h1 (by omega)
theorem and63 {x : Int} (h0 : 0 ≤ x) (h1 : x < 4294967296) : bits .and .i64 x 63 = x % 64 :=
  bits_mask .i64 40 (by decide) (fun n h0 h1 => by rw [IntKind.wrap_i64]; omega) 6 (by omega) x h0 (by omega)
theorem or128 {y : Int} (h0 : 0 ≤ y) (h1 : y < 64) : bits .or .i64 128 y = 128 + y := orI 6 (by omega) (by omega) (by omega) (by omega) h0 (by omega) (by omega)
theorem or192 {y : Int} (h0 : 0 ≤ y) (h1 : y < 32) : bits .or .i64 192 y = 192 + y := orI 5 (by omega) (by omega) (by omega) (by omega) h0 (by omega) (by omega)
theorem or224 {y : Int} (h0 : 0 ≤ y) (h1 : y < 16) : bits .or .i64 224 y = 224 + y := orI 4 (by omega) (by omega) (by omega) (by omega) h0 (by omega) (by omega)
theorem or240 {y : Int} (h0 : 0 ≤ y) (h1 : y < 8) : bits .or .i64 240 y = 240 + y := orI 3 (by omega) (by omega) (by omega) (by omega) h0 (by omega) (by omega)
theorem right_iff (p : Int) : right p = true ↔ 0 ≤ p ∧ p ≤ 1114111 ∧ (p < 55296 ∨ 57343 < p) := by unfold right; exact decide_eq_true_iff
end Go.Proofs.YtpobdmkidopnnaaGreatDoor
namespace Go.Proofs.YtpobdmkidopnnaaGreatDoor
open Go.Shelf Go.RowKit
def renB168 : Go.Shelf.Ren := ⟨fun | 168 => 127 | 240 => 202 | 242 => 204 | 276 => 276 | 278 => 278 | n => n, fun | 0 => 0 | 3 => 3 | 4 => 4 | 5 => 5 | 9 => 9 | 20 => 20 | 21 => 21 | 37 => 58 | 46 => 99 | 51 => 252 | 70 => 107 | 72 => 109 | 75 => 116 | 164 => 249 | 80 => 113 | n => n, fun | n => n⟩
theorem laysB168 : Go.Proofs.Lays.n168 Tryz.prog renB168 := {
  mixed := by kernel_rfl
  f168 := Tryz.func127.trans (congrArg some (by kernel_rfl))
  f240 := Tryz.func202.trans (congrArg some (by kernel_rfl))
  f242 := Tryz.func204.trans (congrArg some (by kernel_rfl))
  f276 := Tryz.func276.trans (congrArg some (by kernel_rfl))
  f278 := Tryz.func278.trans (congrArg some (by kernel_rfl))
  t0 := Tryz.underlying0
  a0 := Tryz.isAgg0
  z0 := Tryz.sizeOf0
  v0 := Tryz.zeroValue0
  t3 := Tryz.underlying3
  a3 := Tryz.isAgg3
  z3 := Tryz.sizeOf3
  v3 := Tryz.zeroValue3
  t4 := Tryz.underlying4
  a4 := Tryz.isAgg4
  z4 := Tryz.sizeOf4
  v4 := Tryz.zeroValue4
  t5 := Tryz.underlying5
  a5 := Tryz.isAgg5
  z5 := Tryz.sizeOf5
  v5 := Tryz.zeroValue5
  t9 := Tryz.underlying9
  a9 := Tryz.isAgg9
  z9 := Tryz.sizeOf9
  v9 := Tryz.zeroValue9
  t20 := Tryz.underlying20
  a20 := Tryz.isAgg20
  z20 := Tryz.sizeOf20
  v20 := Tryz.zeroValue20
  t21 := Tryz.underlying21
  a21 := Tryz.isAgg21
  z21 := Tryz.sizeOf21
  v21 := Tryz.zeroValue21
  t37 := Tryz.underlying58
  a37 := Tryz.isAgg58
  z37 := Tryz.sizeOf58
  v37 := Tryz.zeroValue58
  t46 := Tryz.underlying99
  a46 := Tryz.isAgg99
  z46 := Tryz.sizeOf99
  v46 := Tryz.zeroValue99
  t51 := Tryz.underlying252
  a51 := Tryz.isAgg252
  z51 := Tryz.sizeOf252
  v51 := Tryz.zeroValue252
  t70 := Tryz.underlying107
  a70 := Tryz.isAgg107
  z70 := Tryz.sizeOf107
  v70 := Tryz.zeroValue107
  t72 := Tryz.underlying109
  a72 := Tryz.isAgg109
  z72 := Tryz.sizeOf109
  v72 := Tryz.zeroValue109
  t75 := Tryz.underlying116
  a75 := Tryz.isAgg116
  z75 := Tryz.sizeOf116
  v75 := Tryz.zeroValue116
  t164 := Tryz.underlying249
  a164 := Tryz.isAgg249
  z164 := Tryz.sizeOf249
  v164 := Tryz.zeroValue249 }
theorem extraB168 : Builder.Extra Tryz.prog renB168 := {
  sizeBuilder := by kernel_rfl
  liesBuilder := by kernel_rfl
  t5 := Tryz.underlying5
  a5 := Tryz.isAgg5
  z5 := Tryz.sizeOf5
  v5 := Tryz.zeroValue5
  infoByte := by kernel_rfl
  cellsByte := by kernel_rfl
  sizeByte := by kernel_rfl
  neB5 := by decide }

theorem Builder_WriteRune (B b : Nat) (bs : List Value) (r : Int) (hr0 : -2147483648 ≤ r) (hr1 : r ≤ 2147483647) (w : World) (h : Lib.IsBuilderF 109 5 B b bs w) (hlen : bs.length + 4 ≤ 140737488355328) (hBw : B ≤ w.heap.size) :
    Calls Tryz.prog 127 #[.pointer (some ⟨b, 0, none⟩), .int .i32 r] w fun e w' => e = .returned (.tuple #[.int .i64 (Lib.runeCells r).length, .nilIface]) ∧ (Lib.BuilderAtF 109 5 B b (.pointer (some ⟨b, 0, none⟩)) (bs ++ Lib.runeCells r) w' ∧ Below B w w' ∧ Lib.OthersKept 5 (some b) w w') :=
  Any.Builder_WriteRune_k laysB168 extraB168 B b bs r hr0 hr1 w h hlen hBw
end Go.Proofs.YtpobdmkidopnnaaGreatDoor
namespace Go.Proofs.YtpobdmkidopnnaaGreatDoor
open Go Go.RowKit

/-- Block b is a conversion's row whose first cells are these bytes. -/
def BRow (w : World) (e : TypeId) (b : Nat) (l : List UInt8) : Prop :=
  ∃ cur, w.heap[b]? = some (.cells cur e (cur.size, cur.size + 1)) ∧ l.length ≤ cur.size ∧ ∀ j (h : j < l.length), cur[j]? = some (.int .u8 (l[j].toNat : Int))

theorem BRow.made (w : World) (e : TypeId) (s : ByteArray) : BRow (Lib.bytesWorld w e s) e w.heap.size s.data.toList := by
  refine ⟨_, Lib.bytesWorld_at_new w e s, ?_, fun j h => ?_⟩
  · unfold Lib.bytesCells; simp
  · unfold Lib.bytesCells
    have h' : j < s.data.size := by simpa using h
    rw [Array.getElem?_append_left (by simpa using h')]
    simp only [Array.getElem?_map, Array.getElem?_eq_getElem h', Option.map_some, Array.getElem_toList]
theorem BRow.cell {w : World} {e : TypeId} {b : Nat} {l : List UInt8} (h : BRow w e b l) (j : Nat) (hj : j < l.length) : w.cell? ⟨b, j, none⟩ = some (.int .u8 (l[j].toNat : Int)) := by
  obtain ⟨cur, hb, _, hc⟩ := h
  rw [Lib.cell_of_heap hb]
  exact hc j hj
theorem BRow.frozen {w : World} {e : TypeId} {b : Nat} {l : List UInt8} (h : BRow w e b l) (j : Nat) (hj : j < l.length) : w.frozen? ⟨b, j, none⟩ = false := by
  obtain ⟨cur, hb, hl, _⟩ := h
  simp [World.frozen?, hb]
  omega
theorem BRow.lt {w : World} {e : TypeId} {b : Nat} {l : List UInt8} (h : BRow w e b l) : b < w.heap.size := by
  obtain ⟨cur, hb, _⟩ := h
  rcases Nat.lt_or_ge b w.heap.size with h' | h'
  · exact h'
  · rw [Array.getElem?_eq_none h'] at hb; cases hb
theorem BRow.stored {w : World} {e : TypeId} {b : Nat} {l : List UInt8} (h : BRow w e b l) (j : Nat) (hj : j < l.length) (c : UInt8) : BRow (w.setCell ⟨b, j, none⟩ (.int .u8 (c.toNat : Int))) e b (l.set j c) := by
  obtain ⟨cur, hb, hl, hc⟩ := h
  refine ⟨cur.setIfInBounds j (.int .u8 (c.toNat : Int)), ?_, by simpa using hl, fun i hi => ?_⟩
  · simp [World.setCell, Array.getElem?_modify, hb]
  · have hi' : i < l.length := by simpa using hi
    rw [Array.getElem?_setIfInBounds]
    by_cases hij : j = i
    · subst hij
      rw [if_pos rfl, if_pos (by omega)]
      simp
    · rw [if_neg hij, hc i hi']
      simp [hij]
theorem BRow.drew {w : World} {e : TypeId} {b : Nat} {l : List UInt8} (h : BRow w e b l) : BRow w.drew e b l := h
theorem BRow.bytes {w : World} {e : TypeId} {b : Nat} {l : List UInt8} (h : BRow w e b l) : Lib.Bytes w b 0 ⟨l.toArray⟩ := by
  intro i hi
  have hi' : i < l.length := by simpa [ByteArray.size] using hi
  rw [Nat.zero_add, h.cell i hi']
  rfl
end Go.Proofs.YtpobdmkidopnnaaGreatDoor
namespace Go.Proofs.YtpobdmkidopnnaaGreatDoor
open Go Go.RowKit Go.WideShapes

/-- One byte in the other case. -/
def caseB (up : Bool) (c : UInt8) : UInt8 := if up then (if 97 ≤ c.toNat ∧ c.toNat ≤ 122 then c - 32 else c) else (if 65 ≤ c.toNat ∧ c.toNat ≤ 90 then c + 32 else c)
theorem xor32 : ∀ n : Fin 256, bits .xor .u8 (n.val : Int) 32 = if n.val / 32 % 2 = 1 then ((n.val - 32 : Nat) : Int) else ((n.val + 32 : Nat) : Int) := by decide +kernel
theorem flip32 (b : UInt8) : bits .xor .u8 (b.toNat : Int) 32 = if b.toNat / 32 % 2 = 1 then ((b.toNat - 32 : Nat) : Int) else ((b.toNat + 32 : Nat) : Int) := xor32 ⟨b.toNat, b.toNat_lt⟩
theorem caseB_up {c : UInt8} (h1 : 97 ≤ c.toNat) (h2 : c.toNat ≤ 122) : bits .xor .u8 (c.toNat : Int) 32 = ((caseB true c).toNat : Int) := by
  rw [flip32, if_pos (by omega)]
  unfold caseB
  rw [if_pos rfl, if_pos ⟨h1, h2⟩, UInt8.toNat_sub_of_le c 32 (by rw [UInt8.le_iff_toNat_le]; simp; omega)]
  rfl
theorem caseB_down {c : UInt8} (h1 : 65 ≤ c.toNat) (h2 : c.toNat ≤ 90) : bits .xor .u8 (c.toNat : Int) 32 = ((caseB false c).toNat : Int) := by
  rw [flip32, if_neg (by omega)]
  unfold caseB
  rw [if_neg (by simp), if_pos ⟨h1, h2⟩, UInt8.toNat_add]
  simp
  omega
theorem caseB_same_up {c : UInt8} (h : ¬ (97 ≤ c.toNat ∧ c.toNat ≤ 122)) : caseB true c = c := by unfold caseB; rw [if_pos rfl, if_neg h]
theorem caseB_same_down {c : UInt8} (h : ¬ (65 ≤ c.toNat ∧ c.toNat ≤ 90)) : caseB false c = c := by unfold caseB; rw [if_neg (by simp), if_neg h]
theorem mixed_set (f : UInt8 → UInt8) (l : List UInt8) (k : Nat) (h : k < l.length) : (((l.take k).map f) ++ l.drop k).set k (f l[k]) = ((l.take (k + 1)).map f) ++ l.drop (k + 1) := by
  rw [List.set_append_right _ _ (by simp; omega), ← List.getElem_cons_drop h]
  have e : ((l.take k).map f).length = k := by simp; omega
  rw [e, Nat.sub_self, List.set_cons_zero, ← List.take_append_getElem h, List.map_append, List.append_assoc]
  rfl
theorem mixed_get (f : UInt8 → UInt8) (l : List UInt8) (k : Nat) (h : k < l.length) : ∃ h' : k < (((l.take k).map f) ++ l.drop k).length, (((l.take k).map f) ++ l.drop k)[k] = l[k] := by
  refine ⟨by simp; omega, ?_⟩
  rw [List.getElem_append_right (by simp; omega)]
  simp [Nat.min_eq_left (Nat.le_of_lt h)]
theorem mixed_keep (f : UInt8 → UInt8) (l : List UInt8) (k : Nat) (h : k < l.length) (he : f l[k] = l[k]) : ((l.take k).map f) ++ l.drop k = ((l.take (k + 1)).map f) ++ l.drop (k + 1) := by
  rw [← mixed_set f l k h, he]
  obtain ⟨h', e⟩ := mixed_get f l k h
  conv => lhs; rw [← List.set_getElem_self h']
  rw [e]

theorem size_mk (l : List UInt8) : (⟨l.toArray⟩ : ByteArray).size = l.length := by simp [ByteArray.size]
theorem below_bytes (w : World) (e : TypeId) (s : ByteArray) : Below w.heap.size w (Lib.bytesWorld w e s) :=
  ⟨rfl, rfl, rfl, by rw [Lib.bytesWorld_size]; omega, fun k hk => Lib.bytesWorld_at_old w e s k hk⟩
theorem caseB_up2 {c : UInt8} (h1 : 97 ≤ c.toNat) (h2 : c.toNat ≤ 122) : (c.toNat : Int) - 97 + 65 = ((caseB true c).toNat : Int) := by
  unfold caseB
  rw [if_pos rfl, if_pos ⟨h1, h2⟩, UInt8.toNat_sub_of_le c 32 (by rw [UInt8.le_iff_toNat_le]; simp; omega)]
  simp
  omega
theorem caseB_down2 {c : UInt8} (h1 : 65 ≤ c.toNat) (h2 : c.toNat ≤ 90) : (c.toNat : Int) - 65 + 97 = ((caseB false c).toNat : Int) := by
  unfold caseB
  rw [if_neg (by simp), if_pos ⟨h1, h2⟩, UInt8.toNat_add]
  simp
  omega
end Go.Proofs.YtpobdmkidopnnaaGreatDoor
namespace Go.Proofs.YtpobdmkidopnnaaGreatDoor
open Go Go.RowKit Go.WideShapes

/-- What Of gives: a text and 0, or nothing and 2. -/
def ofS (l : List Int) : ByteArray × Int := match textOf l with
  | none => (⟨#[]⟩, 2)
  | some t => (⟨t.toArray⟩, 0)
theorem textOf_cons (p : Int) (r : List Int) : textOf (p :: r) = if right p then (textOf r).map (Lib.encodeRune p ++ ·) else none := rfl
theorem drop_at {α : Type} {l : List α} {k : Nat} {x : α} (h : l[k]? = some x) : l.drop k = x :: l.drop (k + 1) := by
  obtain ⟨h1, h2⟩ := List.getElem?_eq_some_iff.1 h
  rw [← h2]
  exact (List.getElem_cons_drop h1).symm
theorem enc_le (p : Int) : (Lib.encodeRune p).length ≤ 4 := by
  have := Lib.runeCells_le p
  rw [Lib.runeCells_length] at this
  omega

end Go.Proofs.YtpobdmkidopnnaaGreatDoor
namespace Go.Proofs.YtpobdmkidopnnaaGreatDoor
open Go Go.RowKit Go.WideShapes

theorem right_pt (s : ByteArray) (pos : Nat) : right ((Utf8.decode s pos).1 : Int) = true := by
  rw [right_iff]
  have := dec_point s pos
  omega
theorem textOf_pts (s : ByteArray) : ∀ (k pos : Nat), s.size - pos ≤ k → textOf ((pts s pos).map fun (n : Nat) => (n : Int)) = some (encAll (pts s pos)) := by
  intro k
  induction k with
  | zero => intro pos h; rw [pts_nil s pos (by omega)]; rfl
  | succ k ih =>
    intro pos h
    by_cases hp : pos < s.size
    · have hw := wid s pos hp
      rw [pts_cons s pos hp, List.map_cons, textOf_cons, right_pt, if_pos rfl, ih _ (by omega)]
      rfl
    · rw [pts_nil s pos hp]; rfl
/-- A cleaned text. -/
def cleanS (s : ByteArray) : ByteArray := ⟨(encAll (pts s 0)).toArray⟩
theorem ofS_pts (s : ByteArray) : ofS ((pts s 0).map fun (n : Nat) => (n : Int)) = (cleanS s, 0) := by
  unfold ofS
  rw [textOf_pts s _ 0 (Nat.le_refl _)]
  rfl
theorem cellsN_I (l : List Nat) : cellsN l = cellsI (l.map fun (n : Nat) => (n : Int)) := by unfold cellsN cellsI; rw [List.map_map]; rfl

set_option maxRecDepth 100000 in
set_option maxHeartbeats 1000000 in
theorem Clean_any (l : List UInt8) (B : Nat) (a : Value) (hl : l.length ≤ 1000000000) (w : World) (ha : Arr w B a (Lib.byteCells l)) (hB : B ≤ w.heap.size) :
    Calls Tryz.prog 73 #[a] w fun e w' => e = .returned (.string (cleanS ⟨l.toArray⟩)) ∧ Below w.heap.size w w' := by
  have hsz : (⟨l.toArray⟩ : ByteArray).size ≤ 1000000000 := by simpa [ByteArray.size] using hl
  have hpl := pts_len ⟨l.toArray⟩ 0
  obtain ⟨s, hs⟩ : ∃ s : ByteArray, ⟨l.toArray⟩ = s := ⟨_, rfl⟩
  rw [hs] at hsz hpl ⊢
  have Hs := Lib.hid hs
  clear hs
  have ha0 := ha
  obtain ⟨A, c, rfl, _⟩ := ha
  rw [Lib.byteCells_length] at *
  have HA := Lib.hid ha0
  clear ha0
  have hb0 : Below w.heap.size w (w.alloc (.cells #[.pointer none, .slice none 0 0] 109)) := (Below.refl _ _).alloc (Nat.le_refl _) _
  have hnew : (w.alloc (.cells #[.pointer none, .slice none 0 0] 109)).heap[w.heap.size]? = some (.cells #[.pointer none, .slice none 0 0] 109 (0, 0)) := heap_alloc_new w _
  have Hnew := Lib.hid hnew
  clear hnew
  go_enter Tryz.func73, Tryz.ntmps73
  go_wp2_with fail
  refine (Tryz.Builder_Grow_fresh w.heap.size w.heap.size l.length _ (Nat.le_refl _) Hnew.out hb0.size (by omega)).mono ?_; rintro e w1 ⟨rfl, hI, hb1⟩; have hst := arr_string (P := Tryz.prog) ((HA.out.below ((hb0.trans hb1).mono hB))) 58 9 5 Tryz.underlying58 Tryz.underlying5 Tryz.underlying9
  have Hb1 := hb0.trans hb1
  have hblt : w.heap.size < w1.heap.size := hI.lt
  rw [Hs.out] at hst
  have HI := Lib.hid hI
  clear hI hb1 hb0
  go_wp2
  go_loopw [] (fun wr => ∃ (pos : Nat) (acc : List UInt8), pos ≤ s.size ∧ acc.length ≤ 4 * pos ∧ acc ++ encAll (pts s pos) = encAll (pts s 0) ∧ Lib.IsBuilderF 109 5 w.heap.size w.heap.size (Lib.byteCells acc) wr ∧ wr.heap[w1.heap.size]? = some (.stringIter s pos) ∧ Below w.heap.size w wr) (fun wr => s.size - wr.iterPos w1.heap.size)
  case atStart =>
    refine ⟨0, [], Nat.zero_le _, Nat.le_refl _, rfl, (Lib.IsBuilderF.of (Or.inr HI.out)).alloc _, ?_, Hb1.alloc Hb1.size _⟩
    have := World.iter_heap w1 s 0
    simpa using this
  case round =>
    obtain ⟨pos, acc, hp, hacc, he, hIr, hit, hb⟩ := hrel
    clear Hb1
    by_cases hlt : pos < s.size
    · have hnx : ∀ ty, (Instr.next (.pointer (some ⟨w1.heap.size, 0, none⟩)) true ty).run Tryz.prog wr = _ := fun ty => Lib.run_next_any_at wr w1.heap.size s pos ty hit hlt
      have hwd := wid s pos hlt
      have hf := dec_fits s pos hlt
      have hpt := (dec_point s pos).1
      have hI2 := hIr.iterAt hit (pos + (Utf8.decode s pos).2)
      have hit2 := Lib.iterAt_heap wr w1.heap.size s pos (pos + (Utf8.decode s pos).2) hit
      have hb2 := Lib.below_iterAt hb (k := w1.heap.size) (by omega) s (pos + (Utf8.decode s pos).2)
      have He := Lib.hid he
      have Hit := Lib.hid hit
      have Hit2 := Lib.hid hit2
      clear he hit hit2
      go_wp2_with (go_at_call 127; refine (Builder_WriteRune w.heap.size w.heap.size _ _ (by omega) (by omega) _ hI2 (by rw [Lib.byteCells_length]; omega) hb2.size).mono ?_; rintro e w' ⟨rfl, hI3, hb3, hk3⟩)
      have Hit3 := Lib.hid (hk3.iter Hit2.out (by omega))
      go_roundw
      case rel =>
        refine ⟨pos + (Utf8.decode s pos).2, acc ++ Lib.encodeRune ((Utf8.decode s pos).1 : Int), hf.1, ?_, ?_, ?_, Hit3.out, hb2.trans hb3⟩
        · have := enc_le ((Utf8.decode s pos).1 : Int); rw [List.length_append]; omega
        · rw [← He.out, pts_cons s pos hlt, List.append_assoc]; rfl
        · rw [Lib.byteCells_append, Lib.byteCells_encodeRune]; exact Or.inr hI3
      case measure => simp only [World.iterPos, Hit3.out, Hit.out]; omega
    · have hnx : ∀ ty, (Instr.next (.pointer (some ⟨w1.heap.size, 0, none⟩)) true ty).run Tryz.prog wr = _ := fun ty => Lib.run_next_end_at wr w1.heap.size s pos ty hit hlt
      rw [pts_nil s pos hlt] at he
      have he2 : acc = encAll (pts s 0) := by rw [← he]; simp [encAll]
      have He := Lib.hid he2
      clear he hit he2
      go_wp2_with (go_at_call 101; refine (Tryz.Builder_String_any_k w.heap.size w.heap.size acc _ hIr hb.size).mono ?_; rintro e w' ⟨rfl, _, hb1, _⟩)
      go_ret
      exact ⟨by unfold cleanS; rw [← He.out]; rfl, hb.trans hb1⟩
end Go.Proofs.YtpobdmkidopnnaaGreatDoor
namespace Go.Proofs.YtpobdmkidopnnaaGreatDoor
open Go Go.RowKit Go.WideShapes

theorem extract_self (s : ByteArray) : s.extract 0 s.size = s := by
  apply bytes_inj
  rw [Lib.extract_data, List.drop_zero]
  exact List.take_of_length_le (by simp)
theorem extract_none (s : ByteArray) {a b : Nat} (h : b ≤ a) : s.extract a b = ⟨#[]⟩ := by
  apply bytes_inj
  rw [Lib.extract_data, show b - a = 0 from by omega]
  rfl
/-- Where piece k begins is what stands in the row of the beginnings, with the end behind. -/
theorem atP_row (s : ByteArray) (k : Nat) (h : k ≤ (st s 0).length) : (cellsN (st s 0 ++ [s.size]))[k]? = some (.int .i64 (atP s k : Int)) := by
  unfold cellsN atP
  rw [List.getElem?_map]
  by_cases hk : k < (st s 0).length
  · rw [List.getElem?_append_left hk, List.getElem?_eq_getElem hk]; rfl
  · rw [List.getElem?_append_right (by omega), List.getElem?_eq_none (l := st s 0) (by omega), show k - (st s 0).length = 0 from by omega]; rfl
theorem sliceS_clamped (s : ByteArray) (a b : Int) : sliceS s a b = if max 0 (min a ((st s 0).length : Int)) < max 0 (min b ((st s 0).length : Int)) then s.extract (atP s (max 0 (min a ((st s 0).length : Int))).toNat) (atP s (max 0 (min b ((st s 0).length : Int))).toNat) else ⟨#[]⟩ := by
  obtain ⟨n, hn⟩ : ∃ n, (st s 0).length = n := ⟨_, rfl⟩
  rw [hn]
  unfold sliceS
  by_cases h : max a 0 < b
  · rw [if_pos h]
    by_cases ha : max a 0 < (n : Int)
    · rw [if_pos (by omega), show (max 0 (min a (n : Int))).toNat = (max a 0).toNat from by omega]
      by_cases hb : b ≤ n
      · rw [show (max 0 (min b (n : Int))).toNat = b.toNat from by omega]
      · rw [show (max 0 (min b (n : Int))).toNat = n from by omega, atP_end (by omega : (st s 0).length ≤ n), atP_end (by omega : (st s 0).length ≤ b.toNat)]
    · rw [if_neg (by omega), atP_end (by omega : (st s 0).length ≤ (max a 0).toNat), atP_end (by omega : (st s 0).length ≤ b.toNat)]
      exact extract_none s (Nat.le_refl _)
  · rw [if_neg h, if_neg (by omega)]

end Go.Proofs.YtpobdmkidopnnaaGreatDoor
namespace Go.Proofs.YtpobdmkidopnnaaGreatDoor
open Go Go.RowKit Go.WideShapes

/-- What Repeat gives: a text and 0, or nothing and 2. -/
def repS (s : ByteArray) (n : Int) : ByteArray × Int := if n < 0 ∨ (0 < s.size ∧ 1048576 / (s.size : Int) < n) then (⟨#[]⟩, 2) else (⟨(Lib.repeatL s.data.toList n.toNat).toArray⟩, 0)
theorem rep_bad {s : ByteArray} {n : Int} (h : n < 0 ∨ (0 < s.size ∧ 1048576 / (s.size : Int) < n)) : repS s n = (⟨#[]⟩, 2) := if_pos h
theorem rep_good {s : ByteArray} {n : Int} (h : ¬ (n < 0 ∨ (0 < s.size ∧ 1048576 / (s.size : Int) < n))) : repS s n = (⟨(Lib.repeatL s.data.toList n.toNat).toArray⟩, 0) := if_neg h
theorem rep_nil (c : Nat) : Lib.repeatL [] c = [] := by
  induction c with
  | zero => rfl
  | succ c ih => show [] ++ Lib.repeatL [] c = []; rw [ih]; rfl
theorem empty_list {s : ByteArray} (h : s.size = 0) : s.data.toList = [] := by
  apply List.eq_nil_of_length_eq_zero
  rw [Array.length_toList]
  exact h
theorem small_of {a : Nat} {n : Int} (h0 : 0 < a) (hn : 0 ≤ n) (h : n ≤ 1048576 / (a : Int)) : a * n.toNat ≤ 1048576 := by
  have h1 : n * a ≤ 1048576 := by
    have := Int.mul_le_mul_of_nonneg_right h (by omega : (0 : Int) ≤ (a : Int))
    have h2 := Int.ediv_mul_le 1048576 (by omega : (a : Int) ≠ 0)
    omega
  obtain ⟨m, rfl⟩ := Int.eq_ofNat_of_zero_le hn
  rw [Int.toNat_natCast]
  have h4 : (a : Int) * (m : Int) ≤ 1048576 := by rw [Int.mul_comm]; exact h1
  rw [← Int.natCast_mul] at h4
  omega

theorem rep_snoc (l : List UInt8) : ∀ c, Lib.repeatL l (c + 1) = Lib.repeatL l c ++ l
  | 0 => by show l ++ [] = [] ++ l; simp
  | c + 1 => by
    show l ++ Lib.repeatL l (c + 1) = (l ++ Lib.repeatL l c) ++ l
    rw [rep_snoc l c, List.append_assoc]
theorem strCells_bytes (s : ByteArray) : Lib.strCells s = Lib.byteCells s.data.toList := rfl

end Go.Proofs.YtpobdmkidopnnaaGreatDoor
