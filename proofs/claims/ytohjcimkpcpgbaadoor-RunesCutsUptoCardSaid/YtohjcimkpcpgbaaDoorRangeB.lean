/- The program's Valid and Slice. -/
import Derived.Test.YtohjcimkpcpgbaaDoorRange
import Derived.Test.YtohjcimkpcpgbaaDoorPlainB
import Derived.Test.YtohjcimkpcpgbaaDoorTrim
namespace Go.Proofs.YtohjcimkpcpgbaaDoor
open Go Go.RowKit

theorem HasBad_any (s : ByteArray) (pos : Nat) (h : pos < s.size) (hd : (Utf8.decode s pos).1 = 65533) (w : World) :
    Calls Tryd.prog 39 #[.string (s.extract pos s.size), .string ⟨#[239, 191, 189]⟩] w fun e w' => e = .returned (.bool (good s pos)) ∧ w' = w := by
  have h1 := Tryd.strings_HasPrefix (s.extract pos s.size) ⟨#[239, 191, 189]⟩ w
  rw [show (⟨#[239, 191, 189]⟩ : ByteArray).data.toList = [239, 191, 189] from rfl, bad_prefix s pos h hd] at h1
  exact h1
theorem good_of (s : ByteArray) (pos : Nat) (hd : (Utf8.decode s pos).1 ≠ 65533) : good s pos = true := decide_eq_true (fun h => hd h.1)

set_option maxHeartbeats 1000000 in
theorem Valid_any (s : ByteArray) (_hm : s.size ≤ 1000000000) (w : World) :
    Calls Tryd.prog 12 #[.string s] w fun e w' => e = .returned (.bool (allGood s 0)) ∧ Below w.heap.size w w' := by
  go_enter Tryd.func12, Tryd.ntmps12
  go_wp2
  go_loopw [] (fun wr => ∃ (pos : Nat), pos ≤ s.size ∧ allGood s pos = allGood s 0 ∧ wr.heap[w.heap.size]? = some (.stringIter s pos) ∧ Below w.heap.size w wr) (fun wr => s.size - wr.iterPos w.heap.size)
  case atStart =>
    refine ⟨0, Nat.zero_le _, rfl, ?_, (Below.refl _ w).alloc (Nat.le_refl _) _⟩
    have := World.iter_heap w s 0
    simpa using this
  case round =>
    obtain ⟨pos, hp, he, hit, hb⟩ := hrel
    by_cases hlt : pos < s.size
    · have hnx : ∀ ty, (Instr.next (.pointer (some ⟨w.heap.size, 0, none⟩)) true ty).run Tryd.prog wr = _ := fun ty => Lib.run_next_any_at wr w.heap.size s pos ty hit hlt
      have hwd := wid s pos hlt
      have hf := dec_fits s pos hlt
      have hit2 := Lib.iterAt_heap wr w.heap.size s pos (pos + (Utf8.decode s pos).2) hit
      have hb2 := Lib.below_iterAt hb (k := w.heap.size) (Nat.le_refl _) s (pos + (Utf8.decode s pos).2)
      rw [allGood_cons s pos hlt] at he
      have Hit := Lib.hid hit
      have Hit2 := Lib.hid hit2
      clear hit hit2
      by_cases hd : (Utf8.decode s pos).1 = 65533
      · have k0 : (((Utf8.decode s pos).1 : Int) == 65533) = true := by rw [hd]; rfl
        have Hd := Lib.hid hd
        clear hd
        cases hgd : good s pos
        · rw [hgd, Bool.false_and] at he
          have He := Lib.hid he
          clear he
          go_wp2_with (go_at_call 39; refine (HasBad_any s pos hlt Hd.out _).mono ?_; rintro e w' ⟨rfl, rfl⟩)
          go_ret
          exact ⟨by rw [← He.out]; rfl, hb2⟩
        · rw [hgd, Bool.true_and] at he
          have He := Lib.hid he
          clear he
          go_wp2_with (go_at_call 39; refine (HasBad_any s pos hlt Hd.out _).mono ?_; rintro e w' ⟨rfl, rfl⟩)
          go_roundw
          case rel => exact ⟨pos + (Utf8.decode s pos).2, hf.1, He.out, Hit2.out, hb2⟩
          case measure => simp only [World.iterPos, Hit2.out, Hit.out]; omega
      · have k0 : (((Utf8.decode s pos).1 : Int) == 65533) = false := by rw [beq_eq_false_iff_ne]; omega
        rw [good_of s pos hd, Bool.true_and] at he
        have He := Lib.hid he
        clear he hd
        go_wp2
        go_roundw
        case rel => exact ⟨pos + (Utf8.decode s pos).2, hf.1, He.out, Hit2.out, hb2⟩
        case measure => simp only [World.iterPos, Hit2.out, Hit.out]; omega
    · have hnx : ∀ ty, (Instr.next (.pointer (some ⟨w.heap.size, 0, none⟩)) true ty).run Tryd.prog wr = _ := fun ty => Lib.run_next_end_at wr w.heap.size s pos ty hit hlt
      rw [allGood_nil s pos hlt] at he
      have He := Lib.hid he
      clear he hit
      go_wp2
      go_ret
      exact ⟨by rw [← He.out]; rfl, hb⟩

/-- Where piece number k begins: the end, if there is none. -/
def atP (s : ByteArray) (k : Nat) : Nat := ((st s 0)[k]?).getD s.size
theorem atP_of {s : ByteArray} {pos : Nat} {pre : List Nat} (h : pre ++ st s pos = st s 0) (hp : pos < s.size) : atP s pre.length = pos := by
  unfold atP
  rw [← h, List.getElem?_append_right (Nat.le_refl _), Nat.sub_self, st_cons s pos hp]
  rfl
theorem atP_end {s : ByteArray} {k : Nat} (h : (st s 0).length ≤ k) : atP s k = s.size := by
  unfold atP
  rw [List.getElem?_eq_none h]
  rfl
theorem atP_le (s : ByteArray) (k : Nat) : atP s k ≤ s.size := by
  unfold atP
  by_cases h : k < (st s 0).length
  · rw [List.getElem?_eq_getElem h]
    have := (st_in s 0 _ (List.getElem_mem h)).2
    simp only [Option.getD_some]
    omega
  · rw [List.getElem?_eq_none (by omega)]
    exact Nat.le_refl _
theorem st_sorted (s : ByteArray) : ∀ (k pos : Nat), s.size - pos ≤ k → (st s pos).Pairwise (· < ·) := by
  intro k
  induction k with
  | zero => intro pos h; rw [st_nil s pos (by omega)]; exact List.Pairwise.nil
  | succ k ih =>
    intro pos h
    by_cases hp : pos < s.size
    · have hw := wid s pos hp
      rw [st_cons s pos hp]
      refine List.Pairwise.cons (fun x hx => ?_) (ih _ (by omega))
      have := st_in s _ x hx
      omega
    · rw [st_nil s pos hp]; exact List.Pairwise.nil
theorem atP_mono (s : ByteArray) {i j : Nat} (h : i < j) : atP s i ≤ atP s j := by
  by_cases hj : j < (st s 0).length
  · have hi : i < (st s 0).length := by omega
    have := List.pairwise_iff_getElem.1 (st_sorted s _ 0 (Nat.le_refl _)) i j hi hj h
    unfold atP
    rw [List.getElem?_eq_getElem hi, List.getElem?_eq_getElem hj]
    simp only [Option.getD_some]
    omega
  · rw [atP_end (by omega : (st s 0).length ≤ j)]
    exact atP_le s i
/-- The bytes of pieces from one number up to ahead of another. -/
def sliceS (s : ByteArray) (a b : Int) : ByteArray := if max a 0 < b then s.extract (atP s (max a 0).toNat) (atP s b.toNat) else ⟨#[]⟩

set_option maxHeartbeats 1000000 in
theorem Slice_in (s : ByteArray) (f t : Nat) (hm : s.size ≤ 1000000000) (hft : f < t) (_ht : t ≤ 9223372036854775807) (w : World) :
    Calls Tryd.prog 20 #[.string s, .int .i64 f, .int .i64 t] w fun e w' => e = .returned (.string (s.extract (atP s f) (atP s t))) ∧ Below w.heap.size w w' := by
  go_enter Tryd.func20, Tryd.ntmps20
  have hnf : ¬ t ≤ f := by omega
  have Hft := Lib.hid hft
  have hmono := Lib.hid (atP_mono s hft)
  go_wp2
  go_loopw [7, 8, 9] (fun a b k wr => ∃ (pos : Nat) (pre : List Nat), k = .int .i64 (pre.length : Int) ∧ pre.length ≤ t ∧ pre.length ≤ pos ∧ pos ≤ s.size ∧ pre ++ st s pos = st s 0 ∧ b = .int .i64 (s.size : Int) ∧ (∃ aN : Nat, a = .int .i64 (aN : Int) ∧ (f < pre.length → aN = atP s f) ∧ (pre.length ≤ f → aN = s.size)) ∧ wr.heap[w.heap.size]? = some (.stringIter s pos) ∧ Below w.heap.size w wr) (fun _ _ _ wr => s.size - wr.iterPos w.heap.size)
  case atStart =>
    refine ⟨0, [], rfl, Nat.zero_le _, Nat.le_refl _, Nat.zero_le _, rfl, rfl, ⟨s.size, rfl, fun h => absurd h (by simp), fun _ => rfl⟩, ?_, (Below.refl _ w).alloc (Nat.le_refl _) _⟩
    have := World.iter_heap w s 0
    simpa using this
  case round =>
    obtain ⟨pos, pre, rfl, hkt, hkp, hp, he, rfl, ⟨aN, rfl, ha1, ha2⟩, hit, hb⟩ := hrel
    obtain ⟨k, hk⟩ : ∃ k, pre.length = k := ⟨_, rfl⟩
    rw [hk] at hkt hkp ha1 ha2 ⊢
    by_cases hlt : pos < s.size
    · have hnx : ∀ ty, (Instr.next (.pointer (some ⟨w.heap.size, 0, none⟩)) true ty).run Tryd.prog wr = _ := fun ty => Lib.run_next_any_at wr w.heap.size s pos ty hit hlt
      have hwd := wid s pos hlt
      have hf := dec_fits s pos hlt
      have hit2 := Lib.iterAt_heap wr w.heap.size s pos (pos + (Utf8.decode s pos).2) hit
      have hb2 := Lib.below_iterAt hb (k := w.heap.size) (Nat.le_refl _) s (pos + (Utf8.decode s pos).2)
      have hat := atP_of he hlt
      have He2 : Hid ((pre ++ [pos]) ++ st s (pos + (Utf8.decode s pos).2) = st s 0) := by
        have := he
        rw [st_cons s pos hlt] at this
        rw [List.append_assoc]
        exact this
      rw [hk] at hat
      have Hit := Lib.hid hit
      have Hit2 := Lib.hid hit2
      have Hk := Lib.hid hk
      have Hat := Lib.hid hat
      have HA1 := Lib.hid ha1
      have HA2 := Lib.hid ha2
      clear hit hit2 he hk hat ha1 ha2
      by_cases hkt2 : k = t
      · have k1 : ((k : Int) == (f : Int)) = false := by rw [beq_eq_false_iff_ne]; have := Hft.out; omega
        have k2 : ((k : Int) == (t : Int)) = true := by rw [beq_iff_eq]; omega
        have e1 : aN = atP s f := HA1.out (by have := Hft.out; omega)
        have e2 : pos = atP s t := by rw [← Hat.out, hkt2]
        have hap : aN ≤ pos := by rw [e1, e2]; exact hmono.out
        have E1 := Lib.hid e1
        have E2 := Lib.hid e2
        clear hkt2 e1 e2
        go_wp2_with (go_at_call 42; refine (Clone_any _ (by rw [ByteArray.size_extract]; omega) _).mono ?_; rintro e w' ⟨rfl, hcl⟩)
        go_ret
        exact ⟨by rw [← E1.out, ← E2.out]; rfl, hb2.trans (hcl.mono hb2.size)⟩
      · have k2 : ((k : Int) == (t : Int)) = false := by rw [beq_eq_false_iff_ne]; omega
        by_cases hkf : k = f
        · have k1 : ((k : Int) == (f : Int)) = true := by rw [beq_iff_eq]; omega
          have Hkf := Lib.hid hkf
          clear hkf
          go_wp2
          go_roundw
          case rel => exact ⟨pos + (Utf8.decode s pos).2, pre ++ [pos], by rw [List.length_append, Hk.out]; go_num, by rw [List.length_append, Hk.out]; simp; omega, by rw [List.length_append, Hk.out]; simp; omega, hf.1, He2.out, rfl, ⟨pos, rfl, fun _ => by rw [← Hkf.out, Hat.out], fun h => by rw [List.length_append, Hk.out] at h; simp at h; have := Hkf.out; omega⟩, Hit2.out, hb2⟩
          case measure => simp only [World.iterPos, Hit2.out, Hit.out]; omega
        · have k1 : ((k : Int) == (f : Int)) = false := by rw [beq_eq_false_iff_ne]; omega
          go_wp2
          go_roundw
          case rel => exact ⟨pos + (Utf8.decode s pos).2, pre ++ [pos], by rw [List.length_append, Hk.out]; go_num, by rw [List.length_append, Hk.out]; simp; omega, by rw [List.length_append, Hk.out]; simp; omega, hf.1, He2.out, rfl, ⟨aN, rfl, fun h => by rw [List.length_append, Hk.out] at h; simp at h; exact HA1.out (by omega), fun h => by rw [List.length_append, Hk.out] at h; simp at h; exact HA2.out (by omega)⟩, Hit2.out, hb2⟩
          case measure => simp only [World.iterPos, Hit2.out, Hit.out]; omega
    · have hnx : ∀ ty, (Instr.next (.pointer (some ⟨w.heap.size, 0, none⟩)) true ty).run Tryd.prog wr = _ := fun ty => Lib.run_next_end_at wr w.heap.size s pos ty hit hlt
      rw [st_nil s pos hlt, List.append_nil] at he
      have hlen : (st s 0).length = k := by rw [← he]; exact hk
      have e2 : s.size = atP s t := (atP_end (by omega)).symm
      have e1 : aN = atP s f := by
        by_cases hfk : f < k
        · exact ha1 hfk
        · rw [ha2 (by omega)]; exact (atP_end (by omega)).symm
      have hap : aN ≤ s.size := by rw [e1]; exact atP_le s f
      have E1 := Lib.hid e1
      have E2 := Lib.hid e2
      clear he hit hk hlen e1 e2 ha1 ha2
      go_wp2_with (go_at_call 42; refine (Clone_any _ (by rw [ByteArray.size_extract]; omega) _).mono ?_; rintro e w' ⟨rfl, hcl⟩)
      go_ret
      exact ⟨by rw [← E1.out, ← E2.out]; rfl, hb.trans (hcl.mono hb.size)⟩
set_option maxHeartbeats 1000000 in
theorem Slice_neg (s : ByteArray) (a : Int) (t : Nat) (ha0 : a < 0) (hm : s.size ≤ 1000000000) (hft : 0 < t) (ht : t ≤ 9223372036854775807) (w : World) :
    Calls Tryd.prog 20 #[.string s, .int .i64 a, .int .i64 t] w fun e w' => e = .returned (.string (s.extract (atP s 0) (atP s t))) ∧ Below w.heap.size w w' := by
  go_enter Tryd.func20, Tryd.ntmps20
  have hnf : ¬ (t : Int) ≤ 0 := by omega
  have hmx : max a 0 = 0 := by omega
  have Hft := Lib.hid hft
  have hmono := Lib.hid (atP_mono s hft)
  go_wp2
  go_loopw [7, 8, 9] (fun a b k wr => ∃ (pos : Nat) (pre : List Nat), k = .int .i64 (pre.length : Int) ∧ pre.length ≤ t ∧ pre.length ≤ pos ∧ pos ≤ s.size ∧ pre ++ st s pos = st s 0 ∧ b = .int .i64 (s.size : Int) ∧ (∃ aN : Nat, a = .int .i64 (aN : Int) ∧ (0 < pre.length → aN = atP s 0) ∧ (pre.length ≤ 0 → aN = s.size)) ∧ wr.heap[w.heap.size]? = some (.stringIter s pos) ∧ Below w.heap.size w wr) (fun _ _ _ wr => s.size - wr.iterPos w.heap.size)
  case atStart =>
    refine ⟨0, [], rfl, Nat.zero_le _, Nat.le_refl _, Nat.zero_le _, rfl, rfl, ⟨s.size, rfl, fun h => absurd h (by simp), fun _ => rfl⟩, ?_, (Below.refl _ w).alloc (Nat.le_refl _) _⟩
    have := World.iter_heap w s 0
    simpa using this
  case round =>
    obtain ⟨pos, pre, rfl, hkt, hkp, hp, he, rfl, ⟨aN, rfl, ha1, ha2⟩, hit, hb⟩ := hrel
    obtain ⟨k, hk⟩ : ∃ k, pre.length = k := ⟨_, rfl⟩
    rw [hk] at hkt hkp ha1 ha2 ⊢
    by_cases hlt : pos < s.size
    · have hnx : ∀ ty, (Instr.next (.pointer (some ⟨w.heap.size, 0, none⟩)) true ty).run Tryd.prog wr = _ := fun ty => Lib.run_next_any_at wr w.heap.size s pos ty hit hlt
      have hwd := wid s pos hlt
      have hf := dec_fits s pos hlt
      have hit2 := Lib.iterAt_heap wr w.heap.size s pos (pos + (Utf8.decode s pos).2) hit
      have hb2 := Lib.below_iterAt hb (k := w.heap.size) (Nat.le_refl _) s (pos + (Utf8.decode s pos).2)
      have hat := atP_of he hlt
      have He2 : Hid ((pre ++ [pos]) ++ st s (pos + (Utf8.decode s pos).2) = st s 0) := by
        have := he
        rw [st_cons s pos hlt] at this
        rw [List.append_assoc]
        exact this
      rw [hk] at hat
      have Hit := Lib.hid hit
      have Hit2 := Lib.hid hit2
      have Hk := Lib.hid hk
      have Hat := Lib.hid hat
      have HA1 := Lib.hid ha1
      have HA2 := Lib.hid ha2
      clear hit hit2 he hk hat ha1 ha2
      by_cases hkt2 : k = t
      · have k1 : ((k : Int) == 0) = false := by rw [beq_eq_false_iff_ne]; have := Hft.out; omega
        have k2 : ((k : Int) == (t : Int)) = true := by rw [beq_iff_eq]; omega
        have e1 : aN = atP s 0 := HA1.out (by have := Hft.out; omega)
        have e2 : pos = atP s t := by rw [← Hat.out, hkt2]
        have hap : aN ≤ pos := by rw [e1, e2]; exact hmono.out
        have E1 := Lib.hid e1
        have E2 := Lib.hid e2
        clear hkt2 e1 e2
        go_wp2_with (go_at_call 42; refine (Clone_any _ (by rw [ByteArray.size_extract]; omega) _).mono ?_; rintro e w' ⟨rfl, hcl⟩)
        go_ret
        exact ⟨by rw [← E1.out, ← E2.out]; rfl, hb2.trans (hcl.mono hb2.size)⟩
      · have k2 : ((k : Int) == (t : Int)) = false := by rw [beq_eq_false_iff_ne]; omega
        by_cases hkf : k = 0
        · have k1 : ((k : Int) == 0) = true := by rw [beq_iff_eq]; omega
          have Hkf := Lib.hid hkf
          clear hkf
          go_wp2
          go_roundw
          case rel => exact ⟨pos + (Utf8.decode s pos).2, pre ++ [pos], by rw [List.length_append, Hk.out]; go_num, by rw [List.length_append, Hk.out]; simp; omega, by rw [List.length_append, Hk.out]; simp; omega, hf.1, He2.out, rfl, ⟨pos, rfl, fun _ => by rw [← Hkf.out, Hat.out], fun h => by rw [List.length_append, Hk.out] at h; simp at h <;> (have := Hkf.out; omega)⟩, Hit2.out, hb2⟩
          case measure => simp only [World.iterPos, Hit2.out, Hit.out]; omega
        · have k1 : ((k : Int) == 0) = false := by rw [beq_eq_false_iff_ne]; omega
          go_wp2
          go_roundw
          case rel => exact ⟨pos + (Utf8.decode s pos).2, pre ++ [pos], by rw [List.length_append, Hk.out]; go_num, by rw [List.length_append, Hk.out]; simp; omega, by rw [List.length_append, Hk.out]; simp; omega, hf.1, He2.out, rfl, ⟨aN, rfl, fun h => by rw [List.length_append, Hk.out] at h; simp at h; exact HA1.out (by omega), fun h => by rw [List.length_append, Hk.out] at h; simp at h <;> exact HA2.out (by omega)⟩, Hit2.out, hb2⟩
          case measure => simp only [World.iterPos, Hit2.out, Hit.out]; omega
    · have hnx : ∀ ty, (Instr.next (.pointer (some ⟨w.heap.size, 0, none⟩)) true ty).run Tryd.prog wr = _ := fun ty => Lib.run_next_end_at wr w.heap.size s pos ty hit hlt
      rw [st_nil s pos hlt, List.append_nil] at he
      have hlen : (st s 0).length = k := by rw [← he]; exact hk
      have e2 : s.size = atP s t := (atP_end (by omega)).symm
      have e1 : aN = atP s 0 := by
        by_cases hfk : 0 < k
        · exact ha1 hfk
        · rw [ha2 (by omega)]; exact (atP_end (by omega)).symm
      have hap : aN ≤ s.size := by rw [e1]; exact atP_le s 0
      have E1 := Lib.hid e1
      have E2 := Lib.hid e2
      clear he hit hk hlen e1 e2 ha1 ha2
      go_wp2_with (go_at_call 42; refine (Clone_any _ (by rw [ByteArray.size_extract]; omega) _).mono ?_; rintro e w' ⟨rfl, hcl⟩)
      go_ret
      exact ⟨by rw [← E1.out, ← E2.out]; rfl, hb.trans (hcl.mono hb.size)⟩

set_option maxHeartbeats 400000 in
theorem Slice_none (s : ByteArray) (a b : Int) (ha : -9223372036854775808 ≤ a ∧ a ≤ 9223372036854775807) (h : ¬ max a 0 < b) (w : World) :
    Calls Tryd.prog 20 #[.string s, .int .i64 a, .int .i64 b] w fun e w' => e = .returned (.string ⟨#[]⟩) ∧ Below w.heap.size w w' := by
  by_cases h0 : 0 ≤ a
  · have h1 : b ≤ a := by omega
    go_enter Tryd.func20, Tryd.ntmps20
    go_wp2
    go_ret
    exact ⟨rfl, Below.refl _ _⟩
  · have h1 : b ≤ 0 := by omega
    have hmx : max a 0 = 0 := by omega
    go_enter Tryd.func20, Tryd.ntmps20
    go_wp2
    go_ret
    exact ⟨rfl, Below.refl _ _⟩
/-- SLICE, AT EVERY TEXT AND EVERY TWO NUMBERS. -/
theorem Slice_any (s : ByteArray) (a b : Int) (hm : s.size ≤ 1000000000) (ha : -9223372036854775808 ≤ a ∧ a ≤ 9223372036854775807) (hb : b ≤ 9223372036854775807) (w : World) :
    Calls Tryd.prog 20 #[.string s, .int .i64 a, .int .i64 b] w fun e w' => e = .returned (.string (sliceS s a b)) ∧ Below w.heap.size w w' := by
  by_cases h : max a 0 < b
  · unfold sliceS
    rw [if_pos h]
    obtain ⟨t, ht⟩ := Int.eq_ofNat_of_zero_le (show 0 ≤ b by omega)
    subst ht
    by_cases h0 : 0 ≤ a
    · obtain ⟨f, hf⟩ := Int.eq_ofNat_of_zero_le h0
      subst hf
      have := Slice_in s f t hm (by omega) (by omega) w
      rw [show (max (f : Int) 0).toNat = f from by omega, Int.toNat_natCast]
      exact this
    · have := Slice_neg s a t (by omega) hm (by omega) (by omega) w
      rw [show (max a 0).toNat = 0 from by omega, Int.toNat_natCast]
      exact this
  · unfold sliceS
    rw [if_neg h]
    exact Slice_none s a b ha h w
end Go.Proofs.YtohjcimkpcpgbaaDoor
