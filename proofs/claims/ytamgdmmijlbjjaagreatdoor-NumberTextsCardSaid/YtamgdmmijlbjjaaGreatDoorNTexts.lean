/- NumberTexts: its walk. -/
import Derived.Test.YtamgdmmijlbjjaaGreatDoorNHeads
import Derived.Test.YtamgdmmijlbjjaaGreatDoorNJoin
namespace Go.Proofs.YtamgdmmijlbjjaaGreatDoor
open Go Go.RowKit

theorem LawW.below {w w' : World} (h : LawW w) (hb : Below w.heap.size w w') : LawW w' := by
  have hs := h.size
  refine ⟨h.num.below hb, h.atof.below hb h.size h.blk, ?_, by have := hb.size; omega, ?_⟩
  · obtain ⟨b, o, len, cap, hp, hlt⟩ := h.blk
    exact ⟨b, o, len, cap, by rw [hb.cell (p := ⟨16, 0, none⟩) (by show 16 < _; omega)]; exact hp, Nat.lt_of_lt_of_le hlt hb.size⟩
  · obtain ⟨b, hb2⟩ := h.err
    exact ⟨b, by rw [hb.cell (p := ⟨1, 0, none⟩) (by show 1 < _; omega)]; exact hb2⟩
set_option maxRecDepth 100000 in
set_option maxHeartbeats 4000000 in
theorem texts_true (b : Nat) (hb : b < 18446744073709551616) (w : World) (hL : LawW w) :
    Calls Tryz.prog 3 #[.int .u64 b] w fun e w' => e = .returned (.bool true) ∧ Below w.heap.size w w' := by
  have HN : Hid (∀ W, Below w.heap.size w W → NumW W) := Lib.hid fun W hW => hL.num.below hW
  have HB := Lib.hid hb
  have HL := Lib.hid hL
  clear hL
  have hfm := from_math
  have e0 : ((b : Int)).toNat = b := Int.toNat_natCast b
  obtain ⟨x, hx⟩ : ∃ x : ByteArray, (⟨(digA b).toArray⟩ : ByteArray) = x := ⟨_, rfl⟩
  obtain ⟨y, hy⟩ : ∃ y : ByteArray, (⟨(textB b).toArray⟩ : ByteArray) = y := ⟨_, rfl⟩
  have hD := fun W hW => Digits_any b hb W hW
  have hR := fun W hW => refDigits_any b hb W hW
  have hT := fun W hW => Text_any b hb W hW
  have hRT : ∀ W, NumW W → Calls Tryz.prog 16 #[.float .f64 b] W fun e w' => e = .returned (.string ⟨(textB b).toArray⟩) ∧ Below W.heap.size W w' := fun W hW => refText_any b hb W hW
  rw [hx] at hD hR
  rw [hy] at hT hRT
  clear hx hy hb
  go_enter Tryz.func3, Tryz.ntmps3
  go_wp2_with fail
  refine (hD _ (HN.out _ (Below.refl _ _))).mono ?_
  rintro e w1 ⟨rfl, b1⟩
  go_wp2_with fail
  refine (hR w1 (HN.out w1 b1)).mono ?_
  rintro e w2 ⟨rfl, b2⟩
  have B2 := below_trans1 b1 b2
  clear b1 b2
  go_wp2_with fail
  refine (hT w2 (HN.out w2 B2)).mono ?_
  rintro e w3 ⟨rfl, b3⟩
  have B3 := below_trans1 B2 b3
  clear B2 b3
  go_wp2_with fail
  refine (hRT w3 (HN.out w3 B3)).mono ?_
  rintro e w4 ⟨rfl, b4⟩
  have B4 := below_trans1 B3 b4
  clear B3 b4
  go_wp2_with fail
  refine (Whole_any b HB.out w4).mono ?_
  rintro e w' ⟨rfl, rfl⟩
  go_wp2_with fail
  refine (refWhole_any b HB.out w4).mono ?_
  rintro e w' ⟨rfl, rfl⟩
  go_wp2_with fail
  refine (Int_any b HB.out w4).mono ?_
  rintro e w' ⟨rfl, rfl⟩
  go_wp2_with fail
  refine (refInt_any b HB.out w4).mono ?_
  rintro e w' ⟨rfl, rfl⟩
  have hL4 : LawW w4 := HL.out.below B4
  go_wp2_with fail
  refine (nheads_true w4 hL4).mono ?_
  rintro e w5 ⟨rfl, b5⟩
  go_wp2_with fail
  go_ret
  exact ⟨rfl, below_trans1 B4 b5⟩
end Go.Proofs.YtamgdmmijlbjjaaGreatDoor
