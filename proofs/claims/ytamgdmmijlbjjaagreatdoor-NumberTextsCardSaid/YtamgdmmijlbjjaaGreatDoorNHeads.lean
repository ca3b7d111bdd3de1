/- The calls of layer 2 that must come at any rate. -/
import Derived.Test.YtamgdmmijlbjjaaGreatDoorNParse
import Derived.Test.YtamgdmmijlbjjaaGreatDoorNTextW
namespace Go.Proofs.YtamgdmmijlbjjaaGreatDoor
open Go Go.RowKit

/-- What layer 2 reads of the package-level variables. -/
structure LawW (w : World) : Prop where
  num : NumW w
  atof : AtofW w
  blk : ∃ (b o len cap : Nat), w.cell? ⟨16, 0, none⟩ = some (.slice (some ⟨b, o, none⟩) len cap) ∧ b < w.heap.size
  size : 17 ≤ w.heap.size
  err : ∃ b : Addr, w.cell? ⟨1, 0, none⟩ = some (.iface 285 (.pointer (some b)))
theorem AtofW.below {w w' : World} (h : AtofW w) (hb : Below w.heap.size w w') (hs : 17 ≤ w.heap.size) (hk : ∃ (b o len cap : Nat), w.cell? ⟨16, 0, none⟩ = some (.slice (some ⟨b, o, none⟩) len cap) ∧ b < w.heap.size) : AtofW w' := by
  refine ⟨?_, ?_, ?_⟩
  · rw [hb.cell (p := ⟨3, 0, none⟩) (by show 3 < _; omega)]; exact h.opt
  · rw [hb.cell (p := ⟨11, 0, none⟩) (by show 11 < _; omega)]; exact h.info
  · obtain ⟨b, o, len, cap, hp, h1, h2, h3, h4⟩ := h.pow
    obtain ⟨b', o', len', cap', hp', hlt⟩ := hk
    rw [hp] at hp'
    simp only [Option.some.injEq, Value.slice.injEq, Addr.mk.injEq] at hp'
    obtain ⟨⟨rfl, rfl, _⟩, rfl, rfl⟩ := hp'
    refine ⟨b, o, len, cap, ?_, h1, h2, h3, ?_⟩
    · rw [hb.cell (p := ⟨16, 0, none⟩) (by show 16 < _; omega)]; exact hp
    · rw [hb.cell (p := ⟨b, o + 2, none⟩) hlt]; exact h4
theorem inf_pos (w : World) : Calls Tryz.prog 61 #[.float .f64 9218868437227405312, .int .i64 1] w fun e w' => e = .returned (.bool true) ∧ w = w' := by
  have h : (FloatKind.f64.format.order 9218868437227405312 9218868437227405311 == some .gt) = true := by decide +kernel
  go_enter Tryz.func61, Tryz.ntmps61
  go_wp2_with fail
  go_ret
  exact ⟨rfl, rfl⟩
theorem num_any (n : Int) (w : World) : Calls Tryz.prog 67 #[.int .i64 n] w fun e w' => e = .returned (.int .i64 n) ∧ w = w' := by
  go_enter Tryz.func67, Tryz.ntmps67
  go_wp2_with fail
  go_ret
  exact ⟨rfl, rfl⟩
theorem tx1 : (⟨(textB 4532020583610935537).toArray⟩ : ByteArray) = ⟨#[49, 101, 45, 48, 53]⟩ := by kernel_rfl
theorem tx2 : (⟨(textB 4831355200913801216).toArray⟩ : ByteArray) = ⟨#[49, 48, 48, 48, 48, 48, 48, 48, 48, 48, 48, 48, 48, 48, 48, 48]⟩ := by kernel_rfl
theorem tx3 : (⟨(textB 13821547256400052224).toArray⟩ : ByteArray) = ⟨#[45, 48, 46, 50, 53]⟩ := by kernel_rfl
theorem tx4 : (⟨(textB 9218868437227405312).toArray⟩ : ByteArray) = ⟨#[49, 46, 55, 57, 55, 54, 57, 51, 49, 51, 52, 56, 54, 50, 51, 49, 53, 55, 101, 43, 51, 48, 56]⟩ := by kernel_rfl
theorem dg1 : (⟨(digA 4654311885213007872).toArray⟩ : ByteArray) = ⟨#[49, 53]⟩ := by kernel_rfl
theorem dg2 : expA 4654311885213007872 = 3 := by kernel_rfl
theorem wh1 : wholeB 4613937818241073152 = true := by kernel_rfl
theorem wh2 : wholeB 4602678819172646912 = false := by kernel_rfl
theorem in1 : intB 13837084675114480435 = -2 := by kernel_rfl

set_option maxRecDepth 100000 in
set_option maxHeartbeats 4000000 in
theorem nheads_true (w : World) (hL : LawW w) :
    Calls Tryz.prog 21 #[] w fun e w' => e = .returned (.bool true) ∧ Below w.heap.size w w' := by
  have hA : ∀ W, Below w.heap.size w W → AtofW W := fun W hW => hL.atof.below hW hL.size hL.blk
  have hN : ∀ W, Below w.heap.size w W → NumW W := fun W hW => hL.num.below hW
  have hs17 := hL.size
  have heq75 : (FloatKind.f64.format.order 4620130267728707584 4620130267728707584 == some .eq) = true := by decide +kernel
  obtain ⟨b, hb⟩ := hL.err
  have hE : ∀ W, Below w.heap.size w W → W.cell? ⟨1, 0, none⟩ = some (.iface 285 (.pointer (some b))) := fun W hW => by
    rw [hW.cell (p := ⟨1, 0, none⟩) (by show 1 < _; omega)]; exact hb
  have HA := Lib.hid hA
  have HN := Lib.hid hN
  have HE := Lib.hid hE
  clear hA hN hE hb hs17
  go_enter Tryz.func21, Tryz.ntmps21
  go_wp2_with fail
  refine (Parse_1000 w (fun W hW => HA.out W (below_trans1 (Below.refl w.heap.size w) hW)) (fun W hW => (HN.out W (below_trans1 (Below.refl w.heap.size w) hW)).tabs.ten) b (fun W hW => HE.out W (below_trans1 (Below.refl w.heap.size w) hW))).mono ?_
  rintro e w1 ⟨rfl, b1⟩
  have B1 : Below w.heap.size w w1 := below_trans1 (Below.refl w.heap.size w) b1
  clear b1
  go_wp2_with fail
  refine (Parse_750 w1 (fun W hW => HA.out W (below_trans1 B1 hW))).mono ?_
  rintro e w2 ⟨rfl, b2⟩
  have B2 : Below w.heap.size w w2 := below_trans1 B1 b2
  clear b2 B1
  go_wp2_with fail
  refine (Parse_1e w2).mono ?_
  rintro e w3 ⟨rfl, b3⟩
  have B3 : Below w.heap.size w w3 := below_trans1 B2 b3
  clear b3 B2
  go_wp2_with fail
  refine (Digits_any 4654311885213007872 (by decide) w3 (HN.out w3 B3)).mono ?_
  rintro e w4 ⟨rfl, b4⟩
  rw [dg1, dg2]
  have B4 : Below w.heap.size w w4 := below_trans1 B3 b4
  clear b4 B3
  go_wp2_with fail
  refine (num_any 0 w4).mono ?_
  rintro e w' ⟨rfl, rfl⟩
  go_wp2_with fail
  refine (inf_pos w4).mono ?_
  rintro e w' ⟨rfl, rfl⟩
  go_wp2_with fail
  refine (num_any 0 w4).mono ?_
  rintro e w' ⟨rfl, rfl⟩
  go_wp2_with fail
  refine (num_any 20 w4).mono ?_
  rintro e w' ⟨rfl, rfl⟩
  go_wp2_with fail
  refine (Text_any 4532020583610935537 (by decide) w4 (HN.out w4 B4)).mono ?_
  rintro e w5 ⟨rfl, b5⟩
  rw [tx1]
  have B5 : Below w.heap.size w w5 := below_trans1 B4 b5
  clear b5 B4
  go_wp2_with fail
  refine (Text_any 4831355200913801216 (by decide) w5 (HN.out w5 B5)).mono ?_
  rintro e w6 ⟨rfl, b6⟩
  rw [tx2]
  have B6 : Below w.heap.size w w6 := below_trans1 B5 b6
  clear b6 B5
  go_wp2_with fail
  refine (Text_any 13821547256400052224 (by decide) w6 (HN.out w6 B6)).mono ?_
  rintro e w7 ⟨rfl, b7⟩
  rw [tx3]
  have B7 : Below w.heap.size w w7 := below_trans1 B6 b7
  clear b7 B6
  go_wp2_with fail
  refine (Text_any 9218868437227405312 (by decide) w7 (HN.out w7 B7)).mono ?_
  rintro e w8 ⟨rfl, b8⟩
  rw [tx4]
  have B8 : Below w.heap.size w w8 := below_trans1 B7 b8
  clear b8 B7
  go_wp2_with fail
  refine (Whole_any 4613937818241073152 (by decide) w8).mono ?_
  rintro e w' ⟨rfl, rfl⟩
  rw [wh1]
  go_wp2_with fail
  refine (Whole_any 4602678819172646912 (by decide) w8).mono ?_
  rintro e w' ⟨rfl, rfl⟩
  rw [wh2]
  go_wp2_with fail
  refine (Int_any 13837084675114480435 (by decide) w8).mono ?_
  rintro e w' ⟨rfl, rfl⟩
  rw [in1]
  go_wp2_with fail
  go_ret
  exact ⟨rfl, B8⟩
end Go.Proofs.YtamgdmmijlbjjaaGreatDoor
