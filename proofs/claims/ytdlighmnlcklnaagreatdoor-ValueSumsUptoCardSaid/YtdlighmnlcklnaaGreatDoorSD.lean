/- Numbers added and taken away by the program; operate where the operator takes away. -/
import Derived.Test.YtdlighmnlcklnaaGreatDoorSA
import Derived.Test.YtdlighmnlcklnaaGreatDoorMOp
namespace Go.Proofs.YtdlighmnlcklnaaGreatDoor
open Go Go.RowKit

/-- What a sum or a difference may be: the double, or one that is none. -/
def OneOf (o : Option Nat) (z : Nat) : Prop := z < 18446744073709551616 ∧ (o = some z ∨ (o = none ∧ 9218868437227405312 < szB z))
theorem add_anyB (x y : Nat) (w : World) : ∃ z w', (binOp .add 23 (.float .f64 x) (.float .f64 y)).run Tryz.prog w = .ok (.float .f64 z) w' ∧ Below w.heap.size w w' ∧ OneOf (Ieee.double.add x y) z := by
  cases h : Ieee.double.add x y with
  | some z => exact ⟨z, w, run_float_arith w .add _ .f64 x y z h, Below.refl _ _, Ieee.double.add_lt h, Or.inl rfl⟩
  | none =>
    have hd : FloatKind.f64.format.add x y = none := h
    refine ⟨(Question.nanBits .f64 x y).cut (w.tape w.drawn (.nanBits .f64 x y)), w.drew, ?_, (Below.refl _ _).drew, (nan_cut x y _).2, Or.inr ⟨rfl, (nan_cut x y _).1⟩⟩
    simp [binOp, Op.floatArith, hd, Question.forced]
theorem sub_anyB (x y : Nat) (w : World) : ∃ z w', (binOp .sub 23 (.float .f64 x) (.float .f64 y)).run Tryz.prog w = .ok (.float .f64 z) w' ∧ Below w.heap.size w w' ∧ OneOf (Ieee.double.sub x y) z := by
  cases h : Ieee.double.sub x y with
  | some z => exact ⟨z, w, run_float_arith w .sub _ .f64 x y z h, Below.refl _ _, Ieee.double.sub_lt h, Or.inl rfl⟩
  | none =>
    have hd : FloatKind.f64.format.sub x y = none := h
    refine ⟨(Question.nanBits .f64 x y).cut (w.tape w.drawn (.nanBits .f64 x y)), w.drew, ?_, (Below.refl _ _).drew, (nan_cut x y _).2, Or.inr ⟨rfl, (nan_cut x y _).1⟩⟩
    simp [binOp, Op.floatArith, hd, Question.forced]
set_option maxRecDepth 100000 in
set_option maxHeartbeats 4000000 in
theorem add_num (f1 f2 : Nat) (s1 s2 : ByteArray) (a1 a2 a3 a4 : Option Addr) (n1 n2 n3 n4 c1 c2 c3 c4 : Nat) (m B0 : Nat) (txt : ByteArray) (w : World) :
    Calls Tryz.prog 50 #[.agg #[.int .i64 3, .float .f64 f1, .string s1, .slice a1 n1 c1, .slice a2 n2 c2], .agg #[.int .i64 3, .float .f64 f2, .string s2, .slice a3 n3 c3, .slice a4 n4 c4]] w fun e w' => (∃ z, OneOf (Ieee.double.add f1 f2) z ∧ OutP B0 w.heap.size (m + 1) (some (numV z)) txt e w') ∧ Below w.heap.size w w' := by
  have hsf := run_store_float Tryz.prog
  go_enter Tryz.func50, Tryz.ntmps50
  go_wp2_with fail
  have hr := R4.new w #[.int .i64 3, .float .f64 f1, .string s1, .slice a1 n1 c1, .slice a2 n2 c2] #[.int .i64 3, .float .f64 f2, .string s2, .slice a3 n3 c3, .slice a4 n4 c4] zeroA okA
  have hb := four_below w (.cells #[.int .i64 3, .float .f64 f1, .string s1, .slice a1 n1 c1, .slice a2 n2 c2] 27) (.cells #[.int .i64 3, .float .f64 f2, .string s2, .slice a3 n3 c3, .slice a4 n4 c4] 27) (.cells zeroA 27) (.cells okA 31)
  have he : ((((w.alloc (.cells #[.int .i64 3, .float .f64 f1, .string s1, .slice a1 n1 c1, .slice a2 n2 c2] 27)).alloc (.cells #[.int .i64 3, .float .f64 f2, .string s2, .slice a3 n3 c3, .slice a4 n4 c4] 27)).alloc (.cells zeroA 27)).alloc (.cells okA 31)) = ((((w.alloc (.cells #[.int .i64 3, .float .f64 f1, .string s1, .slice a1 n1 c1, .slice a2 n2 c2] 27)).alloc (.cells #[.int .i64 3, .float .f64 f2, .string s2, .slice a3 n3 c3, .slice a4 n4 c4] 27)).alloc (.cells #[.int .i64 0, .float .f64 0, .string ⟨#[]⟩, .slice none 0 0, .slice none 0 0] 27)).alloc (.cells #[.bool false, .int .i64 0, .float .f64 0, .string ⟨#[]⟩, .slice none 0 0, .slice none 0 0] 31)) := rfl
  rw [he] at hr hb
  clear he
  generalize ((((w.alloc (.cells #[.int .i64 3, .float .f64 f1, .string s1, .slice a1 n1 c1, .slice a2 n2 c2] 27)).alloc (.cells #[.int .i64 3, .float .f64 f2, .string s2, .slice a3 n3 c3, .slice a4 n4 c4] 27)).alloc (.cells #[.int .i64 0, .float .f64 0, .string ⟨#[]⟩, .slice none 0 0, .slice none 0 0] 27)).alloc (.cells #[.bool false, .int .i64 0, .float .f64 0, .string ⟨#[]⟩, .slice none 0 0, .slice none 0 0] 31)) = W0 at hr hb ⊢
  obtain ⟨x0, x1, x2, x3, x4, _⟩ := row5' hr.r0
  obtain ⟨y0, y1, y2, y3, y4, _⟩ := row5' hr.r1
  have HR := Lib.hid hr
  have HB := Lib.hid hb
  clear hr hb
  refine (both_any 3 3 3 f1 f2 s1 s2 a1 a2 a3 a4 n1 n2 n3 n4 c1 c2 c3 c4 W0).mono ?_
  rintro e w2 ⟨rfl, hb2⟩
  have R2 := Lib.hid (HR.out.below hb2)
  have B2 := Lib.hid (HB.out.trans (hb2.mono HB.out.size))
  clear hb2 x0 x1 x2 x3 x4 y0 y1 y2 y3 y4
  obtain ⟨x0, x1, x2, x3, x4, _⟩ := row5' R2.out.r0
  obtain ⟨y0, y1, y2, y3, y4, _⟩ := row5' R2.out.r1
  obtain ⟨z, Wz, hz, hbz, hone⟩ := add_anyB f1 f2 w2
  have HONE := Lib.hid hone
  have RZ := Lib.hid (R2.out.below hbz)
  have BZ := Lib.hid (B2.out.trans (hbz.mono B2.out.size))
  clear hone hbz
  go_wp2_with fail
  refine (numberOf_any z Wz).mono ?_
  rintro e w3 ⟨rfl, hb3⟩
  have R3 := Lib.hid (RZ.out.below hb3)
  have B3 := Lib.hid (BZ.out.trans (hb3.mono BZ.out.size))
  clear hb3 hz x0 x1 x2 x3 x4 y0 y1 y2 y3 y4
  unfold okA
  obtain ⟨⟨u0, u1, u2, u3, u4⟩, ⟨v0, v1, v2, v3, v4, v5⟩, g1, g2⟩ := R3.out.outs
  go_wp2_with fail
  obtain ⟨q1, q2, q3⟩ := R3.out.ends B3.out (.int .i64 3) (.float .f64 z) (.string ⟨#[]⟩) (.slice none 0 0) (.slice none 0 0) (.bool false) (.int .i64 0) (.float .f64 0) (.string ⟨#[]⟩) (.slice none 0 0) (.slice none 0 0)
  refine bodyPost_ret_by (results_two_rows rfl _ _ (w.heap.size + 2) (w.heap.size + 3) 27 31 _ _ (0, 0) (0, 0) _ _ rfl rfl q1 q2 Tryz.underlying27 rfl sizeVal Tryz.underlying31 rfl infoErr) rfl ?_
  exact ⟨⟨z, HONE.out, numV z, nilS, nilS, false, 0, ⟨#[]⟩, rfl, leaf_atP _ _ m 3 z ⟨#[]⟩ (by omega) HONE.out.1 (by decide), Or.inl ⟨rfl, rfl, rfl, rfl⟩⟩, q3⟩
set_option maxRecDepth 100000 in
set_option maxHeartbeats 4000000 in
theorem sub_num (f1 f2 : Nat) (s1 s2 : ByteArray) (a1 a2 a3 a4 : Option Addr) (n1 n2 n3 n4 c1 c2 c3 c4 : Nat) (m B0 : Nat) (txt : ByteArray) (w : World) :
    Calls Tryz.prog 51 #[.agg #[.int .i64 3, .float .f64 f1, .string s1, .slice a1 n1 c1, .slice a2 n2 c2], .agg #[.int .i64 3, .float .f64 f2, .string s2, .slice a3 n3 c3, .slice a4 n4 c4]] w fun e w' => (∃ z, OneOf (Ieee.double.sub f1 f2) z ∧ OutP B0 w.heap.size (m + 1) (some (numV z)) txt e w') ∧ Below w.heap.size w w' := by
  have hsf := run_store_float Tryz.prog
  go_enter Tryz.func51, Tryz.ntmps51
  go_wp2_with fail
  have hr := R4.new w #[.int .i64 3, .float .f64 f1, .string s1, .slice a1 n1 c1, .slice a2 n2 c2] #[.int .i64 3, .float .f64 f2, .string s2, .slice a3 n3 c3, .slice a4 n4 c4] zeroA okA
  have hb := four_below w (.cells #[.int .i64 3, .float .f64 f1, .string s1, .slice a1 n1 c1, .slice a2 n2 c2] 27) (.cells #[.int .i64 3, .float .f64 f2, .string s2, .slice a3 n3 c3, .slice a4 n4 c4] 27) (.cells zeroA 27) (.cells okA 31)
  have he : ((((w.alloc (.cells #[.int .i64 3, .float .f64 f1, .string s1, .slice a1 n1 c1, .slice a2 n2 c2] 27)).alloc (.cells #[.int .i64 3, .float .f64 f2, .string s2, .slice a3 n3 c3, .slice a4 n4 c4] 27)).alloc (.cells zeroA 27)).alloc (.cells okA 31)) = ((((w.alloc (.cells #[.int .i64 3, .float .f64 f1, .string s1, .slice a1 n1 c1, .slice a2 n2 c2] 27)).alloc (.cells #[.int .i64 3, .float .f64 f2, .string s2, .slice a3 n3 c3, .slice a4 n4 c4] 27)).alloc (.cells #[.int .i64 0, .float .f64 0, .string ⟨#[]⟩, .slice none 0 0, .slice none 0 0] 27)).alloc (.cells #[.bool false, .int .i64 0, .float .f64 0, .string ⟨#[]⟩, .slice none 0 0, .slice none 0 0] 31)) := rfl
  rw [he] at hr hb
  clear he
  generalize ((((w.alloc (.cells #[.int .i64 3, .float .f64 f1, .string s1, .slice a1 n1 c1, .slice a2 n2 c2] 27)).alloc (.cells #[.int .i64 3, .float .f64 f2, .string s2, .slice a3 n3 c3, .slice a4 n4 c4] 27)).alloc (.cells #[.int .i64 0, .float .f64 0, .string ⟨#[]⟩, .slice none 0 0, .slice none 0 0] 27)).alloc (.cells #[.bool false, .int .i64 0, .float .f64 0, .string ⟨#[]⟩, .slice none 0 0, .slice none 0 0] 31)) = W0 at hr hb ⊢
  obtain ⟨x0, x1, x2, x3, x4, _⟩ := row5' hr.r0
  obtain ⟨y0, y1, y2, y3, y4, _⟩ := row5' hr.r1
  have HR := Lib.hid hr
  have HB := Lib.hid hb
  clear hr hb
  refine (both_any 3 3 3 f1 f2 s1 s2 a1 a2 a3 a4 n1 n2 n3 n4 c1 c2 c3 c4 W0).mono ?_
  rintro e w2 ⟨rfl, hb2⟩
  have R2 := Lib.hid (HR.out.below hb2)
  have B2 := Lib.hid (HB.out.trans (hb2.mono HB.out.size))
  clear hb2 x0 x1 x2 x3 x4 y0 y1 y2 y3 y4
  obtain ⟨x0, x1, x2, x3, x4, _⟩ := row5' R2.out.r0
  obtain ⟨y0, y1, y2, y3, y4, _⟩ := row5' R2.out.r1
  obtain ⟨z, Wz, hz, hbz, hone⟩ := sub_anyB f1 f2 w2
  have HONE := Lib.hid hone
  have RZ := Lib.hid (R2.out.below hbz)
  have BZ := Lib.hid (B2.out.trans (hbz.mono B2.out.size))
  clear hone hbz
  go_wp2_with fail
  refine (numberOf_any z Wz).mono ?_
  rintro e w3 ⟨rfl, hb3⟩
  have R3 := Lib.hid (RZ.out.below hb3)
  have B3 := Lib.hid (BZ.out.trans (hb3.mono BZ.out.size))
  clear hb3 hz x0 x1 x2 x3 x4 y0 y1 y2 y3 y4
  unfold okA
  obtain ⟨⟨u0, u1, u2, u3, u4⟩, ⟨v0, v1, v2, v3, v4, v5⟩, g1, g2⟩ := R3.out.outs
  go_wp2_with fail
  obtain ⟨q1, q2, q3⟩ := R3.out.ends B3.out (.int .i64 3) (.float .f64 z) (.string ⟨#[]⟩) (.slice none 0 0) (.slice none 0 0) (.bool false) (.int .i64 0) (.float .f64 0) (.string ⟨#[]⟩) (.slice none 0 0) (.slice none 0 0)
  refine bodyPost_ret_by (results_two_rows rfl _ _ (w.heap.size + 2) (w.heap.size + 3) 27 31 _ _ (0, 0) (0, 0) _ _ rfl rfl q1 q2 Tryz.underlying27 rfl sizeVal Tryz.underlying31 rfl infoErr) rfl ?_
  exact ⟨⟨z, HONE.out, numV z, nilS, nilS, false, 0, ⟨#[]⟩, rfl, leaf_atP _ _ m 3 z ⟨#[]⟩ (by omega) HONE.out.1 (by decide), Or.inl ⟨rfl, rfl, rfl, rfl⟩⟩, q3⟩
end Go.Proofs.YtdlighmnlcklnaaGreatDoor
namespace Go.Proofs.YtdlighmnlcklnaaGreatDoor
open Go Go.RowKit

set_option exponentiation.threshold 2000 in
theorem vN_50 : vN 4832362400168542208 = 1125899906842624 * 2 ^ 1074 := by decide +kernel
theorem szB_lt (b : Nat) : szB b < 9223372036854775808 := Nat.mod_lt _ (by omega)
theorem abs_low {a : Nat} (ha : a < 18446744073709551616) (h : (FloatKind.f64.format.order (absB a) 4832362400168542208 == some .lt) = true) : szB a < 4832362400168542208 := by
  have hlt := szB_lt a
  rw [absB_is a ha, lt_cmp _ _ (by decide), decide_eq_true_eq, sv_low _ hlt, sv_low _ (by omega)] at h
  omega
set_option exponentiation.threshold 2000 in
theorem whole_of {a : Nat} (h1 : szB a < 4832362400168542208) (h2 : (FloatKind.f64.format.order (trB a) a == some .eq) = true) : ∃ X : Int, -1125899906842624 < X ∧ X < 1125899906842624 ∧ valB a = X * 2 ^ 1074 := by
  have hm : mB a < 1125899906842624 := by
    have hv := vN_mono h1
    rw [vN_50] at hv
    unfold mB
    exact (Nat.div_lt_iff_lt_mul (Nat.pow_pos (by omega))).2 hv
  obtain ⟨f1, f2, f3, -⟩ := near_is (sgB a) (mB a) (Nat.lt_trans hm (by decide +kernel)) (low_exact _ (by omega))
  rw [← trB_is a (by omega)] at f1 f2 f3
  have f3 : sgB (trB a) = sgB a := f3
  have ho : FloatKind.f64.format.order (trB a) a = some (compare (valB (trB a)) (valB a)) := val_order _ _ f1 (by omega)
  rw [ho, beq_iff_eq, Option.some.injEq, Int.compare_eq_eq] at h2
  have hv : valB (trB a) = sg (sgB a) (mB a) * 2 ^ 1074 := by
    unfold valB
    rw [f2, f3]
    unfold sg
    cases sgB a
    · simp
    · simp [Int.neg_mul]
  refine ⟨sg (sgB a) (mB a), ?_, ?_, h2 ▸ hv⟩
  · unfold sg
    split <;> omega
  · unfold sg
    split <;> omega
theorem sum_back {a b z d : Nat} {X Y : Int} (ha : a < 18446744073709551616) (hb : b < 18446744073709551616) (sa : szB a < 4832362400168542208) (sb : szB b < 4832362400168542208) (hX1 : -1125899906842624 < X) (hX2 : X < 1125899906842624) (vX : valB a = X * 2 ^ 1074) (hY1 : -1125899906842624 < Y) (hY2 : Y < 1125899906842624) (vY : valB b = Y * 2 ^ 1074)
    (hz : OneOf (Ieee.double.add a b) z) (hd : OneOf (Ieee.double.sub z b) d) : (FloatKind.f64.format.order d a == some .eq) = true := by
  obtain ⟨z0, e1, s1, v1⟩ := add_whole a b X Y (by omega) (by omega) ha hb vX vY (by omega) (by omega)
  have ez : z = z0 := by
    rcases hz.2 with q | ⟨q, _⟩
    · rw [e1] at q; exact (Option.some.inj q).symm
    · rw [e1] at q; cases q
  subst ez
  obtain ⟨d0, e2, s2, v2⟩ := sub_whole z b (X + Y) Y s1 (by omega) hz.1 hb v1 vY (by omega) (by omega)
  have ed : d = d0 := by
    rcases hd.2 with q | ⟨q, _⟩
    · rw [e2] at q; exact (Option.some.inj q).symm
    · rw [e2] at q; cases q
  subst ed
  have ho : FloatKind.f64.format.order d a = some (compare (valB d) (valB a)) := val_order _ _ s2 (by omega)
  have e : valB d = valB a := by
    rw [v2, vX]
    congr 1
    omega
  rw [ho, e, beq_iff_eq, Option.some.injEq, Int.compare_eq_eq]
end Go.Proofs.YtdlighmnlcklnaaGreatDoor
namespace Go.Proofs.YtdlighmnlcklnaaGreatDoor
open Go Go.RowKit

set_option maxRecDepth 100000 in
set_option maxHeartbeats 4000000 in
theorem plus_some (k1 k2 : Int) (f1 f2 : Nat) (s1 s2 : ByteArray) (a1 a2 a3 a4 : Option Addr) (n1 n2 n3 n4 c1 c2 c3 c4 : Nat) (m B0 : Nat) (O : Option V → Prop) (w : World) (_hB0 : B0 ≤ w.heap.size)
    (hc : ∀ W, Below w.heap.size w W → Calls Tryz.prog 50 #[.agg #[.int .i64 k1, .float .f64 f1, .string s1, .slice a1 n1 c1, .slice a2 n2 c2], .agg #[.int .i64 k2, .float .f64 f2, .string s2, .slice a3 n3 c3, .slice a4 n4 c4]] W fun e w' => (∃ o txt, O o ∧ OutP B0 W.heap.size (m + 1) o txt e w') ∧ Below W.heap.size W w') :
    Calls Tryz.prog 25 #[.string ⟨#[43]⟩, .agg #[.int .i64 k1, .float .f64 f1, .string s1, .slice a1 n1 c1, .slice a2 n2 c2], .agg #[.int .i64 k2, .float .f64 f2, .string s2, .slice a3 n3 c3, .slice a4 n4 c4]] w fun e w' => (∃ o txt, O o ∧ OutP B0 w.heap.size (m + 1) o txt e w') ∧ Below w.heap.size w w' := by
  have hsf := run_store_float Tryz.prog
  have HC := Lib.hid hc
  have n43 : ((⟨#[43]⟩ : ByteArray).toList == (⟨#[43]⟩ : ByteArray).toList) = true := by rw [Lib.toList_data]; rfl
  clear hc
  go_enter Tryz.func25, Tryz.ntmps25
  go_wp2_with fail
  have hr := R4.new w #[.int .i64 k1, .float .f64 f1, .string s1, .slice a1 n1 c1, .slice a2 n2 c2] #[.int .i64 k2, .float .f64 f2, .string s2, .slice a3 n3 c3, .slice a4 n4 c4] zeroA okA
  have hb := four_below w (.cells #[.int .i64 k1, .float .f64 f1, .string s1, .slice a1 n1 c1, .slice a2 n2 c2] 27) (.cells #[.int .i64 k2, .float .f64 f2, .string s2, .slice a3 n3 c3, .slice a4 n4 c4] 27) (.cells zeroA 27) (.cells okA 31)
  have he : ((((w.alloc (.cells #[.int .i64 k1, .float .f64 f1, .string s1, .slice a1 n1 c1, .slice a2 n2 c2] 27)).alloc (.cells #[.int .i64 k2, .float .f64 f2, .string s2, .slice a3 n3 c3, .slice a4 n4 c4] 27)).alloc (.cells zeroA 27)).alloc (.cells okA 31)) = ((((w.alloc (.cells #[.int .i64 k1, .float .f64 f1, .string s1, .slice a1 n1 c1, .slice a2 n2 c2] 27)).alloc (.cells #[.int .i64 k2, .float .f64 f2, .string s2, .slice a3 n3 c3, .slice a4 n4 c4] 27)).alloc (.cells #[.int .i64 0, .float .f64 0, .string ⟨#[]⟩, .slice none 0 0, .slice none 0 0] 27)).alloc (.cells #[.bool false, .int .i64 0, .float .f64 0, .string ⟨#[]⟩, .slice none 0 0, .slice none 0 0] 31)) := rfl
  rw [he] at hr hb
  clear he
  generalize ((((w.alloc (.cells #[.int .i64 k1, .float .f64 f1, .string s1, .slice a1 n1 c1, .slice a2 n2 c2] 27)).alloc (.cells #[.int .i64 k2, .float .f64 f2, .string s2, .slice a3 n3 c3, .slice a4 n4 c4] 27)).alloc (.cells #[.int .i64 0, .float .f64 0, .string ⟨#[]⟩, .slice none 0 0, .slice none 0 0] 27)).alloc (.cells #[.bool false, .int .i64 0, .float .f64 0, .string ⟨#[]⟩, .slice none 0 0, .slice none 0 0] 31)) = W0 at hr hb ⊢
  obtain ⟨x0, x1, x2, x3, x4, _⟩ := row5' hr.r0
  obtain ⟨y0, y1, y2, y3, y4, _⟩ := row5' hr.r1
  have HR := Lib.hid hr
  have HB := Lib.hid hb
  clear hr hb
  refine (HC.out _ HB.out).mono ?_
  rintro e w2 ⟨⟨o, txt, hO, v, lv, kv, bb, k', s', rfl, hatv, hor⟩, hb2⟩
  obtain ⟨p1, p2, p3, p4, p5, p6, rfl, rfl⟩ := AtP.slices hatv
  unfold cellsV
  have HAT := Lib.hid hatv
  have HOR := Lib.hid hor
  have HOO := Lib.hid hO
  clear hO
  clear hatv hor
  have R2 := Lib.hid (HR.out.below hb2)
  have B2 := Lib.hid (HB.out.trans (hb2.mono HB.out.size))
  clear hb2 x0 x1 x2 x3 x4 y0 y1 y2 y3 y4
  obtain ⟨x0, x1, x2, x3, x4, _⟩ := row5' R2.out.r0
  obtain ⟨y0, y1, y2, y3, y4, _⟩ := row5' R2.out.r1
  obtain ⟨⟨u0, u1, u2, u3, u4⟩, ⟨v0, v1, v2, v3, v4, v5⟩, g1, g2⟩ := R2.out.outs
  have HLT := R2.out.lt
  go_wp2_with fail
  obtain ⟨q1, q2, q3⟩ := R2.out.ends B2.out (.int .i64 v.k) (.float .f64 v.f) (.string v.s) (.slice p1 p2 p3) (.slice p4 p5 p6) (.bool bb) (.int .i64 k') (.float .f64 0) (.string s') (.slice none 0 0) (.slice none 0 0)
  refine bodyPost_ret_by (results_two_rows rfl _ _ (w.heap.size + 2) (w.heap.size + 3) 27 31 _ _ (0, 0) (0, 0) _ _ rfl rfl q1 q2 Tryz.underlying27 rfl sizeVal Tryz.underlying31 rfl infoErr) rfl ?_
  try have hl1 := HR.out.lt
  try have hl2 := R2.out.lt
  try have hl3 := R3.out.lt
  try have hl4 := R4.out.lt
  try have hl5 := R5.out.lt
  try have hl6 := R6.out.lt
  try have hlA := RA.out.lt
  exact ⟨⟨o, txt, HOO.out, v, _, _, bb, k', s', rfl, (AtN.keep HAT.out (ends_size ..) (fun b q => ends_other (by rcases q with q | q <;> omega) (by rcases q with q | q <;> omega) ..)).later (by omega), HOR.out⟩, q3⟩
set_option maxRecDepth 100000 in
set_option maxHeartbeats 4000000 in
theorem less_some (k1 k2 : Int) (f1 f2 : Nat) (s1 s2 : ByteArray) (a1 a2 a3 a4 : Option Addr) (n1 n2 n3 n4 c1 c2 c3 c4 : Nat) (m B0 : Nat) (O : Option V → Prop) (w : World) (_hB0 : B0 ≤ w.heap.size)
    (hc : ∀ W, Below w.heap.size w W → Calls Tryz.prog 51 #[.agg #[.int .i64 k1, .float .f64 f1, .string s1, .slice a1 n1 c1, .slice a2 n2 c2], .agg #[.int .i64 k2, .float .f64 f2, .string s2, .slice a3 n3 c3, .slice a4 n4 c4]] W fun e w' => (∃ o txt, O o ∧ OutP B0 W.heap.size (m + 1) o txt e w') ∧ Below W.heap.size W w') :
    Calls Tryz.prog 25 #[.string ⟨#[45]⟩, .agg #[.int .i64 k1, .float .f64 f1, .string s1, .slice a1 n1 c1, .slice a2 n2 c2], .agg #[.int .i64 k2, .float .f64 f2, .string s2, .slice a3 n3 c3, .slice a4 n4 c4]] w fun e w' => (∃ o txt, O o ∧ OutP B0 w.heap.size (m + 1) o txt e w') ∧ Below w.heap.size w w' := by
  have hsf := run_store_float Tryz.prog
  have HC := Lib.hid hc
  have n43 : ((⟨#[45]⟩ : ByteArray).toList == (⟨#[43]⟩ : ByteArray).toList) = false := by rw [Lib.toList_data, Lib.toList_data]; rfl
  have n45 : ((⟨#[45]⟩ : ByteArray).toList == (⟨#[45]⟩ : ByteArray).toList) = true := by rw [Lib.toList_data]; rfl
  clear hc
  go_enter Tryz.func25, Tryz.ntmps25
  go_wp2_with fail
  have hr := R4.new w #[.int .i64 k1, .float .f64 f1, .string s1, .slice a1 n1 c1, .slice a2 n2 c2] #[.int .i64 k2, .float .f64 f2, .string s2, .slice a3 n3 c3, .slice a4 n4 c4] zeroA okA
  have hb := four_below w (.cells #[.int .i64 k1, .float .f64 f1, .string s1, .slice a1 n1 c1, .slice a2 n2 c2] 27) (.cells #[.int .i64 k2, .float .f64 f2, .string s2, .slice a3 n3 c3, .slice a4 n4 c4] 27) (.cells zeroA 27) (.cells okA 31)
  have he : ((((w.alloc (.cells #[.int .i64 k1, .float .f64 f1, .string s1, .slice a1 n1 c1, .slice a2 n2 c2] 27)).alloc (.cells #[.int .i64 k2, .float .f64 f2, .string s2, .slice a3 n3 c3, .slice a4 n4 c4] 27)).alloc (.cells zeroA 27)).alloc (.cells okA 31)) = ((((w.alloc (.cells #[.int .i64 k1, .float .f64 f1, .string s1, .slice a1 n1 c1, .slice a2 n2 c2] 27)).alloc (.cells #[.int .i64 k2, .float .f64 f2, .string s2, .slice a3 n3 c3, .slice a4 n4 c4] 27)).alloc (.cells #[.int .i64 0, .float .f64 0, .string ⟨#[]⟩, .slice none 0 0, .slice none 0 0] 27)).alloc (.cells #[.bool false, .int .i64 0, .float .f64 0, .string ⟨#[]⟩, .slice none 0 0, .slice none 0 0] 31)) := rfl
  rw [he] at hr hb
  clear he
  generalize ((((w.alloc (.cells #[.int .i64 k1, .float .f64 f1, .string s1, .slice a1 n1 c1, .slice a2 n2 c2] 27)).alloc (.cells #[.int .i64 k2, .float .f64 f2, .string s2, .slice a3 n3 c3, .slice a4 n4 c4] 27)).alloc (.cells #[.int .i64 0, .float .f64 0, .string ⟨#[]⟩, .slice none 0 0, .slice none 0 0] 27)).alloc (.cells #[.bool false, .int .i64 0, .float .f64 0, .string ⟨#[]⟩, .slice none 0 0, .slice none 0 0] 31)) = W0 at hr hb ⊢
  obtain ⟨x0, x1, x2, x3, x4, _⟩ := row5' hr.r0
  obtain ⟨y0, y1, y2, y3, y4, _⟩ := row5' hr.r1
  have HR := Lib.hid hr
  have HB := Lib.hid hb
  clear hr hb
  refine (HC.out _ HB.out).mono ?_
  rintro e w2 ⟨⟨o, txt, hO, v, lv, kv, bb, k', s', rfl, hatv, hor⟩, hb2⟩
  obtain ⟨p1, p2, p3, p4, p5, p6, rfl, rfl⟩ := AtP.slices hatv
  unfold cellsV
  have HAT := Lib.hid hatv
  have HOR := Lib.hid hor
  have HOO := Lib.hid hO
  clear hO
  clear hatv hor
  have R2 := Lib.hid (HR.out.below hb2)
  have B2 := Lib.hid (HB.out.trans (hb2.mono HB.out.size))
  clear hb2 x0 x1 x2 x3 x4 y0 y1 y2 y3 y4
  obtain ⟨x0, x1, x2, x3, x4, _⟩ := row5' R2.out.r0
  obtain ⟨y0, y1, y2, y3, y4, _⟩ := row5' R2.out.r1
  obtain ⟨⟨u0, u1, u2, u3, u4⟩, ⟨v0, v1, v2, v3, v4, v5⟩, g1, g2⟩ := R2.out.outs
  have HLT := R2.out.lt
  go_wp2_with fail
  obtain ⟨q1, q2, q3⟩ := R2.out.ends B2.out (.int .i64 v.k) (.float .f64 v.f) (.string v.s) (.slice p1 p2 p3) (.slice p4 p5 p6) (.bool bb) (.int .i64 k') (.float .f64 0) (.string s') (.slice none 0 0) (.slice none 0 0)
  refine bodyPost_ret_by (results_two_rows rfl _ _ (w.heap.size + 2) (w.heap.size + 3) 27 31 _ _ (0, 0) (0, 0) _ _ rfl rfl q1 q2 Tryz.underlying27 rfl sizeVal Tryz.underlying31 rfl infoErr) rfl ?_
  try have hl1 := HR.out.lt
  try have hl2 := R2.out.lt
  try have hl3 := R3.out.lt
  try have hl4 := R4.out.lt
  try have hl5 := R5.out.lt
  try have hl6 := R6.out.lt
  try have hlA := RA.out.lt
  exact ⟨⟨o, txt, HOO.out, v, _, _, bb, k', s', rfl, (AtN.keep HAT.out (ends_size ..) (fun b q => ends_other (by rcases q with q | q <;> omega) (by rcases q with q | q <;> omega) ..)).later (by omega), HOR.out⟩, q3⟩
set_option maxRecDepth 100000 in
set_option maxHeartbeats 4000000 in
theorem Operate_some (op : ByteArray) (k1 k2 : Int) (f1 f2 : Nat) (s1 s2 : ByteArray) (a1 a2 a3 a4 : Option Addr) (n1 n2 n3 n4 c1 c2 c3 c4 : Nat) (m B0 : Nat) (O : Option V → Prop) (w : World) (hB0 : B0 ≤ w.heap.size)
    (hc : ∀ W, Below w.heap.size w W → Calls Tryz.prog 25 #[.string op, .agg #[.int .i64 k1, .float .f64 f1, .string s1, .slice a1 n1 c1, .slice a2 n2 c2], .agg #[.int .i64 k2, .float .f64 f2, .string s2, .slice a3 n3 c3, .slice a4 n4 c4]] W fun e w' => (∃ o txt, O o ∧ OutP B0 W.heap.size (m + 1) o txt e w') ∧ Below W.heap.size W w') :
    Calls Tryz.prog 7 #[.string op, .agg #[.int .i64 k1, .float .f64 f1, .string s1, .slice a1 n1 c1, .slice a2 n2 c2], .agg #[.int .i64 k2, .float .f64 f2, .string s2, .slice a3 n3 c3, .slice a4 n4 c4]] w fun e w' => (∃ o txt, O o ∧ OutP 0 w.heap.size (m + 1) o txt e w') ∧ Below w.heap.size w w' := by
  have hsf := run_store_float Tryz.prog
  have HC := Lib.hid hc
  clear hc
  go_enter Tryz.func7, Tryz.ntmps7
  go_wp2_with fail
  have hr := R4.new w #[.int .i64 k1, .float .f64 f1, .string s1, .slice a1 n1 c1, .slice a2 n2 c2] #[.int .i64 k2, .float .f64 f2, .string s2, .slice a3 n3 c3, .slice a4 n4 c4] zeroA okA
  have hb := four_below w (.cells #[.int .i64 k1, .float .f64 f1, .string s1, .slice a1 n1 c1, .slice a2 n2 c2] 27) (.cells #[.int .i64 k2, .float .f64 f2, .string s2, .slice a3 n3 c3, .slice a4 n4 c4] 27) (.cells zeroA 27) (.cells okA 31)
  have he : ((((w.alloc (.cells #[.int .i64 k1, .float .f64 f1, .string s1, .slice a1 n1 c1, .slice a2 n2 c2] 27)).alloc (.cells #[.int .i64 k2, .float .f64 f2, .string s2, .slice a3 n3 c3, .slice a4 n4 c4] 27)).alloc (.cells zeroA 27)).alloc (.cells okA 31)) = ((((w.alloc (.cells #[.int .i64 k1, .float .f64 f1, .string s1, .slice a1 n1 c1, .slice a2 n2 c2] 27)).alloc (.cells #[.int .i64 k2, .float .f64 f2, .string s2, .slice a3 n3 c3, .slice a4 n4 c4] 27)).alloc (.cells #[.int .i64 0, .float .f64 0, .string ⟨#[]⟩, .slice none 0 0, .slice none 0 0] 27)).alloc (.cells #[.bool false, .int .i64 0, .float .f64 0, .string ⟨#[]⟩, .slice none 0 0, .slice none 0 0] 31)) := rfl
  rw [he] at hr hb
  clear he
  generalize ((((w.alloc (.cells #[.int .i64 k1, .float .f64 f1, .string s1, .slice a1 n1 c1, .slice a2 n2 c2] 27)).alloc (.cells #[.int .i64 k2, .float .f64 f2, .string s2, .slice a3 n3 c3, .slice a4 n4 c4] 27)).alloc (.cells #[.int .i64 0, .float .f64 0, .string ⟨#[]⟩, .slice none 0 0, .slice none 0 0] 27)).alloc (.cells #[.bool false, .int .i64 0, .float .f64 0, .string ⟨#[]⟩, .slice none 0 0, .slice none 0 0] 31)) = W0 at hr hb ⊢
  obtain ⟨x0, x1, x2, x3, x4, _⟩ := row5' hr.r0
  obtain ⟨y0, y1, y2, y3, y4, _⟩ := row5' hr.r1
  have HR := Lib.hid hr
  have HB := Lib.hid hb
  clear hr hb
  refine (HC.out _ HB.out).mono ?_
  rintro e w2 ⟨⟨o, txt, hO, v, lv, kv, bb, k', s', rfl, hat2, hor⟩, hb2⟩
  have hq2 := hb2.size
  have hq0 := HB.out.size
  have hcp := fun W (hW : Below w2.heap.size w2 W) => copyOf_any (m + 1) v lv kv W (AtN.to_at (hat2.below (by omega) hW) (by have := hW.size; omega))
  obtain ⟨p1, p2, p3, p4, p5, p6, rfl, rfl⟩ := AtP.slices hat2
  unfold cellsV at hcp ⊢
  have HCP := Lib.hid hcp
  have HOR := Lib.hid hor
  have HOO := Lib.hid hO
  clear hO
  clear hat2 hor hcp
  have R2 := Lib.hid (HR.out.below hb2)
  have B2 := Lib.hid (HB.out.trans (hb2.mono HB.out.size))
  clear hb2 x0 x1 x2 x3 x4 y0 y1 y2 y3 y4
  obtain ⟨x0, x1, x2, x3, x4, _⟩ := row5' R2.out.r0
  obtain ⟨y0, y1, y2, y3, y4, _⟩ := row5' R2.out.r1
  go_wp2_with fail
  obtain ⟨q1, q2⟩ := two_new w2 (.cells #[.int .i64 v.k, .float .f64 v.f, .string v.s, .slice p1 p2 p3, .slice p4 p5 p6] 27) (.cells #[.bool bb, .int .i64 k', .float .f64 0, .string s', .slice none 0 0, .slice none 0 0] 31)
  have hb2 := (B2.out.alloc B2.out.size (.cells #[.int .i64 v.k, .float .f64 v.f, .string v.s, .slice p1 p2 p3, .slice p4 p5 p6] 27)).alloc (by have := B2.out.size; simp; omega) (.cells #[.bool bb, .int .i64 k', .float .f64 0, .string s', .slice none 0 0, .slice none 0 0] 31)
  have hbw := ((Below.refl w2.heap.size w2).alloc (Nat.le_refl _) (.cells #[.int .i64 v.k, .float .f64 v.f, .string v.s, .slice p1 p2 p3, .slice p4 p5 p6] 27)).alloc (by simp) (.cells #[.bool bb, .int .i64 k', .float .f64 0, .string s', .slice none 0 0, .slice none 0 0] 31)
  have hr2 := R2.out.below hbw
  have hz : w2.heap.size + 2 = ((w2.alloc (.cells #[.int .i64 v.k, .float .f64 v.f, .string v.s, .slice p1 p2 p3, .slice p4 p5 p6] 27)).alloc (.cells #[.bool bb, .int .i64 k', .float .f64 0, .string s', .slice none 0 0, .slice none 0 0] 31)).heap.size := by simp
  have hlt := R2.out.lt
  generalize (w2.alloc (.cells #[.int .i64 v.k, .float .f64 v.f, .string v.s, .slice p1 p2 p3, .slice p4 p5 p6] 27)).alloc (.cells #[.bool bb, .int .i64 k', .float .f64 0, .string s', .slice none 0 0, .slice none 0 0] 31) = W1 at q1 q2 hb2 hr2 hz hbw ⊢
  clear x0 x1 x2 x3 x4 y0 y1 y2 y3 y4
  obtain ⟨x0, x1, x2, x3, x4, _⟩ := row5' q1
  obtain ⟨y0, y1, y2, y3, y4, y5⟩ := row6' q2
  have ne1 : ¬ (w2.heap.size + 1 = w.heap.size + 2) := by omega
  have ne2 : ¬ (w2.heap.size + 1 = w.heap.size + 3) := by omega
  have Q2 := Lib.hid q2
  have R3 := Lib.hid hr2.drewR
  have B3 := Lib.hid hb2.drew
  have BW := Lib.hid hbw.drew
  have HZ := Lib.hid hz
  clear q1 q2 hb2 hr2 hz hbw R2 B2 HR HB
  go_region_with (go_at_call 26; (with_reducible refine (HCP.out _ BW.out).mono ?_); rintro e w3 ⟨lv3, kv3, rfl, hat3, hb3⟩; obtain ⟨p1, m1, r1, p2, m2, r2, rfl, rfl⟩ := AtP.slices hat3; have R4F := Lib.hid (R3.out.below hb3); have B4 := Lib.hid (B3.out.trans (hb3.mono B3.out.size)); have hz1 : w2.heap.size + 2 = W1.drew.heap.size := HZ.out; obtain ⟨z0, z1, z2, z3, z4, z5⟩ := row6' ((hb3.block _ (show w2.heap.size + 1 < W1.heap.size by have := HZ.out; omega)).trans Q2.out); clear hb3; obtain ⟨⟨u0, u1, u2, u3, u4⟩, ⟨v0, v1, v2, v3, v4, v5⟩, g1, g2⟩ := R4F.out.outs)
  all_goals
    have HAT := Lib.hid (AtP.more (q := fun b => b < 0 ∨ (W1.drew.heap.size ≤ b ∧ b < w3.heap.size)) (fun b hb => Or.inr hb) _ _ _ _ hat3)
    clear hat3
    go_wp2_with fail
    first
      | (obtain ⟨q1, q2, q3⟩ := R4F.out.ends B4.out (.int .i64 v.k) (.float .f64 v.f) (.string v.s) (.slice p1 m1 r1) (.slice p2 m2 r2) (.bool bb) (.int .i64 k') (.float .f64 0) (.string s') (.slice none 0 0) (.slice none 0 0)
         refine bodyPost_ret_by (results_two_rows rfl _ _ (w.heap.size + 2) (w.heap.size + 3) 27 31 _ _ (0, 0) (0, 0) _ _ rfl rfl q1 q2 Tryz.underlying27 rfl sizeVal Tryz.underlying31 rfl infoErr) rfl ?_
         exact ⟨⟨o, txt, HOO.out, v, _, _, bb, k', s', rfl, (AtN.keep HAT.out (ends_size ..) (fun b q => ends_other (by rcases q with q | q <;> omega) (by rcases q with q | q <;> omega) ..)).later (by omega), HOR.out⟩, q3⟩)
      | (obtain ⟨q1, q2, q3⟩ := R4F.out.ends2 B4.out (.int .i64 v.k) (.float .f64 v.f) (.string v.s) (.slice p1 m1 r1) (.slice p2 m2 r2) (.bool bb) (.int .i64 k') (.float .f64 0) (.string s') (.slice none 0 0) (.slice none 0 0)
         refine bodyPost_ret_by (results_two_rows rfl _ _ (w.heap.size + 2) (w.heap.size + 3) 27 31 _ _ (0, 0) (0, 0) _ _ rfl rfl q1 q2 Tryz.underlying27 rfl sizeVal Tryz.underlying31 rfl infoErr) rfl ?_
         exact ⟨⟨o, txt, HOO.out, v, _, _, bb, k', s', rfl, (AtN.keep HAT.out (ends2_size ..) (fun b q => ends2_other (by rcases q with q | q <;> omega) (by rcases q with q | q <;> omega) ..)).later (by omega), HOR.out⟩, q3⟩)
end Go.Proofs.YtdlighmnlcklnaaGreatDoor
