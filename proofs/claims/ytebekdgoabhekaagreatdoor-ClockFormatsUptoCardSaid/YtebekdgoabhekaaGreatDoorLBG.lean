/- A time that is none: momentOf refuses it. -/
import Derived.Test.YtebekdgoabhekaaGreatDoorLBF
import Derived.Test.YtebekdgoabhekaaGreatDoorLBA
import Derived.Test.YtebekdgoabhekaaGreatDoorLAY
namespace Go.Proofs.YtebekdgoabhekaaGreatDoor
open Go Go.RowKit Go.Shelf

/-- The parts are others. -/
inductive Oth (y m d h i : Int) (s : Nat) (y' m' d' h' i' : Int) (r : Nat) : Prop where
  | y : y ≠ y' → Oth y m d h i s y' m' d' h' i' r
  | m : y = y' → m ≠ m' → Oth y m d h i s y' m' d' h' i' r
  | d : y = y' → m = m' → d ≠ d' → Oth y m d h i s y' m' d' h' i' r
  | h : y = y' → m = m' → d = d' → h ≠ h' → Oth y m d h i s y' m' d' h' i' r
  | i : y = y' → m = m' → d = d' → h = h' → i ≠ i' → Oth y m d h i s y' m' d' h' i' r
  | s : y = y' → m = m' → d = d' → h = h' → i = i' → Ieee.double.order (floorB s) r ≠ some .eq → Oth y m d h i s y' m' d' h' i' r
theorem eqF_false (x y : Nat) (h : Ieee.double.order x y ≠ some .eq) (w : World) : (Op.equalIn 9999 22 (.float .f64 x) (.float .f64 y)).run Tryz.prog w = .ok false w := by
  have e := eqF 9998 x y w
  have h1 : Op.floatEq .f64 x y = false := by
    unfold Op.floatEq
    rw [beq_eq_false_iff_ne]
    exact h
  rw [h1] at e
  exact e
set_option maxRecDepth 100000 in
set_option maxHeartbeats 8000000 in
theorem momentOf_no (y m d h i : Int) (s : Nat) (wd yd a y' m' d' h' i' : Int) (r : Nat) (wd' yd' : Int) (hs : szB s < 9218868437227405312) (hO : Oth y m d h i s y' m' d' h' i' r)
    (hJ : ∀ w, Calls Tryz.prog 53 #[.agg (timeV y m d h i s wd yd)] w fun e w' => e = .returned (.tuple #[.int .i64 a, .int .i64 0]) ∧ Below w.heap.size w w')
    (hS : ∀ w, Calls Tryz.prog 15 #[.float .f64 (fI a)] w fun e w' => e = .returned (.tuple #[.agg (timeV y' m' d' h' i' r wd' yd'), .int .i64 0]) ∧ Below w.heap.size w w') (eb : Addr) (w : World) (hG : GlobW w eb) :
    Calls Tryz.prog 22 #[.agg (timeV y m d h i s wd yd)] w fun e w' => e = .returned (.tuple #[.agg zeroM, errV eb]) ∧ Below w.heap.size w w' := by
  have hsf := run_store_float Tryz.prog
  have hci := conv_int a
  have HS := Lib.hid hS
  have HJ := Lib.hid hJ
  have HFl := Lib.hid (fun w => Floor_num s (by omega) w)
  have HO := Lib.hid hO
  have HE := Lib.hid hG.err
  have H6 := Lib.hid hG.size
  clear hS hJ hO hs hG
  unfold timeV at HS HJ ⊢
  go_enter Tryz.func22, Tryz.ntmps22
  go_wp2_with fail
  have r1 := row_alloc3 (heap_alloc_new w (.cells #[.int .i64 y, .int .i64 m, .int .i64 d, .int .i64 h, .int .i64 i, .float .f64 s, .int .i64 wd, .int .i64 yd] 24)) (.cells zeroM 57)
  have r2 := heap_alloc_new (w.alloc (.cells #[.int .i64 y, .int .i64 m, .int .i64 d, .int .i64 h, .int .i64 i, .float .f64 s, .int .i64 wd, .int .i64 yd] 24)) (.cells zeroM 57)
  rw [World.size_alloc] at r2
  have b1 := ((Below.refl w.heap.size w).alloc (Nat.le_refl _) (.cells #[.int .i64 y, .int .i64 m, .int .i64 d, .int .i64 h, .int .i64 i, .float .f64 s, .int .i64 wd, .int .i64 yd] 24)).alloc (by simp) (.cells zeroM 57)
  have z1 : w.heap.size + 1 < ((w.alloc (.cells #[.int .i64 y, .int .i64 m, .int .i64 d, .int .i64 h, .int .i64 i, .float .f64 s, .int .i64 wd, .int .i64 yd] 24)).alloc (.cells zeroM 57)).heap.size := by simp
  unfold zeroM at r1 r2 b1 z1
  generalize (w.alloc (.cells #[.int .i64 y, .int .i64 m, .int .i64 d, .int .i64 h, .int .i64 i, .float .f64 s, .int .i64 wd, .int .i64 yd] 24)).alloc (.cells #[.int .i64 0, .int .i64 0, .int .i64 0, .int .i64 0, .int .i64 0, .float .f64 0, .int .i64 0, .int .i64 0, .int .i64 0, .int .i64 0, .int .i64 0, .int .i64 0, .int .i64 0] 57) = X1 at r1 r2 b1 z1 ⊢
  have R1 := Lib.hid r1
  have R2 := Lib.hid r2
  have B1 := Lib.hid b1
  have Z1 := Lib.hid z1
  clear r1 r2 b1 z1
  refine (HJ.out _).mono ?_
  rintro e w1 ⟨rfl, hb⟩
  have T1 := Lib.hid ((hb.block w.heap.size (by have := Z1.out; omega)).trans R1.out)
  have T2 := Lib.hid ((hb.block (w.heap.size + 1) Z1.out).trans R2.out)
  have B2 := Lib.hid (B1.out.trans (hb.mono B1.out.size))
  have Z2 := Lib.hid (Nat.lt_of_lt_of_le Z1.out hb.size)
  clear hb R1 R2 B1 Z1
  go_wp2_with fail
  have r1 := row_alloc3 T1.out (.cells #[.int .i64 0, .int .i64 0, .int .i64 0, .int .i64 0, .int .i64 0, .float .f64 0, .int .i64 0, .int .i64 0, .int .i64 a, .int .i64 0, .int .i64 0, .int .i64 0, .int .i64 0] 57)
  have r2 := row_alloc3 T2.out (.cells #[.int .i64 0, .int .i64 0, .int .i64 0, .int .i64 0, .int .i64 0, .float .f64 0, .int .i64 0, .int .i64 0, .int .i64 a, .int .i64 0, .int .i64 0, .int .i64 0, .int .i64 0] 57)
  have r3 := heap_alloc_new w1 (.cells #[.int .i64 0, .int .i64 0, .int .i64 0, .int .i64 0, .int .i64 0, .float .f64 0, .int .i64 0, .int .i64 0, .int .i64 a, .int .i64 0, .int .i64 0, .int .i64 0, .int .i64 0] 57)
  have b1 := B2.out.alloc B2.out.size (.cells #[.int .i64 0, .int .i64 0, .int .i64 0, .int .i64 0, .int .i64 0, .float .f64 0, .int .i64 0, .int .i64 0, .int .i64 a, .int .i64 0, .int .i64 0, .int .i64 0, .int .i64 0] 57)
  have z1 : w1.heap.size < (w1.alloc (.cells #[.int .i64 0, .int .i64 0, .int .i64 0, .int .i64 0, .int .i64 0, .float .f64 0, .int .i64 0, .int .i64 0, .int .i64 a, .int .i64 0, .int .i64 0, .int .i64 0, .int .i64 0] 57)).heap.size := by simp
  obtain ⟨q, hq⟩ : ∃ q, w1.heap.size = q := ⟨_, rfl⟩
  have HQ : Hid (w.heap.size + 1 < q) := Lib.hid (by rw [← hq]; exact Z2.out)
  rw [hq] at r3 z1 ⊢
  generalize w1.alloc (.cells #[.int .i64 0, .int .i64 0, .int .i64 0, .int .i64 0, .int .i64 0, .float .f64 0, .int .i64 0, .int .i64 0, .int .i64 a, .int .i64 0, .int .i64 0, .int .i64 0, .int .i64 0] 57) = X2 at r1 r2 r3 b1 z1 ⊢
  have R1 := Lib.hid r1
  have R2 := Lib.hid r2
  have R3 := Lib.hid r3
  have B3 := Lib.hid b1
  have Z3 := Lib.hid z1
  clear r1 r2 r3 b1 z1 T1 T2 B2 Z2 hq hci
  refine (HS.out _).mono ?_
  rintro e w3 ⟨rfl, hb⟩
  have T1 := Lib.hid ((hb.block w.heap.size (by have := Z3.out; have := HQ.out; omega)).trans R1.out)
  have T2 := Lib.hid ((hb.block (w.heap.size + 1) (by have := Z3.out; have := HQ.out; omega)).trans R2.out)
  have T3 := Lib.hid ((hb.block q Z3.out).trans R3.out)
  have B4 := Lib.hid (B3.out.trans (hb.mono B3.out.size))
  have Z4 := Lib.hid (Nat.lt_of_lt_of_le Z3.out hb.size)
  clear hb R1 R2 R3 B3 Z3
  obtain ⟨u0, u1, u2, u3, u4, u5, u6, u7, u8, u9, u10, u11, u12⟩ := row13 T3.out
  obtain ⟨v0, v1, v2, v3, v4, v5, v6, v7, v8, v9, v10, v11, v12⟩ := ice13 T3.out
  go_wp2_with fail
  obtain ⟨X4, hX4⟩ : ∃ X4, X4 = set8 w3 q (.int .i64 y') (.int .i64 m') (.int .i64 d') (.int .i64 h') (.int .i64 i') (.float .f64 r) (.int .i64 wd') (.int .i64 yd') := ⟨_, rfl⟩
  have R3 := Lib.hid (set8_row13 T3.out (.int .i64 y') (.int .i64 m') (.int .i64 d') (.int .i64 h') (.int .i64 i') (.float .f64 r) (.int .i64 wd') (.int .i64 yd'))
  have R1 := Lib.hid ((set8_other (w := w3) (R := q) (k := w.heap.size) (by have := HQ.out; omega) (.int .i64 y') (.int .i64 m') (.int .i64 d') (.int .i64 h') (.int .i64 i') (.float .f64 r) (.int .i64 wd') (.int .i64 yd')).trans T1.out)
  have R2 := Lib.hid ((set8_other (w := w3) (R := q) (k := w.heap.size + 1) (by have := HQ.out; omega) (.int .i64 y') (.int .i64 m') (.int .i64 d') (.int .i64 h') (.int .i64 i') (.float .f64 r) (.int .i64 wd') (.int .i64 yd')).trans T2.out)
  have B5 := Lib.hid (set8_below B4.out (R := q) (by have := HQ.out; omega) (.int .i64 y') (.int .i64 m') (.int .i64 d') (.int .i64 h') (.int .i64 i') (.float .f64 r) (.int .i64 wd') (.int .i64 yd'))
  rw [← hX4] at R1 R2 R3 B5
  unfold set8 at hX4
  rw [← hX4]
  clear hX4 T1 T2 T3 B4 Z4 u0 u1 u2 u3 u4 u5 u6 u7 u8 u9 u10 u11 u12 v0 v1 v2 v3 v4 v5 v6 v7 v8 v9 v10 v11 v12
  obtain ⟨u0, u1, u2, u3, u4, u5, u6, u7, u8, u9, u10, u11, u12⟩ := row13 R3.out
  obtain ⟨p0, p1, p2, p3, p4, p5, p6, p7⟩ := row8 R1.out
  obtain ⟨f0, f1, f2, f3, f4, f5, f6, f7⟩ := ice8 R1.out
  have hqn : (q = w.heap.size) = False := by have := HQ.out; simp; omega
  go_cut [38] from 27 to 37 (fun _ wx => Hid (wx.heap[w.heap.size]? = some (.cells #[.int .i64 y, .int .i64 m, .int .i64 d, .int .i64 h, .int .i64 i, .float .f64 (floorB s), .int .i64 wd', .int .i64 yd'] 24 (0, 0))) ∧ Hid (wx.heap[w.heap.size + 1]? = some (.cells #[.int .i64 0, .int .i64 0, .int .i64 0, .int .i64 0, .int .i64 0, .float .f64 0, .int .i64 0, .int .i64 0, .int .i64 0, .int .i64 0, .int .i64 0, .int .i64 0, .int .i64 0] 57 (0, 0))) ∧ Hid (wx.heap[q]? = some (.cells #[.int .i64 y', .int .i64 m', .int .i64 d', .int .i64 h', .int .i64 i', .float .f64 r, .int .i64 wd', .int .i64 yd', .int .i64 a, .int .i64 0, .int .i64 0, .int .i64 0, .int .i64 0] 57 (0, 0))) ∧ Hid (Below w.heap.size w wx))
  case first =>
    go_region_with ((go_at_call 38; (refine (HFl.out _).mono ?_); rintro e w' ⟨rfl, rfl⟩))
    all_goals
      go_wp2_with fail
      go_meet
      refine ⟨Lib.hid (row_setAt (row_setAt (row_setAt R1.out 5 (.float .f64 (floorB s))) 6 (.int .i64 wd')) 7 (.int .i64 yd')), Lib.hid (three_other X4 (by omega) _ _ _ R2.out), Lib.hid (three_other X4 (by have := HQ.out; omega) _ _ _ R3.out), Lib.hid ?_⟩
      exact ((((B5.out.setCell (p := ⟨w.heap.size, 5, none⟩) (Nat.le_refl _) _).setCell (p := ⟨w.heap.size, 6, none⟩) (Nat.le_refl _) _).setCell (p := ⟨w.heap.size, 7, none⟩) (Nat.le_refl _) _)).drew
  case rest =>
    clear u0 u1 u2 u3 u4 u5 u6 u7 u8 u9 u10 u11 u12 p0 p1 p2 p3 p4 p5 p6 p7 f0 f1 f2 f3 f4 f5 f6 f7 R1 R2 R3 B5
    obtain ⟨R1, R2, R3, B5⟩ := hcut
    obtain ⟨u0, u1, u2, u3, u4, u5, u6, u7, u8, u9, u10, u11, u12⟩ := row13 R3.out
    obtain ⟨p0, p1, p2, p3, p4, p5, p6, p7⟩ := row8 R1.out
    clear HS HJ HFl
    go_upto_region 7 with fail
    obtain ⟨c0, c1, c2, c3, c4, c5, c6, c7, c8, c9, c10, c11, c12⟩ := row13 R2.out
    obtain ⟨k0, k1, k2, k3, k4, k5, k6, k7, k8, k9, k10, k11, k12⟩ := ice13 R2.out
    have d5 := errW_in HE.out B5.out
    obtain ⟨X, hX⟩ : ∃ X, X = set13 wc (w.heap.size + 1) (.int .i64 0) (.int .i64 0) (.int .i64 0) (.int .i64 0) (.int .i64 0) (.float .f64 0) (.int .i64 0) (.int .i64 0) (.int .i64 0) (.int .i64 0) (.int .i64 0) (.int .i64 0) (.int .i64 0) := ⟨_, rfl⟩
    have HX := Lib.hid (set13_row R2.out (.int .i64 0) (.int .i64 0) (.int .i64 0) (.int .i64 0) (.int .i64 0) (.float .f64 0) (.int .i64 0) (.int .i64 0) (.int .i64 0) (.int .i64 0) (.int .i64 0) (.int .i64 0) (.int .i64 0))
    have BX := Lib.hid (set13_below B5.out (R := w.heap.size + 1) (by omega) (.int .i64 0) (.int .i64 0) (.int .i64 0) (.int .i64 0) (.int .i64 0) (.float .f64 0) (.int .i64 0) (.int .i64 0) (.int .i64 0) (.int .i64 0) (.int .i64 0) (.int .i64 0) (.int .i64 0))
    rw [← hX] at HX BX
    unfold set13 at hX
    have HXE := Lib.hid hX
    clear hX
    rcases HO.out with h0 | ⟨e1, h0⟩ | ⟨e1, e2, h0⟩ | ⟨e1, e2, e3, h0⟩ | ⟨e1, e2, e3, e4, h0⟩ | ⟨e1, e2, e3, e4, e5, h0⟩
    · have h1 : (y == y') = false := by rw [beq_eq_false_iff_ne]; exact h0
      go_wp2_with fail
      go_region
      all_goals
        go_wp2_with fail
        rw [← HXE.out]
        refine bodyPost_ret_by (results_row_tmp rfl _ _ (w.heap.size + 1) 57 _ (0, 0) _ (errV eb) rfl rfl (HX.out) Tryz.underlying57 rfl sizeMom) rfl ?_
        exact ⟨rfl, by first | exact BX.out | exact BX.out.drew⟩
    · subst e1
      have h1 : (m == m') = false := by rw [beq_eq_false_iff_ne]; exact h0
      go_wp2_with fail
      go_region
      all_goals
        go_wp2_with fail
        rw [← HXE.out]
        refine bodyPost_ret_by (results_row_tmp rfl _ _ (w.heap.size + 1) 57 _ (0, 0) _ (errV eb) rfl rfl (HX.out) Tryz.underlying57 rfl sizeMom) rfl ?_
        exact ⟨rfl, by first | exact BX.out | exact BX.out.drew⟩
    · subst e1 e2
      have h1 : (d == d') = false := by rw [beq_eq_false_iff_ne]; exact h0
      go_wp2_with fail
      go_region
      all_goals
        go_wp2_with fail
        rw [← HXE.out]
        refine bodyPost_ret_by (results_row_tmp rfl _ _ (w.heap.size + 1) 57 _ (0, 0) _ (errV eb) rfl rfl (HX.out) Tryz.underlying57 rfl sizeMom) rfl ?_
        exact ⟨rfl, by first | exact BX.out | exact BX.out.drew⟩
    · subst e1 e2 e3
      have h1 : (h == h') = false := by rw [beq_eq_false_iff_ne]; exact h0
      go_wp2_with fail
      go_region
      all_goals
        go_wp2_with fail
        rw [← HXE.out]
        refine bodyPost_ret_by (results_row_tmp rfl _ _ (w.heap.size + 1) 57 _ (0, 0) _ (errV eb) rfl rfl (HX.out) Tryz.underlying57 rfl sizeMom) rfl ?_
        exact ⟨rfl, by first | exact BX.out | exact BX.out.drew⟩
    · subst e1 e2 e3 e4
      have h1 : (i == i') = false := by rw [beq_eq_false_iff_ne]; exact h0
      go_wp2_with fail
      go_region
      all_goals
        go_wp2_with fail
        rw [← HXE.out]
        refine bodyPost_ret_by (results_row_tmp rfl _ _ (w.heap.size + 1) 57 _ (0, 0) _ (errV eb) rfl rfl (HX.out) Tryz.underlying57 rfl sizeMom) rfl ?_
        exact ⟨rfl, by first | exact BX.out | exact BX.out.drew⟩
    · subst e1 e2 e3 e4 e5
      have h1 := fun w => eqF_false (floorB s) r h0 w
      go_wp2_with fail
      go_region
      all_goals
        go_wp2_with fail
        rw [← HXE.out]
        refine bodyPost_ret_by (results_row_tmp rfl _ _ (w.heap.size + 1) 57 _ (0, 0) _ (errV eb) rfl rfl (HX.out) Tryz.underlying57 rfl sizeMom) rfl ?_
        exact ⟨rfl, by first | exact BX.out | exact BX.out.drew⟩
end Go.Proofs.YtebekdgoabhekaaGreatDoor
namespace Go.Proofs.YtebekdgoabhekaaGreatDoor
open Go Go.RowKit Go.Shelf

set_option maxRecDepth 100000 in
set_option maxHeartbeats 8000000 in
theorem momentOf_bad (y m d h i : Int) (s : Nat) (wd yd a c : Int) (hc : c ≠ 0)
    (hJ : ∀ w, Calls Tryz.prog 53 #[.agg (timeV y m d h i s wd yd)] w fun e w' => e = .returned (.tuple #[.int .i64 a, .int .i64 c]) ∧ Below w.heap.size w w') (eb : Addr) (w : World) (hG : GlobW w eb) :
    Calls Tryz.prog 22 #[.agg (timeV y m d h i s wd yd)] w fun e w' => e = .returned (.tuple #[.agg zeroM, errV eb]) ∧ Below w.heap.size w w' := by
  have hsf := run_store_float Tryz.prog
  have HJ := Lib.hid hJ
  have HE := Lib.hid hG.err
  clear hJ hG
  unfold timeV at HJ ⊢
  go_enter Tryz.func22, Tryz.ntmps22
  go_wp2_with fail
  have hh := (HW.start w).two #[.int .i64 y, .int .i64 m, .int .i64 d, .int .i64 h, .int .i64 i, .float .f64 s, .int .i64 wd, .int .i64 yd] zeroM 24 57
  unfold zeroM at hh
  generalize (w.alloc (.cells #[.int .i64 y, .int .i64 m, .int .i64 d, .int .i64 h, .int .i64 i, .float .f64 s, .int .i64 wd, .int .i64 yd] 24)).alloc (.cells #[.int .i64 0, .int .i64 0, .int .i64 0, .int .i64 0, .int .i64 0, .float .f64 0, .int .i64 0, .int .i64 0, .int .i64 0, .int .i64 0, .int .i64 0, .int .i64 0, .int .i64 0] 57) = X0 at hh ⊢
  have H := Lib.hid hh
  clear hh
  refine (HJ.out _).mono ?_
  rintro e w1 ⟨rfl, hb⟩
  have hh := H.out.below hb
  clear H hb HJ
  have R2 := hh.rows _ (.head _)
  have B5 := hh.bel
  obtain ⟨c0, c1, c2, c3, c4, c5, c6, c7, c8, c9, c10, c11, c12⟩ := row13 R2
  obtain ⟨k0, k1, k2, k3, k4, k5, k6, k7, k8, k9, k10, k11, k12⟩ := ice13 R2
  have d5 := errW_in HE.out B5
  obtain ⟨X, hX⟩ : ∃ X, X = set13 w1 (w.heap.size + 1) (.int .i64 0) (.int .i64 0) (.int .i64 0) (.int .i64 0) (.int .i64 0) (.float .f64 0) (.int .i64 0) (.int .i64 0) (.int .i64 0) (.int .i64 0) (.int .i64 0) (.int .i64 0) (.int .i64 0) := ⟨_, rfl⟩
  have HX := Lib.hid (set13_row R2 (.int .i64 0) (.int .i64 0) (.int .i64 0) (.int .i64 0) (.int .i64 0) (.float .f64 0) (.int .i64 0) (.int .i64 0) (.int .i64 0) (.int .i64 0) (.int .i64 0) (.int .i64 0) (.int .i64 0))
  have BX := Lib.hid (set13_below B5 (R := w.heap.size + 1) (by omega) (.int .i64 0) (.int .i64 0) (.int .i64 0) (.int .i64 0) (.int .i64 0) (.float .f64 0) (.int .i64 0) (.int .i64 0) (.int .i64 0) (.int .i64 0) (.int .i64 0) (.int .i64 0) (.int .i64 0))
  rw [← hX] at HX BX
  unfold set13 at hX
  have HXE := Lib.hid hX
  clear hX R2 B5 hh
  have h1 : (c == 0) = false := by rw [beq_eq_false_iff_ne]; exact hc
  go_wp2_with fail
  go_region
  all_goals
    go_wp2_with fail
    rw [← HXE.out]
    refine bodyPost_ret_by (results_row_tmp rfl _ _ (w.heap.size + 1) 57 _ (0, 0) _ (errV eb) rfl rfl (HX.out) Tryz.underlying57 rfl sizeMom) rfl ?_
    exact ⟨rfl, by first | exact BX.out | exact BX.out.drew⟩
end Go.Proofs.YtebekdgoabhekaaGreatDoor
namespace Go.Proofs.YtebekdgoabhekaaGreatDoor
open Go Go.RowKit Go.Shelf

set_option maxRecDepth 100000 in
set_option maxHeartbeats 4000000 in
theorem Format_no (y mo d h mi : Int) (s : Nat) (wd yd : Int) (eb : Addr) (hm : ∀ w, GlobW w eb → Calls Tryz.prog 22 #[.agg (timeV y mo d h mi s wd yd)] w fun e w' => e = .returned (.tuple #[.agg zeroM, errV eb]) ∧ Below w.heap.size w w') (f : ByteArray) (w : World) (hG : GlobW w eb) :
    Calls Tryz.prog 8 #[.agg (timeV y mo d h mi s wd yd), .string f] w fun e w' => e = .returned (.tuple #[.string ⟨#[]⟩, .int .i64 110]) ∧ Below w.heap.size w w' := by
  have HM := Lib.hid hm
  have HG := Lib.hid hG
  have hsf := run_store_float Tryz.prog
  have HA := Lib.hid ((Below.refl w.heap.size w).alloc (Nat.le_refl _) (Obj.cells (timeV y mo d h mi s wd yd) 24))
  clear hm hG
  unfold timeV at HM HA ⊢
  go_enter Tryz.func8, Tryz.ntmps8
  go_wp2_with fail
  refine (HM.out _ (HG.out.below HA.out)).mono ?_
  rintro e w1 ⟨rfl, hb⟩
  have B1 := Lib.hid (HA.out.trans (hb.mono (by simp)))
  have G1 := Lib.hid (HG.out.below B1.out)
  clear hb
  have hg := fun o => (cell_keep (w := w1) (o := o) (p := ⟨0, 0, none⟩) (by have := G1.out.size; show 0 < _; omega)).trans G1.out.err
  have hg0 := G1.out.err
  unfold zeroM errV
  go_wp2_with fail
  refine (is_same eb _).mono ?_
  rintro e w2 ⟨rfl, rfl⟩
  have b1 := B1.out.alloc B1.out.size (.cells #[.int .i64 0, .int .i64 0, .int .i64 0, .int .i64 0, .int .i64 0, .float .f64 0, .int .i64 0, .int .i64 0, .int .i64 0, .int .i64 0, .int .i64 0, .int .i64 0, .int .i64 0] 57)
  have BB := Lib.hid b1
  clear b1
  go_wp2_with fail
  exact bodyPost_ret (v := .tuple #[.string ⟨#[]⟩, .int .i64 110]) (by simp [results, Tryz.results8, go_sem]) rfl ⟨rfl, BB.out⟩
set_option maxRecDepth 100000 in
theorem rFormat_of (y m d h i : Int) (s : Nat) (wd yd : Int) (a : Int) (b : Bool) (f t : ByteArray) (hW : ∀ w, Calls Tryz.prog 26 #[.agg (timeV y m d h i s wd yd)] w fun e w' => e = .returned (.tuple #[.int .i64 a, .bool b]) ∧ Below w.heap.size w w')
    (hT : b = true → ∀ w, Calls Tryz.prog 27 #[.agg (timeV y m d h i s wd yd), .int .i64 a, .string f] w fun e w' => e = .returned (.string t) ∧ Below w.heap.size w w') (w : World) :
    Calls Tryz.prog 9 #[.agg (timeV y m d h i s wd yd), .string f] w fun e w' => e = .returned (.tuple #[.string (if b = true then t else ⟨#[]⟩), .int .i64 (if b = true then 0 else 110)]) ∧ Below w.heap.size w w' := by
  have hsf := run_store_float Tryz.prog
  have HW' := Lib.hid hW
  have HT := Lib.hid hT
  clear hW hT
  unfold timeV at HW' HT ⊢
  go_enter Tryz.func9, Tryz.ntmps9
  go_wp2_with fail
  have hh := (HW.start w).one #[.int .i64 y, .int .i64 m, .int .i64 d, .int .i64 h, .int .i64 i, .float .f64 s, .int .i64 wd, .int .i64 yd] 24
  generalize w.alloc (.cells #[.int .i64 y, .int .i64 m, .int .i64 d, .int .i64 h, .int .i64 i, .float .f64 s, .int .i64 wd, .int .i64 yd] 24) = X0 at hh ⊢
  refine (HW'.out _).mono ?_
  rintro e w1 ⟨rfl, hb⟩
  have H := Lib.hid (hh.below hb)
  clear hh hb HW'
  cases b
  · have HB := Lib.hid H.out.bel
    go_wp2_with fail
    exact bodyPost_ret (v := .tuple #[.string ⟨#[]⟩, .int .i64 110]) (by simp [results, Tryz.results9, go_sem]) rfl ⟨rfl, HB.out⟩
  · obtain ⟨t0, t1, t2, t3, t4, t5, t6, t7⟩ := row8p (H.out.rows _ (.head _))
    go_wp2_with fail
    refine (HT.out (by simp) _).mono ?_
    rintro e w2 ⟨rfl, hb⟩
    have HB := Lib.hid (H.out.below hb).bel
    clear hb H t0 t1 t2 t3 t4 t5 t6 t7
    go_wp2_with fail
    exact bodyPost_ret (v := .tuple #[.string t, .int .i64 0]) (by simp [results, Tryz.results9, go_sem]) rfl ⟨rfl, HB.out⟩
/-- Format, of both: the same text and error. -/
theorem format_both (y m d h i : Int) (s : Nat) (wd yd : Int) (f : ByteArray) (hf : f.size ≤ 1048576) (eb : Addr) : ∃ (t : ByteArray) (c : Int),
    (∀ w, GlobW w eb → Calls Tryz.prog 8 #[.agg (timeV y m d h i s wd yd), .string f] w fun e w' => e = .returned (.tuple #[.string t, .int .i64 c]) ∧ Below w.heap.size w w') ∧
    (∀ w, Calls Tryz.prog 9 #[.agg (timeV y m d h i s wd yd), .string f] w fun e w' => e = .returned (.tuple #[.string t, .int .i64 c]) ∧ Below w.heap.size w w') := by
  obtain ⟨a, c, hk, hJ, rJ⟩ := both_Join2 y m d h i s wd yd
  by_cases hc : c = 0
  · subst hc
    obtain ⟨hk, hs⟩ := hk rfl
    obtain ⟨y', m', d', hD, hN⟩ := num_ex (a / 86400) hk.1 hk.2
    have hS := fun w => split_at a hk y' m' d' hD hN w
    have rS := fun w => rsplit_at a hk y' m' d' hD hN w
    unfold tmI at hS rS
    obtain ⟨o, o1, o2⟩ := floor_ord s (a % 86400 % 60) hs (by omega) (by omega)
    by_cases hsame : y' = y ∧ m' = m ∧ d' = d ∧ a % 86400 / 3600 = h ∧ a % 86400 / 60 % 60 = i ∧ o = .eq
    · obtain ⟨rfl, rfl, rfl, rfl, rfl, rfl⟩ := hsame
      have hfl := floor_eq s _ hs (by omega) (by omega) o1
      have Q : PcQ y' m' d' a s := ⟨hD, hN, hs, hfl⟩
      refine ⟨⟨(timeT (mkMom y' m' d' a) f).toArray⟩, 0, fun w hG => ?_, fun w => ?_⟩
      · exact Format_of (mkMom y' m' d' a) (mkMom_ok y' m' d' a hD hN.symm) _ _ _ _ _ _ _ _ (fun w => momentOf_ok y' m' d' a hD hN.symm s wd yd hs o1 hJ w) f hf eb w hG
      · refine rFormat_of _ _ _ _ _ s wd yd a true f _ (fun w => ?_) (fun _ w => rWritten_any y' m' d' a s wd yd Q f hf w) w
        exact rWhole_cmp _ _ _ _ _ s wd yd a _ _ _ _ _ _ _ _ hs rJ rS true (.inl ⟨rfl, rfl, rfl, rfl, rfl, rfl, by show (Ieee.double.order _ _ != some .eq) = false; rw [o2]; rfl⟩) w
    · have ho : o ≠ .eq → (Ieee.double.order (fI (a % 86400 % 60)) (floorB s) != some .eq) = true := by
        intro h0
        rw [o2]
        cases o <;> first | rfl | exact absurd rfl h0
      have hO : Oth y m d h i s y' m' d' (a % 86400 / 3600) (a % 86400 / 60 % 60) (fI (a % 86400 % 60)) := by
        by_cases h1 : y = y'
        · by_cases h2 : m = m'
          · by_cases h3 : d = d'
            · by_cases h4 : h = a % 86400 / 3600
              · by_cases h5 : i = a % 86400 / 60 % 60
                · refine .s h1 h2 h3 h4 h5 fun h6 => hsame ⟨h1.symm, h2.symm, h3.symm, h4.symm, h5.symm, ?_⟩
                  rw [o1] at h6
                  exact Option.some.inj h6
                · exact .i h1 h2 h3 h4 h5
              · exact .h h1 h2 h3 h4
            · exact .d h1 h2 h3
          · exact .m h1 h2
        · exact .y h1
      refine ⟨⟨#[]⟩, 110, fun w hG => ?_, fun w => ?_⟩
      · exact Format_no y m d h i s wd yd eb (fun w hG => momentOf_no y m d h i s wd yd a y' m' d' _ _ _ _ _ hs hO hJ hS eb w hG) f w hG
      · refine rFormat_of y m d h i s wd yd 0 false f ⟨#[]⟩ (fun w => ?_) (fun h => by cases h) w
        refine rWhole_cmp y m d h i s wd yd a y' m' d' _ _ _ _ _ hs rJ rS false (.inr ⟨rfl, ?_⟩) w
        cases hO with
        | y h1 => exact .inl fun e => h1 e.symm
        | m h1 h2 => exact .inr (.inl ⟨h1.symm, fun e => h2 e.symm⟩)
        | d h1 h2 h3 => exact .inr (.inr (.inl ⟨h1.symm, h2.symm, fun e => h3 e.symm⟩))
        | h h1 h2 h3 h4 => exact .inr (.inr (.inr (.inl ⟨h1.symm, h2.symm, h3.symm, fun e => h4 e.symm⟩)))
        | i h1 h2 h3 h4 h5 => exact .inr (.inr (.inr (.inr (.inl ⟨h1.symm, h2.symm, h3.symm, h4.symm, fun e => h5 e.symm⟩))))
        | s h1 h2 h3 h4 h5 h6 => exact .inr (.inr (.inr (.inr (.inr ⟨h1.symm, h2.symm, h3.symm, h4.symm, h5.symm, ho fun e => h6 (by rw [o1, e])⟩))))
  · refine ⟨⟨#[]⟩, 110, fun w hG => ?_, fun w => ?_⟩
    · exact Format_no y m d h i s wd yd eb (fun w hG => momentOf_bad y m d h i s wd yd a c hc hJ eb w hG) f w hG
    · exact rFormat_of y m d h i s wd yd 0 false f ⟨#[]⟩ (fun w => rWhole_bad y m d h i s wd yd a c hc rJ w) (fun h => by cases h) w
set_option maxRecDepth 100000 in
set_option maxHeartbeats 4000000 in
theorem clockFormats_true (y m d h i : Int) (s : Nat) (wd yd : Int) (f : ByteArray) (hf : f.size ≤ 1048576) (eb : Addr) (w : World) (hG : GlobW w eb) : Calls Tryz.prog 3 #[.agg (timeV y m d h i s wd yd), .string f] w fun e w' => e = .returned (.bool true) ∧ Below w.heap.size w w' := by
  have hsf := run_store_float Tryz.prog
  obtain ⟨t, c, hF, rF⟩ := format_both y m d h i s wd yd f hf eb
  have HF := Lib.hid hF
  have RF := Lib.hid rF
  have HT := Lib.hid (fun w hG => heads_true eb w hG)
  have HG := Lib.hid (fun W (hW : Below w.heap.size w W) => hG.below hW)
  have ht : (t.toList == t.toList) = true := by simp
  clear hF rF hG hf
  unfold timeV at HF RF ⊢
  go_enter Tryz.func3, Tryz.ntmps3
  go_wp2_with fail
  have hh := (HW.start w).one #[.int .i64 y, .int .i64 m, .int .i64 d, .int .i64 h, .int .i64 i, .float .f64 s, .int .i64 wd, .int .i64 yd] 24
  generalize w.alloc (.cells #[.int .i64 y, .int .i64 m, .int .i64 d, .int .i64 h, .int .i64 i, .float .f64 s, .int .i64 wd, .int .i64 yd] 24) = X0 at hh ⊢
  refine (HF.out _ (HG.out _ hh.bel)).mono ?_
  rintro e w1 ⟨rfl, hb⟩
  have H := Lib.hid (hh.below hb)
  clear hh hb
  obtain ⟨t0, t1, t2, t3, t4, t5, t6, t7⟩ := row8p (H.out.rows _ (.head _))
  go_wp2_with fail
  refine (RF.out _).mono ?_
  rintro e w2 ⟨rfl, hb⟩
  have hh := H.out.below hb
  clear hb H t0 t1 t2 t3 t4 t5 t6 t7
  have H := Lib.hid hh
  clear hh
  go_wp2_with fail
  refine (lnum_any _ _).mono ?_
  rintro e w3 ⟨rfl, rfl⟩
  go_wp2_with fail
  refine (HT.out _ (HG.out _ H.out.bel)).mono ?_
  rintro e w4 ⟨rfl, hb⟩
  have HB := Lib.hid (H.out.below hb).bel
  clear hb H
  go_wp2_with fail
  go_ret
  exact ⟨rfl, HB.out⟩
end Go.Proofs.YtebekdgoabhekaaGreatDoor
