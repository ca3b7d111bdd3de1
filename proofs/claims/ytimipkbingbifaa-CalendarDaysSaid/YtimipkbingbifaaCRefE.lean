/- The document's calendar: seconds broken down. -/
import Derived.Test.YtimipkbingbifaaCRefD
import Derived.Test.YtimipkbingbifaaCFlW
import Derived.Test.YtimipkbingbifaaCMem
namespace Go.Proofs.Ytimipkbingbifaa
open Go Go.RowKit

/-- Seconds that are broken down: those whose whole part is of a day of the calendar. -/
def InB (b : Nat) : Prop := szB b < 9218868437227405312 ∧ -4371587 ≤ flI b / 86400 ∧ flI b / 86400 ≤ 2932896
theorem conv_floor (b : Nat) (h : szB b < 9218868437227405312) (h1 : -9223372036854775808 ≤ flI b) (h2 : flI b ≤ 9223372036854775807) (w : World) : (convert 35 3 (.float .f64 (floorB b))).run Try.prog w = .ok (.int .i64 (flI b)) w := by
  refine run_convert_float_int w _ _ .f64 .i64 _ _ (by kernel_rfl) (by kernel_rfl) ?_
  have h' : (FloatKind.f64.decode (floorB b)).toInt .zero = some (flI b) := toInt_floor b h
  unfold floatToIntVal
  rw [h']
  have e1 : IntKind.i64.min = -9223372036854775808 := by decide
  have e2 : IntKind.i64.max = 9223372036854775807 := by decide
  simp only [e1, e2]
  rw [if_pos ⟨h1, h2⟩]
set_option maxRecDepth 100000 in
set_option maxHeartbeats 1000000 in
theorem refSplit_nan (b : Nat) (hb : 9218868437227405312 < szB b) (w : World) : Calls Try.prog 19 #[.float .f64 b] w fun e w' => e = .returned (.tuple #[.agg (timeV 0 0 0 0 0 0 0 0), .int .i64 110]) ∧ Below w.heap.size w w' := by
  have hsf := run_store_float Try.prog
  unfold timeV
  go_enter Try.func19, Try.ntmps19
  go_wp2_with fail
  refine (Floor_nan b hb _).mono ?_
  rintro e w' ⟨⟨x, rfl, hx⟩, n, rfl⟩
  have o1 : FloatKind.f64.format.order x 14054727237768577024 = none := nan_order _ _ (.inl hx)
  have hr0 := heap_alloc_new w (Obj.cells #[.int .i64 0, .int .i64 0, .int .i64 0, .int .i64 0, .int .i64 0, .float .f64 0, .int .i64 0, .int .i64 0] 37)
  have hb0 := (Below.refl w.heap.size w).alloc (Nat.le_refl _) (Obj.cells #[.int .i64 0, .int .i64 0, .int .i64 0, .int .i64 0, .int .i64 0, .float .f64 0, .int .i64 0, .int .i64 0] 37)
  generalize (w.alloc (Obj.cells #[.int .i64 0, .int .i64 0, .int .i64 0, .int .i64 0, .int .i64 0, .float .f64 0, .int .i64 0, .int .i64 0] 37)) = W0 at hr0 hb0 ⊢
  have hr1 := drewN_row hr0 n
  have hb1 := below_drewN hb0 n
  generalize W0.drewN n = W1 at hr1 hb1 ⊢
  have R0 := Lib.hid hr1
  have B0 := Lib.hid hb1
  clear hx hr0 hb0 hr1 hb1
  obtain ⟨u0, u1, u2, u3, u4, u5, u6, u7⟩ := row8 R0.out
  obtain ⟨v0, v1, v2, v3, v4, v5, v6, v7⟩ := ice8 R0.out
  go_wp2_with fail
  refine bodyPost_ret_by (results_row_tmp rfl _ _ w.heap.size 37 _ (0, 0) _ (.int .i64 110) rfl rfl (set8_row R0.out ..) Try.underlying37 rfl sizeTime) rfl ?_
  exact ⟨rfl, set8_below B0.out (Nat.le_refl _) ..⟩
set_option maxRecDepth 100000 in
set_option maxHeartbeats 1000000 in
theorem refSplit_by (b : Nat) (hb : szB b ≤ 9218868437227405312) (x1 x2 : Ordering) (h1 : Ieee.double.order (floorB b) 14054727237768577024 = some x1) (h2 : Ieee.double.order (floorB b) 4831355200913801216 = some x2) (hx : x1 = .lt ∨ x2 = .gt) (w : World) : Calls Try.prog 19 #[.float .f64 b] w fun e w' => e = .returned (.tuple #[.agg (timeV 0 0 0 0 0 0 0 0), .int .i64 110]) ∧ Below w.heap.size w w' := by
  have hsf := run_store_float Try.prog
  have o1 : FloatKind.f64.format.order (floorB b) 14054727237768577024 = some x1 := h1
  have o2 : FloatKind.f64.format.order (floorB b) 4831355200913801216 = some x2 := h2
  clear h1 h2
  unfold timeV
  cases x1 <;> cases x2 <;> (try (exfalso; rcases hx with h | h <;> cases h; done)) <;> clear hx
  all_goals
    go_enter Try.func19, Try.ntmps19
    go_wp2_with fail
    refine (Floor_num b hb _).mono ?_
    rintro e w' ⟨rfl, rfl⟩
    have hr0 := heap_alloc_new w (Obj.cells #[.int .i64 0, .int .i64 0, .int .i64 0, .int .i64 0, .int .i64 0, .float .f64 0, .int .i64 0, .int .i64 0] 37)
    have hb0 := (Below.refl w.heap.size w).alloc (Nat.le_refl _) (Obj.cells #[.int .i64 0, .int .i64 0, .int .i64 0, .int .i64 0, .int .i64 0, .float .f64 0, .int .i64 0, .int .i64 0] 37)
    have hz0 : (w.alloc (Obj.cells #[.int .i64 0, .int .i64 0, .int .i64 0, .int .i64 0, .int .i64 0, .float .f64 0, .int .i64 0, .int .i64 0] 37)).heap.size = w.heap.size + 1 := by simp
    generalize w.alloc (Obj.cells #[.int .i64 0, .int .i64 0, .int .i64 0, .int .i64 0, .int .i64 0, .float .f64 0, .int .i64 0, .int .i64 0] 37) = W0 at hr0 hb0 hz0 ⊢
    have R0 := Lib.hid hr0
    have B0 := Lib.hid hb0
    have Y0 := Lib.hid hz0
    clear hr0 hb0 hz0 hb
    obtain ⟨u0, u1, u2, u3, u4, u5, u6, u7⟩ := row8 R0.out
    obtain ⟨v0, v1, v2, v3, v4, v5, v6, v7⟩ := ice8 R0.out
    go_wp2_with fail
    refine bodyPost_ret_by (results_row_tmp rfl _ _ w.heap.size 37 _ (0, 0) _ (.int .i64 110) rfl rfl (set8_row R0.out ..) Try.underlying37 rfl sizeTime) rfl ?_
    exact ⟨rfl, set8_below B0.out (Nat.le_refl _) ..⟩
theorem floor_low (b : Nat) (h : szB b < 9218868437227405312) : Ieee.double.order (floorB b) 14054727237768577024 = some (compare (flI b) (-1000000000000000)) := by
  rw [← c_low]
  exact floor_cmp b _ h (by omega) (by omega)
theorem floor_high (b : Nat) (h : szB b < 9218868437227405312) : Ieee.double.order (floorB b) 4831355200913801216 = some (compare (flI b) 1000000000000000) := by
  rw [← c_high]
  exact floor_cmp b _ h (by omega) (by omega)
theorem refSplit_far (b : Nat) (hb : szB b ≤ 9218868437227405312) (h : szB b = 9218868437227405312 ∨ flI b < -1000000000000000 ∨ 1000000000000000 < flI b) (w : World) : Calls Try.prog 19 #[.float .f64 b] w fun e w' => e = .returned (.tuple #[.agg (timeV 0 0 0 0 0 0 0 0), .int .i64 110]) ∧ Below w.heap.size w w' := by
  rcases Nat.lt_or_ge (szB b) 9218868437227405312 with hf | hf
  · refine refSplit_by b hb _ _ (floor_low b hf) (floor_high b hf) ?_ w
    rcases h with h | h | h
    · omega
    · exact .inl (Int.compare_eq_lt.2 h)
    · exact .inr (Int.compare_eq_gt.2 h)
  · have ht := floorB_top b (by omega)
    have e1 := top_cmp (floorB b) (-1000000000000000) ht.1 (by omega) (by omega)
    have e2 := top_cmp (floorB b) 1000000000000000 ht.1 (by omega) (by omega)
    rw [c_low] at e1
    rw [c_high] at e2
    refine refSplit_by b hb _ _ e1 e2 ?_ w
    cases sgB (floorB b)
    · exact .inr rfl
    · exact .inl rfl
set_option maxRecDepth 100000 in
set_option maxHeartbeats 1000000 in
theorem refSplit_out (b : Nat) (hf : szB b < 9218868437227405312) (h1 : -1000000000000000 ≤ flI b) (h2 : flI b ≤ 1000000000000000) (hd : flI b / 86400 < -4371587 ∨ 2932896 < flI b / 86400) (w : World) : Calls Try.prog 19 #[.float .f64 b] w fun e w' => e = .returned (.tuple #[.agg (timeV 0 0 0 0 0 0 0 0), .int .i64 110]) ∧ Below w.heap.size w w' := by
  have hsf := run_store_float Try.prog
  have hb : szB b ≤ 9218868437227405312 := by omega
  have hl := floor_low b hf
  have hh := floor_high b hf
  have hcv := fun w => conv_floor b hf (by omega) (by omega) w
  obtain ⟨n, hn⟩ : ∃ n, flI b / 86400 = n := ⟨_, rfl⟩
  obtain ⟨r, hr⟩ : ∃ r, flI b % 86400 = r := ⟨_, rfl⟩
  rw [hn] at hd
  have HN := Lib.hid hn
  have HR := Lib.hid hr
  have HD := Lib.hid hd
  obtain ⟨x1, hx1⟩ : ∃ x, compare (flI b) (-1000000000000000) = x := ⟨_, rfl⟩
  obtain ⟨x2, hx2⟩ : ∃ x, compare (flI b) 1000000000000000 = x := ⟨_, rfl⟩
  have g1 : x1 ≠ .lt := by
    intro e
    rw [e] at hx1
    have := Int.compare_eq_lt.1 hx1
    omega
  have g2 : x2 ≠ .gt := by
    intro e
    rw [e] at hx2
    have := Int.compare_eq_gt.1 hx2
    omega
  rw [hx1] at hl
  rw [hx2] at hh
  have o1 : FloatKind.f64.format.order (floorB b) 14054727237768577024 = some x1 := hl
  have o2 : FloatKind.f64.format.order (floorB b) 4831355200913801216 = some x2 := hh
  clear hn hr hd hx1 hx2 hl hh hf
  unfold timeV
  cases x1 <;> cases x2 <;> (try (exact absurd rfl g1)) <;> (try (exact absurd rfl g2)) <;> clear g1 g2
  all_goals
    go_enter Try.func19, Try.ntmps19
    go_wp2_with fail
    refine (Floor_num b hb _).mono ?_
    rintro e w' ⟨rfl, rfl⟩
    have hr0 := heap_alloc_new w (Obj.cells #[.int .i64 0, .int .i64 0, .int .i64 0, .int .i64 0, .int .i64 0, .float .f64 0, .int .i64 0, .int .i64 0] 37)
    have hb0 := (Below.refl w.heap.size w).alloc (Nat.le_refl _) (Obj.cells #[.int .i64 0, .int .i64 0, .int .i64 0, .int .i64 0, .int .i64 0, .float .f64 0, .int .i64 0, .int .i64 0] 37)
    have hz0 : (w.alloc (Obj.cells #[.int .i64 0, .int .i64 0, .int .i64 0, .int .i64 0, .int .i64 0, .float .f64 0, .int .i64 0, .int .i64 0] 37)).heap.size = w.heap.size + 1 := by simp
    generalize w.alloc (Obj.cells #[.int .i64 0, .int .i64 0, .int .i64 0, .int .i64 0, .int .i64 0, .float .f64 0, .int .i64 0, .int .i64 0] 37) = W0 at hr0 hb0 hz0 ⊢
    have R0 := Lib.hid hr0
    have B0 := Lib.hid hb0
    have Y0 := Lib.hid hz0
    clear hr0 hb0 hz0 hb
    go_wp2_with fail
    refine (reffloor_at (flI b) 86400 n r HN.out HR.out (by omega) (by omega) (by omega) (by omega) _).mono ?_
    rintro e w' ⟨rfl, q, rfl⟩
    go_wp2_with fail
    refine (refDate_no n HD.out _).mono ?_
    rintro e w' ⟨rfl, rfl⟩
    have hr1 := drewN_row R0.out q
    have hb1 := below_drewN B0.out q
    generalize W0.drewN q = W1 at hr1 hb1 ⊢
    have R1 := Lib.hid hr1
    have B1 := Lib.hid hb1
    clear hr1 hb1
    obtain ⟨u0, u1, u2, u3, u4, u5, u6, u7⟩ := row8 R1.out
    obtain ⟨v0, v1, v2, v3, v4, v5, v6, v7⟩ := ice8 R1.out
    go_wp2_with fail
    refine bodyPost_ret_by (results_row_tmp rfl _ _ w.heap.size 37 _ (0, 0) _ (.int .i64 110) rfl rfl (set8_row R1.out ..) Try.underlying37 rfl sizeTime) rfl ?_
    exact ⟨rfl, set8_below B1.out (Nat.le_refl _) ..⟩
end Go.Proofs.Ytimipkbingbifaa
