/- The program's calendar: seconds broken down. -/
import Derived.Test.YtimipkbingbifaaCPrgC
import Derived.Test.YtimipkbingbifaaCRefF
namespace Go.Proofs.Ytimipkbingbifaa
open Go Go.RowKit

theorem c_secL : fI (-377705116800) = 14003375962501152768 := by decide +kernel
theorem c_secU : fI 253402300800 = 4777615491977969664 := by decide +kernel
theorem prgisSecond_yes (b : Nat) (x : Ordering) (h1 : Ieee.double.order b 14003375962501152768 = some x) (hx : x ≠ .lt) (h2 : Ieee.double.order b 4777615491977969664 = some .lt) (w : World) : Calls Try.prog 34 #[.float .f64 b] w fun e w' => e = .returned (.bool true) ∧ w = w' := by
  have o1 : FloatKind.f64.format.order b 14003375962501152768 = some x := h1
  have o2 : FloatKind.f64.format.order b 4777615491977969664 = some .lt := h2
  clear h1 h2
  cases x <;> (try (exact absurd rfl hx)) <;> clear hx
  all_goals
    go_enter Try.func34, Try.ntmps34
    go_wp2_with fail
    go_ret
    exact ⟨rfl, rfl⟩
theorem prgisSecond_low (b : Nat) (x : Option Ordering) (h1 : Ieee.double.order b 14003375962501152768 = x) (hx : x = none ∨ x = some .lt) (w : World) : Calls Try.prog 34 #[.float .f64 b] w fun e w' => e = .returned (.bool false) ∧ w = w' := by
  have o1 : FloatKind.f64.format.order b 14003375962501152768 = x := h1
  clear h1
  rcases hx with h | h <;> subst h
  all_goals
    go_enter Try.func34, Try.ntmps34
    go_wp2_with fail
    go_ret
    exact ⟨rfl, rfl⟩
theorem prgisSecond_high (b : Nat) (x y : Ordering) (h1 : Ieee.double.order b 14003375962501152768 = some x) (hx : x ≠ .lt) (h2 : Ieee.double.order b 4777615491977969664 = some y) (hy : y ≠ .lt) (w : World) : Calls Try.prog 34 #[.float .f64 b] w fun e w' => e = .returned (.bool false) ∧ w = w' := by
  have o1 : FloatKind.f64.format.order b 14003375962501152768 = some x := h1
  have o2 : FloatKind.f64.format.order b 4777615491977969664 = some y := h2
  clear h1 h2
  cases x <;> (try (exact absurd rfl hx)) <;> clear hx <;> cases y <;> (try (exact absurd rfl hy)) <;> clear hy
  all_goals
    go_enter Try.func34, Try.ntmps34
    go_wp2_with fail
    go_ret
    exact ⟨rfl, rfl⟩
/-- Whole seconds by their number. -/
theorem sec_no (b : Nat) (hb : szB b ≤ 9218868437227405312) (h : szB b = 9218868437227405312 ∨ flI b < -377705116800 ∨ 253402300800 ≤ flI b) (w : World) : Calls Try.prog 34 #[.float .f64 (floorB b)] w fun e w' => e = .returned (.bool false) ∧ w = w' := by
  rcases Nat.lt_or_ge (szB b) 9218868437227405312 with hf | hf
  · have e1 := floor_cmp b (-377705116800) hf (by omega) (by omega)
    have e2 := floor_cmp b 253402300800 hf (by omega) (by omega)
    rw [c_secL] at e1
    rw [c_secU] at e2
    rcases h with h | h | h
    · omega
    · rw [Int.compare_eq_lt.2 h] at e1
      exact prgisSecond_low _ _ e1 (.inr rfl) w
    · have a1 : compare (flI b) (-377705116800) ≠ .lt := by
        intro e
        have := Int.compare_eq_lt.1 e
        omega
      have a2 : compare (flI b) 253402300800 ≠ .lt := by
        intro e
        have := Int.compare_eq_lt.1 e
        omega
      exact prgisSecond_high _ _ _ e1 a1 e2 a2 w
  · have ht := floorB_top b (by omega)
    have e1 := top_cmp (floorB b) (-377705116800) ht.1 (by omega) (by omega)
    have e2 := top_cmp (floorB b) 253402300800 ht.1 (by omega) (by omega)
    rw [c_secL] at e1
    rw [c_secU] at e2
    cases hs : sgB (floorB b)
    · rw [hs] at e1 e2
      exact prgisSecond_high _ _ _ e1 (by decide) e2 (by decide) w
    · rw [hs] at e1
      exact prgisSecond_low _ _ e1 (.inr rfl) w
theorem sec_yes (b : Nat) (hf : szB b < 9218868437227405312) (h1 : -377705116800 ≤ flI b) (h2 : flI b < 253402300800) (w : World) : Calls Try.prog 34 #[.float .f64 (floorB b)] w fun e w' => e = .returned (.bool true) ∧ w = w' := by
  have e1 := floor_cmp b (-377705116800) hf (by omega) (by omega)
  have e2 := floor_cmp b 253402300800 hf (by omega) (by omega)
  rw [c_secL] at e1
  rw [c_secU] at e2
  have a1 : compare (flI b) (-377705116800) ≠ .lt := by
    intro e
    have := Int.compare_eq_lt.1 e
    omega
  rw [Int.compare_eq_lt.2 h2] at e2
  exact prgisSecond_yes _ _ e1 a1 e2 w
set_option maxRecDepth 100000 in
set_option maxHeartbeats 1000000 in
theorem prgSplit_nan (b : Nat) (hb : 9218868437227405312 < szB b) (w : World) : Calls Try.prog 18 #[.float .f64 b] w fun e w' => e = .returned (.tuple #[.agg (timeV 0 0 0 0 0 0 0 0), .int .i64 110]) ∧ Below w.heap.size w w' := by
  have hsf := run_store_float Try.prog
  unfold timeV
  go_enter Try.func18, Try.ntmps18
  go_wp2_with fail
  refine (Floor_nan b hb _).mono ?_
  rintro e w' ⟨⟨x, rfl, hx⟩, n, rfl⟩
  have hS := fun w => prgisSecond_low x none (nan_order _ _ (.inl hx)) (.inl rfl) w
  have hr0 := heap_alloc_new w (Obj.cells #[.int .i64 0, .int .i64 0, .int .i64 0, .int .i64 0, .int .i64 0, .float .f64 0, .int .i64 0, .int .i64 0] 37)
  have hb0 := (Below.refl w.heap.size w).alloc (Nat.le_refl _) (Obj.cells #[.int .i64 0, .int .i64 0, .int .i64 0, .int .i64 0, .int .i64 0, .float .f64 0, .int .i64 0, .int .i64 0] 37)
  have hz0 : (w.alloc (Obj.cells #[.int .i64 0, .int .i64 0, .int .i64 0, .int .i64 0, .int .i64 0, .float .f64 0, .int .i64 0, .int .i64 0] 37)).heap.size = w.heap.size + 1 := by simp
  generalize w.alloc (Obj.cells #[.int .i64 0, .int .i64 0, .int .i64 0, .int .i64 0, .int .i64 0, .float .f64 0, .int .i64 0, .int .i64 0] 37) = W0 at hr0 hb0 hz0 ⊢
  have hr1 := drewN_row hr0 n
  have hb1 := below_drewN hb0 n
  generalize W0.drewN n = W1 at hr1 hb1 ⊢
  have R0 := Lib.hid hr1
  have B0 := Lib.hid hb1
  have HS := Lib.hid hS
  clear hx hr0 hb0 hz0 hr1 hb1 hS
  go_wp2_with fail
  refine (HS.out _).mono ?_
  rintro e w' ⟨rfl, rfl⟩
  obtain ⟨u0, u1, u2, u3, u4, u5, u6, u7⟩ := row8 R0.out
  obtain ⟨v0, v1, v2, v3, v4, v5, v6, v7⟩ := ice8 R0.out
  go_wp2_with fail
  refine bodyPost_ret_by (results_row_tmp rfl _ _ w.heap.size 37 _ (0, 0) _ (.int .i64 110) rfl rfl (set8_row R0.out ..) Try.underlying37 rfl sizeTime) rfl ?_
  exact ⟨rfl, set8_below B0.out (Nat.le_refl _) ..⟩
set_option maxRecDepth 100000 in
set_option maxHeartbeats 1000000 in
theorem prgSplit_no (b : Nat) (hb : szB b ≤ 9218868437227405312) (h : szB b = 9218868437227405312 ∨ flI b < -377705116800 ∨ 253402300800 ≤ flI b) (w : World) : Calls Try.prog 18 #[.float .f64 b] w fun e w' => e = .returned (.tuple #[.agg (timeV 0 0 0 0 0 0 0 0), .int .i64 110]) ∧ Below w.heap.size w w' := by
  have hsf := run_store_float Try.prog
  have hS := fun w => sec_no b hb h w
  have HS := Lib.hid hS
  clear h hS
  unfold timeV
  go_enter Try.func18, Try.ntmps18
  go_wp2_with fail
  refine (Floor_num b hb _).mono ?_
  rintro e w' ⟨rfl, rfl⟩
  have hr0 := heap_alloc_new w (Obj.cells #[.int .i64 0, .int .i64 0, .int .i64 0, .int .i64 0, .int .i64 0, .float .f64 0, .int .i64 0, .int .i64 0] 37)
  have hb0 := (Below.refl w.heap.size w).alloc (Nat.le_refl _) (Obj.cells #[.int .i64 0, .int .i64 0, .int .i64 0, .int .i64 0, .int .i64 0, .float .f64 0, .int .i64 0, .int .i64 0] 37)
  have hz0 : (w.alloc (Obj.cells #[.int .i64 0, .int .i64 0, .int .i64 0, .int .i64 0, .int .i64 0, .float .f64 0, .int .i64 0, .int .i64 0] 37)).heap.size = w.heap.size + 1 := by simp
  generalize w.alloc (Obj.cells #[.int .i64 0, .int .i64 0, .int .i64 0, .int .i64 0, .int .i64 0, .float .f64 0, .int .i64 0, .int .i64 0] 37) = W0 at hr0 hb0 hz0 ⊢
  have R0 := Lib.hid hr0
  have B0 := Lib.hid hb0
  clear hr0 hb0 hz0 hb
  go_wp2_with fail
  refine (HS.out _).mono ?_
  rintro e w' ⟨rfl, rfl⟩
  obtain ⟨u0, u1, u2, u3, u4, u5, u6, u7⟩ := row8 R0.out
  obtain ⟨v0, v1, v2, v3, v4, v5, v6, v7⟩ := ice8 R0.out
  go_wp2_with fail
  refine bodyPost_ret_by (results_row_tmp rfl _ _ w.heap.size 37 _ (0, 0) _ (.int .i64 110) rfl rfl (set8_row R0.out ..) Try.underlying37 rfl sizeTime) rfl ?_
  exact ⟨rfl, set8_below B0.out (Nat.le_refl _) ..⟩
theorem prgSplit_far (b : Nat) (hb : szB b ≤ 9218868437227405312) (h : szB b = 9218868437227405312 ∨ flI b < -1000000000000000 ∨ 1000000000000000 < flI b) (w : World) : Calls Try.prog 18 #[.float .f64 b] w fun e w' => e = .returned (.tuple #[.agg (timeV 0 0 0 0 0 0 0 0), .int .i64 110]) ∧ Below w.heap.size w w' :=
  prgSplit_no b hb (by omega) w
theorem prgSplit_out (b : Nat) (hf : szB b < 9218868437227405312) (_h1 : -1000000000000000 ≤ flI b) (_h2 : flI b ≤ 1000000000000000) (hd : flI b / 86400 < -4371587 ∨ 2932896 < flI b / 86400) (w : World) : Calls Try.prog 18 #[.float .f64 b] w fun e w' => e = .returned (.tuple #[.agg (timeV 0 0 0 0 0 0 0 0), .int .i64 110]) ∧ Below w.heap.size w w' :=
  prgSplit_no b (by omega) (by omega) w
set_option maxRecDepth 100000 in
set_option maxHeartbeats 1000000 in
theorem prgSplit_of (b : Nat) (hf : szB b < 9218868437227405312) (y m d r : Int) (hD : OkD y m d) (hn : flI b / 86400 = numI y m d) (hr : flI b % 86400 = r) (w : World) : Calls Try.prog 18 #[.float .f64 b] w
    fun e w' => e = .returned (.tuple #[.agg (timeV y m d (r / 3600) (r / 60 % 60) (secB b (r % 60)) ((numI y m d + 4) % 7) (numI y m d - beginI y 0)), .int .i64 0]) ∧ Below w.heap.size w w' := by
  have hsf := run_store_float Try.prog
  have hb : szB b ≤ 9218868437227405312 := by omega
  have hng := num_range y m d hD
  have hin := num_in y m d hD
  have hbs := begin_succ y
  have hDt := fun w => prgDate_of y m d hD w
  obtain ⟨hy, _, _⟩ := hD
  obtain ⟨hy1, hy2⟩ := hy
  have hcv := fun w => conv_floor b hf (by omega) (by omega) w
  have hS := fun w => sec_yes b hf (by omega) (by omega) w
  have hr1 : 0 ≤ r := by omega
  have hr2 : r < 86400 := by omega
  have hs1 := ar_sub b (floorB b) (fracB b) (frac_some b hf).1
  have hs2 := ar_add (fI (r % 60)) (fracB b) _ (sec_some b (r % 60) hf (by omega) (by omega)).1
  obtain ⟨n, hN⟩ : ∃ n, numI y m d = n := ⟨_, rfl⟩
  rw [hN] at hn hng hin hDt ⊢
  obtain ⟨B, hB⟩ : ∃ B, beginI y 0 = B := ⟨_, rfl⟩
  have hYD := fun w => prgyearDay_at n y B hB (by omega) (by omega) (by omega) (by omega) w
  rw [hB]
  obtain ⟨c, hc⟩ : ∃ c, (n + 4) % 7 = c := ⟨_, rfl⟩
  rw [hc]
  obtain ⟨hn1, hn2⟩ := hng
  have hWd := fun w => prgweekday_at n c hc (by omega) (by omega) w
  have hDiv := fun w => prgdivided_at (flI b) 86400 n r hn hr (by omega) (by omega) (by omega) (by omega) w
  have HT := Lib.hid hDt
  have HS := Lib.hid hS
  have HY := Lib.hid hYD
  have HW := Lib.hid hWd
  have HV := Lib.hid hDiv
  have hci := conv_int
  clear hc hn hr hDt hB hf hin hN hS hYD hWd hDiv hbs
  unfold timeV
  go_enter Try.func18, Try.ntmps18
  go_wp2_with fail
  refine (Floor_num b hb _).mono ?_
  rintro e w' ⟨rfl, rfl⟩
  have hr0 := heap_alloc_new w (Obj.cells #[.int .i64 0, .int .i64 0, .int .i64 0, .int .i64 0, .int .i64 0, .float .f64 0, .int .i64 0, .int .i64 0] 37)
  have hb0 := (Below.refl w.heap.size w).alloc (Nat.le_refl _) (Obj.cells #[.int .i64 0, .int .i64 0, .int .i64 0, .int .i64 0, .int .i64 0, .float .f64 0, .int .i64 0, .int .i64 0] 37)
  have hz0 : (w.alloc (Obj.cells #[.int .i64 0, .int .i64 0, .int .i64 0, .int .i64 0, .int .i64 0, .float .f64 0, .int .i64 0, .int .i64 0] 37)).heap.size = w.heap.size + 1 := by simp
  generalize w.alloc (Obj.cells #[.int .i64 0, .int .i64 0, .int .i64 0, .int .i64 0, .int .i64 0, .float .f64 0, .int .i64 0, .int .i64 0] 37) = W0 at hr0 hb0 hz0 ⊢
  have R0 := Lib.hid hr0
  have B0 := Lib.hid hb0
  have Y0 := Lib.hid hz0
  clear hr0 hb0 hz0 hb
  go_wp2_with fail
  refine (HS.out _).mono ?_
  rintro e w' ⟨rfl, rfl⟩
  go_wp2_with fail
  refine (HV.out _).mono ?_
  rintro e w' ⟨rfl, q1, rfl⟩
  go_wp2_with fail
  refine (HT.out _).mono ?_
  rintro e w' ⟨rfl, q2, rfl⟩
  go_wp2_with fail
  refine (HW.out _).mono ?_
  rintro e w' ⟨rfl, q3, rfl⟩
  go_wp2_with fail
  refine (HY.out _).mono ?_
  rintro e w' ⟨rfl, q4, rfl⟩
  have hr1 := drewN_row (drewN_row R0.out (q1 + q2 + q3)) q4
  have hb1 := below_drewN (below_drewN B0.out (q1 + q2 + q3)) q4
  generalize (W0.drewN (q1 + q2 + q3)).drewN q4 = W1 at hr1 hb1 ⊢
  have R1 := Lib.hid hr1
  have B1 := Lib.hid hb1
  clear hr1 hb1
  obtain ⟨u0, u1, u2, u3, u4, u5, u6, u7⟩ := row8 R1.out
  obtain ⟨v0, v1, v2, v3, v4, v5, v6, v7⟩ := ice8 R1.out
  go_wp2_with fail
  refine bodyPost_ret_by (results_row_tmp rfl _ _ w.heap.size 37 _ (0, 0) _ (.int .i64 0) rfl rfl (set8_row R1.out (.int .i64 y) (.int .i64 m) (.int .i64 d) (.int .i64 (r / 3600)) (.int .i64 (r / 60 % 60)) (.float .f64 (secB b (r % 60))) (.int .i64 c) (.int .i64 (n - B))) Try.underlying37 rfl sizeTime) rfl ?_
  exact ⟨rfl, set8_below B1.out (Nat.le_refl _) ..⟩
end Go.Proofs.Ytimipkbingbifaa
