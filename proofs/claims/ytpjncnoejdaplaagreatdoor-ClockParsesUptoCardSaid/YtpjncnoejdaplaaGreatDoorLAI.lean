/- The program's calendar: the day of the week, and the weeks of a day. -/
import Derived.Test.YtpjncnoejdaplaaGreatDoorLAH
import Derived.Test.YtpjncnoejdaplaaGreatDoorLAD
namespace Go.Proofs.YtpjncnoejdaplaaGreatDoor
open Go Go.RowKit

theorem prgweekday_at (n r : Int) (hr : (n + 4) % 7 = r) (h1 : -9000000 ≤ n) (h2 : n ≤ 9000000) (w : World) : Calls Tryz.prog 42 #[.int .i64 n] w fun e w' => e = .returned (.int .i64 r) ∧ ∃ k, w' = w.drewN k := by
  have HR := Lib.hid hr
  clear hr
  go_enter Tryz.func42, Tryz.ntmps42
  go_wp2_with fail
  refine (prgdivided_at (n + 4) 7 _ r rfl HR.out (by omega) (by omega) (by omega) (by omega) _).mono ?_
  rintro e w' ⟨rfl, q, rfl⟩
  go_wp2_with fail
  go_ret
  exact ⟨rfl, _, rfl⟩
/-- How many days ago a day of the week was. -/
theorem prgsince_at (n d r : Int) (hr : (n + 4 - d) % 7 = r) (h1 : -9000000 ≤ n) (h2 : n ≤ 9000000) (h3 : 0 ≤ d) (h4 : d ≤ 6) (w : World) : Calls Tryz.prog 102 #[.int .i64 n, .int .i64 d] w fun e w' => e = .returned (.int .i64 r) ∧ ∃ k, w' = w.drewN k := by
  obtain ⟨s, hs⟩ : ∃ s, (n + 4) % 7 = s := ⟨_, rfl⟩
  have hq : (s - d) % 7 = r := by omega
  have s1 : 0 ≤ s := by omega
  have s2 : s ≤ 6 := by omega
  have HS := Lib.hid hs
  have HQ := Lib.hid hq
  clear hr hs hq
  go_enter Tryz.func102, Tryz.ntmps102
  go_wp2_with fail
  refine (prgweekday_at n s HS.out (by omega) (by omega) _).mono ?_
  rintro e w' ⟨rfl, k1, rfl⟩
  go_wp2_with fail
  refine (prgdivided_at (s - d) 7 _ r rfl HQ.out (by omega) (by omega) (by omega) (by omega) _).mono ?_
  rintro e w' ⟨rfl, k2, rfl⟩
  go_wp2_with fail
  go_ret
  exact ⟨rfl, _, rfl⟩
/-- How many weeks that begin with a day of the week have begun in a day's year, up to it. -/
theorem prgweeksBegun_at (n d y B r : Int) (hB : beginI y 0 = B) (h1 : -10001 ≤ y) (h2 : y ≤ 10001) (h3 : B ≤ n) (h4 : n < beginI (y + 1) 0) (h5 : 0 ≤ d) (h6 : d ≤ 6) (hr : (n - B - (n + 4 - d) % 7) / 7 + 1 = r) (w : World) : Calls Tryz.prog 103 #[.int .i64 n, .int .i64 d] w fun e w' => e = .returned (.int .i64 r) ∧ ∃ k, w' = w.drewN k := by
  have hD := fun w => prgyearDay_at n y B hB h1 h2 h3 h4 w
  have b1 := begin_wide y (by omega) (by omega)
  have b2 := begin_wide (y + 1) (by omega) (by omega)
  rw [hB] at b1
  obtain ⟨b3, b4⟩ := b1
  have n1 : -9000000 ≤ n := by
    have := dby_mono (-10001) y h1
    have e : dby (-10001) = -3652790 := by decide
    unfold beginI at hB
    rw [cumI_zero] at hB
    omega
  have n2 : n ≤ 9000000 := by
    have := dby_mono (y + 1) 10002 (by omega)
    have e : dby 10002 = 3653156 := by decide
    unfold beginI at h4
    rw [cumI_zero] at h4
    omega
  obtain ⟨s, hs⟩ : ∃ s, (n + 4 - d) % 7 = s := ⟨_, rfl⟩
  rw [hs] at hr
  have s1 : 0 ≤ s := by omega
  have s2 : s ≤ 6 := by omega
  obtain ⟨q, hq⟩ : ∃ q, (n - B - s) / 7 = q := ⟨_, rfl⟩
  rw [hq] at hr
  have q1 : -9000000 ≤ q := by omega
  have q2 : q ≤ 9000000 := by omega
  have HS := Lib.hid hs
  have HQ := Lib.hid hq
  have HR := Lib.hid hr
  have HD := Lib.hid hD
  clear hs hq hr hD h4 hB b2
  go_enter Tryz.func103, Tryz.ntmps103
  go_wp2_with fail
  refine (HD.out _).mono ?_
  rintro e w' ⟨rfl, k1, rfl⟩
  go_wp2_with fail
  refine (prgsince_at n d s HS.out n1 n2 h5 h6 _).mono ?_
  rintro e w' ⟨rfl, k2, rfl⟩
  go_wp2_with fail
  refine (prgdivided_at (n - B - s) 7 q _ HQ.out rfl (by omega) (by omega) (by omega) (by omega) _).mono ?_
  rintro e w' ⟨rfl, k3, rfl⟩
  go_wp2_with fail
  go_ret
  exact ⟨ret_int HR.out, _, rfl⟩
set_option maxRecDepth 100000 in
set_option maxHeartbeats 2000000 in
theorem prgWeeks_of (y m d : Int) (h : OkD y m d) (w : World) : Calls Tryz.prog 55 #[.int .i64 (numI y m d)] w fun e w' => e = .returned (.tuple #[.int .i64 (isoI (numI y m d) y), .int .i64 (weekI (numI y m d) (isoI (numI y m d) y)), .int .i64 (sunI (numI y m d) y), .int .i64 (monI (numI y m d) y), .int .i64 0]) ∧ ∃ n, w' = w.drewN n := by
  have hin := num_in y m d h
  have hn := num_range y m d h
  obtain ⟨⟨hy1, hy2⟩, _, _⟩ := h
  obtain ⟨N, hN⟩ : ∃ N, numI y m d = N := ⟨_, rfl⟩
  rw [hN] at hin hn ⊢
  clear hN
  obtain ⟨hn1, hn2⟩ := hn
  have s0 := begin_succ y
  have s1 := begin_succ (y - 1)
  have s2 := begin_succ (y + 1)
  rw [show y - 1 + 1 = y from by omega] at s1
  have t0 := yearI_two y
  have t1 := yearI_two (y - 1)
  have t2 := yearI_two (y + 1)
  obtain ⟨a, ha⟩ : ∃ a, (N + 3) % 7 = a := ⟨_, rfl⟩
  have a1 : 0 ≤ a := by omega
  have a2 : a ≤ 6 := by omega
  obtain ⟨T, hT⟩ : ∃ T, thI N = T := ⟨_, rfl⟩
  have hTe : N - a + 3 = T := by rw [← hT, ← ha]; rfl
  have hT7 : (T + 4 - 4) % 7 = 0 := by omega
  -- the ISO year
  obtain ⟨iso, hi⟩ : ∃ iso, isoI N y = iso := ⟨_, rfl⟩
  have hiso : beginI iso 0 ≤ T ∧ T < beginI (iso + 1) 0 ∧ -10000 ≤ iso ∧ iso ≤ 10000 := by
    rw [← hi]
    unfold isoI
    rw [hT]
    split
    · rw [show y - 1 + 1 = y from by omega]; omega
    · split
      · omega
      · omega
  obtain ⟨i1, i2, i3, i4⟩ := hiso
  obtain ⟨D, hD⟩ : ∃ D, beginI iso 0 = D := ⟨_, rfl⟩
  obtain ⟨B, hB⟩ : ∃ B, beginI y 0 = B := ⟨_, rfl⟩
  rw [hi]
  have ew : (T - D - (T + 4 - 4) % 7) / 7 + 1 = weekI N iso := by
    unfold weekI
    rw [hT, hD, hT7]
    omega
  have es : (N - B - (N + 4 - 0) % 7) / 7 + 1 = sunI N y := by
    unfold sunI
    rw [hB]
    omega
  have em : (N - B - (N + 4 - 1) % 7) / 7 + 1 = monI N y := by
    unfold monI
    rw [hB]
    omega
  obtain ⟨W, hW⟩ : ∃ W, weekI N iso = W := ⟨_, rfl⟩
  obtain ⟨S, hS⟩ : ∃ S, sunI N y = S := ⟨_, rfl⟩
  obtain ⟨M, hM⟩ : ∃ M, monI N y = M := ⟨_, rfl⟩
  rw [hW] at ew
  rw [hS] at es
  rw [hM] at em
  rw [hW, hS, hM]
  have hYT := fun w => prgyearOf_at T iso (by omega) (by omega) i1 i2 w
  have hWT := fun w => prgweeksBegun_at T 4 iso D W hD (by omega) (by omega) (by omega) i2 (by omega) (by omega) ew w
  have hWS := fun w => prgweeksBegun_at N 0 y B S hB (by omega) (by omega) (by omega) (by omega) (by omega) (by omega) es w
  have hWM := fun w => prgweeksBegun_at N 1 y B M hB (by omega) (by omega) (by omega) (by omega) (by omega) (by omega) em w
  have HA := Lib.hid (show (N + 4 - 1) % 7 = a from by omega)
  have HT := Lib.hid hTe
  have HYT := Lib.hid hYT
  have HWT := Lib.hid hWT
  have HWS := Lib.hid hWS
  have HWM := Lib.hid hWM
  clear hYT hWT hWS hWM ha hT hTe hT7 hi hD hB ew es em hW hS hM s0 s1 s2 t0 t1 t2 i1 i2 hin
  go_enter Tryz.func55, Tryz.ntmps55
  go_wp2_with fail
  refine (prgisDay_yes N hn1 hn2 _).mono ?_
  rintro e w' ⟨rfl, rfl⟩
  go_wp2_with fail
  refine (prgsince_at N 1 a HA.out (by omega) (by omega) (by omega) (by omega) _).mono ?_
  rintro e w' ⟨rfl, k1, rfl⟩
  have ht : N - a + 4 - 1 = T := by have := HT.out; omega
  go_wp2_with fail
  refine (HYT.out _).mono ?_
  rintro e w' ⟨rfl, k2, rfl⟩
  go_wp2_with fail
  refine (HWT.out _).mono ?_
  rintro e w' ⟨rfl, k3, rfl⟩
  go_wp2_with fail
  refine (HWS.out _).mono ?_
  rintro e w' ⟨rfl, k4, rfl⟩
  go_wp2_with fail
  refine (HWM.out _).mono ?_
  rintro e w' ⟨rfl, k5, rfl⟩
  go_wp2_with fail
  refine bodyPost_ret (v := .tuple #[.int .i64 iso, .int .i64 W, .int .i64 S, .int .i64 M, .int .i64 0]) (by simp [results, Tryz.results55, go_sem]) rfl ⟨rfl, _, rfl⟩
theorem prgWeeks_no (n : Int) (h : n < -4371587 ∨ 2932896 < n) (w : World) : Calls Tryz.prog 55 #[.int .i64 n] w fun e w' => e = .returned (.tuple #[.int .i64 0, .int .i64 0, .int .i64 0, .int .i64 0, .int .i64 110]) ∧ w = w' := by
  have HN := Lib.hid h
  clear h
  go_enter Tryz.func55, Tryz.ntmps55
  go_wp2_with fail
  refine (prgisDay_no n HN.out _).mono ?_
  rintro e w' ⟨rfl, rfl⟩
  go_wp2_with fail
  exact bodyPost_ret (v := .tuple #[.int .i64 0, .int .i64 0, .int .i64 0, .int .i64 0, .int .i64 110]) (by simp [results, Tryz.results55, go_sem]) rfl ⟨rfl, rfl⟩
end Go.Proofs.YtpjncnoejdaplaaGreatDoor
namespace Go.Proofs.YtpjncnoejdaplaaGreatDoor
open Go Go.RowKit

theorem conv_int (k : Int) (w : World) : (convert 3 22 (.int .i64 k)).run Tryz.prog w = .ok (.float .f64 (fI k)) w := by
  have h1 : Tryz.prog.underlying 3 = some (.int .i64) := by kernel_rfl
  have h2 : Tryz.prog.underlying 22 = some (.float .f64) := by kernel_rfl
  simp [convert, run_underlying h1, run_underlying h2, Conv.intToFloat]
  rfl
theorem ar_sub (x y z : Nat) (h : Ieee.double.sub x y = some z) (w : World) : (binOp .sub 22 (.float .f64 x) (.float .f64 y)).run Tryz.prog w = .ok (.float .f64 z) w := run_float_arith w .sub _ .f64 x y z h
theorem ar_add (x y z : Nat) (h : Ieee.double.add x y = some z) (w : World) : (binOp .add 22 (.float .f64 x) (.float .f64 y)).run Tryz.prog w = .ok (.float .f64 z) w := run_float_arith w .add _ .f64 x y z h
set_option maxRecDepth 100000 in
set_option maxHeartbeats 1000000 in
theorem refSplit_of (b : Nat) (hf : szB b < 9218868437227405312) (y m d r : Int) (hD : OkD y m d) (hn : flI b / 86400 = numI y m d) (hr : flI b % 86400 = r) (w : World) : Calls Tryz.prog 19 #[.float .f64 b] w
    fun e w' => e = .returned (.tuple #[.agg (timeV y m d (r / 3600) (r / 60 % 60) (secB b (r % 60)) ((numI y m d + 4) % 7) (numI y m d - beginI y 0)), .int .i64 0]) ∧ Below w.heap.size w w' := by
  have hsf := run_store_float Tryz.prog
  have hb : szB b ≤ 9218868437227405312 := by omega
  have hng := num_range y m d hD
  have hin := num_in y m d hD
  have hDt := fun w => refDate_of y m d hD w
  obtain ⟨hy, _, _⟩ := hD
  obtain ⟨hy1, hy2⟩ := hy
  have hbd := begin_bd y (by omega) (by omega)
  have hl := floor_low b hf
  have hh := floor_high b hf
  rw [Int.compare_eq_gt.2 (by omega)] at hl
  rw [Int.compare_eq_lt.2 (by omega)] at hh
  have hcv := fun w => conv_floor b hf (by omega) (by omega) w
  have hr1 : 0 ≤ r := by omega
  have hr2 : r < 86400 := by omega
  have hs1 := ar_sub b (floorB b) (fracB b) (frac_some b hf).1
  have hs2 := ar_add (fI (r % 60)) (fracB b) _ (sec_some b (r % 60) hf (by omega) (by omega)).1
  obtain ⟨n, hN⟩ : ∃ n, numI y m d = n := ⟨_, rfl⟩
  rw [hN] at hn hng hin hDt ⊢
  obtain ⟨B, hB⟩ : ∃ B, beginI y 0 = B := ⟨_, rfl⟩
  have hcB := fun w => refbegin_any y 0 (by omega) (by omega) (by omega) (by omega) w
  rw [hB] at hin hbd hcB ⊢
  obtain ⟨c, hc⟩ : ∃ c, (n + 4) % 7 = c := ⟨_, rfl⟩
  rw [hc]
  have HC := Lib.hid hc
  have HN := Lib.hid hn
  have HR := Lib.hid hr
  have HT := Lib.hid hDt
  have HB := Lib.hid hcB
  have hci := conv_int
  have o1 : FloatKind.f64.format.order (floorB b) 14054727237768577024 = some .gt := hl
  have o2 : FloatKind.f64.format.order (floorB b) 4831355200913801216 = some .lt := hh
  obtain ⟨hn1, hn2⟩ := hng
  obtain ⟨hB1, hB2⟩ := hbd
  obtain ⟨hi1, hi2⟩ := hin
  have hyl := yearI_two y
  have hi3 : n < B + 367 := by omega
  clear hl hh hc hn hr hDt hcB hN hB hf hyl hi2
  unfold timeV
  go_enter Tryz.func19, Tryz.ntmps19
  go_wp2_with fail
  refine (Floor_num b hb _).mono ?_
  rintro e w' ⟨rfl, rfl⟩
  have hr0 := heap_alloc_new w (Obj.cells #[.int .i64 0, .int .i64 0, .int .i64 0, .int .i64 0, .int .i64 0, .float .f64 0, .int .i64 0, .int .i64 0] 24)
  have hb0 := (Below.refl w.heap.size w).alloc (Nat.le_refl _) (Obj.cells #[.int .i64 0, .int .i64 0, .int .i64 0, .int .i64 0, .int .i64 0, .float .f64 0, .int .i64 0, .int .i64 0] 24)
  have hz0 : (w.alloc (Obj.cells #[.int .i64 0, .int .i64 0, .int .i64 0, .int .i64 0, .int .i64 0, .float .f64 0, .int .i64 0, .int .i64 0] 24)).heap.size = w.heap.size + 1 := by simp
  generalize w.alloc (Obj.cells #[.int .i64 0, .int .i64 0, .int .i64 0, .int .i64 0, .int .i64 0, .float .f64 0, .int .i64 0, .int .i64 0] 24) = W0 at hr0 hb0 hz0 ⊢
  have R0 := Lib.hid hr0
  have B0 := Lib.hid hb0
  have Y0 := Lib.hid hz0
  clear hr0 hb0 hz0 hb
  go_wp2_with fail
  refine (reffloor_at (flI b) 86400 n r HN.out HR.out (by omega) (by omega) (by have := HN.out; have := HR.out; omega) (by have := HN.out; have := HR.out; omega) _).mono ?_
  rintro e w' ⟨rfl, q1, rfl⟩
  go_wp2_with fail
  refine (HT.out _).mono ?_
  rintro e w' ⟨rfl, q2, rfl⟩
  go_wp2_with fail
  refine (refwday_at n c HC.out (by omega) (by omega) _).mono ?_
  rintro e w' ⟨rfl, q3, rfl⟩
  go_wp2_with fail
  refine (HB.out _).mono ?_
  rintro e w' ⟨rfl, q4, rfl⟩
  have hr1 := drewN_row (drewN_row R0.out (q1 + q2 + q3)) q4
  have hb1 := below_drewN (below_drewN B0.out (q1 + q2 + q3)) q4
  have hz1 : ((W0.drewN (q1 + q2 + q3)).drewN q4).heap.size = w.heap.size + 1 := by rw [drewN_heap, drewN_heap]; exact Y0.out
  generalize (W0.drewN (q1 + q2 + q3)).drewN q4 = W1 at hr1 hb1 hz1 ⊢
  have R1 := Lib.hid hr1
  have B1 := Lib.hid hb1
  have hlt : w.heap.size < W1.heap.size := by omega
  have Y1 := Lib.hid hz1
  clear hr1 hb1 hz1
  obtain ⟨u0, u1, u2, u3, u4, u5, u6, u7⟩ := row8 R1.out
  obtain ⟨v0, v1, v2, v3, v4, v5, v6, v7⟩ := ice8 R1.out
  go_wp2_with fail
  refine bodyPost_ret_by (results_row_tmp rfl _ _ w.heap.size 24 _ (0, 0) _ (.int .i64 0) rfl rfl (row_alloc3 (set8_row R1.out (.int .i64 y) (.int .i64 m) (.int .i64 d) (.int .i64 (r / 3600)) (.int .i64 (r / 60 % 60)) (.float .f64 (secB b (r % 60))) (.int .i64 c) (.int .i64 (n - B))) _) Tryz.underlying24 rfl sizeTime) rfl ?_
  exact ⟨rfl, (set8_below B1.out (Nat.le_refl _) ..).alloc (by rw [set8_size]; omega) _⟩
end Go.Proofs.YtpjncnoejdaplaaGreatDoor
namespace Go.Proofs.YtpjncnoejdaplaaGreatDoor
open Go Go.RowKit

theorem c_secL : fI (-377705116800) = 14003375962501152768 := by decide +kernel
theorem c_secU : fI 253402300800 = 4777615491977969664 := by decide +kernel
theorem prgisSecond_yes (b : Nat) (x : Ordering) (h1 : Ieee.double.order b 14003375962501152768 = some x) (hx : x ≠ .lt) (h2 : Ieee.double.order b 4777615491977969664 = some .lt) (w : World) : Calls Tryz.prog 39 #[.float .f64 b] w fun e w' => e = .returned (.bool true) ∧ w = w' := by
  have o1 : FloatKind.f64.format.order b 14003375962501152768 = some x := h1
  have o2 : FloatKind.f64.format.order b 4777615491977969664 = some .lt := h2
  clear h1 h2
  cases x <;> (try (exact absurd rfl hx)) <;> clear hx
  all_goals
    go_enter Tryz.func39, Tryz.ntmps39
    go_wp2_with fail
    go_ret
    exact ⟨rfl, rfl⟩
theorem prgisSecond_low (b : Nat) (x : Option Ordering) (h1 : Ieee.double.order b 14003375962501152768 = x) (hx : x = none ∨ x = some .lt) (w : World) : Calls Tryz.prog 39 #[.float .f64 b] w fun e w' => e = .returned (.bool false) ∧ w = w' := by
  have o1 : FloatKind.f64.format.order b 14003375962501152768 = x := h1
  clear h1
  rcases hx with h | h <;> subst h
  all_goals
    go_enter Tryz.func39, Tryz.ntmps39
    go_wp2_with fail
    go_ret
    exact ⟨rfl, rfl⟩
theorem prgisSecond_high (b : Nat) (x y : Ordering) (h1 : Ieee.double.order b 14003375962501152768 = some x) (hx : x ≠ .lt) (h2 : Ieee.double.order b 4777615491977969664 = some y) (hy : y ≠ .lt) (w : World) : Calls Tryz.prog 39 #[.float .f64 b] w fun e w' => e = .returned (.bool false) ∧ w = w' := by
  have o1 : FloatKind.f64.format.order b 14003375962501152768 = some x := h1
  have o2 : FloatKind.f64.format.order b 4777615491977969664 = some y := h2
  clear h1 h2
  cases x <;> (try (exact absurd rfl hx)) <;> clear hx <;> cases y <;> (try (exact absurd rfl hy)) <;> clear hy
  all_goals
    go_enter Tryz.func39, Tryz.ntmps39
    go_wp2_with fail
    go_ret
    exact ⟨rfl, rfl⟩
/-- Whole seconds by their number. -/
theorem sec_no (b : Nat) (hb : szB b ≤ 9218868437227405312) (h : szB b = 9218868437227405312 ∨ flI b < -377705116800 ∨ 253402300800 ≤ flI b) (w : World) : Calls Tryz.prog 39 #[.float .f64 (floorB b)] w fun e w' => e = .returned (.bool false) ∧ w = w' := by
  rcases Nat.lt_or_ge (szB b) 9218868437227405312 with hf | hf
  · have e1 := floor_cmp b (-377705116800) hf (by omega) (by omega)
    have e2 := floor_cmp b 253402300800 hf (by omega) (by omega)
    rw [c_secL] at e1
    rw [c_secU] at e2
    rcases h with h | h | h
    · omega
    · rw [Int.compare_eq_lt.2 h] at e1
      exact prgisSecond_low _ _ e1 (.inr rfl) w
    · have a1 : compare (flI b) (-377705116800) ≠ .lt := by
        intro e
        have := Int.compare_eq_lt.1 e
        omega
      have a2 : compare (flI b) 253402300800 ≠ .lt := by
        intro e
        have := Int.compare_eq_lt.1 e
        omega
      exact prgisSecond_high _ _ _ e1 a1 e2 a2 w
  · have ht := floorB_top b (by omega)
    have e1 := top_cmp (floorB b) (-377705116800) ht.1 (by omega) (by omega)
    have e2 := top_cmp (floorB b) 253402300800 ht.1 (by omega) (by omega)
    rw [c_secL] at e1
    rw [c_secU] at e2
    cases hs : sgB (floorB b)
    · rw [hs] at e1 e2
      exact prgisSecond_high _ _ _ e1 (by decide) e2 (by decide) w
    · rw [hs] at e1
      exact prgisSecond_low _ _ e1 (.inr rfl) w
theorem sec_yes (b : Nat) (hf : szB b < 9218868437227405312) (h1 : -377705116800 ≤ flI b) (h2 : flI b < 253402300800) (w : World) : Calls Tryz.prog 39 #[.float .f64 (floorB b)] w fun e w' => e = .returned (.bool true) ∧ w = w' := by
  have e1 := floor_cmp b (-377705116800) hf (by omega) (by omega)
  have e2 := floor_cmp b 253402300800 hf (by omega) (by omega)
  rw [c_secL] at e1
  rw [c_secU] at e2
  have a1 : compare (flI b) (-377705116800) ≠ .lt := by
    intro e
    have := Int.compare_eq_lt.1 e
    omega
  rw [Int.compare_eq_lt.2 h2] at e2
  exact prgisSecond_yes _ _ e1 a1 e2 w
set_option maxRecDepth 100000 in
set_option maxHeartbeats 1000000 in
theorem prgSplit_nan (b : Nat) (hb : 9218868437227405312 < szB b) (w : World) : Calls Tryz.prog 15 #[.float .f64 b] w fun e w' => e = .returned (.tuple #[.agg (timeV 0 0 0 0 0 0 0 0), .int .i64 110]) ∧ Below w.heap.size w w' := by
  have hsf := run_store_float Tryz.prog
  unfold timeV
  go_enter Tryz.func15, Tryz.ntmps15
  go_wp2_with fail
  refine (Floor_nan b hb _).mono ?_
  rintro e w' ⟨⟨x, rfl, hx⟩, n, rfl⟩
  have hS := fun w => prgisSecond_low x none (nan_order _ _ (.inl hx)) (.inl rfl) w
  have hr0 := heap_alloc_new w (Obj.cells #[.int .i64 0, .int .i64 0, .int .i64 0, .int .i64 0, .int .i64 0, .float .f64 0, .int .i64 0, .int .i64 0] 24)
  have hb0 := (Below.refl w.heap.size w).alloc (Nat.le_refl _) (Obj.cells #[.int .i64 0, .int .i64 0, .int .i64 0, .int .i64 0, .int .i64 0, .float .f64 0, .int .i64 0, .int .i64 0] 24)
  have hz0 : (w.alloc (Obj.cells #[.int .i64 0, .int .i64 0, .int .i64 0, .int .i64 0, .int .i64 0, .float .f64 0, .int .i64 0, .int .i64 0] 24)).heap.size = w.heap.size + 1 := by simp
  generalize w.alloc (Obj.cells #[.int .i64 0, .int .i64 0, .int .i64 0, .int .i64 0, .int .i64 0, .float .f64 0, .int .i64 0, .int .i64 0] 24) = W0 at hr0 hb0 hz0 ⊢
  have hr1 := drewN_row hr0 n
  have hb1 := below_drewN hb0 n
  generalize W0.drewN n = W1 at hr1 hb1 ⊢
  have R0 := Lib.hid hr1
  have B0 := Lib.hid hb1
  have HS := Lib.hid hS
  clear hx hr0 hb0 hz0 hr1 hb1 hS
  go_wp2_with fail
  refine (HS.out _).mono ?_
  rintro e w' ⟨rfl, rfl⟩
  obtain ⟨u0, u1, u2, u3, u4, u5, u6, u7⟩ := row8 R0.out
  obtain ⟨v0, v1, v2, v3, v4, v5, v6, v7⟩ := ice8 R0.out
  go_wp2_with fail
  refine bodyPost_ret_by (results_row_tmp rfl _ _ w.heap.size 24 _ (0, 0) _ (.int .i64 110) rfl rfl (set8_row R0.out ..) Tryz.underlying24 rfl sizeTime) rfl ?_
  exact ⟨rfl, set8_below B0.out (Nat.le_refl _) ..⟩
set_option maxRecDepth 100000 in
set_option maxHeartbeats 1000000 in
theorem prgSplit_no (b : Nat) (hb : szB b ≤ 9218868437227405312) (h : szB b = 9218868437227405312 ∨ flI b < -377705116800 ∨ 253402300800 ≤ flI b) (w : World) : Calls Tryz.prog 15 #[.float .f64 b] w fun e w' => e = .returned (.tuple #[.agg (timeV 0 0 0 0 0 0 0 0), .int .i64 110]) ∧ Below w.heap.size w w' := by
  have hsf := run_store_float Tryz.prog
  have hS := fun w => sec_no b hb h w
  have HS := Lib.hid hS
  clear h hS
  unfold timeV
  go_enter Tryz.func15, Tryz.ntmps15
  go_wp2_with fail
  refine (Floor_num b hb _).mono ?_
  rintro e w' ⟨rfl, rfl⟩
  have hr0 := heap_alloc_new w (Obj.cells #[.int .i64 0, .int .i64 0, .int .i64 0, .int .i64 0, .int .i64 0, .float .f64 0, .int .i64 0, .int .i64 0] 24)
  have hb0 := (Below.refl w.heap.size w).alloc (Nat.le_refl _) (Obj.cells #[.int .i64 0, .int .i64 0, .int .i64 0, .int .i64 0, .int .i64 0, .float .f64 0, .int .i64 0, .int .i64 0] 24)
  have hz0 : (w.alloc (Obj.cells #[.int .i64 0, .int .i64 0, .int .i64 0, .int .i64 0, .int .i64 0, .float .f64 0, .int .i64 0, .int .i64 0] 24)).heap.size = w.heap.size + 1 := by simp
  generalize w.alloc (Obj.cells #[.int .i64 0, .int .i64 0, .int .i64 0, .int .i64 0, .int .i64 0, .float .f64 0, .int .i64 0, .int .i64 0] 24) = W0 at hr0 hb0 hz0 ⊢
  have R0 := Lib.hid hr0
  have B0 := Lib.hid hb0
  clear hr0 hb0 hz0 hb
  go_wp2_with fail
  refine (HS.out _).mono ?_
  rintro e w' ⟨rfl, rfl⟩
  obtain ⟨u0, u1, u2, u3, u4, u5, u6, u7⟩ := row8 R0.out
  obtain ⟨v0, v1, v2, v3, v4, v5, v6, v7⟩ := ice8 R0.out
  go_wp2_with fail
  refine bodyPost_ret_by (results_row_tmp rfl _ _ w.heap.size 24 _ (0, 0) _ (.int .i64 110) rfl rfl (set8_row R0.out ..) Tryz.underlying24 rfl sizeTime) rfl ?_
  exact ⟨rfl, set8_below B0.out (Nat.le_refl _) ..⟩
theorem prgSplit_far (b : Nat) (hb : szB b ≤ 9218868437227405312) (h : szB b = 9218868437227405312 ∨ flI b < -1000000000000000 ∨ 1000000000000000 < flI b) (w : World) : Calls Tryz.prog 15 #[.float .f64 b] w fun e w' => e = .returned (.tuple #[.agg (timeV 0 0 0 0 0 0 0 0), .int .i64 110]) ∧ Below w.heap.size w w' :=
  prgSplit_no b hb (by omega) w
theorem prgSplit_out (b : Nat) (hf : szB b < 9218868437227405312) (_h1 : -1000000000000000 ≤ flI b) (_h2 : flI b ≤ 1000000000000000) (hd : flI b / 86400 < -4371587 ∨ 2932896 < flI b / 86400) (w : World) : Calls Tryz.prog 15 #[.float .f64 b] w fun e w' => e = .returned (.tuple #[.agg (timeV 0 0 0 0 0 0 0 0), .int .i64 110]) ∧ Below w.heap.size w w' :=
  prgSplit_no b (by omega) (by omega) w
set_option maxRecDepth 100000 in
set_option maxHeartbeats 1000000 in
theorem prgSplit_of (b : Nat) (hf : szB b < 9218868437227405312) (y m d r : Int) (hD : OkD y m d) (hn : flI b / 86400 = numI y m d) (hr : flI b % 86400 = r) (w : World) : Calls Tryz.prog 15 #[.float .f64 b] w
    fun e w' => e = .returned (.tuple #[.agg (timeV y m d (r / 3600) (r / 60 % 60) (secB b (r % 60)) ((numI y m d + 4) % 7) (numI y m d - beginI y 0)), .int .i64 0]) ∧ Below w.heap.size w w' := by
  have hsf := run_store_float Tryz.prog
  have hb : szB b ≤ 9218868437227405312 := by omega
  have hng := num_range y m d hD
  have hin := num_in y m d hD
  have hbs := begin_succ y
  have hDt := fun w => prgDate_of y m d hD w
  obtain ⟨hy, _, _⟩ := hD
  obtain ⟨hy1, hy2⟩ := hy
  have hcv := fun w => conv_floor b hf (by omega) (by omega) w
  have hS := fun w => sec_yes b hf (by omega) (by omega) w
  have hr1 : 0 ≤ r := by omega
  have hr2 : r < 86400 := by omega
  have hs1 := ar_sub b (floorB b) (fracB b) (frac_some b hf).1
  have hs2 := ar_add (fI (r % 60)) (fracB b) _ (sec_some b (r % 60) hf (by omega) (by omega)).1
  obtain ⟨n, hN⟩ : ∃ n, numI y m d = n := ⟨_, rfl⟩
  rw [hN] at hn hng hin hDt ⊢
  obtain ⟨B, hB⟩ : ∃ B, beginI y 0 = B := ⟨_, rfl⟩
  have hYD := fun w => prgyearDay_at n y B hB (by omega) (by omega) (by omega) (by omega) w
  rw [hB]
  obtain ⟨c, hc⟩ : ∃ c, (n + 4) % 7 = c := ⟨_, rfl⟩
  rw [hc]
  obtain ⟨hn1, hn2⟩ := hng
  have hWd := fun w => prgweekday_at n c hc (by omega) (by omega) w
  have hDiv := fun w => prgdivided_at (flI b) 86400 n r hn hr (by omega) (by omega) (by omega) (by omega) w
  have HT := Lib.hid hDt
  have HS := Lib.hid hS
  have HY := Lib.hid hYD
  have HW := Lib.hid hWd
  have HV := Lib.hid hDiv
  have hci := conv_int
  clear hc hn hr hDt hB hf hin hN hS hYD hWd hDiv hbs
  unfold timeV
  go_enter Tryz.func15, Tryz.ntmps15
  go_wp2_with fail
  refine (Floor_num b hb _).mono ?_
  rintro e w' ⟨rfl, rfl⟩
  have hr0 := heap_alloc_new w (Obj.cells #[.int .i64 0, .int .i64 0, .int .i64 0, .int .i64 0, .int .i64 0, .float .f64 0, .int .i64 0, .int .i64 0] 24)
  have hb0 := (Below.refl w.heap.size w).alloc (Nat.le_refl _) (Obj.cells #[.int .i64 0, .int .i64 0, .int .i64 0, .int .i64 0, .int .i64 0, .float .f64 0, .int .i64 0, .int .i64 0] 24)
  have hz0 : (w.alloc (Obj.cells #[.int .i64 0, .int .i64 0, .int .i64 0, .int .i64 0, .int .i64 0, .float .f64 0, .int .i64 0, .int .i64 0] 24)).heap.size = w.heap.size + 1 := by simp
  generalize w.alloc (Obj.cells #[.int .i64 0, .int .i64 0, .int .i64 0, .int .i64 0, .int .i64 0, .float .f64 0, .int .i64 0, .int .i64 0] 24) = W0 at hr0 hb0 hz0 ⊢
  have R0 := Lib.hid hr0
  have B0 := Lib.hid hb0
  have Y0 := Lib.hid hz0
  clear hr0 hb0 hz0 hb
  go_wp2_with fail
  refine (HS.out _).mono ?_
  rintro e w' ⟨rfl, rfl⟩
  go_wp2_with fail
  refine (HV.out _).mono ?_
  rintro e w' ⟨rfl, q1, rfl⟩
  go_wp2_with fail
  refine (HT.out _).mono ?_
  rintro e w' ⟨rfl, q2, rfl⟩
  go_wp2_with fail
  refine (HW.out _).mono ?_
  rintro e w' ⟨rfl, q3, rfl⟩
  go_wp2_with fail
  refine (HY.out _).mono ?_
  rintro e w' ⟨rfl, q4, rfl⟩
  have hr1 := drewN_row (drewN_row R0.out (q1 + q2 + q3)) q4
  have hb1 := below_drewN (below_drewN B0.out (q1 + q2 + q3)) q4
  generalize (W0.drewN (q1 + q2 + q3)).drewN q4 = W1 at hr1 hb1 ⊢
  have R1 := Lib.hid hr1
  have B1 := Lib.hid hb1
  clear hr1 hb1
  obtain ⟨u0, u1, u2, u3, u4, u5, u6, u7⟩ := row8 R1.out
  obtain ⟨v0, v1, v2, v3, v4, v5, v6, v7⟩ := ice8 R1.out
  go_wp2_with fail
  refine bodyPost_ret_by (results_row_tmp rfl _ _ w.heap.size 24 _ (0, 0) _ (.int .i64 0) rfl rfl (set8_row R1.out (.int .i64 y) (.int .i64 m) (.int .i64 d) (.int .i64 (r / 3600)) (.int .i64 (r / 60 % 60)) (.float .f64 (secB b (r % 60))) (.int .i64 c) (.int .i64 (n - B))) Tryz.underlying24 rfl sizeTime) rfl ?_
  exact ⟨rfl, set8_below B1.out (Nat.le_refl _) ..⟩
end Go.Proofs.YtpjncnoejdaplaaGreatDoor
namespace Go.Proofs.YtpjncnoejdaplaaGreatDoor
open Go Go.RowKit

def fitsB (n : Int) : Bool := decide (-1000000000 ≤ n) && decide (n ≤ 1000000000)
theorem reffits_any (y : Int) (w : World) : Calls Tryz.prog 90 #[.int .i64 y] w fun e w' => e = .returned (.bool (fitsB y)) ∧ w = w' := by
  unfold fitsB
  by_cases h1 : -1000000000 ≤ y
  · by_cases h2 : y ≤ 1000000000
    · rw [decide_eq_true h1, decide_eq_true h2]
      go_enter Tryz.func90, Tryz.ntmps90
      go_wp2_with fail
      go_ret
      exact ⟨rfl, rfl⟩
    · rw [decide_eq_true h1, decide_eq_false h2]
      go_enter Tryz.func90, Tryz.ntmps90
      go_wp2_with fail
      go_ret
      exact ⟨rfl, rfl⟩
  · rw [decide_eq_false h1]
    go_enter Tryz.func90, Tryz.ntmps90
    go_wp2_with fail
    go_ret
    exact ⟨rfl, rfl⟩
theorem fitsB_iff (n : Int) : fitsB n = true ↔ -1000000000 ≤ n ∧ n ≤ 1000000000 := by simp [fitsB]
/-- A time's seconds from -1000000000 to 1000000000. -/
def fitS (s : Nat) : Prop := (Ieee.double.order s 13965043853221167104 = some .gt ∨ Ieee.double.order s 13965043853221167104 = some .eq) ∧ (Ieee.double.order s 4741671816366391296 = some .lt ∨ Ieee.double.order s 4741671816366391296 = some .eq)
theorem c9_low : fI (-1000000000) = 13965043853221167104 := by decide +kernel
theorem c9_high : fI 1000000000 = 4741671816366391296 := by decide +kernel
set_option exponentiation.threshold 2000 in
theorem fitS_fin (s : Nat) (h : fitS s) : szB s < 9218868437227405312 ∧ -1000000000 ≤ flI s ∧ flI s ≤ 1000000000 := by
  obtain ⟨h1, h2⟩ := h
  rcases Nat.lt_trichotomy (szB s) 9218868437227405312 with hf | hf | hf
  · refine ⟨hf, ?_⟩
    obtain ⟨a1, a2⟩ := fI_is (-1000000000) (by omega) (by omega)
    obtain ⟨b1, b2⟩ := fI_is 1000000000 (by omega) (by omega)
    rw [← c9_low, val_order _ _ hf a1, a2] at h1
    rw [← c9_high, val_order _ _ hf b1, b2] at h2
    have p : (0 : Int) < (2 : Int) ^ 1074 := Int.pow_pos (by omega)
    have l1 : -1000000000 * (2 : Int) ^ 1074 ≤ valB s := by
      rcases h1 with h | h
      · exact Int.le_of_lt (Int.compare_eq_gt.1 (Option.some.inj h))
      · exact Int.le_of_eq (Int.compare_eq_eq.1 (Option.some.inj h)).symm
    have l2 : valB s ≤ 1000000000 * (2 : Int) ^ 1074 := by
      rcases h2 with h | h
      · exact Int.le_of_lt (Int.compare_eq_lt.1 (Option.some.inj h))
      · exact Int.le_of_eq (Int.compare_eq_eq.1 (Option.some.inj h))
    unfold flI
    refine ⟨Int.le_ediv_of_mul_le p l1, ?_⟩
    have := Int.ediv_le_ediv p l2
    rw [Int.mul_ediv_cancel _ (by omega)] at this
    exact this
  · have e1 := top_cmp s (-1000000000) hf (by omega) (by omega)
    have e2 := top_cmp s 1000000000 hf (by omega) (by omega)
    rw [c9_low] at e1
    rw [c9_high] at e2
    rw [e1] at h1
    rw [e2] at h2
    exfalso
    cases hg : sgB s <;> simp [hg] at h1 h2
  · have e1 := nan_order s 13965043853221167104 (.inl hf)
    rw [e1] at h1
    simp at h1
def Fits (y mo d h mi : Int) (s : Nat) : Prop := fitsB y = true ∧ fitsB mo = true ∧ fitsB d = true ∧ fitsB h = true ∧ fitsB mi = true ∧ fitS s
/-- The seconds that a time is, its year and month laid out. -/
def secI (y m d h mi : Int) (s : Nat) : Int := (beginI y m + d - 1) * 86400 + h * 3600 + mi * 60 + flI s
set_option maxRecDepth 100000 in
set_option maxHeartbeats 2000000 in
theorem refJoin_of (y mo d h mi : Int) (s : Nat) (wd yd : Int) (hF : Fits y mo d h mi s) (hk : knownB (y + mo / 12) = true) (hd1 : -4371587 ≤ secI (y + mo / 12) (mo % 12) d h mi s / 86400) (hd2 : secI (y + mo / 12) (mo % 12) d h mi s / 86400 ≤ 2932896) (w : World) :
    Calls Tryz.prog 36 #[.agg (timeV y mo d h mi s wd yd)] w fun e w' => e = .returned (.tuple #[.int .i64 (secI (y + mo / 12) (mo % 12) d h mi s), .int .i64 0]) ∧ Below w.heap.size w w' := by
  obtain ⟨f1, f2, f3, f4, f5, f6⟩ := hF
  obtain ⟨s1, s2, s3⟩ := fitS_fin s f6
  obtain ⟨q, hq⟩ : ∃ q, mo / 12 = q := ⟨_, rfl⟩
  obtain ⟨m, hm⟩ : ∃ m, mo % 12 = m := ⟨_, rfl⟩
  rw [hq, hm] at hd1 hd2
  rw [hq] at hk
  rw [hq, hm]
  have hkk : -9999 ≤ y + q ∧ y + q ≤ 9999 := by simpa [knownB] using hk
  have hm1 : 0 ≤ m := by omega
  have hm2 : m ≤ 11 := by omega
  obtain ⟨B, hB⟩ : ∃ B, beginI (y + q) m = B := ⟨_, rfl⟩
  have hbm := cumI_bd (y + q) m hm1 hm2
  have hBd := begin_bd (y + q) (by omega) (by omega)
  have hBB : -6000000 ≤ B ∧ B ≤ 6000000 := by
    have e : B = beginI (y + q) 0 + cumI (y + q) m := by
      rw [← hB]
      unfold beginI
      rw [cumI_zero]
      omega
    have := cumI_le (y + q) m hm1 (by omega)
    omega
  have hcB := fun w => refbegin_any (y + q) m (by omega) (by omega) (by omega) (by omega) w
  rw [hB] at hcB
  obtain ⟨F, hFl⟩ : ∃ F, flI s = F := ⟨_, rfl⟩
  have hcv := fun w => conv_floor s s1 (by omega) (by omega) w
  have hFc := fun w => (Floor_num s (by omega) w).mono fun _ _ ⟨a, b⟩ => (⟨a, b.symm⟩ : _ ∧ _)
  rw [hFl] at s2 s3 hcv
  obtain ⟨S, hS⟩ : ∃ S, secI (y + q) m d h mi s = S := ⟨_, rfl⟩
  have hSe : (B + d - 1) * 86400 + h * 3600 + mi * 60 + F = S := by rw [← hS, ← hB, ← hFl]; rfl
  rw [hS] at hd1 hd2 ⊢
  obtain ⟨k, hkq⟩ : ∃ k, S / 86400 = k := ⟨_, rfl⟩
  obtain ⟨r, hkr⟩ : ∃ r, S % 86400 = r := ⟨_, rfl⟩
  rw [hkq] at hd1 hd2
  have b1 := (fitsB_iff y).1 f1
  have b2 := (fitsB_iff mo).1 f2
  have b3 := (fitsB_iff d).1 f3
  have b4 := (fitsB_iff h).1 f4
  have b5 := (fitsB_iff mi).1 f5
  obtain ⟨b31, b32⟩ := b3
  obtain ⟨b41, b42⟩ := b4
  obtain ⟨b51, b52⟩ := b5
  obtain ⟨hBB1, hBB2⟩ := hBB
  have HQ := Lib.hid hq
  have HM := Lib.hid hm
  have HK := Lib.hid hk
  have HB := Lib.hid hcB
  have HF := Lib.hid hFc
  have HS := Lib.hid hSe
  have HKQ := Lib.hid hkq
  have HKR := Lib.hid hkr
  have HB1 := Lib.hid b1
  have HB2 := Lib.hid b2
  have hkn := fun w => refknown_yes (y + q) hkk w
  have HKN := Lib.hid hkn
  have hq1 : -100000000 ≤ q := by omega
  have hq2 : q ≤ 100000000 := by omega
  have w1 : IntKind.i64.wrap (B + d) = B + d := IntWalk.i64_in _ (by omega)
  have w2 : IntKind.i64.wrap (B + d - 1) = B + d - 1 := IntWalk.i64_in _ (by omega)
  have w3 : IntKind.i64.wrap ((B + d - 1) * 86400) = (B + d - 1) * 86400 := IntWalk.i64_in _ (by omega)
  have w4 : IntKind.i64.wrap (h * 3600) = h * 3600 := IntWalk.i64_in _ (by omega)
  have w5 : IntKind.i64.wrap ((B + d - 1) * 86400 + h * 3600) = (B + d - 1) * 86400 + h * 3600 := IntWalk.i64_in _ (by omega)
  have w6 : IntKind.i64.wrap (mi * 60) = mi * 60 := IntWalk.i64_in _ (by omega)
  have w7 : IntKind.i64.wrap ((B + d - 1) * 86400 + h * 3600 + mi * 60) = (B + d - 1) * 86400 + h * 3600 + mi * 60 := IntWalk.i64_in _ (by omega)
  have w8 : IntKind.i64.wrap ((B + d - 1) * 86400 + h * 3600 + mi * 60 + F) = (B + d - 1) * 86400 + h * 3600 + mi * 60 + F := IntWalk.i64_in _ (by omega)
  have W1 := Lib.hid w1
  have W2 := Lib.hid w2
  have W3 := Lib.hid w3
  have W4 := Lib.hid w4
  have W5 := Lib.hid w5
  have W6 := Lib.hid w6
  have W7 := Lib.hid w7
  have W8 := Lib.hid w8
  obtain ⟨g1, g2⟩ := f6
  have o1 : FloatKind.f64.format.order s 13965043853221167104 = some .gt ∨ FloatKind.f64.format.order s 13965043853221167104 = some .eq := g1
  have o2 : FloatKind.f64.format.order s 4741671816366391296 = some .lt ∨ FloatKind.f64.format.order s 4741671816366391296 = some .eq := g2
  have hFlH := Lib.hid hFl
  clear w1 w2 w3 w4 w5 w6 w7 w8 g1 g2 hq hm hk hcB hFc hSe hkq hkr b1 b2 hkn hkk hB hS hbm hBd hFl
  unfold timeV
  rcases o1 with o1 | o1 <;> rcases o2 with o2 | o2
  all_goals
    go_enter Tryz.func36, Tryz.ntmps36
    go_wp2_with (go_at_call 90; refine (reffits_any _ _).mono ?_; rintro e w' ⟨rfl, rfl⟩)
    have hr0 := heap_alloc_new w (Obj.cells #[.int .i64 y, .int .i64 mo, .int .i64 d, .int .i64 h, .int .i64 mi, .float .f64 s, .int .i64 wd, .int .i64 yd] 24)
    have hb0 := (Below.refl w.heap.size w).alloc (Nat.le_refl _) (Obj.cells #[.int .i64 y, .int .i64 mo, .int .i64 d, .int .i64 h, .int .i64 mi, .float .f64 s, .int .i64 wd, .int .i64 yd] 24)
    generalize w.alloc (Obj.cells #[.int .i64 y, .int .i64 mo, .int .i64 d, .int .i64 h, .int .i64 mi, .float .f64 s, .int .i64 wd, .int .i64 yd] 24) = W0 at hr0 hb0 ⊢
    refine (reffloor_at mo 12 q m HQ.out HM.out (by omega) (by omega) (by have := HB2.out; omega) (by have := HB2.out; omega) _).mono ?_
    rintro e w' ⟨rfl, n1, rfl⟩
    have hr1 := drewN_row hr0 n1
    have hb1 := below_drewN hb0 n1
    generalize W0.drewN n1 = X1 at hr1 hb1 ⊢
    have R1 := Lib.hid hr1
    have B1 := Lib.hid hb1
    clear hr0 hb0 hr1 hb1
    obtain ⟨u0, u1, u2, u3, u4, u5, u6, u7⟩ := row8 R1.out
    obtain ⟨b11, b12⟩ := HB1.out
    go_wp2_with fail
    refine (HKN.out _).mono ?_
    rintro e w' ⟨rfl, rfl⟩
    go_wp2_with fail
    have w1 := W1.out
    have w2 := W2.out
    have w3 := W3.out
    have w4 := W4.out
    have w5 := W5.out
    have w6 := W6.out
    have w7 := W7.out
    have w8 := W8.out
    go_quiet ((first | (go_at_call 52; exact Calls.quiet_of (HB.out _)) | (go_at_call 38; exact Calls.quiet_of_same (HF.out _))))
    clear w1 w2 w3 w4 w5 w6 w7 w8
    go_wp2_with fail
    refine (reffloor_at ((B + d - 1) * 86400 + h * 3600 + mi * 60 + F) 86400 k r (by rw [HS.out]; exact HKQ.out) (by rw [HS.out]; exact HKR.out) (by omega) (by omega) (by omega) (by omega) _).mono ?_
    rintro e w' ⟨rfl, n4, rfl⟩
    go_wp2_with fail
    go_ret2
    refine ⟨by rw [← HS.out]; rfl, ?_⟩
    first | exact below_drewN B1.out _ | exact below_drewN (below_drewN B1.out _) _
end Go.Proofs.YtpjncnoejdaplaaGreatDoor
