/- The program's calendar: the day of the week, and the weeks of a day. -/
import Derived.Test.YtimipkbingbifaaCPrgB
namespace Go.Proofs.Ytimipkbingbifaa
open Go Go.RowKit

theorem prgweekday_at (n r : Int) (hr : (n + 4) % 7 = r) (h1 : -9000000 ≤ n) (h2 : n ≤ 9000000) (w : World) : Calls Try.prog 36 #[.int .i64 n] w fun e w' => e = .returned (.int .i64 r) ∧ ∃ k, w' = w.drewN k := by
  have HR := Lib.hid hr
  clear hr
  go_enter Try.func36, Try.ntmps36
  go_wp2_with fail
  refine (prgdivided_at (n + 4) 7 _ r rfl HR.out (by omega) (by omega) (by omega) (by omega) _).mono ?_
  rintro e w' ⟨rfl, q, rfl⟩
  go_wp2_with fail
  go_ret
  exact ⟨rfl, _, rfl⟩
/-- How many days ago a day of the week was. -/
theorem prgsince_at (n d r : Int) (hr : (n + 4 - d) % 7 = r) (h1 : -9000000 ≤ n) (h2 : n ≤ 9000000) (h3 : 0 ≤ d) (h4 : d ≤ 6) (w : World) : Calls Try.prog 40 #[.int .i64 n, .int .i64 d] w fun e w' => e = .returned (.int .i64 r) ∧ ∃ k, w' = w.drewN k := by
  obtain ⟨s, hs⟩ : ∃ s, (n + 4) % 7 = s := ⟨_, rfl⟩
  have hq : (s - d) % 7 = r := by omega
  have s1 : 0 ≤ s := by omega
  have s2 : s ≤ 6 := by omega
  have HS := Lib.hid hs
  have HQ := Lib.hid hq
  clear hr hs hq
  go_enter Try.func40, Try.ntmps40
  go_wp2_with fail
  refine (prgweekday_at n s HS.out (by omega) (by omega) _).mono ?_
  rintro e w' ⟨rfl, k1, rfl⟩
  go_wp2_with fail
  refine (prgdivided_at (s - d) 7 _ r rfl HQ.out (by omega) (by omega) (by omega) (by omega) _).mono ?_
  rintro e w' ⟨rfl, k2, rfl⟩
  go_wp2_with fail
  go_ret
  exact ⟨rfl, _, rfl⟩
/-- How many weeks that begin with a day of the week have begun in a day's year, up to it. -/
theorem prgweeksBegun_at (n d y B r : Int) (hB : beginI y 0 = B) (h1 : -10001 ≤ y) (h2 : y ≤ 10001) (h3 : B ≤ n) (h4 : n < beginI (y + 1) 0) (h5 : 0 ≤ d) (h6 : d ≤ 6) (hr : (n - B - (n + 4 - d) % 7) / 7 + 1 = r) (w : World) : Calls Try.prog 41 #[.int .i64 n, .int .i64 d] w fun e w' => e = .returned (.int .i64 r) ∧ ∃ k, w' = w.drewN k := by
  have hD := fun w => prgyearDay_at n y B hB h1 h2 h3 h4 w
  have b1 := begin_wide y (by omega) (by omega)
  have b2 := begin_wide (y + 1) (by omega) (by omega)
  rw [hB] at b1
  obtain ⟨b3, b4⟩ := b1
  have n1 : -9000000 ≤ n := by
    have := dby_mono (-10001) y h1
    have e : dby (-10001) = -3652790 := by decide
    unfold beginI at hB
    rw [cumI_zero] at hB
    omega
  have n2 : n ≤ 9000000 := by
    have := dby_mono (y + 1) 10002 (by omega)
    have e : dby 10002 = 3653156 := by decide
    unfold beginI at h4
    rw [cumI_zero] at h4
    omega
  obtain ⟨s, hs⟩ : ∃ s, (n + 4 - d) % 7 = s := ⟨_, rfl⟩
  rw [hs] at hr
  have s1 : 0 ≤ s := by omega
  have s2 : s ≤ 6 := by omega
  obtain ⟨q, hq⟩ : ∃ q, (n - B - s) / 7 = q := ⟨_, rfl⟩
  rw [hq] at hr
  have q1 : -9000000 ≤ q := by omega
  have q2 : q ≤ 9000000 := by omega
  have HS := Lib.hid hs
  have HQ := Lib.hid hq
  have HR := Lib.hid hr
  have HD := Lib.hid hD
  clear hs hq hr hD h4 hB b2
  go_enter Try.func41, Try.ntmps41
  go_wp2_with fail
  refine (HD.out _).mono ?_
  rintro e w' ⟨rfl, k1, rfl⟩
  go_wp2_with fail
  refine (prgsince_at n d s HS.out n1 n2 h5 h6 _).mono ?_
  rintro e w' ⟨rfl, k2, rfl⟩
  go_wp2_with fail
  refine (prgdivided_at (n - B - s) 7 q _ HQ.out rfl (by omega) (by omega) (by omega) (by omega) _).mono ?_
  rintro e w' ⟨rfl, k3, rfl⟩
  go_wp2_with fail
  go_ret
  exact ⟨ret_int HR.out, _, rfl⟩
set_option maxRecDepth 100000 in
set_option maxHeartbeats 2000000 in
theorem prgWeeks_of (y m d : Int) (h : OkD y m d) (w : World) : Calls Try.prog 22 #[.int .i64 (numI y m d)] w fun e w' => e = .returned (.tuple #[.int .i64 (isoI (numI y m d) y), .int .i64 (weekI (numI y m d) (isoI (numI y m d) y)), .int .i64 (sunI (numI y m d) y), .int .i64 (monI (numI y m d) y), .int .i64 0]) ∧ ∃ n, w' = w.drewN n := by
  have hin := num_in y m d h
  have hn := num_range y m d h
  obtain ⟨⟨hy1, hy2⟩, _, _⟩ := h
  obtain ⟨N, hN⟩ : ∃ N, numI y m d = N := ⟨_, rfl⟩
  rw [hN] at hin hn ⊢
  clear hN
  obtain ⟨hn1, hn2⟩ := hn
  have s0 := begin_succ y
  have s1 := begin_succ (y - 1)
  have s2 := begin_succ (y + 1)
  rw [show y - 1 + 1 = y from by omega] at s1
  have t0 := yearI_two y
  have t1 := yearI_two (y - 1)
  have t2 := yearI_two (y + 1)
  obtain ⟨a, ha⟩ : ∃ a, (N + 3) % 7 = a := ⟨_, rfl⟩
  have a1 : 0 ≤ a := by omega
  have a2 : a ≤ 6 := by omega
  obtain ⟨T, hT⟩ : ∃ T, thI N = T := ⟨_, rfl⟩
  have hTe : N - a + 3 = T := by rw [← hT, ← ha]; rfl
  have hT7 : (T + 4 - 4) % 7 = 0 := by omega
  -- the ISO year
  obtain ⟨iso, hi⟩ : ∃ iso, isoI N y = iso := ⟨_, rfl⟩
  have hiso : beginI iso 0 ≤ T ∧ T < beginI (iso + 1) 0 ∧ -10000 ≤ iso ∧ iso ≤ 10000 := by
    rw [← hi]
    unfold isoI
    rw [hT]
    split
    · rw [show y - 1 + 1 = y from by omega]; omega
    · split
      · omega
      · omega
  obtain ⟨i1, i2, i3, i4⟩ := hiso
  obtain ⟨D, hD⟩ : ∃ D, beginI iso 0 = D := ⟨_, rfl⟩
  obtain ⟨B, hB⟩ : ∃ B, beginI y 0 = B := ⟨_, rfl⟩
  rw [hi]
  have ew : (T - D - (T + 4 - 4) % 7) / 7 + 1 = weekI N iso := by
    unfold weekI
    rw [hT, hD, hT7]
    omega
  have es : (N - B - (N + 4 - 0) % 7) / 7 + 1 = sunI N y := by
    unfold sunI
    rw [hB]
    omega
  have em : (N - B - (N + 4 - 1) % 7) / 7 + 1 = monI N y := by
    unfold monI
    rw [hB]
    omega
  obtain ⟨W, hW⟩ : ∃ W, weekI N iso = W := ⟨_, rfl⟩
  obtain ⟨S, hS⟩ : ∃ S, sunI N y = S := ⟨_, rfl⟩
  obtain ⟨M, hM⟩ : ∃ M, monI N y = M := ⟨_, rfl⟩
  rw [hW] at ew
  rw [hS] at es
  rw [hM] at em
  rw [hW, hS, hM]
  have hYT := fun w => prgyearOf_at T iso (by omega) (by omega) i1 i2 w
  have hWT := fun w => prgweeksBegun_at T 4 iso D W hD (by omega) (by omega) (by omega) i2 (by omega) (by omega) ew w
  have hWS := fun w => prgweeksBegun_at N 0 y B S hB (by omega) (by omega) (by omega) (by omega) (by omega) (by omega) es w
  have hWM := fun w => prgweeksBegun_at N 1 y B M hB (by omega) (by omega) (by omega) (by omega) (by omega) (by omega) em w
  have HA := Lib.hid (show (N + 4 - 1) % 7 = a from by omega)
  have HT := Lib.hid hTe
  have HYT := Lib.hid hYT
  have HWT := Lib.hid hWT
  have HWS := Lib.hid hWS
  have HWM := Lib.hid hWM
  clear hYT hWT hWS hWM ha hT hTe hT7 hi hD hB ew es em hW hS hM s0 s1 s2 t0 t1 t2 i1 i2 hin
  go_enter Try.func22, Try.ntmps22
  go_wp2_with fail
  refine (prgisDay_yes N hn1 hn2 _).mono ?_
  rintro e w' ⟨rfl, rfl⟩
  go_wp2_with fail
  refine (prgsince_at N 1 a HA.out (by omega) (by omega) (by omega) (by omega) _).mono ?_
  rintro e w' ⟨rfl, k1, rfl⟩
  have ht : N - a + 4 - 1 = T := by have := HT.out; omega
  go_wp2_with fail
  refine (HYT.out _).mono ?_
  rintro e w' ⟨rfl, k2, rfl⟩
  go_wp2_with fail
  refine (HWT.out _).mono ?_
  rintro e w' ⟨rfl, k3, rfl⟩
  go_wp2_with fail
  refine (HWS.out _).mono ?_
  rintro e w' ⟨rfl, k4, rfl⟩
  go_wp2_with fail
  refine (HWM.out _).mono ?_
  rintro e w' ⟨rfl, k5, rfl⟩
  go_wp2_with fail
  refine bodyPost_ret (v := .tuple #[.int .i64 iso, .int .i64 W, .int .i64 S, .int .i64 M, .int .i64 0]) (by simp [results, Try.results22, go_sem]) rfl ⟨rfl, _, rfl⟩
theorem prgWeeks_no (n : Int) (h : n < -4371587 ∨ 2932896 < n) (w : World) : Calls Try.prog 22 #[.int .i64 n] w fun e w' => e = .returned (.tuple #[.int .i64 0, .int .i64 0, .int .i64 0, .int .i64 0, .int .i64 110]) ∧ w = w' := by
  have HN := Lib.hid h
  clear h
  go_enter Try.func22, Try.ntmps22
  go_wp2_with fail
  refine (prgisDay_no n HN.out _).mono ?_
  rintro e w' ⟨rfl, rfl⟩
  go_wp2_with fail
  exact bodyPost_ret (v := .tuple #[.int .i64 0, .int .i64 0, .int .i64 0, .int .i64 0, .int .i64 110]) (by simp [results, Try.results22, go_sem]) rfl ⟨rfl, rfl⟩
end Go.Proofs.Ytimipkbingbifaa
