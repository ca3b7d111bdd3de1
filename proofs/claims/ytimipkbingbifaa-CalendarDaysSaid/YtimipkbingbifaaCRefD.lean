/- The document's calendar: the day of the week, and the weeks of a day. -/
import Derived.Test.YtimipkbingbifaaCRefC
namespace Go.Proofs.Ytimipkbingbifaa
open Go Go.RowKit

theorem refwday_any (n : Int) (h1 : -9000000 ≤ n) (h2 : n ≤ 9000000) (w : World) : Calls Try.prog 37 #[.int .i64 n] w fun e w' => e = .returned (.int .i64 ((n + 4) % 7)) ∧ ∃ k, w' = w.drewN k := by
  go_enter Try.func37, Try.ntmps37
  go_wp2_with fail
  refine (reffloor_any (n + 4) 7 (by omega) (by omega) (by omega) (by omega) _).mono ?_
  rintro e w' ⟨rfl, q, rfl⟩
  go_wp2_with fail
  go_ret
  exact ⟨rfl, _, rfl⟩
theorem refwday_at (n r : Int) (hr : (n + 4) % 7 = r) (h1 : -9000000 ≤ n) (h2 : n ≤ 9000000) (w : World) : Calls Try.prog 37 #[.int .i64 n] w fun e w' => e = .returned (.int .i64 r) ∧ ∃ k, w' = w.drewN k := by
  subst hr
  exact refwday_any n h1 h2 w
/-- the Thursday of a day's week -/
def thI (n : Int) : Int := n - (n + 3) % 7 + 3
def isoI (n y : Int) : Int := if thI n < beginI y 0 then y - 1 else if beginI (y + 1) 0 ≤ thI n then y + 1 else y
def weekI (n iso : Int) : Int := (thI n - beginI iso 0) / 7 + 1
def sunI (n y : Int) : Int := (n - beginI y 0 + 7 - (n + 4) % 7) / 7
def monI (n y : Int) : Int := (n - beginI y 0 + 7 - (n + 3) % 7) / 7
theorem begin_succ (y : Int) : beginI (y + 1) 0 = beginI y 0 + yearI y := by
  unfold beginI
  rw [dby_succ, cumI_zero, cumI_zero]
  omega
theorem begin_bd (y : Int) (h1 : -10001 ≤ y) (h2 : y ≤ 10001) : -5000000 ≤ beginI y 0 ∧ beginI y 0 ≤ 5000000 := by
  have a := dby_mono (-10001) y h1
  have b := dby_mono y 10001 h2
  have e1 : dby (-10001) = -3652790 := by decide
  have e2 : dby 10001 = 3652791 := by decide
  unfold beginI
  rw [cumI_zero]
  omega
/-- A day stands in its year. -/
theorem num_in (y m d : Int) (h : OkD y m d) : beginI y 0 ≤ numI y m d ∧ numI y m d < beginI y 0 + yearI y := by
  obtain ⟨_, ⟨hm1, hm2⟩, hd1, hd2⟩ := h
  have c := cumI_bd y m hm1 hm2
  unfold numI beginI
  rw [cumI_zero]
  omega
set_option maxRecDepth 100000 in
set_option maxHeartbeats 2000000 in
theorem refWeeks_of (y m d : Int) (h : OkD y m d) (w : World) : Calls Try.prog 23 #[.int .i64 (numI y m d)] w fun e w' => e = .returned (.tuple #[.int .i64 (isoI (numI y m d) y), .int .i64 (weekI (numI y m d) (isoI (numI y m d) y)), .int .i64 (sunI (numI y m d) y), .int .i64 (monI (numI y m d) y), .int .i64 0]) ∧ ∃ n, w' = w.drewN n := by
  have hin := num_in y m d h
  have hn := num_range y m d h
  have HC := fun w => refDate_of y m d h w
  obtain ⟨hy, _, _⟩ := h
  obtain ⟨N, hN⟩ : ∃ N, numI y m d = N := ⟨_, rfl⟩
  rw [hN] at hin hn HC ⊢
  clear hN
  obtain ⟨a, ha⟩ : ∃ a, (N + 3) % 7 = a := ⟨_, rfl⟩
  obtain ⟨q, hq⟩ : ∃ q, (N + 3) / 7 = q := ⟨_, rfl⟩
  obtain ⟨b, hb⟩ : ∃ b, (N + 4) % 7 = b := ⟨_, rfl⟩
  obtain ⟨B, hB⟩ : ∃ B, beginI y 0 = B := ⟨_, rfl⟩
  obtain ⟨C, hC⟩ : ∃ C, beginI (y + 1) 0 = C := ⟨_, rfl⟩
  have hCB := begin_succ y
  have hBb := begin_bd y (by omega) (by omega)
  have hy2 := yearI_two y
  rw [hB] at hin hBb
  rw [hB, hC] at hCB
  obtain ⟨hin1, hin2⟩ := hin
  obtain ⟨hn1, hn2⟩ := hn
  obtain ⟨hB1, hB2⟩ := hBb
  obtain ⟨hy1, hy3⟩ := hy
  have ha1 : 0 ≤ a := by omega
  have ha2 : a < 7 := by omega
  have hb1 : 0 ≤ b := by omega
  have hb2 : b < 7 := by omega
  have hC1 : C ≤ B + 366 := by omega
  have hC2 : B + 365 ≤ C := by omega
  have hN2 : N < C := by omega
  have eth : thI N = N - a + 3 := by unfold thI; rw [ha]
  have esun : sunI N y = (N - B + 7 - b) / 7 := by unfold sunI; rw [hB, hb]
  have emon : monI N y = (N - B + 7 - a) / 7 := by unfold monI; rw [hB, ha]
  have HA := Lib.hid ha
  have HQ := Lib.hid hq
  have HB := Lib.hid hb
  have cB : ∀ w, Calls Try.prog 27 #[.int .i64 y, .int .i64 0] w fun e w' => e = .returned (.int .i64 B) ∧ ∃ n, w' = w.drewN n := by
    intro w
    have e := refbegin_any y 0 (by omega) (by omega) (by omega) (by omega) w
    rw [hB] at e
    exact e
  have cC : ∀ w, Calls Try.prog 27 #[.int .i64 (y + 1), .int .i64 0] w fun e w' => e = .returned (.int .i64 C) ∧ ∃ n, w' = w.drewN n := by
    intro w
    have e := refbegin_any (y + 1) 0 (by omega) (by omega) (by omega) (by omega) w
    rw [hC] at e
    exact e
  have fin : ∀ iso D : Int, isoI N y = iso → beginI iso 0 = D → D ≤ N - a + 3 → N - a + 3 < D + 371 → (-10001 ≤ iso ∧ iso ≤ 10001) →
      isoI N y = iso ∧ weekI N (isoI N y) = (N - a + 3 - D) / 7 + 1 ∧ (∀ w, Calls Try.prog 27 #[.int .i64 iso, .int .i64 0] w fun e w' => e = .returned (.int .i64 D) ∧ ∃ n, w' = w.drewN n) := by
    intro iso D h1 h2 h3 h4 h5
    refine ⟨h1, by rw [h1]; unfold weekI; rw [eth, h2], fun w => ?_⟩
    have e := refbegin_any iso 0 (by omega) (by omega) (by omega) (by omega) w
    rw [h2] at e
    exact e
  rw [esun, emon]
  by_cases hlt : N - a + 3 < B
  · obtain ⟨D, hD⟩ : ∃ D, beginI (y - 1) 0 = D := ⟨_, rfl⟩
    have hDB := begin_succ (y - 1)
    rw [show y - 1 + 1 = y from by omega, hB, hD] at hDB
    have hyp := yearI_two (y - 1)
    have hD1 : B ≤ D + 366 := by omega
    have hD2 : D + 365 ≤ B := by omega
    obtain ⟨f1, f2, f3⟩ := fin (y - 1) D (by unfold isoI; rw [eth, hB, if_pos hlt]) hD (by omega) (by omega) ⟨by omega, by omega⟩
    rw [f2, f1]
    have hge : N - a + 3 < C := by omega
    have hx1 : 0 ≤ N - a + 3 - D := by omega
    have hx2 : 0 ≤ N - B + 7 - b := by omega
    have hx3 : 0 ≤ N - B + 7 - a := by omega
    clear f1 f2 fin esun emon eth hD hB hC ha hq hb hCB hDB hyp hy2
    have HF := Lib.hid f3
    have HCB := Lib.hid cB
    have HCC := Lib.hid cC
    have HDT := Lib.hid HC
    clear f3 cB cC HC
    go_enter Try.func23, Try.ntmps23
    go_wp2_with fail
    refine (HDT.out _).mono ?_
    rintro e w' ⟨rfl, n1, rfl⟩
    go_wp2_with fail
    refine (HCB.out _).mono ?_
    rintro e w' ⟨rfl, n2, rfl⟩
    go_wp2_with fail
    refine (reffloor_at (N + 3) 7 q a HQ.out HA.out (by omega) (by omega) (by omega) (by omega) _).mono ?_
    rintro e w' ⟨rfl, n3, rfl⟩
    go_wp2_with fail
    refine (HCB.out _).mono ?_
    rintro e w' ⟨rfl, n4, rfl⟩
    go_wp2_with fail
    refine (HCC.out _).mono ?_
    rintro e w' ⟨rfl, n5, rfl⟩
    go_wp2_with fail
    refine (HF.out _).mono ?_
    rintro e w' ⟨rfl, n6, rfl⟩
    go_wp2_with fail
    refine (refwday_at N b HB.out (by omega) (by omega) _).mono ?_
    rintro e w' ⟨rfl, n7, rfl⟩
    go_wp2_with fail
    refine bodyPost_ret (v := .tuple #[.int .i64 (y - 1), .int .i64 ((N - a + 3 - D) / 7 + 1), .int .i64 ((N - B + 7 - b) / 7), .int .i64 ((N - B + 7 - a) / 7), .int .i64 0]) (by simp [results, Try.results23, go_sem]) rfl ⟨rfl, _, rfl⟩
  · have hge0 : B ≤ N - a + 3 := by omega
    by_cases hge : C ≤ N - a + 3
    · obtain ⟨f1, f2, f3⟩ := fin (y + 1) C (by unfold isoI; rw [eth, hB, hC, if_neg (by omega), if_pos hge]) hC (by omega) (by omega) ⟨by omega, by omega⟩
      rw [f2, f1]
      have hx1 : 0 ≤ N - a + 3 - C := by omega
      have hx2 : 0 ≤ N - B + 7 - b := by omega
      have hx3 : 0 ≤ N - B + 7 - a := by omega
      clear f1 f2 fin esun emon eth hB hC ha hq hb hCB hy2
      have HF := Lib.hid f3
      have HCB := Lib.hid cB
      have HCC := Lib.hid cC
      have HDT := Lib.hid HC
      clear f3 cB cC HC
      go_enter Try.func23, Try.ntmps23
      go_wp2_with fail
      refine (HDT.out _).mono ?_
      rintro e w' ⟨rfl, n1, rfl⟩
      go_wp2_with fail
      refine (HCB.out _).mono ?_
      rintro e w' ⟨rfl, n2, rfl⟩
      go_wp2_with fail
      refine (reffloor_at (N + 3) 7 q a HQ.out HA.out (by omega) (by omega) (by omega) (by omega) _).mono ?_
      rintro e w' ⟨rfl, n3, rfl⟩
      go_wp2_with fail
      refine (HCB.out _).mono ?_
      rintro e w' ⟨rfl, n4, rfl⟩
      go_wp2_with fail
      refine (HCC.out _).mono ?_
      rintro e w' ⟨rfl, n5, rfl⟩
      go_wp2_with fail
      refine (HF.out _).mono ?_
      rintro e w' ⟨rfl, n6, rfl⟩
      go_wp2_with fail
      refine (refwday_at N b HB.out (by omega) (by omega) _).mono ?_
      rintro e w' ⟨rfl, n7, rfl⟩
      go_wp2_with fail
      refine bodyPost_ret (v := .tuple #[.int .i64 (y + 1), .int .i64 ((N - a + 3 - C) / 7 + 1), .int .i64 ((N - B + 7 - b) / 7), .int .i64 ((N - B + 7 - a) / 7), .int .i64 0]) (by simp [results, Try.results23, go_sem]) rfl ⟨rfl, _, rfl⟩
    · obtain ⟨f1, f2, f3⟩ := fin y B (by unfold isoI; rw [eth, hB, hC, if_neg (by omega), if_neg hge]) hB (by omega) (by omega) ⟨by omega, by omega⟩
      rw [f2, f1]
      have hge2 : N - a + 3 < C := by omega
      have hx1 : 0 ≤ N - a + 3 - B := by omega
      have hx2 : 0 ≤ N - B + 7 - b := by omega
      have hx3 : 0 ≤ N - B + 7 - a := by omega
      clear f1 f2 fin esun emon eth hB hC ha hq hb hCB hy2
      have HF := Lib.hid f3
      have HCB := Lib.hid cB
      have HCC := Lib.hid cC
      have HDT := Lib.hid HC
      clear f3 cB cC HC
      go_enter Try.func23, Try.ntmps23
      go_wp2_with fail
      refine (HDT.out _).mono ?_
      rintro e w' ⟨rfl, n1, rfl⟩
      go_wp2_with fail
      refine (HCB.out _).mono ?_
      rintro e w' ⟨rfl, n2, rfl⟩
      go_wp2_with fail
      refine (reffloor_at (N + 3) 7 q a HQ.out HA.out (by omega) (by omega) (by omega) (by omega) _).mono ?_
      rintro e w' ⟨rfl, n3, rfl⟩
      go_wp2_with fail
      refine (HCB.out _).mono ?_
      rintro e w' ⟨rfl, n4, rfl⟩
      go_wp2_with fail
      refine (HCC.out _).mono ?_
      rintro e w' ⟨rfl, n5, rfl⟩
      go_wp2_with fail
      refine (HF.out _).mono ?_
      rintro e w' ⟨rfl, n6, rfl⟩
      go_wp2_with fail
      refine (refwday_at N b HB.out (by omega) (by omega) _).mono ?_
      rintro e w' ⟨rfl, n7, rfl⟩
      go_wp2_with fail
      refine bodyPost_ret (v := .tuple #[.int .i64 y, .int .i64 ((N - a + 3 - B) / 7 + 1), .int .i64 ((N - B + 7 - b) / 7), .int .i64 ((N - B + 7 - a) / 7), .int .i64 0]) (by simp [results, Try.results23, go_sem]) rfl ⟨rfl, _, rfl⟩
theorem refWeeks_no (n : Int) (h : n < -4371587 ∨ 2932896 < n) (w : World) : Calls Try.prog 23 #[.int .i64 n] w fun e w' => e = .returned (.tuple #[.int .i64 0, .int .i64 0, .int .i64 0, .int .i64 0, .int .i64 110]) ∧ w = w' := by
  have HN := Lib.hid h
  clear h
  go_enter Try.func23, Try.ntmps23
  go_wp2_with fail
  refine (refDate_no n HN.out _).mono ?_
  rintro e w' ⟨rfl, rfl⟩
  go_wp2_with fail
  exact bodyPost_ret (v := .tuple #[.int .i64 0, .int .i64 0, .int .i64 0, .int .i64 0, .int .i64 110]) (by simp [results, Try.results23, go_sem]) rfl ⟨rfl, rfl⟩
end Go.Proofs.Ytimipkbingbifaa
