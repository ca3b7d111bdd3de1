/- The document's calendar: the day of the week, and the weeks of a day. -/
import Derived.Test.YtpjncnoejdaplaaGreatDoorLAC
import Derived.Test.YtpjncnoejdaplaaGreatDoorProg
import Derived.WalkKit
import Derived.WalkLawsBesides
import Derived.Lib.Hide
import Derived.Laws.Externs
import Derived.Laws.FloatArith
import Derived.Test.YtpjncnoejdaplaaGreatDoorLAA
import Derived.Test.YtpjncnoejdaplaaGreatDoorLAB
namespace Go.Proofs.YtpjncnoejdaplaaGreatDoor
open Go Go.RowKit

theorem refwday_any (n : Int) (h1 : -9000000 ≤ n) (h2 : n ≤ 9000000) (w : World) : Calls Tryz.prog 51 #[.int .i64 n] w fun e w' => e = .returned (.int .i64 ((n + 4) % 7)) ∧ ∃ k, w' = w.drewN k := by
  go_enter Tryz.func51, Tryz.ntmps51
  go_wp2_with fail
  refine (reffloor_any (n + 4) 7 (by omega) (by omega) (by omega) (by omega) _).mono ?_
  rintro e w' ⟨rfl, q, rfl⟩
  go_wp2_with fail
  go_ret
  exact ⟨rfl, _, rfl⟩
theorem refwday_at (n r : Int) (hr : (n + 4) % 7 = r) (h1 : -9000000 ≤ n) (h2 : n ≤ 9000000) (w : World) : Calls Tryz.prog 51 #[.int .i64 n] w fun e w' => e = .returned (.int .i64 r) ∧ ∃ k, w' = w.drewN k := by
  subst hr
  exact refwday_any n h1 h2 w
/-- the Thursday of a day's week -/
def thI (n : Int) : Int := n - (n + 3) % 7 + 3
def isoI (n y : Int) : Int := if thI n < beginI y 0 then y - 1 else if beginI (y + 1) 0 ≤ thI n then y + 1 else y
def weekI (n iso : Int) : Int := (thI n - beginI iso 0) / 7 + 1
def sunI (n y : Int) : Int := (n - beginI y 0 + 7 - (n + 4) % 7) / 7
def monI (n y : Int) : Int := (n - beginI y 0 + 7 - (n + 3) % 7) / 7
theorem begin_succ (y : Int) : beginI (y + 1) 0 = beginI y 0 + yearI y := by
  unfold beginI
  rw [dby_succ, cumI_zero, cumI_zero]
  omega
theorem begin_bd (y : Int) (h1 : -10001 ≤ y) (h2 : y ≤ 10001) : -5000000 ≤ beginI y 0 ∧ beginI y 0 ≤ 5000000 := by
  have a := dby_mono (-10001) y h1
  have b := dby_mono y 10001 h2
  have e1 : dby (-10001) = -3652790 := by decide
  have e2 : dby 10001 = 3652791 := by decide
  unfold beginI
  rw [cumI_zero]
  omega
/-- A day stands in its year. -/
theorem num_in (y m d : Int) (h : OkD y m d) : beginI y 0 ≤ numI y m d ∧ numI y m d < beginI y 0 + yearI y := by
  obtain ⟨_, ⟨hm1, hm2⟩, hd1, hd2⟩ := h
  have c := cumI_bd y m hm1 hm2
  unfold numI beginI
  rw [cumI_zero]
  omega
set_option maxRecDepth 100000 in
set_option maxHeartbeats 2000000 in
theorem refWeeks_of (y m d : Int) (h : OkD y m d) (w : World) : Calls Tryz.prog 127 #[.int .i64 (numI y m d)] w fun e w' => e = .returned (.tuple #[.int .i64 (isoI (numI y m d) y), .int .i64 (weekI (numI y m d) (isoI (numI y m d) y)), .int .i64 (sunI (numI y m d) y), .int .i64 (monI (numI y m d) y), .int .i64 0]) ∧ ∃ n, w' = w.drewN n := by
  have hin := num_in y m d h
  have hn := num_range y m d h
  have HC := fun w => refDate_of y m d h w
  obtain ⟨hy, _, _⟩ := h
  obtain ⟨N, hN⟩ : ∃ N, numI y m d = N := ⟨_, rfl⟩
  rw [hN] at hin hn HC ⊢
  clear hN
  obtain ⟨a, ha⟩ : ∃ a, (N + 3) % 7 = a := ⟨_, rfl⟩
  obtain ⟨q, hq⟩ : ∃ q, (N + 3) / 7 = q := ⟨_, rfl⟩
  obtain ⟨b, hb⟩ : ∃ b, (N + 4) % 7 = b := ⟨_, rfl⟩
  obtain ⟨B, hB⟩ : ∃ B, beginI y 0 = B := ⟨_, rfl⟩
  obtain ⟨C, hC⟩ : ∃ C, beginI (y + 1) 0 = C := ⟨_, rfl⟩
  have hCB := begin_succ y
  have hBb := begin_bd y (by omega) (by omega)
  have hy2 := yearI_two y
  rw [hB] at hin hBb
  rw [hB, hC] at hCB
  obtain ⟨hin1, hin2⟩ := hin
  obtain ⟨hn1, hn2⟩ := hn
  obtain ⟨hB1, hB2⟩ := hBb
  obtain ⟨hy1, hy3⟩ := hy
  have ha1 : 0 ≤ a := by omega
  have ha2 : a < 7 := by omega
  have hb1 : 0 ≤ b := by omega
  have hb2 : b < 7 := by omega
  have hC1 : C ≤ B + 366 := by omega
  have hC2 : B + 365 ≤ C := by omega
  have hN2 : N < C := by omega
  have eth : thI N = N - a + 3 := by unfold thI; rw [ha]
  have esun : sunI N y = (N - B + 7 - b) / 7 := by unfold sunI; rw [hB, hb]
  have emon : monI N y = (N - B + 7 - a) / 7 := by unfold monI; rw [hB, ha]
  have HA := Lib.hid ha
  have HQ := Lib.hid hq
  have HB := Lib.hid hb
  have cB : ∀ w, Calls Tryz.prog 52 #[.int .i64 y, .int .i64 0] w fun e w' => e = .returned (.int .i64 B) ∧ ∃ n, w' = w.drewN n := by
    intro w
    have e := refbegin_any y 0 (by omega) (by omega) (by omega) (by omega) w
    rw [hB] at e
    exact e
  have cC : ∀ w, Calls Tryz.prog 52 #[.int .i64 (y + 1), .int .i64 0] w fun e w' => e = .returned (.int .i64 C) ∧ ∃ n, w' = w.drewN n := by
    intro w
    have e := refbegin_any (y + 1) 0 (by omega) (by omega) (by omega) (by omega) w
    rw [hC] at e
    exact e
  have fin : ∀ iso D : Int, isoI N y = iso → beginI iso 0 = D → D ≤ N - a + 3 → N - a + 3 < D + 371 → (-10001 ≤ iso ∧ iso ≤ 10001) →
      isoI N y = iso ∧ weekI N (isoI N y) = (N - a + 3 - D) / 7 + 1 ∧ (∀ w, Calls Tryz.prog 52 #[.int .i64 iso, .int .i64 0] w fun e w' => e = .returned (.int .i64 D) ∧ ∃ n, w' = w.drewN n) := by
    intro iso D h1 h2 h3 h4 h5
    refine ⟨h1, by rw [h1]; unfold weekI; rw [eth, h2], fun w => ?_⟩
    have e := refbegin_any iso 0 (by omega) (by omega) (by omega) (by omega) w
    rw [h2] at e
    exact e
  rw [esun, emon]
  by_cases hlt : N - a + 3 < B
  · obtain ⟨D, hD⟩ : ∃ D, beginI (y - 1) 0 = D := ⟨_, rfl⟩
    have hDB := begin_succ (y - 1)
    rw [show y - 1 + 1 = y from by omega, hB, hD] at hDB
    have hyp := yearI_two (y - 1)
    have hD1 : B ≤ D + 366 := by omega
    have hD2 : D + 365 ≤ B := by omega
    obtain ⟨f1, f2, f3⟩ := fin (y - 1) D (by unfold isoI; rw [eth, hB, if_pos hlt]) hD (by omega) (by omega) ⟨by omega, by omega⟩
    rw [f2, f1]
    have hge : N - a + 3 < C := by omega
    have hx1 : 0 ≤ N - a + 3 - D := by omega
    have hx2 : 0 ≤ N - B + 7 - b := by omega
    have hx3 : 0 ≤ N - B + 7 - a := by omega
    clear f1 f2 fin esun emon eth hD hB hC ha hq hb hCB hDB hyp hy2
    have HF := Lib.hid f3
    have HCB := Lib.hid cB
    have HCC := Lib.hid cC
    have HDT := Lib.hid HC
    clear f3 cB cC HC
    go_enter Tryz.func127, Tryz.ntmps127
    go_wp2_with fail
    refine (HDT.out _).mono ?_
    rintro e w' ⟨rfl, n1, rfl⟩
    go_wp2_with fail
    refine (HCB.out _).mono ?_
    rintro e w' ⟨rfl, n2, rfl⟩
    go_wp2_with fail
    refine (reffloor_at (N + 3) 7 q a HQ.out HA.out (by omega) (by omega) (by omega) (by omega) _).mono ?_
    rintro e w' ⟨rfl, n3, rfl⟩
    go_wp2_with fail
    refine (HCB.out _).mono ?_
    rintro e w' ⟨rfl, n4, rfl⟩
    go_wp2_with fail
    refine (HCC.out _).mono ?_
    rintro e w' ⟨rfl, n5, rfl⟩
    go_wp2_with fail
    refine (HF.out _).mono ?_
    rintro e w' ⟨rfl, n6, rfl⟩
    go_wp2_with fail
    refine (refwday_at N b HB.out (by omega) (by omega) _).mono ?_
    rintro e w' ⟨rfl, n7, rfl⟩
    go_wp2_with fail
    refine bodyPost_ret (v := .tuple #[.int .i64 (y - 1), .int .i64 ((N - a + 3 - D) / 7 + 1), .int .i64 ((N - B + 7 - b) / 7), .int .i64 ((N - B + 7 - a) / 7), .int .i64 0]) (by simp [results, Tryz.results127, go_sem]) rfl ⟨rfl, _, rfl⟩
  · have hge0 : B ≤ N - a + 3 := by omega
    by_cases hge : C ≤ N - a + 3
    · obtain ⟨f1, f2, f3⟩ := fin (y + 1) C (by unfold isoI; rw [eth, hB, hC, if_neg (by omega), if_pos hge]) hC (by omega) (by omega) ⟨by omega, by omega⟩
      rw [f2, f1]
      have hx1 : 0 ≤ N - a + 3 - C := by omega
      have hx2 : 0 ≤ N - B + 7 - b := by omega
      have hx3 : 0 ≤ N - B + 7 - a := by omega
      clear f1 f2 fin esun emon eth hB hC ha hq hb hCB hy2
      have HF := Lib.hid f3
      have HCB := Lib.hid cB
      have HCC := Lib.hid cC
      have HDT := Lib.hid HC
      clear f3 cB cC HC
      go_enter Tryz.func127, Tryz.ntmps127
      go_wp2_with fail
      refine (HDT.out _).mono ?_
      rintro e w' ⟨rfl, n1, rfl⟩
      go_wp2_with fail
      refine (HCB.out _).mono ?_
      rintro e w' ⟨rfl, n2, rfl⟩
      go_wp2_with fail
      refine (reffloor_at (N + 3) 7 q a HQ.out HA.out (by omega) (by omega) (by omega) (by omega) _).mono ?_
      rintro e w' ⟨rfl, n3, rfl⟩
      go_wp2_with fail
      refine (HCB.out _).mono ?_
      rintro e w' ⟨rfl, n4, rfl⟩
      go_wp2_with fail
      refine (HCC.out _).mono ?_
      rintro e w' ⟨rfl, n5, rfl⟩
      go_wp2_with fail
      refine (HF.out _).mono ?_
      rintro e w' ⟨rfl, n6, rfl⟩
      go_wp2_with fail
      refine (refwday_at N b HB.out (by omega) (by omega) _).mono ?_
      rintro e w' ⟨rfl, n7, rfl⟩
      go_wp2_with fail
      refine bodyPost_ret (v := .tuple #[.int .i64 (y + 1), .int .i64 ((N - a + 3 - C) / 7 + 1), .int .i64 ((N - B + 7 - b) / 7), .int .i64 ((N - B + 7 - a) / 7), .int .i64 0]) (by simp [results, Tryz.results127, go_sem]) rfl ⟨rfl, _, rfl⟩
    · obtain ⟨f1, f2, f3⟩ := fin y B (by unfold isoI; rw [eth, hB, hC, if_neg (by omega), if_neg hge]) hB (by omega) (by omega) ⟨by omega, by omega⟩
      rw [f2, f1]
      have hge2 : N - a + 3 < C := by omega
      have hx1 : 0 ≤ N - a + 3 - B := by omega
      have hx2 : 0 ≤ N - B + 7 - b := by omega
      have hx3 : 0 ≤ N - B + 7 - a := by omega
      clear f1 f2 fin esun emon eth hB hC ha hq hb hCB hy2
      have HF := Lib.hid f3
      have HCB := Lib.hid cB
      have HCC := Lib.hid cC
      have HDT := Lib.hid HC
      clear f3 cB cC HC
      go_enter Tryz.func127, Tryz.ntmps127
      go_wp2_with fail
      refine (HDT.out _).mono ?_
      rintro e w' ⟨rfl, n1, rfl⟩
      go_wp2_with fail
      refine (HCB.out _).mono ?_
      rintro e w' ⟨rfl, n2, rfl⟩
      go_wp2_with fail
      refine (reffloor_at (N + 3) 7 q a HQ.out HA.out (by omega) (by omega) (by omega) (by omega) _).mono ?_
      rintro e w' ⟨rfl, n3, rfl⟩
      go_wp2_with fail
      refine (HCB.out _).mono ?_
      rintro e w' ⟨rfl, n4, rfl⟩
      go_wp2_with fail
      refine (HCC.out _).mono ?_
      rintro e w' ⟨rfl, n5, rfl⟩
      go_wp2_with fail
      refine (HF.out _).mono ?_
      rintro e w' ⟨rfl, n6, rfl⟩
      go_wp2_with fail
      refine (refwday_at N b HB.out (by omega) (by omega) _).mono ?_
      rintro e w' ⟨rfl, n7, rfl⟩
      go_wp2_with fail
      refine bodyPost_ret (v := .tuple #[.int .i64 y, .int .i64 ((N - a + 3 - B) / 7 + 1), .int .i64 ((N - B + 7 - b) / 7), .int .i64 ((N - B + 7 - a) / 7), .int .i64 0]) (by simp [results, Tryz.results127, go_sem]) rfl ⟨rfl, _, rfl⟩
theorem refWeeks_no (n : Int) (h : n < -4371587 ∨ 2932896 < n) (w : World) : Calls Tryz.prog 127 #[.int .i64 n] w fun e w' => e = .returned (.tuple #[.int .i64 0, .int .i64 0, .int .i64 0, .int .i64 0, .int .i64 110]) ∧ w = w' := by
  have HN := Lib.hid h
  clear h
  go_enter Tryz.func127, Tryz.ntmps127
  go_wp2_with fail
  refine (refDate_no n HN.out _).mono ?_
  rintro e w' ⟨rfl, rfl⟩
  go_wp2_with fail
  exact bodyPost_ret (v := .tuple #[.int .i64 0, .int .i64 0, .int .i64 0, .int .i64 0, .int .i64 110]) (by simp [results, Tryz.results127, go_sem]) rfl ⟨rfl, rfl⟩
end Go.Proofs.YtpjncnoejdaplaaGreatDoor
namespace Go.Proofs.YtpjncnoejdaplaaGreatDoor
open Go Go.RowKit

theorem floor_ext (b : Nat) (hf : szB b ≤ 9218868437227405312) (w : World) : (callFunc 92 #[.float .f64 b]).run Tryz.prog w = .ok (.value (.float .f64 (floorB b))) w := by
  rw [run_callFunc_extern Tryz.func92 (by kernel_rfl) (by kernel_rfl) (by kernel_rfl) (e := Extern.MathFloor.toIntegral "math.archFloor" .down) (by kernel_rfl)]
  have e2 : Extern.MathFloor.toIntegral "math.archFloor" .down #[.float .f64 b] = pure (.float .f64 (floorB b)) := by
    unfold floorB
    rcases Nat.lt_or_ge (szB b) 9218868437227405312 with h | h
    · obtain ⟨m, k, e1, _⟩ := read_fin b h
      have e : FloatKind.f64.decode b = .number (b / 9223372036854775808 % 2 == 1) m (-1074 + (k : Int)) := e1
      rw [e1]
      delta Extern.MathFloor.toIntegral
      conv => lhs; whnf
      rw [e]
      rfl
    · have e1 := read_inf b (by omega)
      have e : FloatKind.f64.decode b = .infinity (b / 9223372036854775808 % 2 == 1) := e1
      rw [e1]
      delta Extern.MathFloor.toIntegral
      conv => lhs; whnf
      rw [e]
      rfl
  rw [e2]
  rfl
theorem Floor_num (b : Nat) (hf : szB b ≤ 9218868437227405312) (w : World) : Calls Tryz.prog 38 #[.float .f64 b] w fun e w' => e = .returned (.float .f64 (floorB b)) ∧ w = w' := by
  have h := floor_ext b hf
  go_enter Tryz.func38, Tryz.ntmps38
  go_wp2_with fail
  go_ret
  exact ⟨rfl, rfl⟩
theorem floorB_inf (b : Nat) (hf : szB b = 9218868437227405312) : szB (floorB b) = 9218868437227405312 ∧ sgB (floorB b) = sgB b := by
  unfold floorB
  rw [read_inf b hf]
  unfold sgB
  cases (b / 9223372036854775808 % 2 == 1) <;> decide
theorem quiet_nan (s : Bool) (t : Nat) : 9218868437227405312 < szB (Ieee.double.write (.nan s (Ieee.double.quiet t))) := by
  have h : (t ||| 2251799813685248) % 4503599627370496 ≠ 0 := by
    intro h
    have h2 : ((t ||| 2 ^ 51) % 2 ^ 52).testBit 51 = true := by
      rw [Nat.testBit_mod_two_pow, Nat.testBit_or, Nat.testBit_two_pow_self]
      simp
    have h3 : (t ||| 2 ^ 51) % 2 ^ 52 = 0 := h
    rw [h3] at h2
    simp at h2
  have d1 : Ieee.double.signWeight = 9223372036854775808 := rfl
  have d2 : Ieee.double.binade = 4503599627370496 := rfl
  have d3 : Ieee.double.infRung = 9218868437227405312 := rfl
  have d4 : Ieee.double.quiet t = t ||| 2251799813685248 := rfl
  unfold Ieee.Format.write Ieee.Format.word szB
  simp only [d1, d2, d3, d4]
  cases s <;> simp only [Bool.false_eq_true, if_false, if_true] <;> omega
theorem floor_nan_ext (b : Nat) (hf : 9218868437227405312 < szB b) (w : World) : ∃ x w', (callFunc 92 #[.float .f64 b]).run Tryz.prog w = .ok (.value (.float .f64 x)) w' ∧ 9218868437227405312 < szB x ∧ ∃ n, w' = w.drewN n := by
  obtain ⟨s, t, e1⟩ := read_nan b hf
  have e : FloatKind.f64.decode b = .nan s t := e1
  rw [run_callFunc_extern Tryz.func92 (by kernel_rfl) (by kernel_rfl) (by kernel_rfl) (e := Extern.MathFloor.toIntegral "math.archFloor" .down) (by kernel_rfl)]
  by_cases hq : FloatKind.f64.format.quiet t = t
  · refine ⟨b, w, ?_, hf, 0, rfl⟩
    have e2 : Extern.MathFloor.toIntegral "math.archFloor" .down #[.float .f64 b] = pure (.float .f64 b) := by
      delta Extern.MathFloor.toIntegral
      conv => lhs; whnf
      rw [e]
      simp only
      rw [if_pos hq]
    rw [e2]
    rfl
  · have e2 : Extern.MathFloor.toIntegral "math.archFloor" .down #[.float .f64 b] = (do
        let kept ← choose (.extern "math.Floor,Ceil,Trunc,RoundToEven.signallingNaN kept" 2)
        pure (.float .f64 (if kept == 1 then b else FloatKind.f64.encode (.nan s (FloatKind.f64.format.quiet t))))) := by
      delta Extern.MathFloor.toIntegral
      conv => lhs; whnf
      rw [e]
      simp only
      rw [if_neg hq]
    rw [e2]
    have hx : ∀ k : Nat, 9218868437227405312 < szB (if (k == 1) = true then b else FloatKind.f64.encode (.nan s (FloatKind.f64.format.quiet t))) := by
      intro k
      split
      · exact hf
      · exact quiet_nan s t
    simp only [Sem.run_bind, run_choose_drew]
    split
    · exact ⟨_, w, rfl, hx _, 0, rfl⟩
    · exact ⟨_, w.drew, rfl, hx _, 1, rfl⟩
set_option maxRecDepth 100000 in
theorem Floor_nan (b : Nat) (hf : 9218868437227405312 < szB b) (w : World) : Calls Tryz.prog 38 #[.float .f64 b] w fun e w' => (∃ x, e = .returned (.float .f64 x) ∧ 9218868437227405312 < szB x) ∧ ∃ n, w' = w.drewN n := by
  obtain ⟨x, wx, h, hx, n, hn⟩ := floor_nan_ext b hf w
  subst hn
  have HX := Lib.hid hx
  clear hx
  have hc : Calls Tryz.prog 38 #[.float .f64 b] w fun e w' => e = .returned (.float .f64 x) ∧ w' = w.drewN n := by
    go_enter Tryz.func38, Tryz.ntmps38
    go_wp2_with fail
    go_ret
    exact ⟨rfl, rfl⟩
  refine hc.mono ?_
  rintro e w' ⟨h1, h2⟩
  exact ⟨⟨x, h1, HX.out⟩, n, h2⟩
end Go.Proofs.YtpjncnoejdaplaaGreatDoor
namespace Go.Proofs.YtpjncnoejdaplaaGreatDoor
open Go Go.RowKit

/-- Seconds that are broken down: those whose whole part is of a day of the calendar. -/
def InB (b : Nat) : Prop := szB b < 9218868437227405312 ∧ -4371587 ≤ flI b / 86400 ∧ flI b / 86400 ≤ 2932896
theorem conv_floor (b : Nat) (h : szB b < 9218868437227405312) (h1 : -9223372036854775808 ≤ flI b) (h2 : flI b ≤ 9223372036854775807) (w : World) : (convert 22 3 (.float .f64 (floorB b))).run Tryz.prog w = .ok (.int .i64 (flI b)) w := by
  refine run_convert_float_int w _ _ .f64 .i64 _ _ (by kernel_rfl) (by kernel_rfl) ?_
  have h' : (FloatKind.f64.decode (floorB b)).toInt .zero = some (flI b) := toInt_floor b h
  unfold floatToIntVal
  rw [h']
  have e1 : IntKind.i64.min = -9223372036854775808 := by decide
  have e2 : IntKind.i64.max = 9223372036854775807 := by decide
  simp only [e1, e2]
  rw [if_pos ⟨h1, h2⟩]
set_option maxRecDepth 100000 in
set_option maxHeartbeats 1000000 in
theorem refSplit_nan (b : Nat) (hb : 9218868437227405312 < szB b) (w : World) : Calls Tryz.prog 19 #[.float .f64 b] w fun e w' => e = .returned (.tuple #[.agg (timeV 0 0 0 0 0 0 0 0), .int .i64 110]) ∧ Below w.heap.size w w' := by
  have hsf := run_store_float Tryz.prog
  unfold timeV
  go_enter Tryz.func19, Tryz.ntmps19
  go_wp2_with fail
  refine (Floor_nan b hb _).mono ?_
  rintro e w' ⟨⟨x, rfl, hx⟩, n, rfl⟩
  have o1 : FloatKind.f64.format.order x 14054727237768577024 = none := nan_order _ _ (.inl hx)
  have hr0 := heap_alloc_new w (Obj.cells #[.int .i64 0, .int .i64 0, .int .i64 0, .int .i64 0, .int .i64 0, .float .f64 0, .int .i64 0, .int .i64 0] 24)
  have hb0 := (Below.refl w.heap.size w).alloc (Nat.le_refl _) (Obj.cells #[.int .i64 0, .int .i64 0, .int .i64 0, .int .i64 0, .int .i64 0, .float .f64 0, .int .i64 0, .int .i64 0] 24)
  generalize (w.alloc (Obj.cells #[.int .i64 0, .int .i64 0, .int .i64 0, .int .i64 0, .int .i64 0, .float .f64 0, .int .i64 0, .int .i64 0] 24)) = W0 at hr0 hb0 ⊢
  have hr1 := drewN_row hr0 n
  have hb1 := below_drewN hb0 n
  generalize W0.drewN n = W1 at hr1 hb1 ⊢
  have R0 := Lib.hid hr1
  have B0 := Lib.hid hb1
  clear hx hr0 hb0 hr1 hb1
  obtain ⟨u0, u1, u2, u3, u4, u5, u6, u7⟩ := row8 R0.out
  obtain ⟨v0, v1, v2, v3, v4, v5, v6, v7⟩ := ice8 R0.out
  go_wp2_with fail
  refine bodyPost_ret_by (results_row_tmp rfl _ _ w.heap.size 24 _ (0, 0) _ (.int .i64 110) rfl rfl (set8_row R0.out ..) Tryz.underlying24 rfl sizeTime) rfl ?_
  exact ⟨rfl, set8_below B0.out (Nat.le_refl _) ..⟩
set_option maxRecDepth 100000 in
set_option maxHeartbeats 1000000 in
theorem refSplit_by (b : Nat) (hb : szB b ≤ 9218868437227405312) (x1 x2 : Ordering) (h1 : Ieee.double.order (floorB b) 14054727237768577024 = some x1) (h2 : Ieee.double.order (floorB b) 4831355200913801216 = some x2) (hx : x1 = .lt ∨ x2 = .gt) (w : World) : Calls Tryz.prog 19 #[.float .f64 b] w fun e w' => e = .returned (.tuple #[.agg (timeV 0 0 0 0 0 0 0 0), .int .i64 110]) ∧ Below w.heap.size w w' := by
  have hsf := run_store_float Tryz.prog
  have o1 : FloatKind.f64.format.order (floorB b) 14054727237768577024 = some x1 := h1
  have o2 : FloatKind.f64.format.order (floorB b) 4831355200913801216 = some x2 := h2
  clear h1 h2
  unfold timeV
  cases x1 <;> cases x2 <;> (try (exfalso; rcases hx with h | h <;> cases h; done)) <;> clear hx
  all_goals
    go_enter Tryz.func19, Tryz.ntmps19
    go_wp2_with fail
    refine (Floor_num b hb _).mono ?_
    rintro e w' ⟨rfl, rfl⟩
    have hr0 := heap_alloc_new w (Obj.cells #[.int .i64 0, .int .i64 0, .int .i64 0, .int .i64 0, .int .i64 0, .float .f64 0, .int .i64 0, .int .i64 0] 24)
    have hb0 := (Below.refl w.heap.size w).alloc (Nat.le_refl _) (Obj.cells #[.int .i64 0, .int .i64 0, .int .i64 0, .int .i64 0, .int .i64 0, .float .f64 0, .int .i64 0, .int .i64 0] 24)
    have hz0 : (w.alloc (Obj.cells #[.int .i64 0, .int .i64 0, .int .i64 0, .int .i64 0, .int .i64 0, .float .f64 0, .int .i64 0, .int .i64 0] 24)).heap.size = w.heap.size + 1 := by simp
    generalize w.alloc (Obj.cells #[.int .i64 0, .int .i64 0, .int .i64 0, .int .i64 0, .int .i64 0, .float .f64 0, .int .i64 0, .int .i64 0] 24) = W0 at hr0 hb0 hz0 ⊢
    have R0 := Lib.hid hr0
    have B0 := Lib.hid hb0
    have Y0 := Lib.hid hz0
    clear hr0 hb0 hz0 hb
    obtain ⟨u0, u1, u2, u3, u4, u5, u6, u7⟩ := row8 R0.out
    obtain ⟨v0, v1, v2, v3, v4, v5, v6, v7⟩ := ice8 R0.out
    go_wp2_with fail
    refine bodyPost_ret_by (results_row_tmp rfl _ _ w.heap.size 24 _ (0, 0) _ (.int .i64 110) rfl rfl (set8_row R0.out ..) Tryz.underlying24 rfl sizeTime) rfl ?_
    exact ⟨rfl, set8_below B0.out (Nat.le_refl _) ..⟩
theorem floor_low (b : Nat) (h : szB b < 9218868437227405312) : Ieee.double.order (floorB b) 14054727237768577024 = some (compare (flI b) (-1000000000000000)) := by
  rw [← c_low]
  exact floor_cmp b _ h (by omega) (by omega)
theorem floor_high (b : Nat) (h : szB b < 9218868437227405312) : Ieee.double.order (floorB b) 4831355200913801216 = some (compare (flI b) 1000000000000000) := by
  rw [← c_high]
  exact floor_cmp b _ h (by omega) (by omega)
theorem refSplit_far (b : Nat) (hb : szB b ≤ 9218868437227405312) (h : szB b = 9218868437227405312 ∨ flI b < -1000000000000000 ∨ 1000000000000000 < flI b) (w : World) : Calls Tryz.prog 19 #[.float .f64 b] w fun e w' => e = .returned (.tuple #[.agg (timeV 0 0 0 0 0 0 0 0), .int .i64 110]) ∧ Below w.heap.size w w' := by
  rcases Nat.lt_or_ge (szB b) 9218868437227405312 with hf | hf
  · refine refSplit_by b hb _ _ (floor_low b hf) (floor_high b hf) ?_ w
    rcases h with h | h | h
    · omega
    · exact .inl (Int.compare_eq_lt.2 h)
    · exact .inr (Int.compare_eq_gt.2 h)
  · have ht := floorB_top b (by omega)
    have e1 := top_cmp (floorB b) (-1000000000000000) ht.1 (by omega) (by omega)
    have e2 := top_cmp (floorB b) 1000000000000000 ht.1 (by omega) (by omega)
    rw [c_low] at e1
    rw [c_high] at e2
    refine refSplit_by b hb _ _ e1 e2 ?_ w
    cases sgB (floorB b)
    · exact .inr rfl
    · exact .inl rfl
set_option maxRecDepth 100000 in
set_option maxHeartbeats 1000000 in
theorem refSplit_out (b : Nat) (hf : szB b < 9218868437227405312) (h1 : -1000000000000000 ≤ flI b) (h2 : flI b ≤ 1000000000000000) (hd : flI b / 86400 < -4371587 ∨ 2932896 < flI b / 86400) (w : World) : Calls Tryz.prog 19 #[.float .f64 b] w fun e w' => e = .returned (.tuple #[.agg (timeV 0 0 0 0 0 0 0 0), .int .i64 110]) ∧ Below w.heap.size w w' := by
  have hsf := run_store_float Tryz.prog
  have hb : szB b ≤ 9218868437227405312 := by omega
  have hl := floor_low b hf
  have hh := floor_high b hf
  have hcv := fun w => conv_floor b hf (by omega) (by omega) w
  obtain ⟨n, hn⟩ : ∃ n, flI b / 86400 = n := ⟨_, rfl⟩
  obtain ⟨r, hr⟩ : ∃ r, flI b % 86400 = r := ⟨_, rfl⟩
  rw [hn] at hd
  have HN := Lib.hid hn
  have HR := Lib.hid hr
  have HD := Lib.hid hd
  obtain ⟨x1, hx1⟩ : ∃ x, compare (flI b) (-1000000000000000) = x := ⟨_, rfl⟩
  obtain ⟨x2, hx2⟩ : ∃ x, compare (flI b) 1000000000000000 = x := ⟨_, rfl⟩
  have g1 : x1 ≠ .lt := by
    intro e
    rw [e] at hx1
    have := Int.compare_eq_lt.1 hx1
    omega
  have g2 : x2 ≠ .gt := by
    intro e
    rw [e] at hx2
    have := Int.compare_eq_gt.1 hx2
    omega
  rw [hx1] at hl
  rw [hx2] at hh
  have o1 : FloatKind.f64.format.order (floorB b) 14054727237768577024 = some x1 := hl
  have o2 : FloatKind.f64.format.order (floorB b) 4831355200913801216 = some x2 := hh
  clear hn hr hd hx1 hx2 hl hh hf
  unfold timeV
  cases x1 <;> cases x2 <;> (try (exact absurd rfl g1)) <;> (try (exact absurd rfl g2)) <;> clear g1 g2
  all_goals
    go_enter Tryz.func19, Tryz.ntmps19
    go_wp2_with fail
    refine (Floor_num b hb _).mono ?_
    rintro e w' ⟨rfl, rfl⟩
    have hr0 := heap_alloc_new w (Obj.cells #[.int .i64 0, .int .i64 0, .int .i64 0, .int .i64 0, .int .i64 0, .float .f64 0, .int .i64 0, .int .i64 0] 24)
    have hb0 := (Below.refl w.heap.size w).alloc (Nat.le_refl _) (Obj.cells #[.int .i64 0, .int .i64 0, .int .i64 0, .int .i64 0, .int .i64 0, .float .f64 0, .int .i64 0, .int .i64 0] 24)
    have hz0 : (w.alloc (Obj.cells #[.int .i64 0, .int .i64 0, .int .i64 0, .int .i64 0, .int .i64 0, .float .f64 0, .int .i64 0, .int .i64 0] 24)).heap.size = w.heap.size + 1 := by simp
    generalize w.alloc (Obj.cells #[.int .i64 0, .int .i64 0, .int .i64 0, .int .i64 0, .int .i64 0, .float .f64 0, .int .i64 0, .int .i64 0] 24) = W0 at hr0 hb0 hz0 ⊢
    have R0 := Lib.hid hr0
    have B0 := Lib.hid hb0
    have Y0 := Lib.hid hz0
    clear hr0 hb0 hz0 hb
    go_wp2_with fail
    refine (reffloor_at (flI b) 86400 n r HN.out HR.out (by omega) (by omega) (by omega) (by omega) _).mono ?_
    rintro e w' ⟨rfl, q, rfl⟩
    go_wp2_with fail
    refine (refDate_no n HD.out _).mono ?_
    rintro e w' ⟨rfl, rfl⟩
    have hr1 := drewN_row R0.out q
    have hb1 := below_drewN B0.out q
    generalize W0.drewN q = W1 at hr1 hb1 ⊢
    have R1 := Lib.hid hr1
    have B1 := Lib.hid hb1
    clear hr1 hb1
    obtain ⟨u0, u1, u2, u3, u4, u5, u6, u7⟩ := row8 R1.out
    obtain ⟨v0, v1, v2, v3, v4, v5, v6, v7⟩ := ice8 R1.out
    go_wp2_with fail
    refine bodyPost_ret_by (results_row_tmp rfl _ _ w.heap.size 24 _ (0, 0) _ (.int .i64 110) rfl rfl (set8_row R1.out ..) Tryz.underlying24 rfl sizeTime) rfl ?_
    exact ⟨rfl, set8_below B1.out (Nat.le_refl _) ..⟩
end Go.Proofs.YtpjncnoejdaplaaGreatDoor
