/- The date that a text told: the program's. -/
import Derived.Test.YtpjncnoejdaplaaGreatDoorLAR
import Derived.Test.YtpjncnoejdaplaaGreatDoorLAE
import Derived.LaidEql
import Derived.Stop.Asserts
import Derived.RowKitTokens
namespace Go.Proofs.YtpjncnoejdaplaaGreatDoor
open Go Go.RowKit Go.Shelf

set_option maxRecDepth 100000 in
set_option maxHeartbeats 4000000 in
theorem date_any (rb : Nat) (eb : Addr) (st : St) (hI : Inv st) : DateC rb eb st := by
  intro w hE h
  have hsf := run_store_float Tryz.prog
  have HY := Lib.hid (fun w => year_any rb st hI w)
  have HI := Lib.hid hI
  obtain ⟨M, hM⟩ : ∃ M, (if st.t 4 = 0 then 1 else st.n 4) = M := ⟨_, rfl⟩
  obtain ⟨D, hD⟩ : ∃ D, (if st.t 5 = 0 then 1 else st.n 5) = D := ⟨_, rfl⟩
  have H4 := Lib.hid (or_any (st.n 4) (st.t 4) 1)
  have H5 := Lib.hid (or_any (st.n 5) (st.t 5) 1)
  rw [hM] at H4
  rw [hD] at H5
  obtain ⟨Y, hY⟩ : ∃ Y, yearS st = Y := ⟨_, rfl⟩
  rw [hY] at HY
  have HMT : Hid ((if st.t 4 = 0 then (1 : Int) else st.n 4) = M ∧ (if st.t 5 = 0 then (1 : Int) else st.n 5) = D) := Lib.hid ⟨hM, hD⟩
  have HYMD : Hid (yearS st = Y ∧ monS st = M - 1 ∧ domS st = D) := Lib.hid ⟨hY, by unfold monS; rw [hM], hD⟩
  have hMb : 1 ≤ M ∧ M ≤ 12 := by
    have := hI.at 4 (by omega) 1 12 (by decide) (by decide)
    rw [← hM]
    split <;> omega
  obtain ⟨m1, m2⟩ := hMb
  have hYb := yearS_bd hI
  rw [hY] at hYb
  obtain ⟨y1, y2⟩ := hYb
  have hw1 : IntKind.i64.wrap (M - 1) = M - 1 := IntWalk.i64_in _ (by omega)
  have HE := Lib.hid hE
  have HR := Lib.hid h
  clear hM hD hY hI hE h
  go_enter Tryz.func145, Tryz.ntmps145
  go_wp2_with fail
  have hr0 := heap_alloc_new w (Obj.cells zeroT 24)
  have hb0 := (Below.refl w.heap.size w).alloc (Nat.le_refl _) (Obj.cells zeroT 24)
  have hz0 : w.heap.size < (w.alloc (Obj.cells zeroT 24)).heap.size := by simp
  unfold zeroT at hr0 hb0 hz0
  generalize w.alloc (Obj.cells #[.int .i64 0, .int .i64 0, .int .i64 0, .int .i64 0, .int .i64 0, .float .f64 0, .int .i64 0, .int .i64 0] 24) = X0 at hr0 hb0 hz0 ⊢
  have HD := Lib.hid (show DtI w rb st X0 from ⟨hr0, HR.out.below hb0, hb0, HR.out.lt⟩)
  clear hr0 hb0 hz0
  go_cut [4] from 10 to 23 (fun v wx => ∃ q, v = .pointer (some ⟨q, 0, none⟩) ∧ Hid (DateAt w wx rb q st Y (M - 1) D))
  case first =>
    go_region_held3 (fun W => W.cell? ⟨rb, 9, none⟩ = some (.int .i64 (st.n 4)) ∧ W.cell? ⟨rb, 10, none⟩ = some (.int .i64 (st.t 4)) ∧ W.cell? ⟨rb, 11, none⟩ = some (.int .i64 (st.n 5)) ∧ W.cell? ⟨rb, 12, none⟩ = some (.int .i64 (st.t 5))) (first | with_reducible exact HD.out.cells | with_reducible exact (HD.out.one _).cells | with_reducible exact HD.out.drew.cells | with_reducible exact (HD.out.one _).drew.cells | with_reducible exact HQ.out.cells8 HD.out ..)
      (first
      | (go_at_call 168; (first | with_reducible refine (HY.out _ HD.out.drew.rd).mono ?_ | with_reducible refine (HY.out _ (HD.out.one _).drew.rd).mono ?_); rintro e w1 ⟨rfl, hb⟩; (try (have hq := HQ.out.below hb; clear HQ; have HQ := Lib.hid hq; clear hq)); (try (have hq := QAt.new HD.out hb; have HQ := Lib.hid hq; clear hq)); (try (have hq := QAt.newD HD.out hb; have HQ := Lib.hid hq; clear hq)); have hd : DtI w rb st w1 := (by first | with_reducible exact HD.out.below hb | with_reducible exact (HD.out.one _).below hb | with_reducible exact HD.out.drew.below hb | with_reducible exact (HD.out.one _).drew.below hb); clear HD; have HD := Lib.hid hd; clear hd hb)
      | (go_at_call 169; (with_reducible refine (H4.out _).mono ?_); rintro e w2 ⟨rfl, hb⟩; (try (have hq := HQ.out.below hb; clear HQ; have HQ := Lib.hid hq; clear hq)); (try (have hq := QAt.new HD.out hb; have HQ := Lib.hid hq; clear hq)); (try (have hq := QAt.newD HD.out hb; have HQ := Lib.hid hq; clear hq)); have hd : DtI w rb st w2 := (by first | with_reducible exact HD.out.below hb | with_reducible exact (HD.out.one _).below hb | with_reducible exact HD.out.drew.below hb | with_reducible exact (HD.out.one _).drew.below hb); clear HD; have HD := Lib.hid hd; clear hd hb)
      | (go_at_call 169; (with_reducible refine (H5.out _).mono ?_); rintro e w3 ⟨rfl, hb⟩; (try (have hq := HQ.out.below hb; clear HQ; have HQ := Lib.hid hq; clear hq)); (try (have hq := QAt.new HD.out hb; have HQ := Lib.hid hq; clear hq)); (try (have hq := QAt.newD HD.out hb; have HQ := Lib.hid hq; clear hq)); have hd : DtI w rb st w3 := (by first | with_reducible exact HD.out.below hb | with_reducible exact (HD.out.one _).below hb | with_reducible exact HD.out.drew.below hb | with_reducible exact (HD.out.one _).drew.below hb); clear HD; have HD := Lib.hid hd; clear hd hb; (try (have hq1 := HQ.out.1; obtain ⟨u0, u1, u2, u3, u4, u5, u6, u7⟩ := row8 hq1; obtain ⟨v0, v1, v2, v3, v4, v5, v6, v7⟩ := ice8 hq1; clear hq1))))
    all_goals
      go_wp2_with fail
      go_meet
      exact ⟨_, rfl, Lib.hid (by first | exact HQ.out.dateAt HD.out Y (M - 1) D | exact HD.out.dateAt Y (M - 1) D)⟩
  case rest =>
    clear HD HR HY H4 H5
    obtain ⟨q, rfl, HA⟩ := hcut
    obtain ⟨p0, p1, p2, p3, p4, p5, p6, p7⟩ := row8 HA.out.own
    by_cases hok : OkD Y (M - 1) D
    · have HOK := Lib.hid hok
      have HDy := Lib.hid (fun w => Day_yes Y (M - 1) D hok w)
      have HN := Lib.hid (num_range Y (M - 1) D hok)
      obtain ⟨N, hN⟩ : ∃ N, numI Y (M - 1) D = N := ⟨_, rfl⟩
      rw [hN] at HDy HN
      have HNE := Lib.hid hN
      have b6 := HI.out.at 6 (by omega) 1 366 (by decide) (by decide)
      have b4 := HI.out.at 4 (by omega) 1 12 (by decide) (by decide)
      have b5 := HI.out.at 5 (by omega) 1 31 (by decide) (by decide)
      have hM4 := HMT.out
      have B := Lib.hid (And.intro b4 (And.intro b5 b6))
      clear hok hN b4 b5 b6 hM4
      go_wp2_with fail
      refine (HDy.out _).mono ?_
      rintro e w2 ⟨rfl, hb⟩
      have HA2 := Lib.hid (HA.out.below hb)
      clear hb HA p0 p1 p2 p3 p4 p5 p6 p7
      obtain ⟨u0, u1, u2, u3, u4, u5, u6, u7⟩ := row8 HA2.out.res
      obtain ⟨v0, v1, v2, v3, v4, v5, v6, v7⟩ := ice8 HA2.out.res
      obtain ⟨p0, p1, p2, p3, p4, p5, p6, p7⟩ := row8 HA2.out.own
      have c10 := rd_cell HA2.out.rd 10 (.int .i64 (st.t 4)) rfl
      have c12 := rd_cell HA2.out.rd 12 (.int .i64 (st.t 5)) rfl
      have c13 := rd_cell HA2.out.rd 13 (.int .i64 (st.n 6)) rfl
      have c14 := rd_cell HA2.out.rd 14 (.int .i64 (st.t 6)) rfl
      by_cases h4 : st.t 4 > 0
      · have HC : Hid (0 < st.t 4 ∨ 0 < st.t 5 ∨ st.t 6 = 0) := Lib.hid (.inl h4)
        have HF : Hid (dayS st = some N) := Lib.hid (by unfold dayS; rw [HYMD.out.1, HYMD.out.2.1, HYMD.out.2.2, if_pos HOK.out, if_pos HC.out, HNE.out])
        go_wp2_with fail
        refine bodyPost_ret_by (results_row_tmp rfl _ _ w.heap.size 24 _ (0, 0) _ .nilIface rfl rfl (set8_row HA2.out.res ..) Tryz.underlying24 rfl sizeTime) rfl ?_
        rw [HF.out]
        exact ⟨⟨Y, M - 1, D, HOK.out, HNE.out, rfl⟩, set8_below HA2.out.is (Nat.le_refl _) ..⟩
      · have g4 : decide (st.t 4 > 0) = false := by simpa using h4
        by_cases h5 : st.t 5 > 0
        · have HC : Hid (0 < st.t 4 ∨ 0 < st.t 5 ∨ st.t 6 = 0) := Lib.hid (.inr (.inl h5))
          have HF : Hid (dayS st = some N) := Lib.hid (by unfold dayS; rw [HYMD.out.1, HYMD.out.2.1, HYMD.out.2.2, if_pos HOK.out, if_pos HC.out, HNE.out])
          go_wp2_with fail
          refine bodyPost_ret_by (results_row_tmp rfl _ _ w.heap.size 24 _ (0, 0) _ .nilIface rfl rfl (set8_row HA2.out.res ..) Tryz.underlying24 rfl sizeTime) rfl ?_
          rw [HF.out]
          exact ⟨⟨Y, M - 1, D, HOK.out, HNE.out, rfl⟩, set8_below HA2.out.is (Nat.le_refl _) ..⟩
        · have g5 : decide (st.t 5 > 0) = false := by simpa using h5
          by_cases h6 : st.t 6 = 0
          · have HC : Hid (0 < st.t 4 ∨ 0 < st.t 5 ∨ st.t 6 = 0) := Lib.hid (.inr (.inr h6))
            have g6 : (st.t 6 == 0) = true := by rw [h6]; rfl
            have HF : Hid (dayS st = some N) := Lib.hid (by unfold dayS; rw [HYMD.out.1, HYMD.out.2.1, HYMD.out.2.2, if_pos HOK.out, if_pos HC.out, HNE.out])
            go_wp2_with fail
            refine bodyPost_ret_by (results_row_tmp rfl _ _ w.heap.size 24 _ (0, 0) _ .nilIface rfl rfl (set8_row HA2.out.res ..) Tryz.underlying24 rfl sizeTime) rfl ?_
            rw [HF.out]
            exact ⟨⟨Y, M - 1, D, HOK.out, HNE.out, rfl⟩, set8_below HA2.out.is (Nat.le_refl _) ..⟩
          · have HC : Hid (¬ (0 < st.t 4 ∨ 0 < st.t 5 ∨ st.t 6 = 0)) := Lib.hid (fun h => h.elim h4 (fun h => h.elim h5 h6))
            have g6 : (st.t 6 == 0) = false := by rw [beq_eq_false_iff_ne]; exact h6
            have hn6 : 1 ≤ st.n 6 ∧ st.n 6 ≤ 366 := by
              have := B.out.2.2
              omega
            have hMD : M = 1 ∧ D = 1 := by
              have b4 := B.out.1
              have b5 := B.out.2.1
              have e4 := HMT.out.1
              have e5 := HMT.out.2
              rw [if_pos (by omega)] at e4 e5
              exact ⟨e4.symm, e5.symm⟩
            obtain ⟨rfl, rfl⟩ := hMD
            obtain ⟨n1, n2⟩ := hn6
            have hOK : OkD Y 0 1 := HOK.out
            have hN0 : numI Y 0 1 = N := HNE.out
            have w1 : IntKind.i64.wrap (N + st.n 6) = N + st.n 6 := IntWalk.i64_in _ (by have := HN.out; omega)
            have w2 : IntKind.i64.wrap (N + st.n 6 - 1) = N + st.n 6 - 1 := IntWalk.i64_in _ (by have := HN.out; omega)
            by_cases hle : st.n 6 ≤ yearI Y
            · obtain ⟨m', d', hD', hN'⟩ := yday_in Y (st.n 6) ⟨y1, y2⟩ n1 hle hOK
              have HF : Hid (dayS st = some (N + st.n 6 - 1)) := Lib.hid (by unfold dayS; rw [HYMD.out.1, HYMD.out.2.1, HYMD.out.2.2, if_pos HOK.out, if_neg HC.out, if_pos hle, HNE.out])
              have HDt := Lib.hid (fun w => Date_of Y m' d' hD' w)
              rw [hN', hN0] at HDt
              have HD' := Lib.hid (show OkD Y m' d' ∧ numI Y m' d' = N + st.n 6 - 1 from ⟨hD', by rw [hN', hN0]⟩)
              clear hD' hN' hle hN0 hOK
              go_wp2_with fail
              refine (HDt.out _).mono ?_
              rintro e w3 ⟨rfl, hb⟩
              clear u0 u1 u2 u3 u4 u5 u6 u7 v0 v1 v2 v3 v4 v5 v6 v7 p0 p1 p2 p3 p4 p5 p6 p7 c10 c12 c13 c14
              have HA3 := Lib.hid (HA2.out.below hb)
              clear hb HA2
              obtain ⟨u0, u1, u2, u3, u4, u5, u6, u7⟩ := row8 HA3.out.res
              obtain ⟨v0, v1, v2, v3, v4, v5, v6, v7⟩ := ice8 HA3.out.res
              obtain ⟨p0, p1, p2, p3, p4, p5, p6, p7⟩ := row8 HA3.out.own
              have d5 := errW_in HE.out HA3.out.is
              have d6 := errW_ne HE.out
              have d7 := errW_ne2 HE.out
              have d8 := errW_ne3 HE.out
              have hyy : (Y != Y) = false := by simp
              go_wp2_with fail
              refine bodyPost_ret_by (results_row_tmp rfl _ _ w.heap.size 24 _ (0, 0) _ .nilIface rfl rfl (set8_row HA3.out.res ..) Tryz.underlying24 rfl sizeTime) rfl ?_
              rw [HF.out]
              exact ⟨⟨Y, m', d', HD'.out.1, HD'.out.2, rfl⟩, set8_below HA3.out.is (Nat.le_refl _) ..⟩
            · have HF : Hid (dayS st = none) := Lib.hid (by unfold dayS; rw [HYMD.out.1, HYMD.out.2.1, HYMD.out.2.2, if_pos HOK.out, if_neg HC.out, if_neg hle])
              rcases yday_out Y (st.n 6) (by omega) n2 hOK with hout | ⟨y', m', d', hne, hD', hN'⟩
              · have HDt := Lib.hid (fun w => Date_no (N + st.n 6 - 1) (.inr (by rw [hN0] at hout; exact hout)) w)
                clear hout hle hN0 hOK
                go_wp2_with fail
                refine (HDt.out _).mono ?_
                rintro e w3 ⟨rfl, hb⟩
                clear u0 u1 u2 u3 u4 u5 u6 u7 v0 v1 v2 v3 v4 v5 v6 v7 p0 p1 p2 p3 p4 p5 p6 p7 c10 c12 c13 c14
                have HA3 := Lib.hid (HA2.out.below hb)
                clear hb HA2
                obtain ⟨u0, u1, u2, u3, u4, u5, u6, u7⟩ := row8 HA3.out.res
                obtain ⟨v0, v1, v2, v3, v4, v5, v6, v7⟩ := ice8 HA3.out.res
                obtain ⟨p0, p1, p2, p3, p4, p5, p6, p7⟩ := row8 HA3.out.own
                have d5 := errW_in HE.out HA3.out.is
                have d6 := errW_ne HE.out
                have d7 := errW_ne2 HE.out
                have d8 := errW_ne3 HE.out
                go_wp2_with fail
                obtain ⟨X, hX⟩ : ∃ X, X = set8 w3 w.heap.size (.int .i64 0) (.int .i64 0) (.int .i64 0) (.int .i64 0) (.int .i64 0) (.float .f64 0) (.int .i64 0) (.int .i64 0) := ⟨_, rfl⟩
                have HX := Lib.hid (set8_row HA3.out.res (.int .i64 0) (.int .i64 0) (.int .i64 0) (.int .i64 0) (.int .i64 0) (.float .f64 0) (.int .i64 0) (.int .i64 0))
                have BX := Lib.hid (set8_below HA3.out.is (Nat.le_refl _) (.int .i64 0) (.int .i64 0) (.int .i64 0) (.int .i64 0) (.int .i64 0) (.float .f64 0) (.int .i64 0) (.int .i64 0))
                rw [← hX] at HX BX
                unfold set8 at hX
                have HXE := Lib.hid hX
                clear hX
                go_region
                all_goals
                  go_wp2_with fail
                  rw [← HXE.out]
                  clear HXE u0 u1 u2 u3 u4 u5 u6 u7 v0 v1 v2 v3 v4 v5 v6 v7
                  refine bodyPost_ret_by (results_row_tmp rfl _ _ w.heap.size 24 _ (0, 0) _ (errV eb) rfl rfl (HX.out) Tryz.underlying24 rfl sizeTime) rfl ?_
                  rw [HF.out]
                  exact ⟨rfl, BX.out.drew⟩
              · have HDt := Lib.hid (fun w => Date_of y' m' d' hD' w)
                rw [hN', hN0] at HDt
                have hyy : (y' != Y) = true := by simpa using hne
                clear hD' hN' hle hN0 hOK hne
                go_wp2_with fail
                refine (HDt.out _).mono ?_
                rintro e w3 ⟨rfl, hb⟩
                clear u0 u1 u2 u3 u4 u5 u6 u7 v0 v1 v2 v3 v4 v5 v6 v7 p0 p1 p2 p3 p4 p5 p6 p7 c10 c12 c13 c14
                have HA3 := Lib.hid (HA2.out.below hb)
                clear hb HA2
                obtain ⟨u0, u1, u2, u3, u4, u5, u6, u7⟩ := row8 HA3.out.res
                obtain ⟨v0, v1, v2, v3, v4, v5, v6, v7⟩ := ice8 HA3.out.res
                obtain ⟨p0, p1, p2, p3, p4, p5, p6, p7⟩ := row8 HA3.out.own
                have d5 := errW_in HE.out HA3.out.is
                have d6 := errW_ne HE.out
                have d7 := errW_ne2 HE.out
                have d8 := errW_ne3 HE.out
                go_wp2_with fail
                obtain ⟨X, hX⟩ : ∃ X, X = set8 w3 w.heap.size (.int .i64 0) (.int .i64 0) (.int .i64 0) (.int .i64 0) (.int .i64 0) (.float .f64 0) (.int .i64 0) (.int .i64 0) := ⟨_, rfl⟩
                have HX := Lib.hid (set8_row HA3.out.res (.int .i64 0) (.int .i64 0) (.int .i64 0) (.int .i64 0) (.int .i64 0) (.float .f64 0) (.int .i64 0) (.int .i64 0))
                have BX := Lib.hid (set8_below HA3.out.is (Nat.le_refl _) (.int .i64 0) (.int .i64 0) (.int .i64 0) (.int .i64 0) (.int .i64 0) (.float .f64 0) (.int .i64 0) (.int .i64 0))
                rw [← hX] at HX BX
                unfold set8 at hX
                have HXE := Lib.hid hX
                clear hX
                go_region
                all_goals
                  go_wp2_with fail
                  rw [← HXE.out]
                  clear HXE u0 u1 u2 u3 u4 u5 u6 u7 v0 v1 v2 v3 v4 v5 v6 v7
                  refine bodyPost_ret_by (results_row_tmp rfl _ _ w.heap.size 24 _ (0, 0) _ (errV eb) rfl rfl (HX.out) Tryz.underlying24 rfl sizeTime) rfl ?_
                  rw [HF.out]
                  exact ⟨rfl, BX.out.drew⟩
    · have HF : Hid (dayS st = none) := Lib.hid (by unfold dayS; rw [HYMD.out.1, HYMD.out.2.1, HYMD.out.2.2, if_neg hok])
      have HDy := Lib.hid (fun w => Day_no Y (M - 1) D (by omega) (by omega) hok w)
      clear hok
      go_wp2_with fail
      refine (HDy.out _).mono ?_
      rintro e w2 ⟨rfl, hb⟩
      have HA2 := Lib.hid (HA.out.below hb)
      clear hb HA p0 p1 p2 p3 p4 p5 p6 p7
      obtain ⟨u0, u1, u2, u3, u4, u5, u6, u7⟩ := row8 HA2.out.res
      obtain ⟨v0, v1, v2, v3, v4, v5, v6, v7⟩ := ice8 HA2.out.res
      have d5 := errW_in HE.out HA2.out.is
      have d6 := errW_ne HE.out
      have d7 := errW_ne2 HE.out
      have d8 := errW_ne3 HE.out
      go_wp2_with fail
      obtain ⟨X, hX⟩ : ∃ X, X = set8 w2 w.heap.size (.int .i64 0) (.int .i64 0) (.int .i64 0) (.int .i64 0) (.int .i64 0) (.float .f64 0) (.int .i64 0) (.int .i64 0) := ⟨_, rfl⟩
      have HX := Lib.hid (set8_row HA2.out.res (.int .i64 0) (.int .i64 0) (.int .i64 0) (.int .i64 0) (.int .i64 0) (.float .f64 0) (.int .i64 0) (.int .i64 0))
      have BX := Lib.hid (set8_below HA2.out.is (Nat.le_refl _) (.int .i64 0) (.int .i64 0) (.int .i64 0) (.int .i64 0) (.int .i64 0) (.float .f64 0) (.int .i64 0) (.int .i64 0))
      rw [← hX] at HX BX
      unfold set8 at hX
      have HXE := Lib.hid hX
      clear hX
      go_region
      all_goals
        go_wp2_with fail
        rw [← HXE.out]
        clear HXE u0 u1 u2 u3 u4 u5 u6 u7 v0 v1 v2 v3 v4 v5 v6 v7
        refine bodyPost_ret_by (results_row_tmp rfl _ _ w.heap.size 24 _ (0, 0) _ (errV eb) rfl rfl (HX.out) Tryz.underlying24 rfl sizeTime) rfl ?_
        rw [HF.out]
        exact ⟨rfl, BX.out.drew⟩
end Go.Proofs.YtpjncnoejdaplaaGreatDoor
namespace Go.Proofs.YtpjncnoejdaplaaGreatDoor
open Go Go.RowKit Go.Shelf

/-- A time of its own, the result's cells. -/
def TmAt (w X : World) (q : Nat) (v : Array Value) : Prop := X.heap[w.heap.size]? = some (.cells zeroT 24 (0, 0)) ∧ X.heap[q]? = some (.cells v 24 (0, 0)) ∧ Below w.heap.size w X ∧ w.heap.size < q
theorem TmAt.res {w X : World} {q : Nat} {v : Array Value} (h : TmAt w X q v) : X.heap[w.heap.size]? = some (.cells #[.int .i64 0, .int .i64 0, .int .i64 0, .int .i64 0, .int .i64 0, .float .f64 0, .int .i64 0, .int .i64 0] 24 (0, 0)) := h.1
theorem TmAt.below {w X X' : World} {q : Nat} {v : Array Value} (h : TmAt w X q v) (hb : Below X.heap.size X X') : TmAt w X' q v :=
  ⟨(hb.block _ (Array.getElem?_eq_some_iff.1 h.1).1).trans h.1, (hb.block _ (Array.getElem?_eq_some_iff.1 h.2.1).1).trans h.2.1, h.2.2.1.trans (hb.mono h.2.2.1.size), h.2.2.2⟩
theorem TmAt.set8 {w X : World} {q : Nat} {u0 u1 u2 u3 u4 u5 u6 u7 : Value} (h : TmAt w X q #[u0, u1, u2, u3, u4, u5, u6, u7]) (x0 x1 x2 x3 x4 x5 x6 x7 : Value) : TmAt w (Go.Proofs.YtpjncnoejdaplaaGreatDoor.set8 X q x0 x1 x2 x3 x4 x5 x6 x7) q #[x0, x1, x2, x3, x4, x5, x6, x7] :=
  ⟨(set8_other (by have := h.2.2.2; omega) ..).trans h.1, set8_row h.2.1 .., set8_below h.2.2.1 (by have := h.2.2.2; omega) .., h.2.2.2⟩
theorem DateAt.mins {w X : World} {rb q : Nat} {st : St} {Y M D : Int} (h : DateAt w X rb q st Y M D) : X.cell? ⟨rb, 21, none⟩ = some (.int .i64 (st.n 10)) ∧ X.cell? ⟨rb, 23, none⟩ = some (.int .i64 (st.n 11)) := ⟨rd_cell h.rd 21 _ rfl, rd_cell h.rd 23 _ rfl⟩
theorem DateAt.drew {w X : World} {rb q : Nat} {st : St} {Y M D : Int} (h : DateAt w X rb q st Y M D) : DateAt w X.drew rb q st Y M D := h.below ((Below.refl _ X).drew)
theorem mins_set {X : World} {rb q : Nat} {a b : Value} (hne : rb ≠ q) (i : Nat) (v : Value) (h : X.cell? ⟨rb, 21, none⟩ = some a ∧ X.cell? ⟨rb, 23, none⟩ = some b) : (X.setCell ⟨q, i, none⟩ v).cell? ⟨rb, 21, none⟩ = some a ∧ (X.setCell ⟨q, i, none⟩ v).cell? ⟨rb, 23, none⟩ = some b := by
  constructor
  · rw [World.cell?_of_block (setCell_other_block v hne)]; exact h.1
  · rw [World.cell?_of_block (setCell_other_block v hne)]; exact h.2
theorem DateAt.tm {w X : World} {rb q : Nat} {st : St} {Y M D : Int} (h : DateAt w X rb q st Y M D) (a b : Int) (s : Nat) : TmAt w (((X.setCell ⟨q, 3, none⟩ (.int .i64 a)).setCell ⟨q, 4, none⟩ (.int .i64 b)).setCell ⟨q, 5, none⟩ (.float .f64 s)) q (timeV Y M D a b s 0 0) := by
  have hn : w.heap.size ≠ q := by have := h.lt; omega
  refine ⟨?_, row_setAt (row_setAt (row_setAt h.own 3 (.int .i64 a)) 4 (.int .i64 b)) 5 (.float .f64 s), ((h.is.setCell (p := ⟨q, 3, none⟩) (by have := h.lt; show w.heap.size ≤ q; omega) _).setCell (p := ⟨q, 4, none⟩) (by have := h.lt; show w.heap.size ≤ q; omega) _).setCell (p := ⟨q, 5, none⟩) (by have := h.lt; show w.heap.size ≤ q; omega) _, h.lt⟩
  rw [setCell_other_block _ hn, setCell_other_block _ hn, setCell_other_block _ hn]
  exact h.1
set_option maxRecDepth 100000 in
set_option maxHeartbeats 4000000 in
/-- There is no such day. -/
theorem time_none (rb : Nat) (eb : Addr) (st : St) (hI : Inv st) (ht : ¬ 0 < st.t 12) (hd : dayS st = none) (w : World) (hE : ErrW w eb) (h : RdAt w rb st) : Calls Tryz.prog 83 #[.pointer (some ⟨rb, 1, none⟩)] w fun e w' => TimePost eb w (timeS st) e w' := by
  have hsf := run_store_float Tryz.prog
  have hts : decide (0 < st.t 12) = false := by simpa using ht
  have HT : Hid (timeS st = none) := Lib.hid (by unfold timeS; rw [if_neg ht, hd])
  have HDC := Lib.hid (date_any rb eb st hI)
  have HDN := Lib.hid hd
  have HE := Lib.hid hE
  have HRD := Lib.hid h
  clear hd hI hE h
  go_enter Tryz.func83, Tryz.ntmps83
  go_upto_region 1 with fail
  have HI0 := Lib.hid (DtI.first HRD.out)
  unfold zeroT at HI0
  generalize w.alloc (Obj.cells #[.int .i64 0, .int .i64 0, .int .i64 0, .int .i64 0, .int .i64 0, .float .f64 0, .int .i64 0, .int .i64 0] 24) = X0 at HI0 ⊢
  have hct : X0.cell? ⟨rb, 26, none⟩ = some (.int .i64 (st.t 12)) := rd_cell HI0.out.rd 26 _ rfl
  go_wp2_with fail
  refine (HDC.out _ (HE.out.below HI0.out.2.2.1) HI0.out.rd).mono ?_
  rw [HDN.out]
  rintro e w1 ⟨rfl, hb⟩
  have HI1 := Lib.hid (HI0.out.below hb)
  clear hb HI0 hct
  unfold errV timeV
  go_upto_region 5 with fail
  have hi2 := HI1.out.one (Obj.cells #[.int .i64 0, .int .i64 0, .int .i64 0, .int .i64 0, .int .i64 0, .float .f64 0, .int .i64 0, .int .i64 0] 24)
  generalize w1.alloc (Obj.cells #[.int .i64 0, .int .i64 0, .int .i64 0, .int .i64 0, .int .i64 0, .float .f64 0, .int .i64 0, .int .i64 0] 24) = X2 at hi2 ⊢
  have HI2 := Lib.hid hi2
  clear hi2 HI1
  obtain ⟨p0, p1, p2, p3, p4, p5, p6, p7⟩ := row8 HI2.out.row
  obtain ⟨v0, v1, v2, v3, v4, v5, v6, v7⟩ := ice8 HI2.out.row
  go_wp2_with fail
  refine bodyPost_ret_by (results_row_tmp rfl _ _ w.heap.size 24 _ (0, 0) _ (errV eb) rfl rfl (set8_row HI2.out.row ..) Tryz.underlying24 rfl sizeTime) rfl ?_
  rw [HT.out]
  exact ⟨rfl, set8_below HI2.out.2.2.1 (Nat.le_refl _) ..⟩
set_option maxRecDepth 100000 in
set_option maxHeartbeats 4000000 in
/-- There is. -/
theorem time_some (rb : Nat) (eb : Addr) (st : St) (hI : Inv st) (ht : ¬ 0 < st.t 12) (k : Int) (hd : dayS st = some k) (w : World) (hE : ErrW w eb) (h : RdAt w rb st) : Calls Tryz.prog 83 #[.pointer (some ⟨rb, 1, none⟩)] w fun e w' => TimePost eb w (timeS st) e w' := by
  have hsf := run_store_float Tryz.prog
  have hci := conv_int
  have hts : decide (0 < st.t 12) = false := by simpa using ht
  obtain ⟨a, ha⟩ : ∃ a, k * 86400 + hourS st * 3600 + st.n 10 * 60 + st.n 11 = a := ⟨_, rfl⟩
  have HT : Hid (timeS st = if knownS a then some a else none) := Lib.hid (by unfold timeS; rw [if_neg ht, hd]; simp only [ha])
  have hh := hourS_bd hI
  have hi10 := hI.at 10 (by omega) 0 59 (by decide) (by decide)
  have hi11 := hI.at 11 (by omega) 0 60 (by decide) (by decide)
  have HHR := Lib.hid (fun w => hour_any rb st hI w)
  have HDC := Lib.hid (date_any rb eb st hI)
  have HDN := Lib.hid hd
  have HE := Lib.hid hE
  have HRD := Lib.hid h
  obtain ⟨hr, hhr⟩ : ∃ hr, hourS st = hr := ⟨_, rfl⟩
  rw [hhr] at hh HHR ha
  have HB := Lib.hid (And.intro hh (And.intro (show 0 ≤ st.n 10 ∧ st.n 10 ≤ 59 by omega) (show 0 ≤ st.n 11 ∧ st.n 11 ≤ 60 by omega)))
  have HAE := Lib.hid ha
  clear hd hI hE h hh hi10 hi11 ha hhr
  go_enter Tryz.func83, Tryz.ntmps83
  go_upto_region 1 with fail
  have HI0 := Lib.hid (DtI.first HRD.out)
  unfold zeroT at HI0
  generalize w.alloc (Obj.cells #[.int .i64 0, .int .i64 0, .int .i64 0, .int .i64 0, .int .i64 0, .float .f64 0, .int .i64 0, .int .i64 0] 24) = X0 at HI0 ⊢
  have hct : X0.cell? ⟨rb, 26, none⟩ = some (.int .i64 (st.t 12)) := rd_cell HI0.out.rd 26 _ rfl
  go_wp2_with fail
  refine (HDC.out _ (HE.out.below HI0.out.2.2.1) HI0.out.rd).mono ?_
  rw [HDN.out]
  rintro e w1 ⟨⟨y, m, d, hOK, hN, rfl⟩, hb⟩
  have HI1 := Lib.hid (HI0.out.below hb)
  have HOK := Lib.hid hOK
  have HN := Lib.hid hN
  clear hb HI0 hct hOK hN
  unfold timeV
  go_upto_region 5 with fail
  have hi2 := HI1.out.dateAt y m d
  unfold timeV at hi2
  obtain ⟨q, hq⟩ : ∃ q, w1.heap.size = q := ⟨_, rfl⟩
  rw [hq] at hi2 ⊢
  generalize w1.alloc (Obj.cells #[.int .i64 y, .int .i64 m, .int .i64 d, .int .i64 0, .int .i64 0, .float .f64 0, .int .i64 0, .int .i64 0] 24) = X2 at hi2 ⊢
  have HA := Lib.hid hi2
  clear hi2 HI1 hq
  go_upto_region 7 with fail
  obtain ⟨p0, p1, p2, p3, p4, p5, p6, p7⟩ := row8 HA.out.own
  have HNQ : Hid (rb ≠ q) := Lib.hid (by have h1 := HRD.out.lt; have h2 := HA.out.lt; omega)
  go_cut [] from 36 to 51 (fun wx => Hid (TmAt w wx q (timeV y m d hr (st.n 10) (fI (st.n 11)) 0 0)))
  case first =>
    clear HT HDN HE HRD HOK HN
    go_region_held3 (fun W => W.cell? ⟨rb, 21, none⟩ = some (.int .i64 (st.n 10)) ∧ W.cell? ⟨rb, 23, none⟩ = some (.int .i64 (st.n 11))) (first | with_reducible exact HA.out.mins | with_reducible exact HA.out.drew.mins | exact mins_set HNQ.out _ _ HA.out.mins | exact mins_set HNQ.out _ _ (mins_set HNQ.out _ _ HA.out.mins) | exact mins_set HNQ.out _ _ (mins_set HNQ.out _ _ (mins_set HNQ.out _ _ HA.out.mins)))
      (first
      | (go_at_call 146; (first | with_reducible refine (HHR.out _ HA.out.drew.rd).mono ?_ | with_reducible refine (HHR.out _ HA.out.rd).mono ?_); rintro e w3 ⟨rfl, hb⟩; have ha3 : DateAt w w3 rb q st y m d := (by first | with_reducible exact HA.out.drew.below hb | with_reducible exact HA.out.below hb); clear HA; have HA := Lib.hid ha3; clear ha3 hb p0 p1 p2 p3 p4 p5 p6 p7; obtain ⟨p0, p1, p2, p3, p4, p5, p6, p7⟩ := row8 HA.out.own; obtain ⟨v0, v1, v2, v3, v4, v5, v6, v7⟩ := ice8 HA.out.own))
    all_goals
      go_wp2_with fail
      go_meet
      exact Lib.hid (HA.out.tm hr (st.n 10) (fI (st.n 11)))
  case rest =>
    clear HA p0 p1 p2 p3 p4 p5 p6 p7
    have HC := hcut
    clear hcut
    unfold timeV at HC
    obtain ⟨p0, p1, p2, p3, p4, p5, p6, p7⟩ := row8 HC.out.2.1
    have HJ := Lib.hid (fun w => join_at y m d hr (st.n 10) (st.n 11) HOK.out HB.out.1 HB.out.2.1 HB.out.2.2 a (by rw [HN.out]; exact HAE.out) w)
    unfold timeV at HJ
    go_wp2_with fail
    refine (HJ.out _).mono ?_
    rintro e w4 ⟨rfl, hb⟩
    have HC4 := Lib.hid (HC.out.below hb)
    clear hb HC p0 p1 p2 p3 p4 p5 p6 p7
    obtain ⟨p0, p1, p2, p3, p4, p5, p6, p7⟩ := row8 HC4.out.2.1
    obtain ⟨u0, u1, u2, u3, u4, u5, u6, u7⟩ := row8 HC4.out.res
    obtain ⟨v0, v1, v2, v3, v4, v5, v6, v7⟩ := ice8 HC4.out.res
    by_cases hk : knownS a
    · rw [if_pos hk, if_pos hk]
      have HF : Hid (timeS st = some a) := Lib.hid (by rw [HT.out, if_pos hk])
      have HK := Lib.hid hk
      obtain ⟨y2, m2, d2, hD2, hN2⟩ := num_ex (a / 86400) hk.1 hk.2
      have HS := Lib.hid (fun w => split_at a hk y2 m2 d2 hD2 hN2 w)
      have HD2 := Lib.hid hD2
      have HN2 := Lib.hid hN2
      obtain ⟨x3, e3⟩ : ∃ x, a % 86400 / 3600 = x := ⟨_, rfl⟩
      obtain ⟨x4, e4⟩ : ∃ x, a % 86400 / 60 % 60 = x := ⟨_, rfl⟩
      obtain ⟨x5, e5⟩ : ∃ x, fI (a % 86400 % 60) = x := ⟨_, rfl⟩
      obtain ⟨x6, e6⟩ : ∃ x, (numI y2 m2 d2 + 4) % 7 = x := ⟨_, rfl⟩
      obtain ⟨x7, e7⟩ : ∃ x, numI y2 m2 d2 - beginI y2 0 = x := ⟨_, rfl⟩
      have HV : Hid (tmI y2 m2 d2 a = timeV y2 m2 d2 x3 x4 x5 x6 x7) := Lib.hid (by unfold tmI; rw [e3, e4, e5, e6, e7])
      rw [HV.out] at HS
      clear e3 e4 e5 e6 e7 hk hD2 hN2
      unfold timeV at HS
      go_wp2_with fail
      refine (HS.out _).mono ?_
      rintro e w5 ⟨rfl, hb⟩
      have HC5 := Lib.hid (HC4.out.below hb)
      clear hb HC4 p0 p1 p2 p3 p4 p5 p6 p7 u0 u1 u2 u3 u4 u5 u6 u7 v0 v1 v2 v3 v4 v5 v6 v7
      obtain ⟨p0, p1, p2, p3, p4, p5, p6, p7⟩ := row8 HC5.out.2.1
      obtain ⟨v0, v1, v2, v3, v4, v5, v6, v7⟩ := ice8 HC5.out.2.1
      go_upto_region 12 with fail
      have hc6 := HC5.out.set8 (.int .i64 y2) (.int .i64 m2) (.int .i64 d2) (.int .i64 x3) (.int .i64 x4) (.float .f64 x5) (.int .i64 x6) (.int .i64 x7)
      unfold set8 at hc6
      generalize (((((((w5.setCell ⟨q, 0, none⟩ (.int .i64 y2)).setCell ⟨q, 1, none⟩ (.int .i64 m2)).setCell ⟨q, 2, none⟩ (.int .i64 d2)).setCell ⟨q, 3, none⟩ (.int .i64 x3)).setCell ⟨q, 4, none⟩ (.int .i64 x4)).setCell ⟨q, 5, none⟩ (.float .f64 x5)).setCell ⟨q, 6, none⟩ (.int .i64 x6)).setCell ⟨q, 7, none⟩ (.int .i64 x7) = X6 at hc6 ⊢
      have HC6 := Lib.hid hc6
      clear hc6 HC5 p0 p1 p2 p3 p4 p5 p6 p7 v0 v1 v2 v3 v4 v5 v6 v7
      obtain ⟨p0, p1, p2, p3, p4, p5, p6, p7⟩ := row8 HC6.out.2.1
      obtain ⟨u0, u1, u2, u3, u4, u5, u6, u7⟩ := row8 HC6.out.res
      obtain ⟨v0, v1, v2, v3, v4, v5, v6, v7⟩ := ice8 HC6.out.res
      go_wp2_with fail
      refine bodyPost_ret_by (results_row_tmp rfl _ _ w.heap.size 24 _ (0, 0) _ .nilIface rfl rfl (set8_row HC6.out.res ..) Tryz.underlying24 rfl sizeTime) rfl ?_
      rw [HF.out]
      exact ⟨⟨HK.out, y2, m2, d2, HD2.out, HN2.out, by rw [HV.out]; rfl⟩, set8_below HC6.out.2.2.1 (Nat.le_refl _) ..⟩
    · rw [if_neg hk, if_neg hk]
      have HF : Hid (timeS st = none) := Lib.hid (by rw [HT.out, if_neg hk])
      have d5 := errW_in HE.out HC4.out.2.2.1
      have d6 := errW_ne HE.out
      have d7 := errW_ne2 HE.out
      have d8 := errW_ne3 HE.out
      clear hk
      obtain ⟨X, hX⟩ : ∃ X, X = set8 w4 w.heap.size (.int .i64 0) (.int .i64 0) (.int .i64 0) (.int .i64 0) (.int .i64 0) (.float .f64 0) (.int .i64 0) (.int .i64 0) := ⟨_, rfl⟩
      have HX := Lib.hid (set8_row HC4.out.res (.int .i64 0) (.int .i64 0) (.int .i64 0) (.int .i64 0) (.int .i64 0) (.float .f64 0) (.int .i64 0) (.int .i64 0))
      have BX := Lib.hid (set8_below HC4.out.2.2.1 (Nat.le_refl _) (.int .i64 0) (.int .i64 0) (.int .i64 0) (.int .i64 0) (.int .i64 0) (.float .f64 0) (.int .i64 0) (.int .i64 0))
      rw [← hX] at HX BX
      unfold set8 at hX
      have HXE := Lib.hid hX
      clear hX
      go_wp2_with fail
      go_region
      all_goals
        go_wp2_with fail
        rw [← HXE.out]
        clear HXE u0 u1 u2 u3 u4 u5 u6 u7 v0 v1 v2 v3 v4 v5 v6 v7
        refine bodyPost_ret_by (results_row_tmp rfl _ _ w.heap.size 24 _ (0, 0) _ (errV eb) rfl rfl (HX.out) Tryz.underlying24 rfl sizeTime) rfl ?_
        rw [HF.out]
        exact ⟨rfl, BX.out.drew⟩
end Go.Proofs.YtpjncnoejdaplaaGreatDoor
namespace Go.Proofs.YtpjncnoejdaplaaGreatDoor
open Go Go.RowKit Go.Extern.Stop Go.Stop Go.Extern

/- 347: the number of the translation's types, and 100; 6: the number of the package-level variables. -/
theorem isTypeOf (v : Value) (w : World) : (Extern.ReflectliteType.typeOf #[.iface 214 v]).run Tryz.prog w = .ok (.iface 142 (.agg #[.pointer (some ⟨6, 214, none⟩)])) w := by kernel_rfl
noncomputable def cmpE : Array Value → Sem Value := Extern.ReflectliteType.method fun t => do Extern.Rtype.noPackHeld "Comparable" t; pure (.bool (← typeInfo t).comparable)
theorem isComparable (w : World) : (cmpE #[.agg #[.pointer (some ⟨6, 214, none⟩)]]).run Tryz.prog w = .ok (.bool true) w := by kernel_rfl
theorem isComp : (Tryz.prog.info? 214).map (·.comparable) = some true := by kernel_rfl
theorem isSize : (Tryz.prog.info? 236).map (·.size) = some 1 := by kernel_rfl
theorem isMethodComparable (v : Value) (w : World) : (Go.method 347 142 v "Comparable").run Tryz.prog w = .ok (227, v) w := by kernel_rfl
set_option maxRecDepth 100000 in
set_option maxHeartbeats 2000000 in
theorem is_same (b : Addr) (w : World) :
    Calls Tryz.prog 23 #[.iface 214 (.pointer (some b)), .iface 214 (.pointer (some b))] w fun e w' => e = .returned (.bool true) ∧ w = w' := by
  obtain ⟨i, hi, hcmp⟩ := Option.map_eq_some_iff.1 isComp
  obtain ⟨j, hj, hjs⟩ := Option.map_eq_some_iff.1 isSize
  have h8 := @run_callFunc_extern Tryz.prog 56 _ Extern.ReflectliteType.typeOf Tryz.func56 (by kernel_rfl) (by kernel_rfl) (by kernel_rfl) (by kernel_rfl)
  have h32 := @run_callFunc_extern Tryz.prog 227 _ cmpE Tryz.func227 (by kernel_rfl) (by kernel_rfl) (by kernel_rfl) (by kernel_rfl)
  have tT := isTypeOf
  have cT := isComparable
  have mR := isMethodComparable
  have heq := run_eql_iface_ptr_same (P := Tryz.prog) w b Tryz.underlying59 Tryz.underlying214 hi hcmp hj
  go_enter Tryz.func23, Tryz.ntmps23
  go_wp2
  refine wp_loop_rounds 1 ?_
  rw [rounds_succ]
  go_wp2
  go_ret
  exact ⟨rfl, rfl⟩
theorem eql_nil (u : TypeId) (v : Value) (w : World) : (binOp .eql 59 .nilIface (.iface u v)).run Tryz.prog w = .ok (.bool false) w := by kernel_rfl
set_option maxRecDepth 100000 in
theorem is_nil (b : Addr) (w : World) :
    Calls Tryz.prog 23 #[.nilIface, .iface 214 (.pointer (some b))] w fun e w' => e = .returned (.bool false) ∧ w = w' := by
  have he := eql_nil
  go_enter Tryz.func23, Tryz.ntmps23
  go_wp2_with fail
  go_ret
  exact ⟨rfl, rfl⟩
end Go.Proofs.YtpjncnoejdaplaaGreatDoor
