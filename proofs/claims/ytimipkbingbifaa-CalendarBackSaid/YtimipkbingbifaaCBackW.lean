/- CalendarBack: its first half, as one cut. -/
import Derived.Test.YtimipkbingbifaaCBackP
import Derived.Test.YtimipkbingbifaaCPrgQ
import Derived.Deep.QuietTactic
import Derived.BigQuiet
import Derived.Deep.Cut
import Derived.Deep.CutRange
import Derived.Deep.DeepCutAuto
namespace Go.Proofs.Ytimipkbingbifaa
open Go Go.RowKit

/-- What Split answers of a whole number: refused; or known, and then Join gives it back, where it is asked. -/
theorem split_any (k : Int) : ∃ (y m d h i : Int) (s : Nat) (wd yd e : Int), (∀ w, Calls Try.prog 18 #[.float .f64 (fI k)] w fun x w' => x = .returned (.tuple #[.agg (timeV y m d h i s wd yd), .int .i64 e]) ∧ Below w.heap.size w w') ∧
    (e ≠ 0 ∨ k ≤ -1125899906842624 ∨ 1125899906842624 ≤ k ∨ (e = 0 ∧ -1125899906842624 < k ∧ k < 1125899906842624 ∧ OkD y m d ∧ (0 ≤ wd ∧ wd ≤ 6) ∧ ∀ w, Calls Try.prog 20 #[.agg (timeV y m d h i s wd yd)] w fun x w' => x = .returned (.tuple #[.int .i64 k, .int .i64 0]) ∧ Below w.heap.size w w')) := by
  by_cases hk : -1125899906842624 < k ∧ k < 1125899906842624
  · rcases split_int k hk.1 hk.2 with h | ⟨y, m, d, h, i, s, wd, yd, hD, hw, hS, hJ⟩
    · exact ⟨_, _, _, _, _, _, _, _, _, h, .inl (by omega)⟩
    · exact ⟨_, _, _, _, _, _, _, _, _, hS, .inr (.inr (.inr ⟨rfl, hk.1, hk.2, hD, hw, hJ⟩))⟩
  · obtain ⟨y, m, d, h, i, s, wd, yd, e, _, p, _⟩ := both_Split (fI k)
    exact ⟨_, _, _, _, _, _, _, _, _, p, by omega⟩
/-- A time within its ranges. -/
def InT (ty tm td th ti : Int) (ts : Nat) : Prop := (0 ≤ tm ∧ tm ≤ 11) ∧ (1 ≤ td ∧ td ≤ lenI ty tm) ∧ (0 ≤ th ∧ th ≤ 23) ∧ (0 ≤ ti ∧ ti ≤ 59) ∧ (Ieee.double.order ts 0 = some .gt ∨ Ieee.double.order ts 0 = some .eq) ∧ Ieee.double.order ts 4633641066610819072 = some .lt ∧ Ieee.double.order ts (floorB ts) = some .eq
/-- What Join answers of a time: if it is in its ranges, and answered, Split gives it back. -/
theorem join_any (ty tm td th ti : Int) (ts : Nat) (tw tl : Int) : ∃ a e : Int, (∀ w, Calls Try.prog 20 #[.agg (timeV ty tm td th ti ts tw tl)] w fun x w' => x = .returned (.tuple #[.int .i64 a, .int .i64 e]) ∧ Below w.heap.size w w') ∧
    (e = 0 → InT ty tm td th ti ts → ∃ (s : Nat) (wd yd : Int), Ieee.double.order s ts = some .eq ∧ ∀ w, Calls Try.prog 18 #[.float .f64 (fI a)] w fun x w' => x = .returned (.tuple #[.agg (timeV ty tm td th ti s wd yd), .int .i64 0]) ∧ Below w.heap.size w w') := by
  by_cases hin : InT ty tm td th ti ts
  · obtain ⟨⟨a1, a2⟩, ⟨b1, b2⟩, c, d, g1, g2, g3⟩ := hin
    obtain ⟨s1, s2, s3, s4⟩ := sec_in ts g1 g2
    by_cases hk : -9999 ≤ ty ∧ ty ≤ 9999
    · have hD : OkD ty tm td := ⟨hk, ⟨a1, a2⟩, b1, b2⟩
      have hr := num_range ty tm td hD
      refine ⟨_, _, join_in ty tm td th ti ts tw tl hD c d s2 ⟨s3, s4⟩, fun _ _ => ?_⟩
      obtain ⟨k, hk⟩ : ∃ k, numI ty tm td * 86400 + th * 3600 + ti * 60 + flI ts = k := ⟨_, rfl⟩
      rw [hk]
      have hz := (fI_is k (by omega) (by omega)).1
      have hf := flI_fI k (by omega) (by omega)
      refine ⟨fI (flI ts), (numI ty tm td + 4) % 7, numI ty tm td - beginI ty 0, sec_eq ts s1 ⟨s3, s4⟩ g3, fun w => ?_⟩
      have e := Split_of (fI k) hz ty tm td (k % 86400) hD (by rw [hf]; omega) (by rw [hf]) w
      rw [sec_fI k (k % 86400 % 60) (by omega) (by omega) (by omega) (by omega), show k % 86400 / 3600 = th from by omega, show k % 86400 / 60 % 60 = ti from by omega, show k % 86400 % 60 = flI ts from by omega] at e
      exact e
    · by_cases hF : Fits ty tm td th ti ts
      · exact ⟨_, _, Join_year ty tm td th ti ts tw tl hF (by rw [show tm / 12 = 0 from by omega, Int.add_zero]; exact knownB_false _ hk), fun h => absurd h (by omega)⟩
      · exact ⟨_, _, Join_unfit ty tm td th ti ts tw tl hF, fun h => absurd h (by omega)⟩
  · obtain ⟨a, e, p, _⟩ := both_Join ty tm td th ti ts tw tl
    exact ⟨a, e, p, fun _ h => absurd h hin⟩
set_option maxRecDepth 100000 in
set_option maxHeartbeats 40000000 in
theorem back_true (k ty tm td th ti : Int) (ts : Nat) (tw tl : Int) (hty1 : -9223372036854775808 ≤ ty) (hty2 : ty ≤ 9223372036854775807) (w : World) : Calls Try.prog 7 #[.int .i64 k, .agg (timeV ty tm td th ti ts tw tl)] w fun e w' => e = .returned (.bool true) ∧ Below w.heap.size w w' := by
  obtain ⟨y, m, d, h, i, s, wd, yd, f, hSp, hcase⟩ := split_any k
  have hsf := run_store_float Try.prog
  have hci := conv_int
  unfold timeV at hSp hcase ⊢
  have HSp := Lib.hid hSp
  have HCase := Lib.hid hcase
  clear hSp hcase
  go_enter Try.func7, Try.ntmps7
  go_wp2_with fail
  have hr1 := heap_alloc_new w (Obj.cells #[.int .i64 ty, .int .i64 tm, .int .i64 td, .int .i64 th, .int .i64 ti, .float .f64 ts, .int .i64 tw, .int .i64 tl] 37)
  have hb1 := (Below.refl w.heap.size w).alloc (Nat.le_refl _) (Obj.cells #[.int .i64 ty, .int .i64 tm, .int .i64 td, .int .i64 th, .int .i64 ti, .float .f64 ts, .int .i64 tw, .int .i64 tl] 37)
  have hz1 : w.heap.size < (w.alloc (Obj.cells #[.int .i64 ty, .int .i64 tm, .int .i64 td, .int .i64 th, .int .i64 ti, .float .f64 ts, .int .i64 tw, .int .i64 tl] 37)).heap.size := by simp
  generalize w.alloc (Obj.cells #[.int .i64 ty, .int .i64 tm, .int .i64 td, .int .i64 th, .int .i64 ti, .float .f64 ts, .int .i64 tw, .int .i64 tl] 37) = X1 at hr1 hb1 hz1 ⊢
  have R1 := Lib.hid hr1
  have B1 := Lib.hid hb1
  have Z1 := Lib.hid hz1
  clear hr1 hb1 hz1
  refine (HSp.out _).mono ?_
  rintro e w2 ⟨rfl, b2⟩
  have R2 := Lib.hid ((b2.block w.heap.size Z1.out).trans R1.out)
  have B2 := Lib.hid (B1.out.trans (b2.mono B1.out.size))
  have Z2 := Lib.hid (Nat.lt_of_lt_of_le Z1.out b2.size)
  clear b2 R1 B1 Z1
  go_upto_region 2 with fail
  have hr3 := row_alloc3 R2.out (Obj.cells #[.int .i64 y, .int .i64 m, .int .i64 d, .int .i64 h, .int .i64 i, .float .f64 s, .int .i64 wd, .int .i64 yd] 37)
  have ha3 := heap_alloc_new w2 (Obj.cells #[.int .i64 y, .int .i64 m, .int .i64 d, .int .i64 h, .int .i64 i, .float .f64 s, .int .i64 wd, .int .i64 yd] 37)
  have hb3 := B2.out.alloc B2.out.size (Obj.cells #[.int .i64 y, .int .i64 m, .int .i64 d, .int .i64 h, .int .i64 i, .float .f64 s, .int .i64 wd, .int .i64 yd] 37)
  have hz3 : w.heap.size < (w2.alloc (Obj.cells #[.int .i64 y, .int .i64 m, .int .i64 d, .int .i64 h, .int .i64 i, .float .f64 s, .int .i64 wd, .int .i64 yd] 37)).heap.size := by have := Z2.out; simp; omega
  have hy3 : w2.heap.size < (w2.alloc (Obj.cells #[.int .i64 y, .int .i64 m, .int .i64 d, .int .i64 h, .int .i64 i, .float .f64 s, .int .i64 wd, .int .i64 yd] 37)).heap.size := by simp
  generalize w2.alloc (Obj.cells #[.int .i64 y, .int .i64 m, .int .i64 d, .int .i64 h, .int .i64 i, .float .f64 s, .int .i64 wd, .int .i64 yd] 37) = X3 at hr3 ha3 hb3 hz3 hy3 ⊢
  have R3 := Lib.hid hr3
  have A3 := Lib.hid ha3
  have B3 := Lib.hid hb3
  have Z3 := Lib.hid hz3
  have Y3 := Lib.hid hy3
  clear hr3 ha3 hb3 hz3 hy3 R2 B2 Z2
  go_cut [35] from 26 to 34 (fun s35 wx => wx = X3 ∧ ∃ bb : Bool, s35 = .bool bb ∧ Hid (bb = true → f = 0 ∧ -1125899906842624 < k ∧ k < 1125899906842624))
  case first =>
    by_cases hf0 : f = 0
    · have c1 : (f == 0) = true := by simp [hf0]
      have HF0 := Lib.hid hf0
      clear hf0
      by_cases h1 : -1125899906842624 < k
      · by_cases h2 : k < 1125899906842624
        · go_wp2_with fail
          go_meet
          refine ⟨rfl, _, rfl, Lib.hid ?_⟩
          intro hh
          exact ⟨HF0.out, h1, h2⟩
        · go_wp2_with fail
          go_meet
          refine ⟨rfl, _, rfl, Lib.hid ?_⟩
          intro hh
          exfalso
          simp_all
      · go_wp2_with fail
        go_meet
        refine ⟨rfl, _, rfl, Lib.hid ?_⟩
        intro hh
        exfalso
        simp_all
    · have c1 : (f == 0) = false := by simp [hf0]
      go_wp2_with fail
      go_meet
      refine ⟨rfl, _, rfl, Lib.hid ?_⟩
      intro hh
      exfalso
      simp_all
  case rest =>
    obtain ⟨rfl, bb, rfl, hbb⟩ := hcut
    go_upto_if 35 with fail
    go_cut [7, 8, 9, 10, 11, 12, 13, 14] from 36 to 98 (fun s7 s8 s9 s10 s11 s12 s13 s14 wx => Hid (wx.heap[w.heap.size]? = some (.cells #[.int .i64 ty, .int .i64 tm, .int .i64 td, .int .i64 th, .int .i64 ti, .float .f64 ts, .int .i64 tw, .int .i64 tl] 37 (0, 0))) ∧ Hid (Below w.heap.size w wx) ∧ Hid (w.heap.size < wx.heap.size))
    case first =>
      cases bb
      · go_wp2_with fail
        go_meet
        exact ⟨R3, B3, Z3⟩
      · obtain ⟨hf0, hk3, hk4⟩ := hbb.out rfl
        obtain ⟨hx1, _, _, hD, hw, hJ⟩ : f = 0 ∧ -1125899906842624 < k ∧ k < 1125899906842624 ∧ OkD y m d ∧ (0 ≤ wd ∧ wd ≤ 6) ∧ ∀ w, Calls Try.prog 20 #[.agg #[.int .i64 y, .int .i64 m, .int .i64 d, .int .i64 h, .int .i64 i, .float .f64 s, .int .i64 wd, .int .i64 yd]] w fun x w' => x = .returned (.tuple #[.int .i64 k, .int .i64 0]) ∧ Below w.heap.size w w' := by
          rcases HCase.out with h | h | h | h
          · exact absurd hf0 h
          · omega
          · omega
          · exact h
        have HJ := Lib.hid hJ
        have HDy := Lib.hid (fun w => Day_yes y m d hD w)
        have HDt := Lib.hid (fun w => Date_of y m d hD w)
        obtain ⟨hw1, hw2⟩ := hw
        have e1 : (k != k) = false := by simp
        have e2 : (y != y) = false := by simp
        have e3 : (m != m) = false := by simp
        have e4 : (d != d) = false := by simp
        clear hJ hbb hD hf0 hx1
        obtain ⟨u0, u1, u2, u3, u4, u5, u6, u7⟩ := row8 A3.out
        go_wp2_with fail
        refine (HJ.out _).mono ?_
        rintro e w4 ⟨rfl, b4⟩
        have R4 := Lib.hid ((b4.block w.heap.size Z3.out).trans R3.out)
        have A4 := Lib.hid ((b4.block w2.heap.size Y3.out).trans A3.out)
        have B4 := Lib.hid (B3.out.trans (b4.mono B3.out.size))
        have Z4 := Lib.hid (Nat.lt_of_lt_of_le Z3.out b4.size)
        have Y4 := Lib.hid (Nat.lt_of_lt_of_le Y3.out b4.size)
        clear b4 u0 u1 u2 u3 u4 u5 u6 u7
        obtain ⟨u0, u1, u2, u3, u4, u5, u6, u7⟩ := row8 A4.out
        go_wp2_with fail
        refine (HDy.out _).mono ?_
        rintro e w5 ⟨rfl, b5⟩
        have R5 := Lib.hid ((b5.block w.heap.size Z4.out).trans R4.out)
        have A5 := Lib.hid ((b5.block w2.heap.size Y4.out).trans A4.out)
        have B5 := Lib.hid (B4.out.trans (b5.mono B4.out.size))
        have Z5 := Lib.hid (Nat.lt_of_lt_of_le Z4.out b5.size)
        have Y5 := Lib.hid (Nat.lt_of_lt_of_le Y4.out b5.size)
        clear b5 u0 u1 u2 u3 u4 u5 u6 u7
        go_wp2_with fail
        refine (HDt.out _).mono ?_
        rintro e w6 ⟨rfl, b6⟩
        have R6 := Lib.hid ((b6.block w.heap.size Z5.out).trans R5.out)
        have A6 := Lib.hid ((b6.block w2.heap.size Y5.out).trans A5.out)
        have B6 := Lib.hid (B5.out.trans (b6.mono B5.out.size))
        have Z6 := Lib.hid (Nat.lt_of_lt_of_le Z5.out b6.size)
        clear b6
        obtain ⟨u0, u1, u2, u3, u4, u5, u6, u7⟩ := row8 A6.out
        go_wp2_with fail
        go_meet
        exact ⟨R6, B6, Z6⟩
    case rest =>
      obtain ⟨R7, B7, Z7⟩ := hcut
      obtain ⟨a, g, hJ, hBk⟩ := join_any ty tm td th ti ts tw tl
      unfold timeV at hJ hBk
      have HJ := Lib.hid hJ
      have HBk := Lib.hid hBk
      clear hJ hBk R3 A3 B3 Z3 Y3 HCase HSp hbb
      obtain ⟨u0, u1, u2, u3, u4, u5, u6, u7⟩ := row8 R7.out
      go_wp2_with fail
      refine (HJ.out _).mono ?_
      rintro e w8 ⟨rfl, b8⟩
      have R8 := Lib.hid ((b8.block w.heap.size Z7.out).trans R7.out)
      have B8 := Lib.hid (B7.out.trans (b8.mono B7.out.size))
      have Z8 := Lib.hid (Nat.lt_of_lt_of_le Z7.out b8.size)
      clear b8 u0 u1 u2 u3 u4 u5 u6 u7 R7 B7 Z7
      obtain ⟨u0, u1, u2, u3, u4, u5, u6, u7⟩ := row8 R8.out
      go_upto_region 11 with fail
      go_cut [17] from 104 to 164 (fun s17 wx => (∃ bb : Bool, s17 = .bool bb ∧ Hid (bb = true → InT ty tm td th ti ts)) ∧ Hid (wx.heap[w.heap.size]? = some (.cells #[.int .i64 ty, .int .i64 tm, .int .i64 td, .int .i64 th, .int .i64 ti, .float .f64 ts, .int .i64 tw, .int .i64 tl] 37 (0, 0))) ∧ Hid (Below w.heap.size w wx) ∧ Hid (w.heap.size < wx.heap.size))
      case first =>
        by_cases c0 : 0 ≤ tm
        · by_cases c1 : tm ≤ 11
          · by_cases c2 : 1 ≤ td
            · by_cases c3 : td ≤ lenI ty tm
              · by_cases c4 : 0 ≤ th
                · by_cases c5 : th ≤ 23
                  · by_cases c6 : 0 ≤ ti
                    · by_cases c7 : ti ≤ 59
                      · obtain ⟨x9, hx9⟩ : ∃ x, Ieee.double.order ts 0 = x := ⟨_, rfl⟩
                        obtain ⟨x10, hx10⟩ : ∃ x, Ieee.double.order ts 4633641066610819072 = x := ⟨_, rfl⟩
                        obtain ⟨x11, hx11⟩ : ∃ x, Ieee.double.order ts (floorB ts) = x := ⟨_, rfl⟩
                        have H9 := Lib.hid hx9
                        have H10 := Lib.hid hx10
                        have H11 := Lib.hid hx11
                        have o9 : FloatKind.f64.format.order ts 0 = x9 := hx9
                        have o10 : FloatKind.f64.format.order ts 4633641066610819072 = x10 := hx10
                        have o11 : FloatKind.f64.format.order ts (floorB ts) = x11 := hx11
                        clear hx9 hx10 hx11
                        by_cases q9 : x9 = some .gt ∨ x9 = some .eq
                        · have G1 : Hid (Ieee.double.order ts 0 = some .gt ∨ Ieee.double.order ts 0 = some .eq) := Lib.hid (by rw [H9.out]; exact q9)
                          by_cases q10 : x10 = some .lt
                          · have G2 : Hid (Ieee.double.order ts 4633641066610819072 = some .lt) := Lib.hid (by rw [H10.out]; exact q10)
                            have hfin := (sec_in ts G1.out G2.out).1
                            have HFl := Lib.hid (fun w => (Floor_num ts (by omega) w).mono fun _ _ ⟨a, b⟩ => (⟨a, b.symm⟩ : _ ∧ _))
                            clear hfin
                            subst q10
                            by_cases q11 : x11 = some .eq
                            · have G3 : Hid (Ieee.double.order ts (floorB ts) = some .eq) := Lib.hid (by rw [H11.out]; exact q11)
                              subst q11
                              rcases q9 with rfl | rfl
                              all_goals
                                go_quiet ((first | (go_at_call 15; exact Calls.quiet_of (Length_quiet ty tm hty1 hty2 _)) | (go_at_call 24; exact Calls.quiet_of_same (HFl.out _))))
                                go_wp2_with fail
                                go_meet
                                refine ⟨⟨_, rfl, Lib.hid ?_⟩, Lib.hid (drewN_row R8.out _), Lib.hid (below_drewN B8.out _), Lib.hid (by rw [drewN_heap]; exact Z8.out)⟩
                                intro hh
                                exact ⟨⟨c0, c1⟩, ⟨c2, c3⟩, ⟨c4, c5⟩, ⟨c6, c7⟩, G1.out, G2.out, G3.out⟩
                            · rcases q9 with rfl | rfl <;> rcases x11 with _ | _ | _ | _ <;> (try (exact absurd rfl q11)) <;> clear q11
                              all_goals
                                go_quiet ((first | (go_at_call 15; exact Calls.quiet_of (Length_quiet ty tm hty1 hty2 _)) | (go_at_call 24; exact Calls.quiet_of_same (HFl.out _))))
                                go_wp2_with fail
                                go_meet
                                refine ⟨⟨_, rfl, Lib.hid ?_⟩, Lib.hid (drewN_row R8.out _), Lib.hid (below_drewN B8.out _), Lib.hid (by rw [drewN_heap]; exact Z8.out)⟩
                                intro hh
                                exfalso
                                simp_all
                          · rcases q9 with rfl | rfl <;> rcases x10 with _ | _ | _ | _ <;> (try (exact absurd rfl q10)) <;> clear q10
                            all_goals
                              go_quiet ((first | (go_at_call 15; exact Calls.quiet_of (Length_quiet ty tm hty1 hty2 _)) | (go_at_call 24; exact Calls.quiet_of_same (HFl.out _))))
                              go_wp2_with fail
                              go_meet
                              refine ⟨⟨_, rfl, Lib.hid ?_⟩, Lib.hid (drewN_row R8.out _), Lib.hid (below_drewN B8.out _), Lib.hid (by rw [drewN_heap]; exact Z8.out)⟩
                              intro hh
                              exfalso
                              simp_all
                        · rcases x9 with _ | _ | _ | _ <;> (try (exact absurd (.inl rfl) q9)) <;> (try (exact absurd (.inr rfl) q9)) <;> clear q9
                          all_goals
                            go_quiet ((first | (go_at_call 15; exact Calls.quiet_of (Length_quiet ty tm hty1 hty2 _)) | (go_at_call 24; exact Calls.quiet_of_same (HFl.out _))))
                            go_wp2_with fail
                            go_meet
                            refine ⟨⟨_, rfl, Lib.hid ?_⟩, Lib.hid (drewN_row R8.out _), Lib.hid (below_drewN B8.out _), Lib.hid (by rw [drewN_heap]; exact Z8.out)⟩
                            intro hh
                            exfalso
                            simp_all
                      · have d7 : decide (ti ≤ 59) = false := decide_eq_false c7
                        go_quiet ((first | (go_at_call 15; exact Calls.quiet_of (Length_quiet ty tm hty1 hty2 _)) | (go_at_call 24; exact Calls.quiet_of_same (HFl.out _))))
                        go_wp2_with fail
                        go_meet
                        refine ⟨⟨_, rfl, Lib.hid ?_⟩, Lib.hid (drewN_row R8.out _), Lib.hid (below_drewN B8.out _), Lib.hid (by rw [drewN_heap]; exact Z8.out)⟩
                        intro hh
                        exfalso
                        simp_all
                    · have d6 : decide (0 ≤ ti) = false := decide_eq_false c6
                      go_quiet ((first | (go_at_call 15; exact Calls.quiet_of (Length_quiet ty tm hty1 hty2 _)) | (go_at_call 24; exact Calls.quiet_of_same (HFl.out _))))
                      go_wp2_with fail
                      go_meet
                      refine ⟨⟨_, rfl, Lib.hid ?_⟩, Lib.hid (drewN_row R8.out _), Lib.hid (below_drewN B8.out _), Lib.hid (by rw [drewN_heap]; exact Z8.out)⟩
                      intro hh
                      exfalso
                      simp_all
                  · have d5 : decide (th ≤ 23) = false := decide_eq_false c5
                    go_quiet ((first | (go_at_call 15; exact Calls.quiet_of (Length_quiet ty tm hty1 hty2 _)) | (go_at_call 24; exact Calls.quiet_of_same (HFl.out _))))
                    go_wp2_with fail
                    go_meet
                    refine ⟨⟨_, rfl, Lib.hid ?_⟩, Lib.hid (drewN_row R8.out _), Lib.hid (below_drewN B8.out _), Lib.hid (by rw [drewN_heap]; exact Z8.out)⟩
                    intro hh
                    exfalso
                    simp_all
                · have d4 : decide (0 ≤ th) = false := decide_eq_false c4
                  go_quiet ((first | (go_at_call 15; exact Calls.quiet_of (Length_quiet ty tm hty1 hty2 _)) | (go_at_call 24; exact Calls.quiet_of_same (HFl.out _))))
                  go_wp2_with fail
                  go_meet
                  refine ⟨⟨_, rfl, Lib.hid ?_⟩, Lib.hid (drewN_row R8.out _), Lib.hid (below_drewN B8.out _), Lib.hid (by rw [drewN_heap]; exact Z8.out)⟩
                  intro hh
                  exfalso
                  simp_all
              · have d3 : decide (td ≤ lenI ty tm) = false := decide_eq_false c3
                go_quiet ((first | (go_at_call 15; exact Calls.quiet_of (Length_quiet ty tm hty1 hty2 _)) | (go_at_call 24; exact Calls.quiet_of_same (HFl.out _))))
                go_wp2_with fail
                go_meet
                refine ⟨⟨_, rfl, Lib.hid ?_⟩, Lib.hid (drewN_row R8.out _), Lib.hid (below_drewN B8.out _), Lib.hid (by rw [drewN_heap]; exact Z8.out)⟩
                intro hh
                exfalso
                simp_all
            · have d2 : decide (1 ≤ td) = false := decide_eq_false c2
              go_quiet ((first | (go_at_call 15; exact Calls.quiet_of (Length_quiet ty tm hty1 hty2 _)) | (go_at_call 24; exact Calls.quiet_of_same (HFl.out _))))
              go_wp2_with fail
              go_meet
              refine ⟨⟨_, rfl, Lib.hid ?_⟩, Lib.hid (drewN_row R8.out _), Lib.hid (below_drewN B8.out _), Lib.hid (by rw [drewN_heap]; exact Z8.out)⟩
              intro hh
              exfalso
              simp_all
          · have d1 : decide (tm ≤ 11) = false := decide_eq_false c1
            go_quiet ((first | (go_at_call 15; exact Calls.quiet_of (Length_quiet ty tm hty1 hty2 _)) | (go_at_call 24; exact Calls.quiet_of_same (HFl.out _))))
            go_wp2_with fail
            go_meet
            refine ⟨⟨_, rfl, Lib.hid ?_⟩, Lib.hid (drewN_row R8.out _), Lib.hid (below_drewN B8.out _), Lib.hid (by rw [drewN_heap]; exact Z8.out)⟩
            intro hh
            exfalso
            simp_all
        · have d0 : decide (0 ≤ tm) = false := decide_eq_false c0
          go_quiet ((first | (go_at_call 15; exact Calls.quiet_of (Length_quiet ty tm hty1 hty2 _)) | (go_at_call 24; exact Calls.quiet_of_same (HFl.out _))))
          go_wp2_with fail
          go_meet
          refine ⟨⟨_, rfl, Lib.hid ?_⟩, Lib.hid (drewN_row R8.out _), Lib.hid (below_drewN B8.out _), Lib.hid (by rw [drewN_heap]; exact Z8.out)⟩
          intro hh
          exfalso
          simp_all
      case rest =>
        obtain ⟨⟨bb, rfl, hbb⟩, R9, B9, Z9⟩ := hcut
        clear R8 B8 Z8 u0 u1 u2 u3 u4 u5 u6 u7
        by_cases hg0 : g = 0
        · have c1 : (g != 0) = false := by simp [hg0]
          cases bb
          · clear hg0
            go_wp2_with fail
            refine (heads_true _).mono ?_
            rintro e wz ⟨rfl, bz⟩
            have BZ := Lib.hid (B9.out.trans (bz.mono B9.out.size))
            clear bz
            go_wp2_with fail
            go_ret
            exact ⟨rfl, BZ.out⟩
          · obtain ⟨sx, wdx, ydx, hsx, hSx⟩ := HBk.out hg0 (hbb.out rfl)
            have hfe : FloatKind.f64.format.order sx ts = some .eq := hsx
            have HSx := Lib.hid hSx
            clear hsx hSx hg0 hbb
            have e1 : (ty == ty) = true := by simp
            have e2 : (tm == tm) = true := by simp
            have e3 : (td == td) = true := by simp
            have e4 : (th == th) = true := by simp
            have e5 : (ti == ti) = true := by simp
            go_wp2_with fail
            refine (HSx.out _).mono ?_
            rintro e wx ⟨rfl, bx⟩
            have R10 := Lib.hid ((bx.block w.heap.size Z9.out).trans R9.out)
            have B10 := Lib.hid (B9.out.trans (bx.mono B9.out.size))
            have Z10 := Lib.hid (Nat.lt_of_lt_of_le Z9.out bx.size)
            clear bx
            obtain ⟨u0, u1, u2, u3, u4, u5, u6, u7⟩ := row8 R10.out
            have z10 := Z10.out
            go_wp2_with fail
            refine (heads_true _).mono ?_
            rintro e wz ⟨rfl, bz⟩
            have BZ := Lib.hid ((B10.out.alloc B10.out.size (Obj.cells #[.int .i64 ty, .int .i64 tm, .int .i64 td, .int .i64 th, .int .i64 ti, .float .f64 sx, .int .i64 wdx, .int .i64 ydx] 37)).trans (bz.mono (by simp; have := B10.out.size; omega)))
            clear bz u0 u1 u2 u3 u4 u5 u6 u7
            go_wp2_with fail
            go_ret
            exact ⟨rfl, BZ.out⟩
        · have c1 : (g != 0) = true := by simp [hg0]
          clear hg0
          cases bb
          all_goals
            go_wp2_with fail
            refine (heads_true _).mono ?_
            rintro e wz ⟨rfl, bz⟩
            have BZ := Lib.hid (B9.out.trans (bz.mono B9.out.size))
            clear bz
            go_wp2_with fail
            go_ret
            exact ⟨rfl, BZ.out⟩
end Go.Proofs.Ytimipkbingbifaa
