/- The document's calendar: times that no seconds are answered of. -/
import Derived.Test.YtpjncnoejdaplaaGreatDoorLAI
import Derived.Test.YtpjncnoejdaplaaGreatDoorLAJ
namespace Go.Proofs.YtpjncnoejdaplaaGreatDoor
open Go Go.RowKit

set_option maxRecDepth 100000 in
set_option maxHeartbeats 2000000 in
theorem refJoin_out (y mo d h mi : Int) (s : Nat) (wd yd : Int) (hF : Fits y mo d h mi s) (hk : knownB (y + mo / 12) = true) (hd : secI (y + mo / 12) (mo % 12) d h mi s / 86400 < -4371587 ∨ 2932896 < secI (y + mo / 12) (mo % 12) d h mi s / 86400) (w : World) :
    Calls Tryz.prog 36 #[.agg (timeV y mo d h mi s wd yd)] w fun e w' => e = .returned (.tuple #[.int .i64 0, .int .i64 110]) ∧ Below w.heap.size w w' := by
  obtain ⟨f1, f2, f3, f4, f5, f6⟩ := hF
  obtain ⟨s1, s2, s3⟩ := fitS_fin s f6
  obtain ⟨q, hq⟩ : ∃ q, mo / 12 = q := ⟨_, rfl⟩
  obtain ⟨m, hm⟩ : ∃ m, mo % 12 = m := ⟨_, rfl⟩
  rw [hq, hm] at hd
  rw [hq] at hk
  have hkk : -9999 ≤ y + q ∧ y + q ≤ 9999 := by simpa [knownB] using hk
  have hm1 : 0 ≤ m := by omega
  have hm2 : m ≤ 11 := by omega
  obtain ⟨B, hB⟩ : ∃ B, beginI (y + q) m = B := ⟨_, rfl⟩
  have hbm := cumI_bd (y + q) m hm1 hm2
  have hBd := begin_bd (y + q) (by omega) (by omega)
  have hBB : -6000000 ≤ B ∧ B ≤ 6000000 := by
    have e : B = beginI (y + q) 0 + cumI (y + q) m := by
      rw [← hB]
      unfold beginI
      rw [cumI_zero]
      omega
    have := cumI_le (y + q) m hm1 (by omega)
    omega
  have hcB := fun w => refbegin_any (y + q) m (by omega) (by omega) (by omega) (by omega) w
  rw [hB] at hcB
  obtain ⟨F, hFl⟩ : ∃ F, flI s = F := ⟨_, rfl⟩
  have hcv := fun w => conv_floor s s1 (by omega) (by omega) w
  have hFc := fun w => (Floor_num s (by omega) w).mono fun _ _ ⟨a, b⟩ => (⟨a, b.symm⟩ : _ ∧ _)
  rw [hFl] at s2 s3 hcv
  obtain ⟨S, hS⟩ : ∃ S, secI (y + q) m d h mi s = S := ⟨_, rfl⟩
  have hSe : (B + d - 1) * 86400 + h * 3600 + mi * 60 + F = S := by rw [← hS, ← hB, ← hFl]; rfl
  rw [hS] at hd
  obtain ⟨k, hkq⟩ : ∃ k, S / 86400 = k := ⟨_, rfl⟩
  obtain ⟨r, hkr⟩ : ∃ r, S % 86400 = r := ⟨_, rfl⟩
  rw [hkq] at hd
  have b1 := (fitsB_iff y).1 f1
  have b2 := (fitsB_iff mo).1 f2
  have b3 := (fitsB_iff d).1 f3
  have b4 := (fitsB_iff h).1 f4
  have b5 := (fitsB_iff mi).1 f5
  obtain ⟨b31, b32⟩ := b3
  obtain ⟨b41, b42⟩ := b4
  obtain ⟨b51, b52⟩ := b5
  obtain ⟨hBB1, hBB2⟩ := hBB
  have HQ := Lib.hid hq
  have HM := Lib.hid hm
  have HK := Lib.hid hk
  have HB := Lib.hid hcB
  have HF := Lib.hid hFc
  have HS := Lib.hid hSe
  have HKQ := Lib.hid hkq
  have HKR := Lib.hid hkr
  have HB1 := Lib.hid b1
  have HB2 := Lib.hid b2
  have hkn := fun w => refknown_yes (y + q) hkk w
  have HKN := Lib.hid hkn
  have hq1 : -100000000 ≤ q := by omega
  have hq2 : q ≤ 100000000 := by omega
  have w1 : IntKind.i64.wrap (B + d) = B + d := IntWalk.i64_in _ (by omega)
  have w2 : IntKind.i64.wrap (B + d - 1) = B + d - 1 := IntWalk.i64_in _ (by omega)
  have w3 : IntKind.i64.wrap ((B + d - 1) * 86400) = (B + d - 1) * 86400 := IntWalk.i64_in _ (by omega)
  have w4 : IntKind.i64.wrap (h * 3600) = h * 3600 := IntWalk.i64_in _ (by omega)
  have w5 : IntKind.i64.wrap ((B + d - 1) * 86400 + h * 3600) = (B + d - 1) * 86400 + h * 3600 := IntWalk.i64_in _ (by omega)
  have w6 : IntKind.i64.wrap (mi * 60) = mi * 60 := IntWalk.i64_in _ (by omega)
  have w7 : IntKind.i64.wrap ((B + d - 1) * 86400 + h * 3600 + mi * 60) = (B + d - 1) * 86400 + h * 3600 + mi * 60 := IntWalk.i64_in _ (by omega)
  have w8 : IntKind.i64.wrap ((B + d - 1) * 86400 + h * 3600 + mi * 60 + F) = (B + d - 1) * 86400 + h * 3600 + mi * 60 + F := IntWalk.i64_in _ (by omega)
  have W1 := Lib.hid w1
  have W2 := Lib.hid w2
  have W3 := Lib.hid w3
  have W4 := Lib.hid w4
  have W5 := Lib.hid w5
  have W6 := Lib.hid w6
  have W7 := Lib.hid w7
  have W8 := Lib.hid w8
  obtain ⟨g1, g2⟩ := f6
  have o1 : FloatKind.f64.format.order s 13965043853221167104 = some .gt ∨ FloatKind.f64.format.order s 13965043853221167104 = some .eq := g1
  have o2 : FloatKind.f64.format.order s 4741671816366391296 = some .lt ∨ FloatKind.f64.format.order s 4741671816366391296 = some .eq := g2
  have hFlH := Lib.hid hFl
  clear w1 w2 w3 w4 w5 w6 w7 w8 g1 g2 hq hm hk hcB hFc hSe hkq hkr b1 b2 hkn hkk hB hS hbm hBd hFl
  unfold timeV
  rcases hd with hd | hd <;> rcases o1 with o1 | o1 <;> rcases o2 with o2 | o2
  all_goals
    go_enter Tryz.func36, Tryz.ntmps36
    go_wp2_with (go_at_call 90; refine (reffits_any _ _).mono ?_; rintro e w' ⟨rfl, rfl⟩)
    have hr0 := heap_alloc_new w (Obj.cells #[.int .i64 y, .int .i64 mo, .int .i64 d, .int .i64 h, .int .i64 mi, .float .f64 s, .int .i64 wd, .int .i64 yd] 24)
    have hb0 := (Below.refl w.heap.size w).alloc (Nat.le_refl _) (Obj.cells #[.int .i64 y, .int .i64 mo, .int .i64 d, .int .i64 h, .int .i64 mi, .float .f64 s, .int .i64 wd, .int .i64 yd] 24)
    generalize w.alloc (Obj.cells #[.int .i64 y, .int .i64 mo, .int .i64 d, .int .i64 h, .int .i64 mi, .float .f64 s, .int .i64 wd, .int .i64 yd] 24) = W0 at hr0 hb0 ⊢
    refine (reffloor_at mo 12 q m HQ.out HM.out (by omega) (by omega) (by have := HB2.out; omega) (by have := HB2.out; omega) _).mono ?_
    rintro e w' ⟨rfl, n1, rfl⟩
    have hr1 := drewN_row hr0 n1
    have hb1 := below_drewN hb0 n1
    generalize W0.drewN n1 = X1 at hr1 hb1 ⊢
    have R1 := Lib.hid hr1
    have B1 := Lib.hid hb1
    clear hr0 hb0 hr1 hb1
    obtain ⟨u0, u1, u2, u3, u4, u5, u6, u7⟩ := row8 R1.out
    obtain ⟨b11, b12⟩ := HB1.out
    go_wp2_with fail
    refine (HKN.out _).mono ?_
    rintro e w' ⟨rfl, rfl⟩
    go_wp2_with fail
    have w1 := W1.out
    have w2 := W2.out
    have w3 := W3.out
    have w4 := W4.out
    have w5 := W5.out
    have w6 := W6.out
    have w7 := W7.out
    have w8 := W8.out
    go_quiet ((first | (go_at_call 52; exact Calls.quiet_of (HB.out _)) | (go_at_call 38; exact Calls.quiet_of_same (HF.out _))))
    clear w1 w2 w3 w4 w5 w6 w7 w8
    go_wp2_with fail
    refine (reffloor_at ((B + d - 1) * 86400 + h * 3600 + mi * 60 + F) 86400 k r (by rw [HS.out]; exact HKQ.out) (by rw [HS.out]; exact HKR.out) (by omega) (by omega) (by omega) (by omega) _).mono ?_
    rintro e w' ⟨rfl, n4, rfl⟩
    go_wp2_with fail
    go_ret2
    refine ⟨rfl, ?_⟩
    first | exact below_drewN B1.out _ | exact below_drewN (below_drewN B1.out _) _
set_option maxRecDepth 100000 in
set_option maxHeartbeats 2000000 in
theorem refJoin_year (y mo d h mi : Int) (s : Nat) (wd yd : Int) (hF : Fits y mo d h mi s) (hk : knownB (y + mo / 12) = false) (w : World) :
    Calls Tryz.prog 36 #[.agg (timeV y mo d h mi s wd yd)] w fun e w' => e = .returned (.tuple #[.int .i64 0, .int .i64 110]) ∧ Below w.heap.size w w' := by
  obtain ⟨f1, f2, f3, f4, f5, f6⟩ := hF
  obtain ⟨s1, s2, s3⟩ := fitS_fin s f6
  obtain ⟨q, hq⟩ : ∃ q, mo / 12 = q := ⟨_, rfl⟩
  obtain ⟨m, hm⟩ : ∃ m, mo % 12 = m := ⟨_, rfl⟩
  rw [hq] at hk
  have hkk : ¬ (-9999 ≤ y + q ∧ y + q ≤ 9999) := by
    intro h2
    rw [knownB_true _ h2] at hk
    cases hk
  have b1 := (fitsB_iff y).1 f1
  have b2 := (fitsB_iff mo).1 f2
  have b3 := (fitsB_iff d).1 f3
  have b4 := (fitsB_iff h).1 f4
  have b5 := (fitsB_iff mi).1 f5
  have HQ := Lib.hid hq
  have HM := Lib.hid hm
  have HB1 := Lib.hid b1
  have HB2 := Lib.hid b2
  have hkn := fun w => refknown_no (y + q) hkk w
  have HKN := Lib.hid hkn
  have hq1 : -100000000 ≤ q := by omega
  have hq2 : q ≤ 100000000 := by omega
  obtain ⟨g1, g2⟩ := f6
  have o1 : FloatKind.f64.format.order s 13965043853221167104 = some .gt ∨ FloatKind.f64.format.order s 13965043853221167104 = some .eq := g1
  have o2 : FloatKind.f64.format.order s 4741671816366391296 = some .lt ∨ FloatKind.f64.format.order s 4741671816366391296 = some .eq := g2
  clear g1 g2 hq hm hk b1 b2 b3 b4 b5 hkn hkk s1 s2 s3
  unfold timeV
  rcases o1 with o1 | o1 <;> rcases o2 with o2 | o2
  all_goals
    go_enter Tryz.func36, Tryz.ntmps36
    go_wp2_with (go_at_call 90; refine (reffits_any _ _).mono ?_; rintro e w' ⟨rfl, rfl⟩)
    have hr0 := heap_alloc_new w (Obj.cells #[.int .i64 y, .int .i64 mo, .int .i64 d, .int .i64 h, .int .i64 mi, .float .f64 s, .int .i64 wd, .int .i64 yd] 24)
    have hb0 := (Below.refl w.heap.size w).alloc (Nat.le_refl _) (Obj.cells #[.int .i64 y, .int .i64 mo, .int .i64 d, .int .i64 h, .int .i64 mi, .float .f64 s, .int .i64 wd, .int .i64 yd] 24)
    generalize w.alloc (Obj.cells #[.int .i64 y, .int .i64 mo, .int .i64 d, .int .i64 h, .int .i64 mi, .float .f64 s, .int .i64 wd, .int .i64 yd] 24) = W0 at hr0 hb0 ⊢
    refine (reffloor_at mo 12 q m HQ.out HM.out (by omega) (by omega) (by have := HB2.out; omega) (by have := HB2.out; omega) _).mono ?_
    rintro e w' ⟨rfl, n1, rfl⟩
    have hr1 := drewN_row hr0 n1
    have hb1 := below_drewN hb0 n1
    generalize W0.drewN n1 = X1 at hr1 hb1 ⊢
    have R1 := Lib.hid hr1
    have B1 := Lib.hid hb1
    clear hr0 hb0 hr1 hb1
    obtain ⟨u0, u1, u2, u3, u4, u5, u6, u7⟩ := row8 R1.out
    obtain ⟨b11, b12⟩ := HB1.out
    go_wp2_with fail
    refine (HKN.out _).mono ?_
    rintro e w' ⟨rfl, rfl⟩
    go_wp2_with fail
    go_ret2
    refine ⟨rfl, ?_⟩
    first | exact B1.out | exact below_drewN B1.out _
set_option maxRecDepth 100000 in
set_option maxHeartbeats 1000000 in
theorem refJoin_u1 (y mo d h mi : Int) (s : Nat) (wd yd : Int)  (f1 : fitsB y = false) (w : World) : Calls Tryz.prog 36 #[.agg (timeV y mo d h mi s wd yd)] w fun e w' => e = .returned (.tuple #[.int .i64 0, .int .i64 110]) ∧ Below w.heap.size w w' := by
  unfold timeV
  go_enter Tryz.func36, Tryz.ntmps36
  go_wp2_with (go_at_call 90; refine (reffits_any _ _).mono ?_; rintro e w' ⟨rfl, rfl⟩)
  go_ret2
  exact ⟨rfl, (Below.refl _ _).alloc (Nat.le_refl _) _⟩
set_option maxRecDepth 100000 in
set_option maxHeartbeats 1000000 in
theorem refJoin_u2 (y mo d h mi : Int) (s : Nat) (wd yd : Int) (f1 : fitsB y = true) (f2 : fitsB mo = false) (w : World) : Calls Tryz.prog 36 #[.agg (timeV y mo d h mi s wd yd)] w fun e w' => e = .returned (.tuple #[.int .i64 0, .int .i64 110]) ∧ Below w.heap.size w w' := by
  unfold timeV
  go_enter Tryz.func36, Tryz.ntmps36
  go_wp2_with (go_at_call 90; refine (reffits_any _ _).mono ?_; rintro e w' ⟨rfl, rfl⟩)
  go_ret2
  exact ⟨rfl, (Below.refl _ _).alloc (Nat.le_refl _) _⟩
set_option maxRecDepth 100000 in
set_option maxHeartbeats 1000000 in
theorem refJoin_u3 (y mo d h mi : Int) (s : Nat) (wd yd : Int) (f1 : fitsB y = true) (f2 : fitsB mo = true) (f3 : fitsB d = false) (w : World) : Calls Tryz.prog 36 #[.agg (timeV y mo d h mi s wd yd)] w fun e w' => e = .returned (.tuple #[.int .i64 0, .int .i64 110]) ∧ Below w.heap.size w w' := by
  unfold timeV
  go_enter Tryz.func36, Tryz.ntmps36
  go_wp2_with (go_at_call 90; refine (reffits_any _ _).mono ?_; rintro e w' ⟨rfl, rfl⟩)
  go_ret2
  exact ⟨rfl, (Below.refl _ _).alloc (Nat.le_refl _) _⟩
set_option maxRecDepth 100000 in
set_option maxHeartbeats 1000000 in
theorem refJoin_u4 (y mo d h mi : Int) (s : Nat) (wd yd : Int) (f1 : fitsB y = true) (f2 : fitsB mo = true) (f3 : fitsB d = true) (f4 : fitsB h = false) (w : World) : Calls Tryz.prog 36 #[.agg (timeV y mo d h mi s wd yd)] w fun e w' => e = .returned (.tuple #[.int .i64 0, .int .i64 110]) ∧ Below w.heap.size w w' := by
  unfold timeV
  go_enter Tryz.func36, Tryz.ntmps36
  go_wp2_with (go_at_call 90; refine (reffits_any _ _).mono ?_; rintro e w' ⟨rfl, rfl⟩)
  go_ret2
  exact ⟨rfl, (Below.refl _ _).alloc (Nat.le_refl _) _⟩
set_option maxRecDepth 100000 in
set_option maxHeartbeats 1000000 in
theorem refJoin_u5 (y mo d h mi : Int) (s : Nat) (wd yd : Int) (f1 : fitsB y = true) (f2 : fitsB mo = true) (f3 : fitsB d = true) (f4 : fitsB h = true) (f5 : fitsB mi = false) (w : World) : Calls Tryz.prog 36 #[.agg (timeV y mo d h mi s wd yd)] w fun e w' => e = .returned (.tuple #[.int .i64 0, .int .i64 110]) ∧ Below w.heap.size w w' := by
  unfold timeV
  go_enter Tryz.func36, Tryz.ntmps36
  go_wp2_with (go_at_call 90; refine (reffits_any _ _).mono ?_; rintro e w' ⟨rfl, rfl⟩)
  go_ret2
  exact ⟨rfl, (Below.refl _ _).alloc (Nat.le_refl _) _⟩
set_option maxRecDepth 100000 in
set_option maxHeartbeats 2000000 in
theorem refJoin_u6 (y mo d h mi : Int) (s : Nat) (wd yd : Int) (f1 : fitsB y = true) (f2 : fitsB mo = true) (f3 : fitsB d = true) (f4 : fitsB h = true) (f5 : fitsB mi = true) (f6 : ¬ fitS s) (w : World) : Calls Tryz.prog 36 #[.agg (timeV y mo d h mi s wd yd)] w fun e w' => e = .returned (.tuple #[.int .i64 0, .int .i64 110]) ∧ Below w.heap.size w w' := by
  unfold timeV
  unfold fitS at f6
  obtain ⟨x1, h1⟩ : ∃ x, Ieee.double.order s 13965043853221167104 = x := ⟨_, rfl⟩
  obtain ⟨x2, h2⟩ : ∃ x, Ieee.double.order s 4741671816366391296 = x := ⟨_, rfl⟩
  rw [h1, h2] at f6
  have o1 : FloatKind.f64.format.order s 13965043853221167104 = x1 := h1
  have o2 : FloatKind.f64.format.order s 4741671816366391296 = x2 := h2
  clear h1 h2
  rcases x1 with _ | _ | _ | _ <;> rcases x2 with _ | _ | _ | _ <;> (try (exfalso; simp at f6; done)) <;> clear f6
  all_goals
    go_enter Tryz.func36, Tryz.ntmps36
    go_wp2_with (go_at_call 90; refine (reffits_any _ _).mono ?_; rintro e w' ⟨rfl, rfl⟩)
    go_ret2
    exact ⟨rfl, (Below.refl _ _).alloc (Nat.le_refl _) _⟩
theorem refJoin_unfit (y mo d h mi : Int) (s : Nat) (wd yd : Int) (hF : ¬ Fits y mo d h mi s) (w : World) : Calls Tryz.prog 36 #[.agg (timeV y mo d h mi s wd yd)] w fun e w' => e = .returned (.tuple #[.int .i64 0, .int .i64 110]) ∧ Below w.heap.size w w' := by
  by_cases f1 : fitsB y = true
  · by_cases f2 : fitsB mo = true
    · by_cases f3 : fitsB d = true
      · by_cases f4 : fitsB h = true
        · by_cases f5 : fitsB mi = true
          · exact refJoin_u6 y mo d h mi s wd yd f1 f2 f3 f4 f5 (fun f6 => hF ⟨f1, f2, f3, f4, f5, f6⟩) w
          · exact refJoin_u5 y mo d h mi s wd yd f1 f2 f3 f4 (by simpa using f5) w
        · exact refJoin_u4 y mo d h mi s wd yd f1 f2 f3 (by simpa using f4) w
      · exact refJoin_u3 y mo d h mi s wd yd f1 f2 (by simpa using f3) w
    · exact refJoin_u2 y mo d h mi s wd yd f1 (by simpa using f2) w
  · exact refJoin_u1 y mo d h mi s wd yd (by simpa using f1) w
end Go.Proofs.YtpjncnoejdaplaaGreatDoor
namespace Go.Proofs.YtpjncnoejdaplaaGreatDoor
open Go Go.RowKit

theorem lift_drew {w w1 : World} (n : Nat) (h : w1 = w.drewN n) : Below w.heap.size w w1 := h ▸ below_drewN (Below.refl _ _) n
theorem lift_same {w w1 : World} (h : w = w1) : Below w.heap.size w w1 := h ▸ Below.refl _ _
/-- The document's answers, in the form that a law takes. -/
theorem rDay_yes (y m d : Int) (h : OkD y m d) (w : World) : Calls Tryz.prog 34 #[.int .i64 y, .int .i64 m, .int .i64 d] w fun e w' => e = .returned (.tuple #[.int .i64 (numI y m d), .int .i64 0]) ∧ Below w.heap.size w w' :=
  (refDay_yes y m d h w).mono fun _ _ ⟨a, n, b⟩ => ⟨a, lift_drew n b⟩
theorem rDay_no (y m d : Int) (h1 : -9223372036854775808 ≤ y) (h2 : y ≤ 9223372036854775807) (h : ¬ OkD y m d) (w : World) : Calls Tryz.prog 34 #[.int .i64 y, .int .i64 m, .int .i64 d] w fun e w' => e = .returned (.tuple #[.int .i64 0, .int .i64 110]) ∧ Below w.heap.size w w' :=
  (refDay_no y m d h1 h2 h w).mono fun _ _ ⟨a, b⟩ => ⟨a, lift_same b⟩
theorem rDate_of (y m d : Int) (h : OkD y m d) (w : World) : Calls Tryz.prog 35 #[.int .i64 (numI y m d)] w fun e w' => e = .returned (.tuple #[.int .i64 y, .int .i64 m, .int .i64 d, .int .i64 0]) ∧ Below w.heap.size w w' :=
  (refDate_of y m d h w).mono fun _ _ ⟨a, n, b⟩ => ⟨a, lift_drew n b⟩
theorem rDate_no (n : Int) (h : n < -4371587 ∨ 2932896 < n) (w : World) : Calls Tryz.prog 35 #[.int .i64 n] w fun e w' => e = .returned (.tuple #[.int .i64 0, .int .i64 0, .int .i64 0, .int .i64 110]) ∧ Below w.heap.size w w' :=
  (refDate_no n h w).mono fun _ _ ⟨a, b⟩ => ⟨a, lift_same b⟩
theorem rLeap (y : Int) (h1 : -9223372036854775808 ≤ y) (h2 : y ≤ 9223372036854775807) (w : World) : Calls Tryz.prog 153 #[.int .i64 y] w fun e w' => e = .returned (.bool (leapB y)) ∧ Below w.heap.size w w' :=
  (refLeap_any y h1 h2 w).mono fun _ _ ⟨a, b⟩ => ⟨a, lift_same b⟩
theorem rLength (y m : Int) (h1 : -9223372036854775808 ≤ y) (h2 : y ≤ 9223372036854775807) (w : World) : Calls Tryz.prog 88 #[.int .i64 y, .int .i64 m] w fun e w' => e = .returned (.int .i64 (lenI y m)) ∧ Below w.heap.size w w' :=
  (refLength_any y m h1 h2 w).mono fun _ _ ⟨a, b⟩ => ⟨a, lift_same b⟩
theorem rWeeks_of (y m d : Int) (h : OkD y m d) (w : World) : Calls Tryz.prog 127 #[.int .i64 (numI y m d)] w fun e w' => e = .returned (.tuple #[.int .i64 (isoI (numI y m d) y), .int .i64 (weekI (numI y m d) (isoI (numI y m d) y)), .int .i64 (sunI (numI y m d) y), .int .i64 (monI (numI y m d) y), .int .i64 0]) ∧ Below w.heap.size w w' :=
  (refWeeks_of y m d h w).mono fun _ _ ⟨a, n, b⟩ => ⟨a, lift_drew n b⟩
theorem rWeeks_no (n : Int) (h : n < -4371587 ∨ 2932896 < n) (w : World) : Calls Tryz.prog 127 #[.int .i64 n] w fun e w' => e = .returned (.tuple #[.int .i64 0, .int .i64 0, .int .i64 0, .int .i64 0, .int .i64 110]) ∧ Below w.heap.size w w' :=
  (refWeeks_no n h w).mono fun _ _ ⟨a, b⟩ => ⟨a, lift_same b⟩

/-- What Day answers, by numbers. -/
theorem both_Day (y m d : Int) (h1 : -9223372036854775808 ≤ y) (h2 : y ≤ 9223372036854775807) : ∃ a e : Int, (∀ w, Calls Tryz.prog 54 #[.int .i64 y, .int .i64 m, .int .i64 d] w fun x w' => x = .returned (.tuple #[.int .i64 a, .int .i64 e]) ∧ Below w.heap.size w w') ∧
    (∀ w, Calls Tryz.prog 34 #[.int .i64 y, .int .i64 m, .int .i64 d] w fun x w' => x = .returned (.tuple #[.int .i64 a, .int .i64 e]) ∧ Below w.heap.size w w') := by
  by_cases h : OkD y m d
  · exact ⟨_, _, Day_yes y m d h, rDay_yes y m d h⟩
  · exact ⟨_, _, Day_no y m d h1 h2 h, rDay_no y m d h1 h2 h⟩
theorem both_Date (n : Int) : ∃ a b c e : Int, (∀ w, Calls Tryz.prog 41 #[.int .i64 n] w fun x w' => x = .returned (.tuple #[.int .i64 a, .int .i64 b, .int .i64 c, .int .i64 e]) ∧ Below w.heap.size w w') ∧
    (∀ w, Calls Tryz.prog 35 #[.int .i64 n] w fun x w' => x = .returned (.tuple #[.int .i64 a, .int .i64 b, .int .i64 c, .int .i64 e]) ∧ Below w.heap.size w w') := by
  by_cases h : n < -4371587 ∨ 2932896 < n
  · exact ⟨_, _, _, _, Date_no n h, rDate_no n h⟩
  · obtain ⟨y, m, d, hD, rfl⟩ := num_ex n (by omega) (by omega)
    exact ⟨_, _, _, _, Date_of y m d hD, rDate_of y m d hD⟩
theorem both_Weeks (n : Int) : ∃ a b c d e : Int, (∀ w, Calls Tryz.prog 55 #[.int .i64 n] w fun x w' => x = .returned (.tuple #[.int .i64 a, .int .i64 b, .int .i64 c, .int .i64 d, .int .i64 e]) ∧ Below w.heap.size w w') ∧
    (∀ w, Calls Tryz.prog 127 #[.int .i64 n] w fun x w' => x = .returned (.tuple #[.int .i64 a, .int .i64 b, .int .i64 c, .int .i64 d, .int .i64 e]) ∧ Below w.heap.size w w') := by
  by_cases h : n < -4371587 ∨ 2932896 < n
  · exact ⟨_, _, _, _, _, Weeks_no n h, rWeeks_no n h⟩
  · obtain ⟨y, m, d, hD, rfl⟩ := num_ex n (by omega) (by omega)
    exact ⟨_, _, _, _, _, Weeks_of y m d hD, rWeeks_of y m d hD⟩

theorem eq_self (s : Nat) (h : szB s ≤ 9218868437227405312) : Ieee.double.order s s = some .eq := by
  rw [order_is s s h h, Int.compare_eq_eq.2 rfl]
theorem both_Split (b : Nat) : ∃ (y m d h i : Int) (s : Nat) (wd yd e : Int), szB s ≤ 9218868437227405312 ∧ (∀ w, Calls Tryz.prog 15 #[.float .f64 b] w fun x w' => x = .returned (.tuple #[.agg (timeV y m d h i s wd yd), .int .i64 e]) ∧ Below w.heap.size w w') ∧
    (∀ w, Calls Tryz.prog 19 #[.float .f64 b] w fun x w' => x = .returned (.tuple #[.agg (timeV y m d h i s wd yd), .int .i64 e]) ∧ Below w.heap.size w w') := by
  rcases Nat.lt_or_ge 9218868437227405312 (szB b) with hn | hn
  · exact ⟨_, _, _, _, _, _, _, _, _, by decide, Split_nan b hn, refSplit_nan b hn⟩
  · by_cases hf : szB b = 9218868437227405312 ∨ flI b < -1000000000000000 ∨ 1000000000000000 < flI b
    · exact ⟨_, _, _, _, _, _, _, _, _, by decide, Split_far b hn hf, refSplit_far b hn hf⟩
    · have h1 : szB b < 9218868437227405312 := by omega
      by_cases hd : flI b / 86400 < -4371587 ∨ 2932896 < flI b / 86400
      · exact ⟨_, _, _, _, _, _, _, _, _, by decide, Split_out b h1 (by omega) (by omega) hd, refSplit_out b h1 (by omega) (by omega) hd⟩
      · obtain ⟨y, m, d, hD, hN⟩ := num_ex (flI b / 86400) (by omega) (by omega)
        exact ⟨_, _, _, _, _, _, _, _, _, (sec_some b (flI b % 86400 % 60) h1 (by omega) (by omega)).2, Split_of b h1 y m d _ hD hN.symm rfl, refSplit_of b h1 y m d _ hD hN.symm rfl⟩
theorem both_Join (y mo d h mi : Int) (s : Nat) (wd yd : Int) : ∃ a e : Int, (∀ w, Calls Tryz.prog 53 #[.agg (timeV y mo d h mi s wd yd)] w fun x w' => x = .returned (.tuple #[.int .i64 a, .int .i64 e]) ∧ Below w.heap.size w w') ∧
    (∀ w, Calls Tryz.prog 36 #[.agg (timeV y mo d h mi s wd yd)] w fun x w' => x = .returned (.tuple #[.int .i64 a, .int .i64 e]) ∧ Below w.heap.size w w') := by
  by_cases hF : Fits y mo d h mi s
  · by_cases hk : knownB (y + mo / 12) = true
    · by_cases hd : secI (y + mo / 12) (mo % 12) d h mi s / 86400 < -4371587 ∨ 2932896 < secI (y + mo / 12) (mo % 12) d h mi s / 86400
      · exact ⟨_, _, Join_out y mo d h mi s wd yd hF hk hd, refJoin_out y mo d h mi s wd yd hF hk hd⟩
      · exact ⟨_, _, Join_of y mo d h mi s wd yd hF hk (by omega) (by omega), refJoin_of y mo d h mi s wd yd hF hk (by omega) (by omega)⟩
    · have hk' : knownB (y + mo / 12) = false := by simpa using hk
      exact ⟨_, _, Join_year y mo d h mi s wd yd hF hk', refJoin_year y mo d h mi s wd yd hF hk'⟩
  · exact ⟨_, _, Join_unfit y mo d h mi s wd yd hF, refJoin_unfit y mo d h mi s wd yd hF⟩

set_option exponentiation.threshold 2000 in
theorem flI_fI (k : Int) (h1 : -9007199254740992 ≤ k) (h2 : k ≤ 9007199254740992) : flI (fI k) = k := by
  unfold flI
  rw [(fI_is k h1 h2).2]
  exact Int.mul_ediv_cancel _ (by omega)
/-- The next day's date. -/
theorem next_same (y m d : Int) (h : OkD y m d) (hd : d < lenI y m) : OkD y m (d + 1) ∧ numI y m (d + 1) = numI y m d + 1 := by
  obtain ⟨a, b, c, e⟩ := h
  exact ⟨⟨a, b, by omega, by omega⟩, by unfold numI; omega⟩
theorem next_month (y m d : Int) (h : OkD y m d) (hd : d = lenI y m) (hm : m < 11) : OkD y (m + 1) 1 ∧ numI y (m + 1) 1 = numI y m d + 1 := by
  obtain ⟨a, ⟨b, b2⟩, c, e⟩ := h
  have hl := lenI_bd y (m + 1) (by omega) (by omega)
  have hs := cumI_succ y m b (by omega)
  exact ⟨⟨a, ⟨by omega, by omega⟩, by omega, by omega⟩, by unfold numI beginI; omega⟩
theorem next_year (y d : Int) (h : OkD y 11 d) (hd : d = lenI y 11) (hy : y < 9999) : OkD (y + 1) 0 1 ∧ numI (y + 1) 0 1 = numI y 11 d + 1 := by
  obtain ⟨a, ⟨b, b2⟩, c, e⟩ := h
  have hl := lenI_bd (y + 1) 0 (by omega) (by omega)
  have hs := cumI_succ y 11 (by omega) (by omega)
  have h12 : cumI y (11 + 1) = yearI y := cumI_12 y
  have hb := begin_succ y
  refine ⟨⟨⟨by omega, by omega⟩, ⟨by omega, by omega⟩, by omega, by omega⟩, ?_⟩
  unfold numI
  rw [hb]
  unfold beginI
  rw [cumI_zero]
  omega
theorem last_day (d : Int) (hd : d = lenI 9999 11) : numI 9999 11 d = 2932896 := by
  subst hd
  decide
theorem day_cases (y m d : Int) (h : OkD y m d) : (∃ y2 m2 d2, OkD y2 m2 d2 ∧ numI y2 m2 d2 = numI y m d + 1 ∧ ((y2 = y ∧ m2 = m ∧ d2 = d + 1) ∨ (d = lenI y m ∧ d2 = 1 ∧ y2 = y ∧ m2 = m + 1) ∨ (d = lenI y m ∧ d2 = 1 ∧ y2 = y + 1 ∧ m = 11 ∧ m2 = 0))) ∨ numI y m d = 2932896 := by
  by_cases h1 : d < lenI y m
  · obtain ⟨a, b⟩ := next_same y m d h h1
    exact .inl ⟨_, _, _, a, b, .inl ⟨rfl, rfl, rfl⟩⟩
  · have h2 : d = lenI y m := by have := h.2.2.2; omega
    by_cases h3 : m < 11
    · obtain ⟨a, b⟩ := next_month y m d h h2 h3
      exact .inl ⟨_, _, _, a, b, .inr (.inl ⟨h2, rfl, rfl, rfl⟩)⟩
    · have h4 : m = 11 := by have := h.2.1.2; omega
      subst h4
      by_cases h5 : y < 9999
      · obtain ⟨a, b⟩ := next_year y d h h2 h5
        exact .inl ⟨_, _, _, a, b, .inr (.inr ⟨h2, rfl, rfl, rfl, rfl⟩)⟩
      · have h6 : y = 9999 := by have := h.1.2; omega
        subst h6
        exact .inr (last_day d h2)
theorem far_day (y m d : Int) (h : OkD y m d) (hn : numI y m d + 146097 ≤ 2932896) : OkD (y + 400) m d ∧ numI (y + 400) m d = numI y m d + 146097 := by
  obtain ⟨⟨a, a2⟩, ⟨b, b2⟩, c, e⟩ := h
  have e1 : lenI (y + 400) m = lenI y m := by
    unfold lenI
    have := leap_cycle 1 y
    rw [show 400 * 1 + y = y + 400 from by omega] at this
    rw [this]
  have e2 : beginI (y + 400) m = beginI y m + 146097 := by
    have h1 := dby_cycle 1 y
    have h2 := leap_cycle 1 y
    rw [show 400 * 1 + y = y + 400 from by omega] at h1 h2
    unfold beginI cumI
    rw [h1, h2]
    omega
  have hy : y + 400 ≤ 9999 := by
    rcases Int.lt_or_le 9999 (y + 400) with h9 | h9
    · have h3 := dby_mono 10000 (y + 400) (by omega)
      have e3 : dby 10000 = 3652425 := by decide
      have h4 := cumI_bd (y + 400) m b b2
      unfold numI at hn
      unfold beginI at e2
      unfold beginI at hn
      omega
    · exact h9
  exact ⟨⟨⟨by omega, hy⟩, ⟨b, b2⟩, c, by rw [e1]; exact e⟩, by unfold numI; rw [e2]; omega⟩
/-! Weeks. -/
theorem iso_in (n y : Int) (h1 : beginI y 0 ≤ n) (h2 : n < beginI y 0 + yearI y) : beginI (isoI n y) 0 ≤ thI n ∧ thI n < beginI (isoI n y) 0 + yearI (isoI n y) := by
  have a := yearI_two y
  have b := begin_succ y
  have c := begin_succ (y - 1)
  rw [show y - 1 + 1 = y from by omega] at c
  have d := yearI_two (y - 1)
  have e := yearI_two (y + 1)
  have ht : thI n = n - (n + 3) % 7 + 3 := rfl
  unfold isoI
  by_cases h3 : thI n < beginI y 0
  · rw [if_pos h3]; omega
  · rw [if_neg h3]
    by_cases h4 : beginI (y + 1) 0 ≤ thI n
    · rw [if_pos h4]; omega
    · rw [if_neg h4]; omega
theorem iso_uniq (t a b : Int) (h1 : beginI a 0 ≤ t) (h2 : t < beginI a 0 + yearI a) (h3 : beginI b 0 ≤ t) (h4 : t < beginI b 0 + yearI b) : a = b := by
  have ea : ∀ x, beginI x 0 = dby x - 719528 := by intro x; unfold beginI; rw [cumI_zero]; omega
  rw [ea] at h1 h2 h3 h4
  have sa := dby_succ a
  have sb := dby_succ b
  rcases Int.lt_trichotomy a b with h | h | h
  · have := dby_mono (a + 1) b (by omega); omega
  · exact h
  · have := dby_mono (b + 1) a (by omega); omega
theorem week_same (n y y2 : Int) (h1 : beginI y 0 ≤ n) (h2 : n < beginI y 0 + yearI y) (h3 : beginI y2 0 ≤ n + 1) (h4 : n + 1 < beginI y2 0 + yearI y2) (hm : (n + 5) % 7 ≠ 1) : isoI (n + 1) y2 = isoI n y ∧ weekI (n + 1) (isoI n y) = weekI n (isoI n y) := by
  have a := iso_in n y h1 h2
  have b := iso_in (n + 1) y2 h3 h4
  have e : thI (n + 1) = thI n := by unfold thI; omega
  rw [e] at b
  exact ⟨iso_uniq _ _ _ b.1 b.2 a.1 a.2, by unfold weekI; rw [e]⟩
theorem week_next (n y y2 : Int) (h1 : beginI y 0 ≤ n) (h2 : n < beginI y 0 + yearI y) (h3 : beginI y2 0 ≤ n + 1) (h4 : n + 1 < beginI y2 0 + yearI y2) (hm : (n + 5) % 7 = 1) :
    (isoI (n + 1) y2 = isoI n y ∧ weekI (n + 1) (isoI n y) = weekI n (isoI n y) + 1) ∨ (isoI (n + 1) y2 = isoI n y + 1 ∧ weekI (n + 1) (isoI n y + 1) = 1 ∧ 52 ≤ weekI n (isoI n y)) := by
  have a := iso_in n y h1 h2
  have b := iso_in (n + 1) y2 h3 h4
  have e : thI (n + 1) = thI n + 7 := by unfold thI; omega
  rw [e] at b
  have yl := yearI_two (isoI n y)
  have bs := begin_succ (isoI n y)
  have yl2 := yearI_two (isoI n y + 1)
  by_cases h : thI n + 7 < beginI (isoI n y) 0 + yearI (isoI n y)
  · left
    exact ⟨iso_uniq _ _ _ b.1 b.2 (by omega) h, by unfold weekI; rw [e]; omega⟩
  · right
    refine ⟨iso_uniq _ _ _ b.1 b.2 (by omega) (by omega), ?_, ?_⟩
    · unfold weekI; rw [e]; omega
    · unfold weekI; omega
/-- A day's beginning, broken down. -/
theorem Split_day (y m d : Int) (h : OkD y m d) (w : World) : ∃ (s : Nat) (yd : Int), Calls Tryz.prog 15 #[.float .f64 (fI (numI y m d * 86400))] w fun e w' => e = .returned (.tuple #[.agg (timeV y m d 0 0 s ((numI y m d + 4) % 7) yd), .int .i64 0]) ∧ Below w.heap.size w w' := by
  have hr := num_range y m d h
  have hf := flI_fI (numI y m d * 86400) (by omega) (by omega)
  have hz := (fI_is (numI y m d * 86400) (by omega) (by omega)).1
  have e := Split_of _ hz y m d 0 h (by rw [hf]; omega) (by rw [hf]; omega) w
  exact ⟨_, _, e⟩

set_option exponentiation.threshold 2000 in
theorem frac_fI (k : Int) (h1 : -9007199254740992 ≤ k) (h2 : k ≤ 9007199254740992) : fracB (fI k) = 0 := by
  obtain ⟨a, b⟩ := fI_is k h1 h2
  obtain ⟨c, d, e, _⟩ := floor_is (fI k) a
  have h := sub_exact (fI k) (floorB (fI k)) 0 a c (by omega) (by omega) (by rw [d, flI_fI k h1 h2, b]; simp) (fun _ => by rw [e]; cases sgB (fI k) <;> rfl)
  unfold fracB
  rw [h]
  rfl
set_option exponentiation.threshold 2000 in
theorem sec_fI (k r : Int) (h1 : -9007199254740992 ≤ k) (h2 : k ≤ 9007199254740992) (h3 : 0 ≤ r) (h4 : r ≤ 9007199254740992) : secB (fI k) r = fI r := by
  obtain ⟨a, b⟩ := fI_is r (by omega) h4
  have z : valB 0 = 0 := by decide
  have h := add_exact (fI r) 0 r a (by decide) (by omega) h4 (by rw [b, z]; omega) (fun h => by rw [show sgB 0 = false from by decide]; cases sgB (fI r) <;> rfl)
  unfold secB
  rw [frac_fI k h1 h2, h]
  rfl
theorem fitS_fI (k : Int) (h1 : 0 ≤ k) (h2 : k < 60) : fitS (fI k) := by
  constructor
  · left
    rw [← c9_low, fI_order k _ (by omega) (by omega) (by omega) (by omega), Int.compare_eq_gt.2 (by omega)]
  · left
    rw [← c9_high, fI_order k _ (by omega) (by omega) (by omega) (by omega), Int.compare_eq_lt.2 (by omega)]
theorem fits_in (n : Int) (h1 : -1000000000 ≤ n) (h2 : n ≤ 1000000000) : fitsB n = true := (fitsB_iff n).2 ⟨h1, h2⟩
/-- A time within its ranges, joined. -/
theorem join_in (y m d h i : Int) (s : Nat) (wd yd : Int) (hD : OkD y m d) (h1 : 0 ≤ h ∧ h ≤ 23) (h2 : 0 ≤ i ∧ i ≤ 59) (hs : fitS s) (hf : 0 ≤ flI s ∧ flI s < 60) (w : World) :
    Calls Tryz.prog 53 #[.agg (timeV y m d h i s wd yd)] w fun e w' => e = .returned (.tuple #[.int .i64 (numI y m d * 86400 + h * 3600 + i * 60 + flI s), .int .i64 0]) ∧ Below w.heap.size w w' := by
  have hr := num_range y m d hD
  have hl := lenI_bd y m hD.2.1.1 hD.2.1.2
  obtain ⟨⟨a1, a2⟩, ⟨b1, b2⟩, c1, c2⟩ := hD
  have e1 : m / 12 = 0 := by omega
  have e2 : m % 12 = m := by omega
  have e3 : secI (y + m / 12) (m % 12) d h i s = numI y m d * 86400 + h * 3600 + i * 60 + flI s := by
    rw [e1, e2]
    unfold secI numI
    rw [Int.add_zero]
  have e := Join_of y m d h i s wd yd ⟨fits_in _ (by omega) (by omega), fits_in _ (by omega) (by omega), fits_in _ (by omega) (by omega), fits_in _ (by omega) (by omega), fits_in _ (by omega) (by omega), hs⟩ (by rw [e1]; exact knownB_true _ (by omega)) (by rw [e3]; omega) (by rw [e3]; omega) w
  rw [e3] at e
  exact e
/-- What Split and then Join make of a whole number of seconds that Split knows. -/
theorem split_int (k : Int) (h1 : -1125899906842624 < k) (h2 : k < 1125899906842624) :
    (∀ w, Calls Tryz.prog 15 #[.float .f64 (fI k)] w fun e w' => e = .returned (.tuple #[.agg (timeV 0 0 0 0 0 0 0 0), .int .i64 110]) ∧ Below w.heap.size w w') ∨
    ∃ (y m d h i : Int) (s : Nat) (wd yd : Int), OkD y m d ∧ (0 ≤ wd ∧ wd ≤ 6) ∧
      (∀ w, Calls Tryz.prog 15 #[.float .f64 (fI k)] w fun e w' => e = .returned (.tuple #[.agg (timeV y m d h i s wd yd), .int .i64 0]) ∧ Below w.heap.size w w') ∧
      (∀ w, Calls Tryz.prog 53 #[.agg (timeV y m d h i s wd yd)] w fun e w' => e = .returned (.tuple #[.int .i64 k, .int .i64 0]) ∧ Below w.heap.size w w') := by
  have hz := (fI_is k (by omega) (by omega)).1
  have hf := flI_fI k (by omega) (by omega)
  by_cases hfar : k < -1000000000000000 ∨ 1000000000000000 < k
  · left
    exact Split_far _ (by omega) (by rw [hf]; exact .inr hfar)
  · by_cases hout : k / 86400 < -4371587 ∨ 2932896 < k / 86400
    · left
      exact Split_out _ hz (by rw [hf]; omega) (by rw [hf]; omega) (by rw [hf]; exact hout)
    · right
      obtain ⟨y, m, d, hD, hN⟩ := num_ex (k / 86400) (by omega) (by omega)
      refine ⟨y, m, d, k % 86400 / 3600, k % 86400 / 60 % 60, fI (k % 86400 % 60), (numI y m d + 4) % 7, numI y m d - beginI y 0, hD, by omega, fun w => ?_, fun w => ?_⟩
      · have e := Split_of (fI k) hz y m d (k % 86400) hD (by rw [hf]; exact hN.symm) (by rw [hf]) w
        rw [sec_fI k (k % 86400 % 60) (by omega) (by omega) (by omega) (by omega)] at e
        exact e
      · have hfl := flI_fI (k % 86400 % 60) (by omega) (by omega)
        have e := join_in y m d (k % 86400 / 3600) (k % 86400 / 60 % 60) (fI (k % 86400 % 60)) ((numI y m d + 4) % 7) (numI y m d - beginI y 0) hD (by omega) (by omega) (fitS_fI _ (by omega) (by omega)) (by rw [hfl]; omega) w
        rw [hfl, show numI y m d * 86400 + k % 86400 / 3600 * 3600 + k % 86400 / 60 % 60 * 60 + k % 86400 % 60 = k from by omega] at e
        exact e
theorem c_sixty : fI 60 = 4633641066610819072 := by decide +kernel
theorem c_nought : fI 0 = 0 := by decide +kernel
set_option exponentiation.threshold 2000 in
/-- Seconds from 0 to below 60, without a fraction. -/
theorem sec_in (s : Nat) (g1 : Ieee.double.order s 0 = some .gt ∨ Ieee.double.order s 0 = some .eq) (g2 : Ieee.double.order s 4633641066610819072 = some .lt) : szB s < 9218868437227405312 ∧ fitS s ∧ 0 ≤ flI s ∧ flI s < 60 := by
  rcases Nat.lt_trichotomy (szB s) 9218868437227405312 with hf | hf | hf
  · obtain ⟨a1, a2⟩ := fI_is 0 (by omega) (by omega)
    obtain ⟨b1, b2⟩ := fI_is 60 (by omega) (by omega)
    obtain ⟨p1, p2⟩ := fI_is (-1000000000) (by omega) (by omega)
    obtain ⟨q1, q2⟩ := fI_is 1000000000 (by omega) (by omega)
    rw [← c_nought, val_order _ _ hf a1, a2] at g1
    rw [← c_sixty, val_order _ _ hf b1, b2] at g2
    have p : (0 : Int) < (2 : Int) ^ 1074 := Int.pow_pos (by omega)
    have l1 : 0 ≤ valB s := by
      rcases g1 with h | h
      · have := Int.compare_eq_gt.1 (Option.some.inj h); omega
      · have := Int.compare_eq_eq.1 (Option.some.inj h); omega
    have l2 : valB s < 60 * 2 ^ 1074 := Int.compare_eq_lt.1 (Option.some.inj g2)
    have m1 : -1000000000 * (2 : Int) ^ 1074 < 0 := by rw [Int.neg_mul]; have := Int.mul_pos (by omega : (0 : Int) < 1000000000) p; omega
    have m2 : 60 * (2 : Int) ^ 1074 < 1000000000 * 2 ^ 1074 := Int.mul_lt_mul_of_pos_right (by omega) p
    refine ⟨hf, ⟨.inl ?_, .inl ?_⟩, ?_, ?_⟩
    · rw [← c9_low, val_order _ _ hf p1, p2, Int.compare_eq_gt.2 (by omega)]
    · rw [← c9_high, val_order _ _ hf q1, q2, Int.compare_eq_lt.2 (by omega)]
    · unfold flI; exact Int.ediv_nonneg l1 (by omega)
    · unfold flI; exact Int.ediv_lt_of_lt_mul p l2
  · have e1 := top_cmp s 0 hf (by omega) (by omega)
    have e2 := top_cmp s 60 hf (by omega) (by omega)
    rw [c_nought] at e1
    rw [c_sixty] at e2
    rw [e1] at g1
    rw [e2] at g2
    exfalso
    cases hg : sgB s <;> simp [hg] at g1 g2
  · have e1 := nan_order s 0 (.inl hf)
    rw [e1] at g1
    simp at g1
set_option exponentiation.threshold 2000 in
theorem sec_eq (s : Nat) (hf : szB s < 9218868437227405312) (h0 : 0 ≤ flI s ∧ flI s < 60) (g : Ieee.double.order s (floorB s) = some .eq) : Ieee.double.order (fI (flI s)) s = some .eq := by
  obtain ⟨a1, a2⟩ := fI_is (flI s) (by omega) (by omega)
  obtain ⟨b1, b2, _, _⟩ := floor_is s hf
  rw [val_order _ _ hf b1] at g
  have e := Int.compare_eq_eq.1 (Option.some.inj g)
  rw [val_order _ _ a1 hf, a2, e, b2, Int.compare_eq_eq.2 rfl]
end Go.Proofs.YtpjncnoejdaplaaGreatDoor
