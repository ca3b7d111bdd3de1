/- ClockBack: its walk. -/
import Derived.Test.YtebekdgoabhekaaGreatDoorLAZ
import Derived.Test.YtebekdgoabhekaaGreatDoorLAX
import Derived.LoopTactic
import Derived.BigQuiet
import Derived.Deep.RegionLaw
namespace Go.Proofs.YtebekdgoabhekaaGreatDoor
open Go Go.RowKit Go.Shelf

def backL : List ByteArray := [F1, F2, F3, F4, F5, F6]
theorem backs_back {y m d a : Int} {c q M D h i s : Nat} (S : Sec y m d a c q M D h i s) : ∀ f ∈ backL, parseS (timeT (mkMom y m d a) f) f.data.toList = some a := by
  intro f hf
  simp only [backL, List.mem_cons, List.not_mem_nil, or_false] at hf
  rcases hf with rfl | rfl | rfl | rfl | rfl | rfl
  · exact back1 S
  · exact back2 S
  · exact back3 S
  · exact back4 S
  · exact back5 S
  · exact back6 S
theorem semA_len (m : Mom) (hm : MomOK m) (c : Nat) (t : List UInt8) (h : semA m c = some t) : t.length ≤ 10000 := by
  unfold semA at h
  cases e : formOf c with
  | none =>
    rw [e] at h
    exact Nat.le_trans (semP_len m hm c t h) (by omega)
  | some g =>
    rw [e] at h
    obtain rfl := Option.some.inj h
    obtain ⟨k1, k2, _⟩ := form_flat c g e
    refine Nat.le_trans (fmtT_len2 _ (semP_len m hm) _) ?_
    have : g.data.toList.length = g.size := by simp
    omega
theorem backs_size : ∀ f ∈ backL, f.size ≤ 100 := by decide
/-- What is written by one of these is read again. -/
theorem Parse_back (y m d a : Int) (hD : OkD y m d) (hN : numI y m d = a / 86400) (hk : knownS a) (hy : 1000 ≤ y) (f : ByteArray) (hf : f ∈ backL) (t : List UInt8) (ht : timeT (mkMom y m d a) f = t) (eb : Addr) (w : World) (hG : GlobW w eb) :
    Calls Tryz.prog 12 #[.string ⟨t.toArray⟩, .string f] w fun e w' => e = .returned (.tuple #[.agg (tmI y m d a), .int .i64 0]) ∧ Below w.heap.size w w' := by
  obtain ⟨c, q, M, D, h, i, s, S⟩ := sec_of y m d a hD hN hk hy
  have hb := backs_back S f hf
  have hs := backs_size f hf
  have hl : t.length ≤ 10000 * 100 := by
    rw [← ht]
    refine Nat.le_trans (fmtT_len (semA (mkMom y m d a)) (semA_len (mkMom y m d a) (mkMom_ok y m d a hD hN.symm)) f.data.toList) (Nat.mul_le_mul_left _ ?_)
    simpa using hs
  rw [ht] at hb
  refine (Parse_any ⟨t.toArray⟩ f (by show t.toArray.size ≤ _; simp; omega) (by omega) eb w hG.err hG.size).mono ?_
  rintro e w' ⟨h1, hb'⟩
  rw [show (ByteArray.mk t.toArray).data.toList = t from by simp, hb] at h1
  obtain ⟨_, y', m', d', hD', hN', rfl⟩ := h1
  obtain ⟨rfl, rfl, rfl⟩ := num_inj y m d y' m' d' hD hD' (by rw [hN, hN'])
  exact ⟨rfl, hb'⟩
theorem Format_back (y m d a : Int) (hD : OkD y m d) (hN : numI y m d = a / 86400) (f : ByteArray) (hf : f ∈ backL) (t : List UInt8) (ht : timeT (mkMom y m d a) f = t) (eb : Addr) (w : World) (hG : GlobW w eb) :
    Calls Tryz.prog 8 #[.agg (tmI y m d a), .string f] w fun e w' => e = .returned (.tuple #[.string ⟨t.toArray⟩, .int .i64 0]) ∧ Below w.heap.size w w' := by
  have hs := backs_size f hf
  have h := Format_at y m d a ((numI y m d + 4) % 7) (numI y m d - beginI y 0) hD hN f (by omega) eb w hG
  rw [ht] at h
  exact h
/-- What the law makes of a day and a second. -/
theorem u64_86400 (n : Int) : ∃ r, (IntKind.u64.wrap n).tmod 86400 = r ∧ 0 ≤ r ∧ r < 86400 := by
  have h : 0 ≤ IntKind.u64.wrap n := by
    unfold IntKind.wrap
    have e : IntKind.u64.bits = 64 := rfl
    have e2 : IntKind.u64.signed = false := rfl
    simp only [e, e2]
    simp
    omega
  rw [Int.tmod_eq_emod_of_nonneg h]
  exact ⟨_, rfl, by omega, by omega⟩
theorem back_cell {w : World} {g : Nat} (h : w.heap[g]? = some (.cells #[.string ⟨#[37, 89, 45, 37, 109, 45, 37, 100, 32, 37, 72, 58, 37, 77, 58, 37, 83]⟩, .string ⟨#[37, 99]⟩, .string ⟨#[37, 115]⟩, .string ⟨#[37, 100, 47, 37, 98, 47, 37, 89, 32, 37, 73, 58, 37, 77, 58, 37, 83, 37, 112, 32, 37, 122]⟩, .string ⟨#[37, 106, 32, 37, 89, 32, 37, 84]⟩, .string ⟨#[37, 67, 37, 121, 37, 109, 37, 100, 84, 37, 72, 37, 77, 37, 83]⟩] 9 (0, 0))) (j : Nat) (hj : j < 6) (f : ByteArray) (hf : backL[j]'(by show j < 6; omega) = f) : w.cell? ⟨g, j, none⟩ = some (.string f) := by
  subst hf
  have e : w.cell? ⟨g, j, none⟩ = (backL.map Value.string).toArray[j]? := by
    unfold World.cell?
    rw [h]
    rfl
  rw [e]
  have h6 : j < backL.length := hj
  simp [h6]
set_option maxRecDepth 100000 in
set_option maxHeartbeats 4000000 in
theorem clockBack_true (day second : Int) (eb : Addr) (w : World) (hG : GlobW w eb) : Calls Tryz.prog 5 #[.int .i64 day, .int .i64 second] w fun e w' => e = .returned (.bool true) ∧ Below w.heap.size w w' := by
  have hsf := run_store_float Tryz.prog
  have hci := conv_int
  obtain ⟨hb1, hb2⟩ := tmod_bd day 2932897 (by omega)
  obtain ⟨r, hr, hr0, hr1⟩ := u64_86400 second
  have HG := Lib.hid (fun W (hW : Below w.heap.size w W) => hG.below hW)
  clear hG
  obtain ⟨z, hz⟩ : ∃ z, day.tmod 2932897 = z := ⟨_, rfl⟩
  rw [hz] at hb1 hb2
  obtain ⟨k, hk⟩ : ∃ k : Int, (if z < -354285 then -z else z) = k := ⟨_, rfl⟩
  have hkb : -354285 ≤ k ∧ k < 2932897 := by rw [← hk]; split <;> omega
  obtain ⟨a, ha⟩ : ∃ a, 86400 * k + r = a := ⟨_, rfl⟩
  obtain ⟨y, m, d, hD, hN⟩ := num_ex (a / 86400) (by omega) (by omega)
  have hkn : knownS a := ⟨by omega, by omega⟩
  have HS := Lib.hid (fun w => split_at a hkn y m d hD hN w)
  have HT := Lib.hid (fun w hG => heads_true eb w hG)
  have HP := Lib.hid (fun hy f hf t ht w hG => Parse_back y m d a hD hN hkn hy f hf t ht eb w hG)
  have HF := Lib.hid (fun f hf t ht w hG => Format_back y m d a hD hN f hf t ht eb w hG)
  have HM := Lib.hid (fun w => same_any y m d (a % 86400 / 3600) (a % 86400 / 60 % 60) (fI (a % 86400 % 60)) ((numI y m d + 4) % 7) (numI y m d - beginI y 0) w)
  have hyr : y ≤ 9999 := hD.1.2
  unfold tmI timeV at HS HP HF
  unfold timeV at HM
  obtain ⟨h, e1⟩ : ∃ h, a % 86400 / 3600 = h := ⟨_, rfl⟩
  obtain ⟨i, e2⟩ : ∃ h, a % 86400 / 60 % 60 = h := ⟨_, rfl⟩
  obtain ⟨s, e3⟩ : ∃ h, fI (a % 86400 % 60) = h := ⟨_, rfl⟩
  obtain ⟨wd, e4⟩ : ∃ h, (numI y m d + 4) % 7 = h := ⟨_, rfl⟩
  obtain ⟨yd, e5⟩ : ∃ h, numI y m d - beginI y 0 = h := ⟨_, rfl⟩
  rw [e1, e2, e3, e4, e5] at HS HM
  simp only [e1, e2, e3, e4, e5] at HP HF
  clear e1 e2 e3 e4 e5 hkn hD hN
  by_cases hlt : z < -354285

  · rw [if_pos hlt] at hk
    subst hk
    have ha1 : -378691200000 ≤ a := by omega
    have ha2 : a ≤ 253402300800 := by omega
    go_enter Tryz.func5, Tryz.ntmps5
    go_wp2_with fail
    refine (HS.out _).mono ?_
    rintro e w1 ⟨rfl, hb⟩
    have hh := ((HW.start w).below hb).one #[.int .i64 y, .int .i64 m, .int .i64 d, .int .i64 h, .int .i64 i, .float .f64 s, .int .i64 wd, .int .i64 yd] 24
    clear hb HS
    go_upto_region 7 with fail
    obtain ⟨g1, hg1⟩ : ∃ g, w1.heap.size = g := ⟨_, rfl⟩
    rw [hg1] at hh ⊢
    generalize w1.alloc (.cells #[.int .i64 y, .int .i64 m, .int .i64 d, .int .i64 h, .int .i64 i, .float .f64 s, .int .i64 wd, .int .i64 yd] 24) = X1 at hh ⊢
    have H := Lib.hid hh
    clear hh hg1
    obtain ⟨t0, t1, t2, t3, t4, t5, t6, t7⟩ := row8p (H.out.rows _ (.head _))
    go_wp2_with fail
    refine (lnum_any _ _).mono ?_
    rintro e w2 ⟨rfl, rfl⟩
    by_cases hy : y < 1000
    · go_wp2_with fail
      refine (lnum_any _ _).mono ?_
      rintro e w2 ⟨rfl, rfl⟩
      go_wp2_with fail
      refine (HT.out _ (HG.out _ H.out.bel)).mono ?_
      rintro e w4 ⟨rfl, hb⟩
      have HF := Lib.hid (H.out.bel.trans (hb.mono H.out.bel.size))
      clear hb H t0 t1 t2 t3 t4 t5 t6 t7
      go_wp2_with fail
      go_ret
      exact ⟨rfl, HF.out⟩
    · go_wp2_with fail
      have hh := H.out.one #[.string ⟨#[37, 89, 45, 37, 109, 45, 37, 100, 32, 37, 72, 58, 37, 77, 58, 37, 83]⟩, .string ⟨#[37, 99]⟩, .string ⟨#[37, 115]⟩, .string ⟨#[37, 100, 47, 37, 98, 47, 37, 89, 32, 37, 73, 58, 37, 77, 58, 37, 83, 37, 112, 32, 37, 122]⟩, .string ⟨#[37, 106, 32, 37, 89, 32, 37, 84]⟩, .string ⟨#[37, 67, 37, 121, 37, 109, 37, 100, 84, 37, 72, 37, 77, 37, 83]⟩] 9
      clear H t0 t1 t2 t3 t4 t5 t6 t7
      obtain ⟨g2, hg2⟩ : ∃ g, X1.heap.size = g := ⟨_, rfl⟩
      rw [hg2] at hh ⊢
      generalize X1.alloc (.cells #[.string ⟨#[37, 89, 45, 37, 109, 45, 37, 100, 32, 37, 72, 58, 37, 77, 58, 37, 83]⟩, .string ⟨#[37, 99]⟩, .string ⟨#[37, 115]⟩, .string ⟨#[37, 100, 47, 37, 98, 47, 37, 89, 32, 37, 73, 58, 37, 77, 58, 37, 83, 37, 112, 32, 37, 122]⟩, .string ⟨#[37, 106, 32, 37, 89, 32, 37, 84]⟩, .string ⟨#[37, 67, 37, 121, 37, 109, 37, 100, 84, 37, 72, 37, 77, 37, 83]⟩] 9) = X2 at hh ⊢
      have H := Lib.hid hh
      clear hh hg2
      go_loopw [9] (fun I W => ∃ j : Nat, I = .int .i64 j ∧ j ≤ 6 ∧ HW w W [(g2, #[.string ⟨#[37, 89, 45, 37, 109, 45, 37, 100, 32, 37, 72, 58, 37, 77, 58, 37, 83]⟩, .string ⟨#[37, 99]⟩, .string ⟨#[37, 115]⟩, .string ⟨#[37, 100, 47, 37, 98, 47, 37, 89, 32, 37, 73, 58, 37, 77, 58, 37, 83, 37, 112, 32, 37, 122]⟩, .string ⟨#[37, 106, 32, 37, 89, 32, 37, 84]⟩, .string ⟨#[37, 67, 37, 121, 37, 109, 37, 100, 84, 37, 72, 37, 77, 37, 83]⟩], 9), (g1, #[.int .i64 y, .int .i64 m, .int .i64 d, .int .i64 h, .int .i64 i, .float .f64 s, .int .i64 wd, .int .i64 yd], 24)]) (fun I _ => 6 - (intOf I).toNat)
      case atStart => exact ⟨0, rfl, Nat.zero_le _, H.out⟩
      case round =>
        obtain ⟨j, rfl, hj, hI⟩ := hrel
        clear H
        have H := Lib.hid hI
        clear hI
        by_cases hj6 : j < 6
        · obtain ⟨f, hf⟩ : ∃ f, backL[j]'(by show j < 6; omega) = f := ⟨_, rfl⟩
          have hfm : f ∈ backL := by rw [← hf]; exact List.getElem_mem _
          obtain ⟨t, ht⟩ : ∃ t, timeT (mkMom y m d a) f = t := ⟨_, rfl⟩
          have HF1 := Lib.hid (HF.out f hfm t ht)
          have HP1 := Lib.hid (HP.out (by omega) f hfm t ht)
          have hc : wr.cell? ⟨g2, j, none⟩ = some (.string f) := back_cell (H.out.rows _ (.head _)) j hj6 f hf
          have hcd : wr.drew.cell? ⟨g2, j, none⟩ = some (.string f) := hc
          have HJ := Lib.hid hf
          clear hf hfm ht
          obtain ⟨t0, t1, t2, t3, t4, t5, t6, t7⟩ := row8p ((H.out.below (Below.refl _ wr).drew).rows _ (.tail _ (.head _)))
          go_upto_region 13 with fail
          go_region_law ((go_simp; go_at_call 8; refine (HF1.out wr.drew (HG.out _ (H.out.below (Below.refl _ wr).drew).bel)).mono ?_; rintro e w3 ⟨rfl, hb⟩; have HBB := Lib.hid hb; clear hb))
          all_goals
            have hh := (H.out.below (Below.refl _ wr).drew).below HBB.out
            clear HBB H t0 t1 t2 t3 t4 t5 t6 t7 hc hcd
            have H := Lib.hid hh
            clear hh
            have hc : w3.cell? ⟨g2, j, none⟩ = some (.string f) := back_cell (H.out.rows _ (.head _)) j hj6 f HJ.out
            go_wp2_with fail
            refine (HP1.out _ (HG.out _ H.out.bel)).mono ?_
            rintro e w4 ⟨rfl, hb⟩
            have hh := (H.out.below hb).one #[.int .i64 y, .int .i64 m, .int .i64 d, .int .i64 h, .int .i64 i, .float .f64 s, .int .i64 wd, .int .i64 yd] 24
            clear hb H hc
            go_upto_region 15 with fail
            obtain ⟨g4, hg4⟩ : ∃ g, w4.heap.size = g := ⟨_, rfl⟩
            rw [hg4] at hh ⊢
            generalize w4.alloc (.cells #[.int .i64 y, .int .i64 m, .int .i64 d, .int .i64 h, .int .i64 i, .float .f64 s, .int .i64 wd, .int .i64 yd] 24) = X4 at hh ⊢
            have H := Lib.hid hh
            clear hh hg4
            obtain ⟨t0, t1, t2, t3, t4, t5, t6, t7⟩ := row8p (H.out.rows _ (.head _))
            obtain ⟨u0, u1, u2, u3, u4, u5, u6, u7⟩ := row8p (H.out.rows _ (.tail _ (.tail _ (.head _))))
            go_wp2_with fail
            refine (lnum_any _ _).mono ?_
            rintro e w5 ⟨rfl, rfl⟩
            go_wp2_with fail
            refine (lnum_any _ _).mono ?_
            rintro e w5 ⟨rfl, rfl⟩
            go_wp2_with fail
            refine (HM.out _).mono ?_
            rintro e w5 ⟨rfl, hb⟩
            have hh := H.out.below hb
            clear hb H t0 t1 t2 t3 t4 t5 t6 t7 u0 u1 u2 u3 u4 u5 u6 u7
            have H := Lib.hid hh
            clear hh
            go_wp2_with fail
            go_roundw
            · exact ⟨j + 1, by go_num, by omega, ⟨fun x hx => H.out.rows x (.tail _ hx), H.out.bel⟩⟩
            · simp only [Go.RowKit.intOf]; omega
        · go_wp2_with fail
          refine (HT.out _ (HG.out _ H.out.bel)).mono ?_
          rintro e w4 ⟨rfl, hb⟩
          have HF := Lib.hid (H.out.bel.trans (hb.mono H.out.bel.size))
          clear hb H
          go_wp2_with fail
          go_ret
          exact ⟨rfl, HF.out⟩
  · rw [if_neg hlt] at hk
    subst hk
    have ha1 : -378691200000 ≤ a := by omega
    have ha2 : a ≤ 253402300800 := by omega
    go_enter Tryz.func5, Tryz.ntmps5
    go_wp2_with fail
    refine (HS.out _).mono ?_
    rintro e w1 ⟨rfl, hb⟩
    have hh := ((HW.start w).below hb).one #[.int .i64 y, .int .i64 m, .int .i64 d, .int .i64 h, .int .i64 i, .float .f64 s, .int .i64 wd, .int .i64 yd] 24
    clear hb HS
    go_upto_region 7 with fail
    obtain ⟨g1, hg1⟩ : ∃ g, w1.heap.size = g := ⟨_, rfl⟩
    rw [hg1] at hh ⊢
    generalize w1.alloc (.cells #[.int .i64 y, .int .i64 m, .int .i64 d, .int .i64 h, .int .i64 i, .float .f64 s, .int .i64 wd, .int .i64 yd] 24) = X1 at hh ⊢
    have H := Lib.hid hh
    clear hh hg1
    obtain ⟨t0, t1, t2, t3, t4, t5, t6, t7⟩ := row8p (H.out.rows _ (.head _))
    go_wp2_with fail
    refine (lnum_any _ _).mono ?_
    rintro e w2 ⟨rfl, rfl⟩
    by_cases hy : y < 1000
    · go_wp2_with fail
      refine (lnum_any _ _).mono ?_
      rintro e w2 ⟨rfl, rfl⟩
      go_wp2_with fail
      refine (HT.out _ (HG.out _ H.out.bel)).mono ?_
      rintro e w4 ⟨rfl, hb⟩
      have HF := Lib.hid (H.out.bel.trans (hb.mono H.out.bel.size))
      clear hb H t0 t1 t2 t3 t4 t5 t6 t7
      go_wp2_with fail
      go_ret
      exact ⟨rfl, HF.out⟩
    · go_wp2_with fail
      have hh := H.out.one #[.string ⟨#[37, 89, 45, 37, 109, 45, 37, 100, 32, 37, 72, 58, 37, 77, 58, 37, 83]⟩, .string ⟨#[37, 99]⟩, .string ⟨#[37, 115]⟩, .string ⟨#[37, 100, 47, 37, 98, 47, 37, 89, 32, 37, 73, 58, 37, 77, 58, 37, 83, 37, 112, 32, 37, 122]⟩, .string ⟨#[37, 106, 32, 37, 89, 32, 37, 84]⟩, .string ⟨#[37, 67, 37, 121, 37, 109, 37, 100, 84, 37, 72, 37, 77, 37, 83]⟩] 9
      clear H t0 t1 t2 t3 t4 t5 t6 t7
      obtain ⟨g2, hg2⟩ : ∃ g, X1.heap.size = g := ⟨_, rfl⟩
      rw [hg2] at hh ⊢
      generalize X1.alloc (.cells #[.string ⟨#[37, 89, 45, 37, 109, 45, 37, 100, 32, 37, 72, 58, 37, 77, 58, 37, 83]⟩, .string ⟨#[37, 99]⟩, .string ⟨#[37, 115]⟩, .string ⟨#[37, 100, 47, 37, 98, 47, 37, 89, 32, 37, 73, 58, 37, 77, 58, 37, 83, 37, 112, 32, 37, 122]⟩, .string ⟨#[37, 106, 32, 37, 89, 32, 37, 84]⟩, .string ⟨#[37, 67, 37, 121, 37, 109, 37, 100, 84, 37, 72, 37, 77, 37, 83]⟩] 9) = X2 at hh ⊢
      have H := Lib.hid hh
      clear hh hg2
      go_loopw [9] (fun I W => ∃ j : Nat, I = .int .i64 j ∧ j ≤ 6 ∧ HW w W [(g2, #[.string ⟨#[37, 89, 45, 37, 109, 45, 37, 100, 32, 37, 72, 58, 37, 77, 58, 37, 83]⟩, .string ⟨#[37, 99]⟩, .string ⟨#[37, 115]⟩, .string ⟨#[37, 100, 47, 37, 98, 47, 37, 89, 32, 37, 73, 58, 37, 77, 58, 37, 83, 37, 112, 32, 37, 122]⟩, .string ⟨#[37, 106, 32, 37, 89, 32, 37, 84]⟩, .string ⟨#[37, 67, 37, 121, 37, 109, 37, 100, 84, 37, 72, 37, 77, 37, 83]⟩], 9), (g1, #[.int .i64 y, .int .i64 m, .int .i64 d, .int .i64 h, .int .i64 i, .float .f64 s, .int .i64 wd, .int .i64 yd], 24)]) (fun I _ => 6 - (intOf I).toNat)
      case atStart => exact ⟨0, rfl, Nat.zero_le _, H.out⟩
      case round =>
        obtain ⟨j, rfl, hj, hI⟩ := hrel
        clear H
        have H := Lib.hid hI
        clear hI
        by_cases hj6 : j < 6
        · obtain ⟨f, hf⟩ : ∃ f, backL[j]'(by show j < 6; omega) = f := ⟨_, rfl⟩
          have hfm : f ∈ backL := by rw [← hf]; exact List.getElem_mem _
          obtain ⟨t, ht⟩ : ∃ t, timeT (mkMom y m d a) f = t := ⟨_, rfl⟩
          have HF1 := Lib.hid (HF.out f hfm t ht)
          have HP1 := Lib.hid (HP.out (by omega) f hfm t ht)
          have hc : wr.cell? ⟨g2, j, none⟩ = some (.string f) := back_cell (H.out.rows _ (.head _)) j hj6 f hf
          have hcd : wr.drew.cell? ⟨g2, j, none⟩ = some (.string f) := hc
          have HJ := Lib.hid hf
          clear hf hfm ht
          obtain ⟨t0, t1, t2, t3, t4, t5, t6, t7⟩ := row8p ((H.out.below (Below.refl _ wr).drew).rows _ (.tail _ (.head _)))
          go_upto_region 13 with fail
          go_region_law ((go_simp; go_at_call 8; refine (HF1.out wr.drew (HG.out _ (H.out.below (Below.refl _ wr).drew).bel)).mono ?_; rintro e w3 ⟨rfl, hb⟩; have HBB := Lib.hid hb; clear hb))
          all_goals
            have hh := (H.out.below (Below.refl _ wr).drew).below HBB.out
            clear HBB H t0 t1 t2 t3 t4 t5 t6 t7 hc hcd
            have H := Lib.hid hh
            clear hh
            have hc : w3.cell? ⟨g2, j, none⟩ = some (.string f) := back_cell (H.out.rows _ (.head _)) j hj6 f HJ.out
            go_wp2_with fail
            refine (HP1.out _ (HG.out _ H.out.bel)).mono ?_
            rintro e w4 ⟨rfl, hb⟩
            have hh := (H.out.below hb).one #[.int .i64 y, .int .i64 m, .int .i64 d, .int .i64 h, .int .i64 i, .float .f64 s, .int .i64 wd, .int .i64 yd] 24
            clear hb H hc
            go_upto_region 15 with fail
            obtain ⟨g4, hg4⟩ : ∃ g, w4.heap.size = g := ⟨_, rfl⟩
            rw [hg4] at hh ⊢
            generalize w4.alloc (.cells #[.int .i64 y, .int .i64 m, .int .i64 d, .int .i64 h, .int .i64 i, .float .f64 s, .int .i64 wd, .int .i64 yd] 24) = X4 at hh ⊢
            have H := Lib.hid hh
            clear hh hg4
            obtain ⟨t0, t1, t2, t3, t4, t5, t6, t7⟩ := row8p (H.out.rows _ (.head _))
            obtain ⟨u0, u1, u2, u3, u4, u5, u6, u7⟩ := row8p (H.out.rows _ (.tail _ (.tail _ (.head _))))
            go_wp2_with fail
            refine (lnum_any _ _).mono ?_
            rintro e w5 ⟨rfl, rfl⟩
            go_wp2_with fail
            refine (lnum_any _ _).mono ?_
            rintro e w5 ⟨rfl, rfl⟩
            go_wp2_with fail
            refine (HM.out _).mono ?_
            rintro e w5 ⟨rfl, hb⟩
            have hh := H.out.below hb
            clear hb H t0 t1 t2 t3 t4 t5 t6 t7 u0 u1 u2 u3 u4 u5 u6 u7
            have H := Lib.hid hh
            clear hh
            go_wp2_with fail
            go_roundw
            · exact ⟨j + 1, by go_num, by omega, ⟨fun x hx => H.out.rows x (.tail _ hx), H.out.bel⟩⟩
            · simp only [Go.RowKit.intOf]; omega
        · go_wp2_with fail
          refine (HT.out _ (HG.out _ H.out.bel)).mono ?_
          rintro e w4 ⟨rfl, hb⟩
          have HF := Lib.hid (H.out.bel.trans (hb.mono H.out.bel.size))
          clear hb H
          go_wp2_with fail
          go_ret
          exact ⟨rfl, HF.out⟩
end Go.Proofs.YtebekdgoabhekaaGreatDoor
