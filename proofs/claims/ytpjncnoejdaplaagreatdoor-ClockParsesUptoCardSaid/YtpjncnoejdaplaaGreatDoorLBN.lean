/- ClockParses: Parse, program and document, of any text and format. -/
import Derived.Test.YtpjncnoejdaplaaGreatDoorLBM
import Derived.Test.YtpjncnoejdaplaaGreatDoorLAZ
import Derived.Test.YtpjncnoejdaplaaGreatDoorLAX
namespace Go.Proofs.YtpjncnoejdaplaaGreatDoor
open Go Go.RowKit Go.Shelf

/-- Parse, of both: the same time and error. -/
theorem parse_both (s f : ByteArray) (hs : s.size ≤ 1048576) (hf : f.size ≤ 1048576) (eb : Addr) : ∃ (y m d h i : Int) (t : Nat) (wd yd c : Int),
    (∀ w, GlobW w eb → Calls Tryz.prog 12 #[.string s, .string f] w fun e w' => e = .returned (.tuple #[.agg (timeV y m d h i t wd yd), .int .i64 c]) ∧ Below w.heap.size w w') ∧
    (∀ w, Calls Tryz.prog 13 #[.string s, .string f] w fun e w' => e = .returned (.tuple #[.agg (timeV y m d h i t wd yd), .int .i64 c]) ∧ Below w.heap.size w w') := by
  cases ho : parseS s.data.toList f.data.toList with
  | none =>
    refine ⟨0, 0, 0, 0, 0, 0, 0, 0, 110, fun w hG => ?_, fun w => ?_⟩
    · refine (Parse_any s f (by omega) hf eb w hG.err hG.size).mono fun e w' h => ?_
      rw [ho] at h
      exact h
    · refine (rParse_any s f (by omega) (by omega) w).mono fun e w' h => ?_
      rw [ho] at h
      exact h
  | some a =>
    by_cases hk : knownS a
    · obtain ⟨y, m, d, hD, hN⟩ := num_ex (a / 86400) hk.1 hk.2
      refine ⟨y, m, d, a % 86400 / 3600, a % 86400 / 60 % 60, fI (a % 86400 % 60), (numI y m d + 4) % 7, numI y m d - beginI y 0, 0, fun w hG => ?_, fun w => ?_⟩
      · refine (Parse_any s f (by omega) hf eb w hG.err hG.size).mono fun e w' h => ?_
        rw [ho] at h
        obtain ⟨⟨_, y', m', d', hD', hN', he⟩, hb⟩ := h
        obtain ⟨rfl, rfl, rfl⟩ := num_inj y m d y' m' d' hD hD' (by rw [hN, hN'])
        exact ⟨he, hb⟩
      · refine (rParse_any s f (by omega) (by omega) w).mono fun e w' h => ?_
        rw [ho] at h
        obtain ⟨⟨_, y', m', d', hD', hN', he⟩, hb⟩ := h
        obtain ⟨rfl, rfl, rfl⟩ := num_inj y m d y' m' d' hD hD' (by rw [hN, hN'])
        exact ⟨he, hb⟩
    · refine ⟨0, 0, 0, 0, 0, 0, 0, 0, 110, fun w hG => ?_, fun w => ?_⟩
      · refine (Parse_any s f (by omega) hf eb w hG.err hG.size).mono fun e w' h => ?_
        rw [ho] at h
        exact absurd h.1.1 hk
      · refine (rParse_any s f (by omega) (by omega) w).mono fun e w' h => ?_
        rw [ho] at h
        exact absurd h.1.1 hk
set_option maxRecDepth 100000 in
set_option maxHeartbeats 4000000 in
theorem clockParses_true (s f : ByteArray) (hs : s.size ≤ 1048576) (hf : f.size ≤ 1048576) (eb : Addr) (w : World) (hG : GlobW w eb) : Calls Tryz.prog 4 #[.string s, .string f] w fun e w' => e = .returned (.bool true) ∧ Below w.heap.size w w' := by
  have hsf := run_store_float Tryz.prog
  obtain ⟨y, m, d, h, i, t, wd, yd, c, hF, rF⟩ := parse_both s f hs hf eb
  have HF := Lib.hid hF
  have RF := Lib.hid rF
  have HM := Lib.hid (fun w => same_any y m d h i t wd yd w)
  have HT := Lib.hid (fun w hG => heads_true eb w hG)
  have HG := Lib.hid (fun W (hW : Below w.heap.size w W) => hG.below hW)
  have HG0 := Lib.hid hG
  clear hF rF hG hf hs
  unfold timeV at HF RF HM
  go_enter Tryz.func4, Tryz.ntmps4
  go_wp2_with fail
  refine (HF.out _ HG0.out).mono ?_
  rintro e w1 ⟨rfl, hb⟩
  have hh := ((HW.start w).below hb).one #[.int .i64 y, .int .i64 m, .int .i64 d, .int .i64 h, .int .i64 i, .float .f64 t, .int .i64 wd, .int .i64 yd] 24
  have H1 := Lib.hid hh
  clear hh hb
  go_wp2_with fail
  refine (RF.out _).mono ?_
  rintro e w2 ⟨rfl, hb⟩
  have hh := (H1.out.below hb).one #[.int .i64 y, .int .i64 m, .int .i64 d, .int .i64 h, .int .i64 i, .float .f64 t, .int .i64 wd, .int .i64 yd] 24
  have H2 := Lib.hid hh
  clear hh hb H1
  go_upto_region 3 with fail
  obtain ⟨X, hX⟩ : ∃ X, w2.alloc (.cells #[.int .i64 y, .int .i64 m, .int .i64 d, .int .i64 h, .int .i64 i, .float .f64 t, .int .i64 wd, .int .i64 yd] 24) = X := ⟨_, rfl⟩
  rw [hX] at H2 ⊢
  clear hX
  obtain ⟨t0, t1, t2, t3, t4, t5, t6, t7⟩ := row8p (H2.out.rows _ (.head _))
  obtain ⟨s0, s1, s2, s3, s4, s5, s6, s7⟩ := row8p (H2.out.rows _ (.tail _ (.head _)))
  go_wp2_with fail
  refine (HM.out _).mono ?_
  rintro e w3 ⟨rfl, hb⟩
  have H3 := Lib.hid (H2.out.below hb)
  clear hb H2 t0 t1 t2 t3 t4 t5 t6 t7 s0 s1 s2 s3 s4 s5 s6 s7
  go_wp2_with fail
  refine (lnum_any _ _).mono ?_
  rintro e w4 ⟨rfl, rfl⟩
  go_wp2_with fail
  refine (HT.out _ (HG.out _ H3.out.bel)).mono ?_
  rintro e w5 ⟨rfl, hb⟩
  have HB := Lib.hid (H3.out.below hb).bel
  clear hb H3
  go_wp2_with fail
  go_ret
  exact ⟨rfl, HB.out⟩
end Go.Proofs.YtpjncnoejdaplaaGreatDoor
