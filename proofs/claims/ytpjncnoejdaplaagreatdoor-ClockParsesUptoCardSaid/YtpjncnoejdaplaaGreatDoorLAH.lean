/- Reading a text: pieces, names, bytes. -/
import Derived.Test.YtpjncnoejdaplaaGreatDoorLAF
import Derived.Deep.RegionLaw
import Derived.Deep.RegionWith
import Derived.StillTailTactics
import Derived.Test.YtpjncnoejdaplaaGreatDoorLAD
namespace Go.Proofs.YtpjncnoejdaplaaGreatDoor
open Go Go.RowKit Go.Shelf

theorem trim_is (l p : List UInt8) : Lib.trimPrefix l p = if Lib.hasPrefix l p = true then l.drop p.length else l := rfl
theorem cutS_left (p : List UInt8) (st : St) : (cutS p st).getD st = leftS st (Lib.trimPrefix st.left p) ∧ (cutS p st).isSome = Lib.hasPrefix st.left p := by
  unfold cutS
  rw [trim_is]
  by_cases h : Lib.hasPrefix st.left p = true
  · rw [if_pos h, if_pos h, h]
    exact ⟨rfl, rfl⟩
  · rw [if_neg h, if_neg h]
    have h2 : Lib.hasPrefix st.left p = false := by simpa using h
    rw [h2]
    exact ⟨rfl, rfl⟩
set_option maxRecDepth 100000 in
theorem cut_any (p : ByteArray) (rb : Nat) (st : St) (w : World) (h : RdAt w rb st) :
    Calls Tryz.prog 165 #[.pointer (some ⟨rb, 0, none⟩), .string p] w fun e w' => e = .returned (.bool (cutS p.data.toList st).isSome) ∧ RdAt w' rb ((cutS p.data.toList st).getD st) ∧ w.grownBy w' (some rb) := by
  have hc := h.cell0
  have hi := h.ice0
  have HR := Lib.hid h
  have HQ := Lib.hid (cutS_left p.data.toList st)
  obtain ⟨s, hs⟩ : ∃ s : ByteArray, (⟨st.left.toArray⟩ : ByteArray) = s := ⟨_, rfl⟩
  have HLS : Hid (s.data.toList = st.left) := Lib.hid (by rw [← hs])
  rw [hs] at hc
  clear h hs
  go_enter Tryz.func165, Tryz.ntmps165
  go_wp2_with fail
  refine (Tryz.strings_CutPrefix s p _).mono ?_
  rintro e w' ⟨rfl, hw⟩
  subst hw
  rw [HLS.out]
  go_wp2_with fail
  go_ret
  refine ⟨ret_boolK HQ.out.2.symm, ?_, grown_set _ _ _ _⟩
  rw [HQ.out.1]
  exact HR.out.setLeft _
theorem cutName_none (nm : List UInt8) (st : St) (h : ¬ (nm.length ≤ st.left.length ∧ (st.left.take nm.length).map (caseB false) = nm.map (caseB false))) : cutName nm st = none := if_neg h
theorem cutName_some (nm : List UInt8) (st : St) (h : nm.length ≤ st.left.length ∧ (st.left.take nm.length).map (caseB false) = nm.map (caseB false)) : cutName nm st = some (leftS st (st.left.drop nm.length)) := if_pos h
theorem ba_take2 (s : ByteArray) (n : Nat) : (s.extract 0 n).data.toList = s.data.toList.take n := by simp
theorem grown_of_below {w w' : World} {r : Option Nat} (h : Below w.heap.size w w') : w.grownBy w' r := ⟨h.os, h.tape, h.output, h.size, fun k hk _ => h.block k hk⟩
theorem _root_.Go.World.grownBy.andThenSet {w w' : World} {rb : Nat} (h : w.grownBy w' (some rb)) (i : Nat) (v : Value) : w.grownBy (w'.setCell ⟨rb, i, none⟩ v) (some rb) := Lib.grownBy_setB h i v
theorem RdAt.below {w w' : World} {rb : Nat} {st : St} (h : RdAt w rb st) (hb : Below w.heap.size w w') : RdAt w' rb st := (hb.block rb h.lt).trans h
theorem ba_drop2 (l : List UInt8) (n : Nat) : (⟨l.toArray⟩ : ByteArray).extract n l.length = ⟨(l.drop n).toArray⟩ := by
  have h := ba_drop ⟨l.toArray⟩ n
  have e : (⟨l.toArray⟩ : ByteArray).size = l.length := by simp [ByteArray.size]
  rw [e] at h
  exact h
set_option maxRecDepth 100000 in
set_option maxHeartbeats 1000000 in
theorem cutName_any (nm : ByteArray) (hn : nm.size ≤ 1000) (rb : Nat) (st : St) (hl : st.left.length ≤ 70368744177664) (w : World) (h : RdAt w rb st) :
    Calls Tryz.prog 185 #[.pointer (some ⟨rb, 0, none⟩), .string nm] w fun e w' => e = .returned (.bool (cutName nm.data.toList st).isSome) ∧ RdAt w' rb ((cutName nm.data.toList st).getD st) ∧ w.grownBy w' (some rb) := by
  have hc := h.cell0
  have HR := Lib.hid h
  obtain ⟨s, hs⟩ : ∃ s : ByteArray, (⟨st.left.toArray⟩ : ByteArray) = s := ⟨_, rfl⟩
  have HLS : Hid (s.data.toList = st.left) := Lib.hid (by rw [← hs])
  have HX : Hid (s.data.toList.length = s.size ∧ nm.data.toList.length = nm.size) := Lib.hid ⟨by simp, by simp⟩
  have hz : s.size ≤ 70368744177664 := by rw [← hs]; simpa [ByteArray.size] using hl
  rw [hs] at hc
  clear h hs hl
  by_cases h1 : s.size < nm.size
  · have HN := Lib.hid (cutName_none nm.data.toList st (fun h => by have := h.1; rw [← HLS.out, HX.out.1, HX.out.2] at this; omega))
    go_enter Tryz.func185, Tryz.ntmps185
    go_wp2_with fail
    go_ret
    rw [HN.out]
    exact ⟨rfl, HR.out, World.grownBy.refl _ _⟩
  · have h2 : nm.size ≤ s.size := by omega
    clear h1
    go_enter Tryz.func185, Tryz.ntmps185
    go_wp2_with fail
    refine (Case_down (s.extract 0 nm.size) (by simp; omega) _).mono ?_
    rintro e w1 ⟨rfl, hb1⟩
    have HB1 := Lib.hid hb1
    clear hb1
    rw [ba_take2, HLS.out]
    go_wp2_with fail
    refine (Case_down nm (by omega) _).mono ?_
    rintro e w2 ⟨rfl, hb2⟩
    have HB2 := Lib.hid (HB1.out.trans (hb2.mono HB1.out.size))
    have HR2 := Lib.hid (HR.out.below HB2.out)
    clear hb2 HB1 hc
    have hc2 := HR2.out.cell0
    have hi2 := HR2.out.ice0
    by_cases h5 : (st.left.map (caseB false)).take nm.size = nm.data.toList.map (caseB false)
    · have h6 : ((st.left.map (caseB false)).take nm.size == nm.data.toList.map (caseB false)) = true := by rw [beq_iff_eq]; exact h5
      have HN := Lib.hid (cutName_some nm.data.toList st ⟨by rw [← HLS.out, HX.out.1, HX.out.2]; exact h2, by rw [HX.out.2, List.map_take]; exact h5⟩)
      have hll : nm.size ≤ st.left.length := by rw [← HLS.out, HX.out.1]; exact h2
      clear h5
      go_wp2_with fail
      go_ret
      rw [HN.out, ba_drop2, HX.out.2]
      exact ⟨rfl, HR2.out.setLeft _, (grown_of_below HB2.out).andThenSet _ _⟩
    · have h6 : ((st.left.map (caseB false)).take nm.size == nm.data.toList.map (caseB false)) = false := by rw [beq_eq_false_iff_ne]; exact h5
      have HN := Lib.hid (cutName_none nm.data.toList st (fun h => h5 (by have := h.2; rw [HX.out.2, List.map_take] at this; exact this)))
      clear h5
      go_wp2_with fail
      go_ret
      rw [HN.out]
      exact ⟨rfl, HR2.out, grown_of_below HB2.out⟩
set_option maxRecDepth 100000 in
theorem literal_any (c : UInt8) (rb : Nat) (st : St) (hl : st.left.length ≤ 70368744177664) (w : World) (h : RdAt w rb st) :
    Calls Tryz.prog 134 #[.pointer (some ⟨rb, 0, none⟩), .int .u8 c.toNat] w fun e w' => e = .returned (.bool (literalS c st).isSome) ∧ RdAt w' rb ((literalS c st).getD st) ∧ w.grownBy w' (some rb) := by
  have HR := Lib.hid h
  have HS := Lib.hid (skip_any 82 blankB blank_any (enters_of Tryz.func82 (by kernel_rfl) rfl) rb st hl w h)
  have hc := h.cell0
  have hi := h.ice0
  by_cases hb : blankB c = true
  · have HB : Hid (literalS c st = some (skipS blankB st)) := Lib.hid (if_pos hb)
    clear h
    go_enter Tryz.func134, Tryz.ntmps134
    go_wp2_with fail
    refine (blank_any c _).mono ?_
    rw [hb]
    rintro e w' ⟨rfl, rfl⟩
    go_wp2_with fail
    refine HS.out.mono ?_
    rintro e w' ⟨rfl, hr, hg⟩
    have H1 := Lib.hid hr
    have H2 := Lib.hid hg
    clear hr hg
    go_wp2_with fail
    go_ret
    rw [HB.out]
    exact ⟨rfl, H1.out, H2.out⟩
  · have hbf : blankB c = false := by simpa using hb
    cases hle : st.left with
    | nil =>
      have HB : Hid (literalS c st = none) := Lib.hid (by unfold literalS; rw [if_neg hb, hle])
      rw [hle] at hc
      clear h hb hle
      go_enter Tryz.func134, Tryz.ntmps134
      go_wp2_with fail
      refine (blank_any c _).mono ?_
      rw [hbf]
      rintro e w' ⟨rfl, rfl⟩
      go_wp2_with fail
      go_ret
      rw [HB.out]
      exact ⟨rfl, HR.out, World.grownBy.refl _ _⟩
    | cons d r =>
      obtain ⟨s, hs⟩ : ∃ s : ByteArray, (⟨st.left.toArray⟩ : ByteArray) = s := ⟨_, rfl⟩
      have hls : s.data.toList = d :: r := by rw [← hs]; exact hle
      have hz : 0 < s.size := by
        have : s.data.toList.length = s.size := by simp
        rw [hls] at this
        simp at this
        omega
      have hz2 : s.size ≤ 70368744177664 := by rw [← hs]; simpa [ByteArray.size] using hl
      have hs0 : s[0] = d := by
        have h1 : s.data.toList[0]'(by rw [hls]; simp) = d := by simp [hls]
        exact h1
      have hem : s.toList.isEmpty = false := by rw [ByteArray.toList_eq, hls]; rfl
      have HLS := Lib.hid hls
      rw [hs] at hc
      by_cases hd : d = c
      · subst hd
        have HB : Hid (literalS d st = some (leftS st r)) := Lib.hid (by unfold literalS; rw [if_neg hb, hle]; exact if_pos rfl)
        clear h hb hle hs hls
        go_enter Tryz.func134, Tryz.ntmps134
        go_wp2_with fail
        refine (blank_any d _).mono ?_
        rw [hbf]
        rintro e w' ⟨rfl, rfl⟩
        go_wp2_with fail
        go_ret
        rw [HB.out, ba_drop, HLS.out]
        exact ⟨rfl, HR.out.setLeft _, grown_set _ _ _ _⟩
      · have HB : Hid (literalS c st = none) := Lib.hid (by unfold literalS; rw [if_neg hb, hle]; exact if_neg hd)
        have hn : ((d.toNat : Int) != (c.toNat : Int)) = true := by
          rw [bne_iff_ne]
          intro e
          exact hd (UInt8.toNat_inj.1 (by omega))
        clear h hb hle hd hs hls
        go_enter Tryz.func134, Tryz.ntmps134
        go_wp2_with fail
        refine (blank_any c _).mono ?_
        rw [hbf]
        rintro e w' ⟨rfl, rfl⟩
        go_wp2_with fail
        go_ret
        rw [HB.out]
        exact ⟨rfl, HR.out, World.grownBy.refl _ _⟩
end Go.Proofs.YtpjncnoejdaplaaGreatDoor
namespace Go.Proofs.YtpjncnoejdaplaaGreatDoor
open Go Go.RowKit

set_option maxHeartbeats 400000 in
theorem prgLeap_any (y : Int) (_hy1 : -9223372036854775808 ≤ y) (_hy2 : y ≤ 9223372036854775807) (w : World) : Calls Tryz.prog 156 #[.int .i64 y] w fun e w' => e = .returned (.bool (leapB y)) ∧ w = w' := by
  rw [leapB_t]
  go_enter Tryz.func156, Tryz.ntmps156
  go_wp2_with fail
  all_goals (go_ret; exact ⟨by simp [*], rfl⟩)
/-- One element of a small array of numbers. -/
theorem und12 : Tryz.prog.underlying 177 = some (.array 12 3) := by kernel_rfl
theorem und5 : Tryz.prog.underlying 178 = some (.array 5 3) := by kernel_rfl
theorem index_12 (cs : Array Value) (i : Nat) (x : Int) (hi : i < 12) (hx : cs[i]? = some (.int .i64 x)) (w : World) : (Instr.index 177 (.agg cs) (.int .i64 i)).run Tryz.prog w = .ok (.int .i64 x) w := by
  have h1 : (0 : Int) ≤ (i : Int) ∧ (i : Int) < ((12 : Nat) : Int) := by omega
  simp [Instr.index, run_underlying und12, asIntOf, part, h1, hi, hx, go_sem]
theorem index_5 (cs : Array Value) (i : Nat) (x : Int) (hi : i < 5) (hx : cs[i]? = some (.int .i64 x)) (w : World) : (Instr.index 178 (.agg cs) (.int .i64 i)).run Tryz.prog w = .ok (.int .i64 x) w := by
  have h1 : (0 : Int) ≤ (i : Int) ∧ (i : Int) < ((5 : Nat) : Int) := by omega
  simp [Instr.index, run_underlying und5, asIntOf, part, h1, hi, hx, go_sem]
set_option maxHeartbeats 2000000 in
theorem prgLength_any (y m : Int) (hy1 : -9223372036854775808 ≤ y) (hy2 : y ≤ 9223372036854775807) (w : World) : Calls Tryz.prog 96 #[.int .i64 y, .int .i64 m] w fun e w' => e = .returned (.int .i64 (lenI y m)) ∧ w = w' := by
  by_cases hm : 0 ≤ m ∧ m ≤ 11
  · rcases month_cases m hm.1 hm.2 with h | h | h | h | h | h | h | h | h | h | h | h <;> subst h <;> clear hm
    · have hx : ∀ w, (Instr.index 177 (.agg #[.int .i64 31, .int .i64 28, .int .i64 31, .int .i64 30, .int .i64 31, .int .i64 30, .int .i64 31, .int .i64 31, .int .i64 30, .int .i64 31, .int .i64 30, .int .i64 31]) (.int .i64 0)).run Tryz.prog w = .ok (.int .i64 31) w := index_12 _ 0 31 (by omega) rfl
      go_enter Tryz.func96, Tryz.ntmps96
      go_wp2_with (go_at_call 156; refine (prgLeap_any y hy1 hy2 _).mono ?_; rintro e w' ⟨rfl, rfl⟩)
      all_goals (go_ret; exact ⟨by simp [lenI, *], rfl⟩)
    · have hx : ∀ w, (Instr.index 177 (.agg #[.int .i64 31, .int .i64 28, .int .i64 31, .int .i64 30, .int .i64 31, .int .i64 30, .int .i64 31, .int .i64 31, .int .i64 30, .int .i64 31, .int .i64 30, .int .i64 31]) (.int .i64 1)).run Tryz.prog w = .ok (.int .i64 28) w := index_12 _ 1 28 (by omega) rfl
      go_enter Tryz.func96, Tryz.ntmps96
      go_wp2_with (go_at_call 156; refine (prgLeap_any y hy1 hy2 _).mono ?_; rintro e w' ⟨rfl, rfl⟩)
      all_goals (go_ret; exact ⟨by simp [lenI, *], rfl⟩)
    · have hx : ∀ w, (Instr.index 177 (.agg #[.int .i64 31, .int .i64 28, .int .i64 31, .int .i64 30, .int .i64 31, .int .i64 30, .int .i64 31, .int .i64 31, .int .i64 30, .int .i64 31, .int .i64 30, .int .i64 31]) (.int .i64 2)).run Tryz.prog w = .ok (.int .i64 31) w := index_12 _ 2 31 (by omega) rfl
      go_enter Tryz.func96, Tryz.ntmps96
      go_wp2_with (go_at_call 156; refine (prgLeap_any y hy1 hy2 _).mono ?_; rintro e w' ⟨rfl, rfl⟩)
      all_goals (go_ret; exact ⟨by simp [lenI, *], rfl⟩)
    · have hx : ∀ w, (Instr.index 177 (.agg #[.int .i64 31, .int .i64 28, .int .i64 31, .int .i64 30, .int .i64 31, .int .i64 30, .int .i64 31, .int .i64 31, .int .i64 30, .int .i64 31, .int .i64 30, .int .i64 31]) (.int .i64 3)).run Tryz.prog w = .ok (.int .i64 30) w := index_12 _ 3 30 (by omega) rfl
      go_enter Tryz.func96, Tryz.ntmps96
      go_wp2_with (go_at_call 156; refine (prgLeap_any y hy1 hy2 _).mono ?_; rintro e w' ⟨rfl, rfl⟩)
      all_goals (go_ret; exact ⟨by simp [lenI, *], rfl⟩)
    · have hx : ∀ w, (Instr.index 177 (.agg #[.int .i64 31, .int .i64 28, .int .i64 31, .int .i64 30, .int .i64 31, .int .i64 30, .int .i64 31, .int .i64 31, .int .i64 30, .int .i64 31, .int .i64 30, .int .i64 31]) (.int .i64 4)).run Tryz.prog w = .ok (.int .i64 31) w := index_12 _ 4 31 (by omega) rfl
      go_enter Tryz.func96, Tryz.ntmps96
      go_wp2_with (go_at_call 156; refine (prgLeap_any y hy1 hy2 _).mono ?_; rintro e w' ⟨rfl, rfl⟩)
      all_goals (go_ret; exact ⟨by simp [lenI, *], rfl⟩)
    · have hx : ∀ w, (Instr.index 177 (.agg #[.int .i64 31, .int .i64 28, .int .i64 31, .int .i64 30, .int .i64 31, .int .i64 30, .int .i64 31, .int .i64 31, .int .i64 30, .int .i64 31, .int .i64 30, .int .i64 31]) (.int .i64 5)).run Tryz.prog w = .ok (.int .i64 30) w := index_12 _ 5 30 (by omega) rfl
      go_enter Tryz.func96, Tryz.ntmps96
      go_wp2_with (go_at_call 156; refine (prgLeap_any y hy1 hy2 _).mono ?_; rintro e w' ⟨rfl, rfl⟩)
      all_goals (go_ret; exact ⟨by simp [lenI, *], rfl⟩)
    · have hx : ∀ w, (Instr.index 177 (.agg #[.int .i64 31, .int .i64 28, .int .i64 31, .int .i64 30, .int .i64 31, .int .i64 30, .int .i64 31, .int .i64 31, .int .i64 30, .int .i64 31, .int .i64 30, .int .i64 31]) (.int .i64 6)).run Tryz.prog w = .ok (.int .i64 31) w := index_12 _ 6 31 (by omega) rfl
      go_enter Tryz.func96, Tryz.ntmps96
      go_wp2_with (go_at_call 156; refine (prgLeap_any y hy1 hy2 _).mono ?_; rintro e w' ⟨rfl, rfl⟩)
      all_goals (go_ret; exact ⟨by simp [lenI, *], rfl⟩)
    · have hx : ∀ w, (Instr.index 177 (.agg #[.int .i64 31, .int .i64 28, .int .i64 31, .int .i64 30, .int .i64 31, .int .i64 30, .int .i64 31, .int .i64 31, .int .i64 30, .int .i64 31, .int .i64 30, .int .i64 31]) (.int .i64 7)).run Tryz.prog w = .ok (.int .i64 31) w := index_12 _ 7 31 (by omega) rfl
      go_enter Tryz.func96, Tryz.ntmps96
      go_wp2_with (go_at_call 156; refine (prgLeap_any y hy1 hy2 _).mono ?_; rintro e w' ⟨rfl, rfl⟩)
      all_goals (go_ret; exact ⟨by simp [lenI, *], rfl⟩)
    · have hx : ∀ w, (Instr.index 177 (.agg #[.int .i64 31, .int .i64 28, .int .i64 31, .int .i64 30, .int .i64 31, .int .i64 30, .int .i64 31, .int .i64 31, .int .i64 30, .int .i64 31, .int .i64 30, .int .i64 31]) (.int .i64 8)).run Tryz.prog w = .ok (.int .i64 30) w := index_12 _ 8 30 (by omega) rfl
      go_enter Tryz.func96, Tryz.ntmps96
      go_wp2_with (go_at_call 156; refine (prgLeap_any y hy1 hy2 _).mono ?_; rintro e w' ⟨rfl, rfl⟩)
      all_goals (go_ret; exact ⟨by simp [lenI, *], rfl⟩)
    · have hx : ∀ w, (Instr.index 177 (.agg #[.int .i64 31, .int .i64 28, .int .i64 31, .int .i64 30, .int .i64 31, .int .i64 30, .int .i64 31, .int .i64 31, .int .i64 30, .int .i64 31, .int .i64 30, .int .i64 31]) (.int .i64 9)).run Tryz.prog w = .ok (.int .i64 31) w := index_12 _ 9 31 (by omega) rfl
      go_enter Tryz.func96, Tryz.ntmps96
      go_wp2_with (go_at_call 156; refine (prgLeap_any y hy1 hy2 _).mono ?_; rintro e w' ⟨rfl, rfl⟩)
      all_goals (go_ret; exact ⟨by simp [lenI, *], rfl⟩)
    · have hx : ∀ w, (Instr.index 177 (.agg #[.int .i64 31, .int .i64 28, .int .i64 31, .int .i64 30, .int .i64 31, .int .i64 30, .int .i64 31, .int .i64 31, .int .i64 30, .int .i64 31, .int .i64 30, .int .i64 31]) (.int .i64 10)).run Tryz.prog w = .ok (.int .i64 30) w := index_12 _ 10 30 (by omega) rfl
      go_enter Tryz.func96, Tryz.ntmps96
      go_wp2_with (go_at_call 156; refine (prgLeap_any y hy1 hy2 _).mono ?_; rintro e w' ⟨rfl, rfl⟩)
      all_goals (go_ret; exact ⟨by simp [lenI, *], rfl⟩)
    · have hx : ∀ w, (Instr.index 177 (.agg #[.int .i64 31, .int .i64 28, .int .i64 31, .int .i64 30, .int .i64 31, .int .i64 30, .int .i64 31, .int .i64 31, .int .i64 30, .int .i64 31, .int .i64 30, .int .i64 31]) (.int .i64 11)).run Tryz.prog w = .ok (.int .i64 31) w := index_12 _ 11 31 (by omega) rfl
      go_enter Tryz.func96, Tryz.ntmps96
      go_wp2_with (go_at_call 156; refine (prgLeap_any y hy1 hy2 _).mono ?_; rintro e w' ⟨rfl, rfl⟩)
      all_goals (go_ret; exact ⟨by simp [lenI, *], rfl⟩)
  · have e := lenI_no y m (by omega)
    rw [e]
    clear e
    by_cases h : m < 0
    · clear hm
      go_enter Tryz.func96, Tryz.ntmps96
      go_wp2_with fail
      go_ret
      exact ⟨rfl, rfl⟩
    · have h2 : 11 < m := by omega
      have h3 : decide (m < 0) = false := by simpa using h
      clear hm
      go_enter Tryz.func96, Tryz.ntmps96
      go_wp2_with fail
      go_ret
      exact ⟨rfl, rfl⟩
set_option maxHeartbeats 400000 in
theorem prgdivided_any (n k : Int) (hk : 0 < k) (hk2 : k ≤ 1000000) (h1 : -9000000000000000000 ≤ n) (h2 : n ≤ 9000000000000000000) (w : World) : Calls Tryz.prog 40 #[.int .i64 n, .int .i64 k] w fun e w' => e = .returned (.tuple #[.int .i64 (n / k), .int .i64 (n % k)]) ∧ ∃ m, w' = w.drewN m := by
  have hp := floor_parts n k hk
  have hb := tdiv_bd n k 9000000000000000000 hk h1 h2 (by omega)
  have hm1 : n.tmod k < k := Int.tmod_lt_of_pos n hk
  have hm2 : -k < n.tmod k := by
    have := Int.tmod_lt_of_pos (-n) hk
    rw [Int.neg_tmod] at this
    omega
  obtain ⟨hb1, hb2⟩ := hb
  by_cases hneg : n.tmod k < 0
  · obtain ⟨e1, e2⟩ := hp.1 hneg
    rw [← e1, ← e2]
    clear e1 e2 hp
    go_enter Tryz.func40, Tryz.ntmps40
    go_wp2_with fail
    go_quiet (fail)
    go_wp2_with fail
    go_ret2
    exact ⟨rfl, _, rfl⟩
  · obtain ⟨e1, e2⟩ := hp.2 (by omega)
    rw [← e1, ← e2]
    clear e1 e2 hp
    go_enter Tryz.func40, Tryz.ntmps40
    go_wp2_with fail
    go_quiet (fail)
    go_wp2_with fail
    go_ret2
    exact ⟨rfl, _, rfl⟩
theorem prgdivided_at (n k q r : Int) (hq : n / k = q) (hr : n % k = r) (hk : 0 < k) (hk2 : k ≤ 1000000) (h1 : -9000000000000000000 ≤ n) (h2 : n ≤ 9000000000000000000) (w : World) : Calls Tryz.prog 40 #[.int .i64 n, .int .i64 k] w fun e w' => e = .returned (.tuple #[.int .i64 q, .int .i64 r]) ∧ ∃ m, w' = w.drewN m := by
  subst hq; subst hr
  exact prgdivided_any n k hk hk2 h1 h2 w
theorem prgyearBegin_any (y : Int) (h1 : -1000000 ≤ y) (h2 : y ≤ 1000000) (w : World) : Calls Tryz.prog 97 #[.int .i64 y] w fun e w' => e = .returned (.int .i64 (beginI y 0)) ∧ ∃ n, w' = w.drewN n := by
  obtain ⟨a, ha⟩ : ∃ a, (y - 1) / 4 = a := ⟨_, rfl⟩
  obtain ⟨b, hb⟩ : ∃ b, (y - 1) / 100 = b := ⟨_, rfl⟩
  obtain ⟨c, hc⟩ : ∃ c, (y - 1) / 400 = c := ⟨_, rfl⟩
  have hB : beginI y 0 = -719162 + 365 * (y - 1) + a - b + c := by
    unfold beginI dby
    rw [cumI_zero]
    omega
  rw [hB]
  have a1 : -1000001 ≤ a := by omega
  have a2 : a ≤ 1000000 := by omega
  have b1 : -1000001 ≤ b := by omega
  have b2 : b ≤ 1000000 := by omega
  have c1 : -1000001 ≤ c := by omega
  have c2 : c ≤ 1000000 := by omega
  have HA := Lib.hid ha
  have HB := Lib.hid hb
  have HC := Lib.hid hc
  clear ha hb hc hB
  go_enter Tryz.func97, Tryz.ntmps97
  go_wp2_with fail
  refine (prgdivided_at (y - 1) 4 a _ HA.out rfl (by omega) (by omega) (by omega) (by omega) _).mono ?_
  rintro e w' ⟨rfl, n1, rfl⟩
  go_wp2_with fail
  refine (prgdivided_at (y - 1) 100 b _ HB.out rfl (by omega) (by omega) (by omega) (by omega) _).mono ?_
  rintro e w' ⟨rfl, n2, rfl⟩
  go_wp2_with fail
  refine (prgdivided_at (y - 1) 400 c _ HC.out rfl (by omega) (by omega) (by omega) (by omega) _).mono ?_
  rintro e w' ⟨rfl, n3, rfl⟩
  go_wp2_with fail
  go_ret
  exact ⟨rfl, _, rfl⟩
theorem prgyearBegin_at (y B : Int) (hB : beginI y 0 = B) (h1 : -1000000 ≤ y) (h2 : y ≤ 1000000) (w : World) : Calls Tryz.prog 97 #[.int .i64 y] w fun e w' => e = .returned (.int .i64 B) ∧ ∃ n, w' = w.drewN n := by
  subst hB
  exact prgyearBegin_any y h1 h2 w
theorem begin_mono (a b : Int) (h : a ≤ b) : beginI a 0 + 365 * (b - a) ≤ beginI b 0 := by
  unfold beginI
  rw [cumI_zero, cumI_zero]
  have := dby_mono a b h
  omega
theorem begin_wide (y : Int) (h1 : -20000 ≤ y) (h2 : y ≤ 20000) : -10000000 ≤ beginI y 0 ∧ beginI y 0 ≤ 10000000 := by
  have a := dby_mono (-20000) y h1
  have b := dby_mono y 20000 h2
  have e1 : dby (-20000) = -7304850 := by decide
  have e2 : dby 20000 = 7304850 := by decide
  unfold beginI
  rw [cumI_zero]
  omega
/-- The year of a day, also one beside the calendar's years. -/
theorem prgyearOf_at (n y : Int) (h1 : -10001 ≤ y) (h2 : y ≤ 10001) (h3 : beginI y 0 ≤ n) (h4 : n < beginI (y + 1) 0) (w : World) : Calls Tryz.prog 95 #[.int .i64 n] w fun e w' => e = .returned (.int .i64 y) ∧ ∃ k, w' = w.drewN k := by
  have b1 := begin_wide y (by omega) (by omega)
  have b2 := begin_wide (y + 1) (by omega) (by omega)
  obtain ⟨n1, n2⟩ : -10000000 ≤ n ∧ n ≤ 10000000 := by omega
  obtain ⟨q, hq⟩ : ∃ q, 400 * n / 146097 = q := ⟨_, rfl⟩
  have hg : -11990 ≤ 1970 + q ∧ 1970 + q ≤ 11990 := by
    have b3 := begin_bd y (by omega) (by omega)
    have b4 : beginI (y + 1) 0 ≤ 3600000 := by
      have := dby_mono (y + 1) 10002 (by omega)
      have e2 : dby 10002 = 3653156 := by decide
      unfold beginI
      rw [cumI_zero]
      omega
    have b5 : -4380000 ≤ beginI y 0 := by
      have := dby_mono (-10001) y (by omega)
      have e2 : dby (-10001) = -3652790 := by decide
      unfold beginI
      rw [cumI_zero]
      omega
    omega
  obtain ⟨g1, g2⟩ := hg
  have HQ := Lib.hid hq
  have H3 := Lib.hid h3
  have H4 := Lib.hid h4
  have q1 : -14000 ≤ q := by omega
  have q2 : q ≤ 11000 := by omega
  clear hq h3 h4 b1 b2
  go_enter Tryz.func95, Tryz.ntmps95
  go_wp2_with fail
  refine (prgdivided_at (400 * n) 146097 q _ HQ.out rfl (by omega) (by omega) (by omega) (by omega) _).mono ?_
  rintro e w' ⟨rfl, k1, rfl⟩
  go_wp2_with fail
  go_loopw [5] (fun t wr => ∃ a : Int, -12000 ≤ a ∧ a ≤ 12000 ∧ t = .int .i64 a ∧ ∃ k, wr = w.drewN k) (fun t _ => (intOf t - y).toNat)
  case atStart => exact ⟨1970 + q, by omega, by omega, rfl, k1, rfl⟩
  case round =>
    obtain ⟨a, a1, a2, rfl, k, rfl⟩ := hrel
    obtain ⟨B, hB⟩ : ∃ B, beginI a 0 = B := ⟨_, rfl⟩
    have hBw := begin_wide a (by omega) (by omega)
    rw [hB] at hBw
    obtain ⟨B1, B2⟩ := hBw
    have HB := Lib.hid hB
    by_cases hlt : n < B
    · have hya : y < a := by
        rcases Int.lt_or_le y a with h | h
        · exact h
        · have := begin_mono a y h
          have := H3.out
          omega
      clear hB
      go_wp2_with fail
      refine (prgyearBegin_at a B HB.out (by omega) (by omega) _).mono ?_
      rintro e w' ⟨rfl, k2, rfl⟩
      go_wp2_with fail
      go_roundw
      case rel => exact ⟨a - 1, by omega, by omega, rfl, _, rfl⟩
      case measure => simp [intOf]; omega
    · have hya : a ≤ y := by
        rcases Int.lt_or_le y a with h | h
        · have := begin_mono (y + 1) a (by omega)
          have := H4.out
          omega
        · exact h
      clear hB
      go_wp2_with fail
      refine (prgyearBegin_at a B HB.out (by omega) (by omega) _).mono ?_
      rintro e w' ⟨rfl, k2, rfl⟩
      go_wp2_with fail
      go_loopw [5] (fun t wr => ∃ a : Int, -12000 ≤ a ∧ a ≤ y ∧ t = .int .i64 a ∧ ∃ k, wr = w.drewN k) (fun t _ => (y - intOf t).toNat)
      case atStart => exact ⟨a, by omega, by omega, rfl, _, rfl⟩
      case round =>
        obtain ⟨c, c1, c2, rfl, k, rfl⟩ := hrel
        obtain ⟨C, hC⟩ : ∃ C, beginI (c + 1) 0 = C := ⟨_, rfl⟩
        have hCw := begin_wide (c + 1) (by omega) (by omega)
        rw [hC] at hCw
        obtain ⟨C1, C2⟩ := hCw
        have HC := Lib.hid hC
        by_cases hge : C ≤ n
        · have hcy : c < y := by
            rcases Int.lt_or_le c y with h | h
            · exact h
            · obtain rfl : c = y := by omega
              have := H4.out
              omega
          clear hC
          go_wp2_with fail
          refine (prgyearBegin_at (c + 1) C HC.out (by omega) (by omega) _).mono ?_
          rintro e w' ⟨rfl, k3, rfl⟩
          go_wp2_with fail
          go_roundw
          case rel => exact ⟨c + 1, by omega, by omega, rfl, _, rfl⟩
          case measure => simp [intOf]; omega
        · have hcy : y = c := by
            rcases Int.lt_or_le c y with h | h
            · have := begin_mono (c + 1) y (by omega)
              have := H3.out
              omega
            · omega
          subst hcy
          clear hC
          go_wp2_with fail
          refine (prgyearBegin_at (y + 1) C HC.out (by omega) (by omega) _).mono ?_
          rintro e w' ⟨rfl, k3, rfl⟩
          go_wp2_with fail
          go_ret
          exact ⟨rfl, _, rfl⟩
end Go.Proofs.YtpjncnoejdaplaaGreatDoor
namespace Go.Proofs.YtpjncnoejdaplaaGreatDoor
open Go Go.RowKit

theorem prgisDay_yes (n : Int) (h1 : -4371587 ≤ n) (h2 : n ≤ 2932896) (w : World) : Calls Tryz.prog 94 #[.int .i64 n] w fun e w' => e = .returned (.bool true) ∧ w = w' := by
  go_enter Tryz.func94, Tryz.ntmps94
  go_wp2_with fail
  go_ret
  exact ⟨rfl, rfl⟩
theorem prgisDay_no (n : Int) (h : n < -4371587 ∨ 2932896 < n) (w : World) : Calls Tryz.prog 94 #[.int .i64 n] w fun e w' => e = .returned (.bool false) ∧ w = w' := by
  rcases h with h | h
  · go_enter Tryz.func94, Tryz.ntmps94
    go_wp2_with fail
    go_ret
    exact ⟨rfl, rfl⟩
  · have h' : -4371587 ≤ n := by omega
    have h2 : decide (n ≤ 2932896) = false := decide_eq_false (by omega)
    clear h
    go_enter Tryz.func94, Tryz.ntmps94
    go_wp2_with fail
    go_ret
    exact ⟨rfl, rfl⟩
/-- How many days of its year are ahead of a day. -/
theorem prgyearDay_at (n y B : Int) (hB : beginI y 0 = B) (h1 : -10001 ≤ y) (h2 : y ≤ 10001) (h3 : B ≤ n) (h4 : n < beginI (y + 1) 0) (w : World) : Calls Tryz.prog 43 #[.int .i64 n] w fun e w' => e = .returned (.int .i64 (n - B)) ∧ ∃ k, w' = w.drewN k := by
  have hY := fun w => prgyearOf_at n y h1 h2 (by omega) h4 w
  have hG := fun w => prgyearBegin_at y B hB (by omega) (by omega) w
  have b1 := begin_wide y (by omega) (by omega)
  have b2 := begin_wide (y + 1) (by omega) (by omega)
  rw [hB] at b1
  obtain ⟨n1, n2⟩ : -10000000 ≤ n ∧ n ≤ 10000000 := by omega
  obtain ⟨b3, b4⟩ := b1
  have HY := Lib.hid hY
  have HG := Lib.hid hG
  clear hY hG hB h4 b2
  go_enter Tryz.func43, Tryz.ntmps43
  go_wp2_with fail
  refine (HY.out _).mono ?_
  rintro e w' ⟨rfl, k1, rfl⟩
  go_wp2_with fail
  refine (HG.out _).mono ?_
  rintro e w' ⟨rfl, k2, rfl⟩
  go_wp2_with fail
  go_ret
  exact ⟨rfl, _, rfl⟩
set_option maxHeartbeats 1000000 in
theorem prgDay_yes (y m d : Int) (h : OkD y m d) (w : World) : Calls Tryz.prog 54 #[.int .i64 y, .int .i64 m, .int .i64 d] w fun e w' => e = .returned (.tuple #[.int .i64 (numI y m d), .int .i64 0]) ∧ ∃ n, w' = w.drewN n := by
  obtain ⟨⟨hy1, hy2⟩, ⟨hm1, hm2⟩, hd1, hd2⟩ := h
  obtain ⟨B, hB⟩ : ∃ B, beginI y 0 = B := ⟨_, rfl⟩
  have hb := begin_wide y (by omega) (by omega)
  rw [hB] at hb
  obtain ⟨b1, b2⟩ := hb
  have hn : numI y m d = B + cumI y m + d - 1 := by
    rw [← hB]
    unfold numI beginI
    rw [cumI_zero]
    omega
  rw [hn]
  have hl := lenI_bd y m hm1 hm2
  obtain ⟨hl1, hl2⟩ := hl
  have hq := cumI_le y m hm1 (by omega)
  obtain ⟨hq1, hq2⟩ := hq
  have HB := Lib.hid hB
  have H0 := Lib.hid (cumI_zero y)
  clear hB hn
  go_enter Tryz.func54, Tryz.ntmps54
  go_wp2_with (go_at_call 96; refine (prgLength_any y m (by omega) (by omega) _).mono ?_; rintro e w' ⟨rfl, rfl⟩)
  refine (prgyearBegin_at y B HB.out (by omega) (by omega) _).mono ?_
  rintro e w' ⟨rfl, k1, rfl⟩
  go_wp2_with fail
  go_loop [8, 30] (fun n k => ∃ j : Int, 0 ≤ j ∧ j ≤ m ∧ n = .int .i64 (B + cumI y j) ∧ k = .int .i64 j) (fun _ k => (400 - intOf k).toNat)
  case atStart => exact ⟨0, by omega, by omega, by rw [H0.out]; go_num, rfl⟩
  case round =>
    obtain ⟨j, hj1, hj2, rfl, rfl⟩ := hrel
    have hr := cumI_le y j hj1 (by omega)
    obtain ⟨hr1, hr2⟩ := hr
    by_cases hlt : j < m
    · have hl := lenI_bd y j hj1 (by omega)
      obtain ⟨hl3, hl4⟩ := hl
      have HS := Lib.hid (cumI_succ y j hj1 (by omega))
      go_wp2_with (go_at_call 96; refine (prgLength_any y j (by omega) (by omega) _).mono ?_; rintro e w' ⟨rfl, rfl⟩)
      go_round
      case rel => exact ⟨j + 1, by omega, by omega, by rw [HS.out]; go_num, rfl⟩
      case measure => simp [intOf]; omega
    · have hjm : j = m := by omega
      subst hjm
      go_wp2_with fail
      go_ret2
      exact ⟨rfl, _, rfl⟩
set_option maxHeartbeats 1000000 in
theorem prgDay_no (y m d : Int) (hy1 : -9223372036854775808 ≤ y) (hy2 : y ≤ 9223372036854775807) (h : ¬ OkD y m d) (w : World) : Calls Tryz.prog 54 #[.int .i64 y, .int .i64 m, .int .i64 d] w fun e w' => e = .returned (.tuple #[.int .i64 0, .int .i64 110]) ∧ w = w' := by
  by_cases hk : y < -9999
  · clear h
    go_enter Tryz.func54, Tryz.ntmps54
    go_wp2_with fail
    go_ret2
    exact ⟨rfl, rfl⟩
  · by_cases hk2 : 9999 < y
    · have hk3 : -9999 ≤ y := by omega
      clear h hk
      go_enter Tryz.func54, Tryz.ntmps54
      go_wp2_with fail
      go_ret2
      exact ⟨rfl, rfl⟩
    · have hk3 : -9999 ≤ y := by omega
      have hk4 : y ≤ 9999 := by omega
      clear hk hk2
      by_cases hd : d < 1
      · clear h
        go_enter Tryz.func54, Tryz.ntmps54
        go_wp2_with fail
        go_ret2
        exact ⟨rfl, rfl⟩
      · have hl : lenI y m < d := by
          by_cases hm : 0 ≤ m ∧ m ≤ 11
          · rcases Int.lt_or_le (lenI y m) d with h1 | h1
            · exact h1
            · exact absurd ⟨⟨hk3, hk4⟩, hm, by omega, h1⟩ h
          · rw [lenI_no y m (by omega)]; omega
        have hd2 : 1 ≤ d := by omega
        clear h hd
        go_enter Tryz.func54, Tryz.ntmps54
        go_wp2_with (go_at_call 96; refine (prgLength_any y m hy1 hy2 _).mono ?_; rintro e w' ⟨rfl, rfl⟩)
        go_ret2
        exact ⟨rfl, rfl⟩
set_option maxHeartbeats 1000000 in
theorem prgDate_of (y m d : Int) (h : OkD y m d) (w : World) : Calls Tryz.prog 41 #[.int .i64 (numI y m d)] w fun e w' => e = .returned (.tuple #[.int .i64 y, .int .i64 m, .int .i64 d, .int .i64 0]) ∧ ∃ n, w' = w.drewN n := by
  have hn := num_range y m d h
  have hin := num_in y m d h
  have hC := begin_succ y
  obtain ⟨⟨hy1, hy2⟩, ⟨hm1, hm2⟩, hd1, hd2⟩ := h
  obtain ⟨B, hB⟩ : ∃ B, beginI y 0 = B := ⟨_, rfl⟩
  have hb := begin_wide y (by omega) (by omega)
  have he : numI y m d = B + cumI y m + (d - 1) := by
    rw [← hB]
    unfold numI beginI
    rw [cumI_zero]
    omega
  obtain ⟨N, hN⟩ : ∃ N, numI y m d = N := ⟨_, rfl⟩
  rw [hN] at hn hin he ⊢
  have hY := fun w => prgyearOf_at N y (by omega) (by omega) (by omega) (by omega) w
  have hD := fun w => prgyearDay_at N y B hB (by omega) (by omega) (by omega) (by omega) w
  rw [hB] at hb hin
  obtain ⟨b1, b2⟩ := hb
  obtain ⟨n1, n2⟩ := hn
  have hq := cumI_le y m hm1 (by omega)
  obtain ⟨hq1, hq2⟩ := hq
  have hl := lenI_bd y m hm1 hm2
  obtain ⟨hl1, hl2⟩ := hl
  have HE := Lib.hid (show N - B = cumI y m + (d - 1) from by omega)
  have HY := Lib.hid hY
  have HD := Lib.hid hD
  have H0 := Lib.hid (cumI_zero y)
  clear hY hD hB hN he hC hin
  go_enter Tryz.func41, Tryz.ntmps41
  go_wp2_with fail
  refine (prgisDay_yes N n1 n2 _).mono ?_
  rintro e w' ⟨rfl, rfl⟩
  go_wp2_with fail
  refine (HY.out _).mono ?_
  rintro e w' ⟨rfl, k1, rfl⟩
  go_wp2_with fail
  refine (HD.out _).mono ?_
  rintro e w' ⟨rfl, k2, rfl⟩
  go_wp2_with fail
  go_loop [6, 3] (fun n k => ∃ j : Int, 0 ≤ j ∧ j ≤ m ∧ n = .int .i64 (cumI y m + (d - 1) - cumI y j) ∧ k = .int .i64 j) (fun _ k => (400 - intOf k).toNat)
  case atStart => exact ⟨0, by omega, by omega, by rw [H0.out, HE.out]; go_num, rfl⟩
  case round =>
    obtain ⟨j, hj1, hj2, rfl, rfl⟩ := hrel
    have hr := cumI_le y j hj1 (by omega)
    obtain ⟨hr1, hr2⟩ := hr
    have hll := lenI_bd y j hj1 (by omega)
    obtain ⟨hl3, hl4⟩ := hll
    by_cases hlt2 : j < m
    · have HS2 := Lib.hid (cumI_succ y j hj1 (by omega))
      have hge2 : lenI y j ≤ cumI y m + (d - 1) - cumI y j := by
        have := cumI_mono y j m hj1 hlt2 hm2
        omega
      go_wp2_with (go_at_call 96; refine (prgLength_any y j (by omega) (by omega) _).mono ?_; rintro e w' ⟨rfl, rfl⟩)
      go_round
      case rel => exact ⟨j + 1, by omega, by omega, by rw [HS2.out]; go_num, rfl⟩
      case measure => simp [intOf]; omega
    · have hjm : j = m := by omega
      subst hjm
      have hge2 : cumI y j + (d - 1) - cumI y j < lenI y j := by omega
      have HX := Lib.hid (show cumI y j + (d - 1) - cumI y j + 1 = d from by omega)
      go_wp2_with (go_at_call 96; refine (prgLength_any y j (by omega) (by omega) _).mono ?_; rintro e w' ⟨rfl, rfl⟩)
      refine bodyPost_ret (v := .tuple #[.int .i64 y, .int .i64 j, .int .i64 (cumI y j + (d - 1) - cumI y j + 1), .int .i64 0]) (by simp [results, Tryz.results41, go_sem]) rfl ⟨?_, _, rfl⟩
      rw [HX.out]
theorem prgDate_no (n : Int) (h : n < -4371587 ∨ 2932896 < n) (w : World) : Calls Tryz.prog 41 #[.int .i64 n] w fun e w' => e = .returned (.tuple #[.int .i64 0, .int .i64 0, .int .i64 0, .int .i64 110]) ∧ w = w' := by
  have HN := Lib.hid h
  clear h
  go_enter Tryz.func41, Tryz.ntmps41
  go_wp2_with fail
  refine (prgisDay_no n HN.out _).mono ?_
  rintro e w' ⟨rfl, rfl⟩
  go_wp2_with fail
  exact bodyPost_ret (v := .tuple #[.int .i64 0, .int .i64 0, .int .i64 0, .int .i64 110]) (by simp [results, Tryz.results41, go_sem]) rfl ⟨rfl, rfl⟩
end Go.Proofs.YtpjncnoejdaplaaGreatDoor
