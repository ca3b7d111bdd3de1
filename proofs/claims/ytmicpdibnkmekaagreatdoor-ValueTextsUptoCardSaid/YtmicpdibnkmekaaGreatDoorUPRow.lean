/- A sheet: rows of parts between brackets. -/
import Derived.Test.YtmicpdibnkmekaaGreatDoorUSheet
namespace Go.Proofs.YtmicpdibnkmekaaGreatDoor
open Go Go.RowKit

/-- The first n parts, with what stands ahead of each. -/
def prtT (col : Bool) (step : ByteArray) (lev : Nat) (T : Nat → List UInt8) : Nat → List UInt8
  | 0 => []
  | n + 1 => prtT col step lev T n ++ ((if n = 0 then [] else sgnT col [44]) ++ linT step (lev + 1) ++ T n)
def rowT (col : Bool) (step : ByteArray) (lev : Nat) (op cl : List UInt8) (n : Nat) (T : Nat → List UInt8) : List UInt8 :=
  sgnT col op ++ prtT col step lev T n ++ (if n = 0 then [] else linT step lev) ++ sgnT col cl
theorem prt_more {st : Option (List UInt8)} {col : Bool} {step : ByteArray} {lev : Nat} {T : Nat → List UInt8} {P : List UInt8} {i : Nat} (h : putS st (P ++ prtT col step lev T i) = none) : ∀ n, i ≤ n → putS st (P ++ prtT col step lev T n) = none := by
  intro n
  induction n with
  | zero => intro hi; obtain rfl : i = 0 := by omega
            exact h
  | succ n ih =>
    intro hi
    by_cases e : i = n + 1
    · subst e; exact h
    · have := putS_more (ih (by omega)) ((if n = 0 then [] else sgnT col [44]) ++ linT step (lev + 1) ++ T n)
      rw [List.append_assoc] at this
      exact this
theorem ShAt.level {w : World} {b : Nat} {y : Sty} {step : ByteArray} {lev : Int} {st : Option (List UInt8)} (h : ShAt w b y step lev st) (x : Int) : ShAt (w.setCell ⟨b, 10, none⟩ (.int .i64 x)) b y step x st := by
  obtain ⟨l, room, h1, h2, h3, h4, h5⟩ := h.parts
  exact ShAt.of_parts h1 h2 h3 (h4.set 8 (.int .i64 x)) h5
set_option maxRecDepth 100000 in
set_option maxHeartbeats 8000000 in
theorem row_S1 (b : Nat) (y : Sty) (step : ByteArray) (lev : Nat) (hstep : step.size ≤ 7) (hlev : lev < 1000000) (op cl : ByteArray) (hop : op.size ≤ 100) (hcl : cl.size ≤ 100) (n : Nat) (hn : n ≤ 1048576) (T : Nat → List UInt8) (p2 p3 : Value) (Env : World → Prop) (hEnv : ∀ w w', Env w → WStep b w w' → Env w')
    (hcall : ∀ (i : Nat) (st : Option (List UInt8)) (W : World), i < n → Env W → ShAt W b y step ((lev + 1 : Nat) : Int) st →
      Calls Tryz.prog 77 #[.int .i64 i, p2, p3] W fun e w' => e = .returned (.tuple #[]) ∧ ShAt w' b y step ((lev + 1 : Nat) : Int) (putS st (T i)) ∧ WStep b W w')
    (st : Option (List UInt8)) (w : World) (hE : Env w) (h : ShAt w b y step lev st) :
    Calls Tryz.prog 76 #[.pointer (some ⟨b, 0, none⟩), .string op, .string cl, .int .i64 n, .func (Fn.func 77) #[] #[p2, p3]] w fun e w' =>
      e = .returned (.tuple #[]) ∧ ShAt w' b y step lev (putS st (rowT y.col step lev op.data.toList cl.data.toList n T)) ∧ WStep b w w' := by
  have h1 := sign_S b y step lev st op (by omega) w h
  have H1 := Lib.hid h1
  have HE := Lib.hid hE
  have HEnv := Lib.hid hEnv
  have HCALL := Lib.hid hcall
  clear h1 hE hEnv hcall h
  go_enter Tryz.func76, Tryz.ntmps76
  go_wp2_with fail
  refine H1.out.mono ?_
  rintro e w1 ⟨rfl, hw1, hst⟩
  obtain ⟨l', room', _, _, _, h4', _⟩ := hw1.parts
  obtain ⟨_, _, _, _, _, _, _, d9, d10, _, _, f10, dlt⟩ := rowS h4'
  have hlw := hw1.level ((lev : Int) + 1)
  have hsw : WStep b w (w1.setCell ⟨b, 10, none⟩ (.int .i64 ((lev : Int) + 1))) := hst.trans (wstep_set _)
  have HLW := Lib.hid hlw
  have HSW := Lib.hid hsw
  clear hw1 hst h4' hlw hsw
  go_wp2_with fail
  clear d9 d10 f10
  go_loopw [10] (fun i W => ∃ j : Nat, j ≤ n ∧ i = .int .i64 j ∧ ShAt W b y step ((lev + 1 : Nat) : Int) (putS st (sgnT y.col op.data.toList ++ prtT y.col step lev T j)) ∧ WStep b w W) (fun i _ => n - (intOf i).toNat)
  case atStart =>
    refine ⟨0, Nat.zero_le _, rfl, ?_, HSW.out⟩
    have e1 : prtT y.col step lev T 0 = [] := rfl
    rw [e1, List.append_nil]
    exact HLW.out
  case round =>
    obtain ⟨j, hj, rfl, hw, hs⟩ := hrel
    have HWR := Lib.hid hw
    have HSR := Lib.hid hs
    clear hw hs HLW HSW
    obtain ⟨S, hS⟩ : ∃ S, putS st (sgnT y.col op.data.toList ++ prtT y.col step lev T j) = S := ⟨_, rfl⟩
    have HSS := Lib.hid hS
    rw [hS] at HWR
    have hfl := isFull_S b y step ((lev + 1 : Nat) : Int) S wr HWR.out
    have HFL := Lib.hid hfl
    clear hS hfl
    by_cases hlt2 : j < n
    · have dj : decide ((j : Int) < (n : Int)) = true := by simp; omega
      cases S with
      | none =>
        have hx : ShAt wr b y step ((lev + 1 : Nat) : Int) (putS st (sgnT y.col op.data.toList ++ prtT y.col step lev T n)) := by
          rw [prt_more HSS.out n (by omega)]
          exact HWR.out
        obtain ⟨l2, room2, _, _, _, h42, _⟩ := hx.parts
        obtain ⟨_, _, _, _, _, _, _, g9, g10, _, _, k10, glt⟩ := rowS h42
        have hly := hx.level (lev : Int)
        have hsy : WStep b w (wr.setCell ⟨b, 10, none⟩ (.int .i64 (lev : Int))) := HSR.out.trans (wstep_set _)
        have HLY := Lib.hid hly
        have HSY := Lib.hid hsy
        have hsg := fun W hW => sign_S b y step lev (putS (putS st (sgnT y.col op.data.toList ++ prtT y.col step lev T n)) (if n = 0 then [] else linT step lev)) cl (by omega) W hW
        rw [putS_append, putS_append] at hsg
        have HSG := Lib.hid hsg
        clear hx h42 hly hsy hsg
        by_cases hn0 : n = 0
        · omega
        · rw [if_neg hn0] at HSG
          have hli := fun W hW => line_S b y step lev hstep (by omega) (putS st (sgnT y.col op.data.toList ++ prtT y.col step lev T n)) W hW
          rw [putS_append] at hli
          have HLI := Lib.hid hli
          have e0 : decide ((0 : Int) < (n : Int)) = true := by simp; omega
          have e1 : decide (0 < n) = true := by simp; omega
          have HN0 := Lib.hid hn0
          clear hli hn0
          go_wp2_with fail
          refine HFL.out.mono ?_
          rintro e w3 ⟨rfl, rfl⟩
          go_wp2_with fail
          refine (HLI.out _ HLY.out).mono ?_
          rintro e w4 ⟨rfl, hw4, hs4⟩
          have HW4 := Lib.hid hw4
          have HS4 := Lib.hid (HSY.out.trans hs4)
          clear hw4 hs4
          go_wp2_with fail
          refine (HSG.out _ HW4.out).mono ?_
          rintro e w5 ⟨rfl, hw5, hs5⟩
          have HW5 := Lib.hid hw5
          have HS5 := Lib.hid (HS4.out.trans hs5)
          clear hw5 hs5
          go_wp2_with fail
          go_end0
          refine ⟨rfl, ?_, HS5.out⟩
          have := HW5.out
          unfold rowT
          rw [if_neg HN0.out]
          exact this
      | some m =>
        have hr1 : prtT y.col step lev T (j + 1) = prtT y.col step lev T j ++ ((if j = 0 then [] else sgnT y.col [44]) ++ linT step (lev + 1) ++ T j) := rfl
        by_cases hj0 : j = 0
        · rw [if_pos hj0, List.nil_append] at hr1
          have hli := fun W hW => line_S b y step (lev + 1) hstep (by omega) (some m) W hW
          have hc := fun W hE hW => HCALL.out j (putS (some m) (linT step (lev + 1))) W hlt2 hE hW
          have e2 : putS (putS (some m) (linT step (lev + 1))) (T j) = putS st (sgnT y.col op.data.toList ++ prtT y.col step lev T (j + 1)) := by
            rw [hr1, putS_append, ← HSS.out, putS_append]
            simp only [List.append_assoc]
          rw [e2] at hc
          have HLI := Lib.hid hli
          have HC := Lib.hid hc
          have d0 : decide ((0 : Int) < (j : Int)) = false := by simp; omega
          have d1 : decide (0 < j) = false := by simp; omega
          have hj1 : j ≤ 0 := by omega
          clear hr1 hli hc e2 hj0
          go_wp2_with fail
          refine HFL.out.mono ?_
          rintro e w3 ⟨rfl, rfl⟩
          go_wp2_with fail
          refine (HLI.out _ HWR.out).mono ?_
          rintro e w4 ⟨rfl, hw4, hs4⟩
          have HW4 := Lib.hid hw4
          have HS4 := Lib.hid (HSR.out.trans hs4)
          clear hw4 hs4
          go_wp2_with fail
          refine (HC.out _ (HEnv.out _ _ HE.out HS4.out) HW4.out).mono ?_
          rintro e w5 ⟨rfl, hw5, hs5⟩
          have HW5 := Lib.hid hw5
          have HS5 := Lib.hid (HS4.out.trans hs5)
          clear hw5 hs5
          go_wp2_with fail
          go_roundw
          case rel => exact ⟨j + 1, by omega, by go_num, HW5.out, HS5.out⟩
          case measure => simp [intOf]; omega
        · rw [if_neg hj0] at hr1
          have hsg := fun W hW => sign_S b y step ((lev + 1 : Nat) : Int) (some m) ⟨#[44]⟩ (by decide) W hW
          have hli := fun W hW => line_S b y step (lev + 1) hstep (by omega) (putS (some m) (sgnT y.col [44])) W hW
          have hc := fun W hE hW => HCALL.out j (putS (putS (some m) (sgnT y.col [44])) (linT step (lev + 1))) W hlt2 hE hW
          have e2 : putS (putS (putS (some m) (sgnT y.col [44])) (linT step (lev + 1))) (T j) = putS st (sgnT y.col op.data.toList ++ prtT y.col step lev T (j + 1)) := by
            rw [hr1, putS_append, putS_append, ← HSS.out, putS_append]
            simp only [List.append_assoc]
          rw [e2] at hc
          have HSG := Lib.hid hsg
          have HLI := Lib.hid hli
          have HC := Lib.hid hc
          have d0 : decide ((0 : Int) < (j : Int)) = true := by simp; omega
          have d1 : decide (0 < j) = true := by simp; omega
          have hj1 : 1 ≤ j := by omega
          clear hr1 hsg hli hc e2 hj0
          go_wp2_with fail
          refine HFL.out.mono ?_
          rintro e w3 ⟨rfl, rfl⟩
          go_wp2_with fail
          refine (HSG.out _ HWR.out).mono ?_
          rintro e w6 ⟨rfl, hw6, hs6⟩
          have hw6 : ShAt w6 b y step ((lev + 1 : Nat) : Int) (putS (some m) (sgnT y.col [44])) := hw6
          have HW6 := Lib.hid hw6
          have HS6 := Lib.hid (HSR.out.trans hs6)
          clear hw6 hs6
          go_wp2_with fail
          refine (HLI.out _ HW6.out).mono ?_
          rintro e w4 ⟨rfl, hw4, hs4⟩
          have HW4 := Lib.hid hw4
          have HS4 := Lib.hid (HS6.out.trans hs4)
          clear hw4 hs4
          go_wp2_with fail
          refine (HC.out _ (HEnv.out _ _ HE.out HS4.out) HW4.out).mono ?_
          rintro e w5 ⟨rfl, hw5, hs5⟩
          have HW5 := Lib.hid hw5
          have HS5 := Lib.hid (HS4.out.trans hs5)
          clear hw5 hs5
          go_wp2_with fail
          go_roundw
          case rel => exact ⟨j + 1, by omega, by go_num, HW5.out, HS5.out⟩
          case measure => simp [intOf]; omega
    · obtain rfl : j = n := by omega
      have dj : decide ((j : Int) < (j : Int)) = false := by simp
      have hx : ShAt wr b y step ((lev + 1 : Nat) : Int) (putS st (sgnT y.col op.data.toList ++ prtT y.col step lev T j)) := by rw [HSS.out]; exact HWR.out
      obtain ⟨l2, room2, _, _, _, h42, _⟩ := hx.parts
      obtain ⟨_, _, _, _, _, _, _, g9, g10, _, _, k10, glt⟩ := rowS h42
      have hly := hx.level (lev : Int)
      have hsy : WStep b w (wr.setCell ⟨b, 10, none⟩ (.int .i64 (lev : Int))) := HSR.out.trans (wstep_set _)
      have HLY := Lib.hid hly
      have HSY := Lib.hid hsy
      have hsg := fun W hW => sign_S b y step lev (putS (putS st (sgnT y.col op.data.toList ++ prtT y.col step lev T j)) (if j = 0 then [] else linT step lev)) cl (by omega) W hW
      rw [putS_append, putS_append] at hsg
      have HSG := Lib.hid hsg
      clear hx h42 hly hsy hsg
      by_cases hn0 : j = 0
      · subst hn0
        rw [if_pos rfl, List.append_nil] at HSG
        go_wp2_with fail
        refine (HSG.out _ HLY.out).mono ?_
        rintro e w5 ⟨rfl, hw5, hs5⟩
        have HW5 := Lib.hid hw5
        have HS5 := Lib.hid (HSY.out.trans hs5)
        clear hw5 hs5
        go_wp2_with fail
        go_end0
        refine ⟨rfl, ?_, HS5.out⟩
        have := HW5.out
        unfold rowT
        rw [if_pos rfl, List.append_nil]
        exact this
      · rw [if_neg hn0] at HSG
        have hli := fun W hW => line_S b y step lev hstep (by omega) (putS st (sgnT y.col op.data.toList ++ prtT y.col step lev T j)) W hW
        rw [putS_append] at hli
        have HLI := Lib.hid hli
        have e0 : decide ((0 : Int) < (j : Int)) = true := by simp; omega
        have e1 : decide (0 < j) = true := by simp; omega
        have HN0 := Lib.hid hn0
        clear hli hn0
        go_wp2_with fail
        refine (HLI.out _ HLY.out).mono ?_
        rintro e w4 ⟨rfl, hw4, hs4⟩
        have HW4 := Lib.hid hw4
        have HS4 := Lib.hid (HSY.out.trans hs4)
        clear hw4 hs4
        go_wp2_with fail
        refine (HSG.out _ HW4.out).mono ?_
        rintro e w5 ⟨rfl, hw5, hs5⟩
        have HW5 := Lib.hid hw5
        have HS5 := Lib.hid (HS4.out.trans hs5)
        clear hw5 hs5
        go_wp2_with fail
        go_end0
        refine ⟨rfl, ?_, HS5.out⟩
        have := HW5.out
        unfold rowT
        rw [if_neg HN0.out]
        exact this
end Go.Proofs.YtmicpdibnkmekaaGreatDoor
namespace Go.Proofs.YtmicpdibnkmekaaGreatDoor
open Go Go.RowKit
set_option maxRecDepth 100000 in
set_option maxHeartbeats 8000000 in
theorem row_S2 (b : Nat) (y : Sty) (step : ByteArray) (lev : Nat) (hstep : step.size ≤ 7) (hlev : lev < 1000000) (op cl : ByteArray) (hop : op.size ≤ 100) (hcl : cl.size ≤ 100) (n : Nat) (hn : n ≤ 1048576) (T : Nat → List UInt8) (p2 p3 p4 : Value) (Env : World → Prop) (hEnv : ∀ w w', Env w → WStep b w w' → Env w')
    (hcall : ∀ (i : Nat) (st : Option (List UInt8)) (W : World), i < n → Env W → ShAt W b y step ((lev + 1 : Nat) : Int) st →
      Calls Tryz.prog 79 #[.int .i64 i, p2, p3, p4] W fun e w' => e = .returned (.tuple #[]) ∧ ShAt w' b y step ((lev + 1 : Nat) : Int) (putS st (T i)) ∧ WStep b W w')
    (st : Option (List UInt8)) (w : World) (hE : Env w) (h : ShAt w b y step lev st) :
    Calls Tryz.prog 76 #[.pointer (some ⟨b, 0, none⟩), .string op, .string cl, .int .i64 n, .func (Fn.func 79) #[] #[p2, p3, p4]] w fun e w' =>
      e = .returned (.tuple #[]) ∧ ShAt w' b y step lev (putS st (rowT y.col step lev op.data.toList cl.data.toList n T)) ∧ WStep b w w' := by
  have h1 := sign_S b y step lev st op (by omega) w h
  have H1 := Lib.hid h1
  have HE := Lib.hid hE
  have HEnv := Lib.hid hEnv
  have HCALL := Lib.hid hcall
  clear h1 hE hEnv hcall h
  go_enter Tryz.func76, Tryz.ntmps76
  go_wp2_with fail
  refine H1.out.mono ?_
  rintro e w1 ⟨rfl, hw1, hst⟩
  obtain ⟨l', room', _, _, _, h4', _⟩ := hw1.parts
  obtain ⟨_, _, _, _, _, _, _, d9, d10, _, _, f10, dlt⟩ := rowS h4'
  have hlw := hw1.level ((lev : Int) + 1)
  have hsw : WStep b w (w1.setCell ⟨b, 10, none⟩ (.int .i64 ((lev : Int) + 1))) := hst.trans (wstep_set _)
  have HLW := Lib.hid hlw
  have HSW := Lib.hid hsw
  clear hw1 hst h4' hlw hsw
  go_wp2_with fail
  clear d9 d10 f10
  go_loopw [10] (fun i W => ∃ j : Nat, j ≤ n ∧ i = .int .i64 j ∧ ShAt W b y step ((lev + 1 : Nat) : Int) (putS st (sgnT y.col op.data.toList ++ prtT y.col step lev T j)) ∧ WStep b w W) (fun i _ => n - (intOf i).toNat)
  case atStart =>
    refine ⟨0, Nat.zero_le _, rfl, ?_, HSW.out⟩
    have e1 : prtT y.col step lev T 0 = [] := rfl
    rw [e1, List.append_nil]
    exact HLW.out
  case round =>
    obtain ⟨j, hj, rfl, hw, hs⟩ := hrel
    have HWR := Lib.hid hw
    have HSR := Lib.hid hs
    clear hw hs HLW HSW
    obtain ⟨S, hS⟩ : ∃ S, putS st (sgnT y.col op.data.toList ++ prtT y.col step lev T j) = S := ⟨_, rfl⟩
    have HSS := Lib.hid hS
    rw [hS] at HWR
    have hfl := isFull_S b y step ((lev + 1 : Nat) : Int) S wr HWR.out
    have HFL := Lib.hid hfl
    clear hS hfl
    by_cases hlt2 : j < n
    · have dj : decide ((j : Int) < (n : Int)) = true := by simp; omega
      cases S with
      | none =>
        have hx : ShAt wr b y step ((lev + 1 : Nat) : Int) (putS st (sgnT y.col op.data.toList ++ prtT y.col step lev T n)) := by
          rw [prt_more HSS.out n (by omega)]
          exact HWR.out
        obtain ⟨l2, room2, _, _, _, h42, _⟩ := hx.parts
        obtain ⟨_, _, _, _, _, _, _, g9, g10, _, _, k10, glt⟩ := rowS h42
        have hly := hx.level (lev : Int)
        have hsy : WStep b w (wr.setCell ⟨b, 10, none⟩ (.int .i64 (lev : Int))) := HSR.out.trans (wstep_set _)
        have HLY := Lib.hid hly
        have HSY := Lib.hid hsy
        have hsg := fun W hW => sign_S b y step lev (putS (putS st (sgnT y.col op.data.toList ++ prtT y.col step lev T n)) (if n = 0 then [] else linT step lev)) cl (by omega) W hW
        rw [putS_append, putS_append] at hsg
        have HSG := Lib.hid hsg
        clear hx h42 hly hsy hsg
        by_cases hn0 : n = 0
        · omega
        · rw [if_neg hn0] at HSG
          have hli := fun W hW => line_S b y step lev hstep (by omega) (putS st (sgnT y.col op.data.toList ++ prtT y.col step lev T n)) W hW
          rw [putS_append] at hli
          have HLI := Lib.hid hli
          have e0 : decide ((0 : Int) < (n : Int)) = true := by simp; omega
          have e1 : decide (0 < n) = true := by simp; omega
          have HN0 := Lib.hid hn0
          clear hli hn0
          go_wp2_with fail
          refine HFL.out.mono ?_
          rintro e w3 ⟨rfl, rfl⟩
          go_wp2_with fail
          refine (HLI.out _ HLY.out).mono ?_
          rintro e w4 ⟨rfl, hw4, hs4⟩
          have HW4 := Lib.hid hw4
          have HS4 := Lib.hid (HSY.out.trans hs4)
          clear hw4 hs4
          go_wp2_with fail
          refine (HSG.out _ HW4.out).mono ?_
          rintro e w5 ⟨rfl, hw5, hs5⟩
          have HW5 := Lib.hid hw5
          have HS5 := Lib.hid (HS4.out.trans hs5)
          clear hw5 hs5
          go_wp2_with fail
          go_end0
          refine ⟨rfl, ?_, HS5.out⟩
          have := HW5.out
          unfold rowT
          rw [if_neg HN0.out]
          exact this
      | some m =>
        have hr1 : prtT y.col step lev T (j + 1) = prtT y.col step lev T j ++ ((if j = 0 then [] else sgnT y.col [44]) ++ linT step (lev + 1) ++ T j) := rfl
        by_cases hj0 : j = 0
        · rw [if_pos hj0, List.nil_append] at hr1
          have hli := fun W hW => line_S b y step (lev + 1) hstep (by omega) (some m) W hW
          have hc := fun W hE hW => HCALL.out j (putS (some m) (linT step (lev + 1))) W hlt2 hE hW
          have e2 : putS (putS (some m) (linT step (lev + 1))) (T j) = putS st (sgnT y.col op.data.toList ++ prtT y.col step lev T (j + 1)) := by
            rw [hr1, putS_append, ← HSS.out, putS_append]
            simp only [List.append_assoc]
          rw [e2] at hc
          have HLI := Lib.hid hli
          have HC := Lib.hid hc
          have d0 : decide ((0 : Int) < (j : Int)) = false := by simp; omega
          have d1 : decide (0 < j) = false := by simp; omega
          have hj1 : j ≤ 0 := by omega
          clear hr1 hli hc e2 hj0
          go_wp2_with fail
          refine HFL.out.mono ?_
          rintro e w3 ⟨rfl, rfl⟩
          go_wp2_with fail
          refine (HLI.out _ HWR.out).mono ?_
          rintro e w4 ⟨rfl, hw4, hs4⟩
          have HW4 := Lib.hid hw4
          have HS4 := Lib.hid (HSR.out.trans hs4)
          clear hw4 hs4
          go_wp2_with fail
          refine (HC.out _ (HEnv.out _ _ HE.out HS4.out) HW4.out).mono ?_
          rintro e w5 ⟨rfl, hw5, hs5⟩
          have HW5 := Lib.hid hw5
          have HS5 := Lib.hid (HS4.out.trans hs5)
          clear hw5 hs5
          go_wp2_with fail
          go_roundw
          case rel => exact ⟨j + 1, by omega, by go_num, HW5.out, HS5.out⟩
          case measure => simp [intOf]; omega
        · rw [if_neg hj0] at hr1
          have hsg := fun W hW => sign_S b y step ((lev + 1 : Nat) : Int) (some m) ⟨#[44]⟩ (by decide) W hW
          have hli := fun W hW => line_S b y step (lev + 1) hstep (by omega) (putS (some m) (sgnT y.col [44])) W hW
          have hc := fun W hE hW => HCALL.out j (putS (putS (some m) (sgnT y.col [44])) (linT step (lev + 1))) W hlt2 hE hW
          have e2 : putS (putS (putS (some m) (sgnT y.col [44])) (linT step (lev + 1))) (T j) = putS st (sgnT y.col op.data.toList ++ prtT y.col step lev T (j + 1)) := by
            rw [hr1, putS_append, putS_append, ← HSS.out, putS_append]
            simp only [List.append_assoc]
          rw [e2] at hc
          have HSG := Lib.hid hsg
          have HLI := Lib.hid hli
          have HC := Lib.hid hc
          have d0 : decide ((0 : Int) < (j : Int)) = true := by simp; omega
          have d1 : decide (0 < j) = true := by simp; omega
          have hj1 : 1 ≤ j := by omega
          clear hr1 hsg hli hc e2 hj0
          go_wp2_with fail
          refine HFL.out.mono ?_
          rintro e w3 ⟨rfl, rfl⟩
          go_wp2_with fail
          refine (HSG.out _ HWR.out).mono ?_
          rintro e w6 ⟨rfl, hw6, hs6⟩
          have hw6 : ShAt w6 b y step ((lev + 1 : Nat) : Int) (putS (some m) (sgnT y.col [44])) := hw6
          have HW6 := Lib.hid hw6
          have HS6 := Lib.hid (HSR.out.trans hs6)
          clear hw6 hs6
          go_wp2_with fail
          refine (HLI.out _ HW6.out).mono ?_
          rintro e w4 ⟨rfl, hw4, hs4⟩
          have HW4 := Lib.hid hw4
          have HS4 := Lib.hid (HS6.out.trans hs4)
          clear hw4 hs4
          go_wp2_with fail
          refine (HC.out _ (HEnv.out _ _ HE.out HS4.out) HW4.out).mono ?_
          rintro e w5 ⟨rfl, hw5, hs5⟩
          have HW5 := Lib.hid hw5
          have HS5 := Lib.hid (HS4.out.trans hs5)
          clear hw5 hs5
          go_wp2_with fail
          go_roundw
          case rel => exact ⟨j + 1, by omega, by go_num, HW5.out, HS5.out⟩
          case measure => simp [intOf]; omega
    · obtain rfl : j = n := by omega
      have dj : decide ((j : Int) < (j : Int)) = false := by simp
      have hx : ShAt wr b y step ((lev + 1 : Nat) : Int) (putS st (sgnT y.col op.data.toList ++ prtT y.col step lev T j)) := by rw [HSS.out]; exact HWR.out
      obtain ⟨l2, room2, _, _, _, h42, _⟩ := hx.parts
      obtain ⟨_, _, _, _, _, _, _, g9, g10, _, _, k10, glt⟩ := rowS h42
      have hly := hx.level (lev : Int)
      have hsy : WStep b w (wr.setCell ⟨b, 10, none⟩ (.int .i64 (lev : Int))) := HSR.out.trans (wstep_set _)
      have HLY := Lib.hid hly
      have HSY := Lib.hid hsy
      have hsg := fun W hW => sign_S b y step lev (putS (putS st (sgnT y.col op.data.toList ++ prtT y.col step lev T j)) (if j = 0 then [] else linT step lev)) cl (by omega) W hW
      rw [putS_append, putS_append] at hsg
      have HSG := Lib.hid hsg
      clear hx h42 hly hsy hsg
      by_cases hn0 : j = 0
      · subst hn0
        rw [if_pos rfl, List.append_nil] at HSG
        go_wp2_with fail
        refine (HSG.out _ HLY.out).mono ?_
        rintro e w5 ⟨rfl, hw5, hs5⟩
        have HW5 := Lib.hid hw5
        have HS5 := Lib.hid (HSY.out.trans hs5)
        clear hw5 hs5
        go_wp2_with fail
        go_end0
        refine ⟨rfl, ?_, HS5.out⟩
        have := HW5.out
        unfold rowT
        rw [if_pos rfl, List.append_nil]
        exact this
      · rw [if_neg hn0] at HSG
        have hli := fun W hW => line_S b y step lev hstep (by omega) (putS st (sgnT y.col op.data.toList ++ prtT y.col step lev T j)) W hW
        rw [putS_append] at hli
        have HLI := Lib.hid hli
        have e0 : decide ((0 : Int) < (j : Int)) = true := by simp; omega
        have e1 : decide (0 < j) = true := by simp; omega
        have HN0 := Lib.hid hn0
        clear hli hn0
        go_wp2_with fail
        refine (HLI.out _ HLY.out).mono ?_
        rintro e w4 ⟨rfl, hw4, hs4⟩
        have HW4 := Lib.hid hw4
        have HS4 := Lib.hid (HSY.out.trans hs4)
        clear hw4 hs4
        go_wp2_with fail
        refine (HSG.out _ HW4.out).mono ?_
        rintro e w5 ⟨rfl, hw5, hs5⟩
        have HW5 := Lib.hid hw5
        have HS5 := Lib.hid (HS4.out.trans hs5)
        clear hw5 hs5
        go_wp2_with fail
        go_end0
        refine ⟨rfl, ?_, HS5.out⟩
        have := HW5.out
        unfold rowT
        rw [if_neg HN0.out]
        exact this
end Go.Proofs.YtmicpdibnkmekaaGreatDoor
