/- A sheet: tokens, signs, lines. -/
import Derived.Test.YtjhghhjnccjhmaaGreatDoorRSheet
import Derived.Test.YtjhghhjnccjhmaaGreatDoorQWriteB
namespace Go.Proofs.YtjhghhjnccjhmaaGreatDoor
open Go Go.RowKit

def tokT (col : Bool) (colour text : List UInt8) : List UInt8 := if col then [27, 91] ++ colour ++ [109] ++ text ++ [27, 91, 48, 109] else text
def sgnT (col : Bool) (text : List UInt8) : List UInt8 := tokT col [49, 59, 51, 57] text
def linT (step : ByteArray) (lev : Nat) : List UInt8 := if step.data.toList.isEmpty then [] else 10 :: Lib.repeatL step.data.toList lev
theorem linT_def (step : ByteArray) (lev : Nat) : linT step lev = if step.toList.isEmpty then [] else 10 :: Lib.repeatL step.toList lev := by unfold linT; rw [ByteArray.toList_eq]
theorem IsG.ext {T : TypeId} {r : List Value} {w w' : World} {b : Nat} {l : List UInt8} (h : IsG T r w b l) (hb : Below w.heap.size w w') : IsG T r w' b l := by
  obtain ⟨p, hp, v, h1, h2⟩ := h
  exact ⟨p, hp, v, (hb.block b (Array.getElem?_eq_some_iff.1 h1).1).trans h1, own_belowV h2 hb⟩
theorem ShAt.ext {w w' : World} {b : Nat} {y : Sty} {step : ByteArray} {lev : Int} {st : Option (List UInt8)} (h : ShAt w b y step lev st) (hb : Below w.heap.size w w') : ShAt w' b y step lev st := by
  obtain ⟨l, room, h1, h2, h3, h4, h5⟩ := h.parts
  exact ShAt.of_parts h1 h2 h3 (h4.ext hb) h5
theorem ShAt.lt {w : World} {b : Nat} {y : Sty} {step : ByteArray} {lev : Int} {st : Option (List UInt8)} (h : ShAt w b y step lev st) : b < w.heap.size := by
  obtain ⟨l, room, h1, h2, h3, h4, h5⟩ := h.parts
  exact (rowS h4).2.2.2.2.2.2.2.2.2.2.2.2
theorem data_append (a b : ByteArray) : (a ++ b).data.toList = a.data.toList ++ b.data.toList := by
  rw [ByteArray.data_append, Array.toList_append]
set_option maxRecDepth 100000 in
set_option maxHeartbeats 2000000 in
theorem token_S (b : Nat) (y : Sty) (step : ByteArray) (lev : Int) (st : Option (List UInt8)) (colour text : ByteArray) (hc : colour.size ≤ 1000) (hs : text.size ≤ 1073741824) (w : World) (h : ShAt w b y step lev st) :
    Calls Tryz.prog 48 #[.pointer (some ⟨b, 0, none⟩), .string colour, .string text] w fun e w' => e = .returned (.tuple #[]) ∧ ShAt w' b y step lev (putS st (tokT y.col colour.data.toList text.data.toList)) ∧ WStep b w w' := by
  obtain ⟨l, room, h1, h2, h3, h4, h5⟩ := h.parts
  obtain ⟨c2, c3, c4, c5, c6, c7, c8, c9, c10, f2, f3, f10, hlt⟩ := rowS h4
  cases hcol : y.col with
  | false =>
    rw [hcol] at c8
    have hw := write_S b y step lev st text (by omega) w h
    have HW := Lib.hid hw
    clear hw h h4 h5
    go_enter Tryz.func48, Tryz.ntmps48
    go_wp2_with fail
    refine HW.out.mono ?_
    rintro e w1 ⟨rfl, hw1, hs1⟩
    have HW1 := Lib.hid hw1
    have HS1 := Lib.hid hs1
    clear hw1 hs1
    go_wp2_with fail
    refine bodyPost_ret (results_none rfl _ _ _) rfl ?_
    exact ⟨rfl, HW1.out, HS1.out⟩
  | true =>
    rw [hcol] at c8
    have hz : ((⟨#[27, 91]⟩ : ByteArray) ++ colour ++ (⟨#[109]⟩ : ByteArray)).size = colour.size + 3 := by rw [ByteArray.size_append, ByteArray.size_append]; show 2 + colour.size + 1 = _; omega
    have hw := write_S b y step lev st (⟨#[27, 91]⟩ ++ colour ++ ⟨#[109]⟩) (by rw [hz]; omega) w h
    have hw2 := fun W hW => write_S b y step lev (putS st ((⟨#[27, 91]⟩ : ByteArray) ++ colour ++ (⟨#[109]⟩ : ByteArray)).data.toList) text (by omega) W hW
    have hw3 := fun W hW => write_S b y step lev (putS (putS st ((⟨#[27, 91]⟩ : ByteArray) ++ colour ++ (⟨#[109]⟩ : ByteArray)).data.toList) text.data.toList) ⟨#[27, 91, 48, 109]⟩ (by decide) W hW
    have he : putS (putS (putS st ((⟨#[27, 91]⟩ : ByteArray) ++ colour ++ (⟨#[109]⟩ : ByteArray)).data.toList) text.data.toList) (⟨#[27, 91, 48, 109]⟩ : ByteArray).data.toList = putS st (tokT true colour.data.toList text.data.toList) := by
      rw [putS_append, putS_append, data_append, data_append]
      have e1 : (⟨#[27, 91]⟩ : ByteArray).data.toList = [27, 91] := rfl
      have e2 : (⟨#[109]⟩ : ByteArray).data.toList = [109] := rfl
      have e3 : (⟨#[27, 91, 48, 109]⟩ : ByteArray).data.toList = [27, 91, 48, 109] := rfl
      unfold tokT
      rw [if_pos rfl, e1, e2, e3]
      simp only [List.append_assoc]
    rw [he] at hw3
    have HW := Lib.hid hw
    have HW2 := Lib.hid hw2
    have HW3 := Lib.hid hw3
    clear hw hw2 hw3 h h4 h5 he hz
    go_enter Tryz.func48, Tryz.ntmps48
    go_wp2_with fail
    refine HW.out.mono ?_
    rintro e w1 ⟨rfl, hw1, hs1⟩
    have HS1 := Lib.hid hs1
    have HX1 := Lib.hid hw1
    clear hw1 hs1
    go_wp2_with fail
    refine (HW2.out w1 HX1.out).mono ?_
    rintro e w2 ⟨rfl, hw2, hs2⟩
    have HS2 := Lib.hid hs2
    have HX2 := Lib.hid hw2
    clear hw2 hs2
    go_wp2_with fail
    refine (HW3.out w2 HX2.out).mono ?_
    rintro e w3 ⟨rfl, hw3, hs3⟩
    have HS3 := Lib.hid hs3
    have HX3 := Lib.hid hw3
    clear hw3 hs3
    go_wp2_with fail
    go_end0
    exact ⟨rfl, HX3.out, HS1.out.trans (HS2.out.trans HS3.out)⟩
set_option maxRecDepth 100000 in
set_option maxHeartbeats 2000000 in
theorem sign_S (b : Nat) (y : Sty) (step : ByteArray) (lev : Int) (st : Option (List UInt8)) (text : ByteArray) (hs : text.size ≤ 1073741824) (w : World) (h : ShAt w b y step lev st) :
    Calls Tryz.prog 66 #[.pointer (some ⟨b, 0, none⟩), .string text] w fun e w' => e = .returned (.tuple #[]) ∧ ShAt w' b y step lev (putS st (sgnT y.col text.data.toList)) ∧ WStep b w w' := by
  have ht := token_S b y step lev st ⟨#[49, 59, 51, 57]⟩ text (by decide) hs w h
  have HT := Lib.hid ht
  clear ht h
  go_enter Tryz.func66, Tryz.ntmps66
  go_wp2_with fail
  refine HT.out.mono ?_
  rintro e w1 ⟨rfl, hw1, hs1⟩
  have HW1 := Lib.hid hw1
  have HS1 := Lib.hid hs1
  clear hw1 hs1
  go_wp2_with fail
  go_end0
  exact ⟨rfl, HW1.out, HS1.out⟩
theorem repeat_len (l : List UInt8) (n : Nat) : (Lib.repeatL l n).length = n * l.length := by rw [Lib.repeatL_length]
set_option maxRecDepth 100000 in
set_option maxHeartbeats 2000000 in
theorem line_S (b : Nat) (y : Sty) (step : ByteArray) (lev : Nat) (hstep : step.size ≤ 7) (hlev : lev ≤ 1000000) (st : Option (List UInt8)) (w : World) (h : ShAt w b y step lev st) :
    Calls Tryz.prog 68 #[.pointer (some ⟨b, 0, none⟩)] w fun e w' => e = .returned (.tuple #[]) ∧ ShAt w' b y step lev (putS st (linT step lev)) ∧ WStep b w w' := by
  have hl := hasLines_S b y step lev st w h
  have hf := fun W hW => isFull_S b y step lev st W hW
  obtain ⟨l, room, h1, h2, h3, h4, h5⟩ := h.parts
  obtain ⟨c2, c3, c4, c5, c6, c7, c8, c9, c10, f2, f3, f10, hlt⟩ := rowS h4
  have HL := Lib.hid hl
  have HF := Lib.hid hf
  have H := Lib.hid h
  clear hl hf h h4 h5
  by_cases hemp : step.toList.isEmpty = true
  · have e1 : linT step lev = [] := by rw [linT_def, if_pos hemp]
    rw [e1, H.out.nil]
    rw [hemp] at HL
    clear e1
    go_enter Tryz.func68, Tryz.ntmps68
    go_wp2_with fail
    refine HL.out.mono ?_
    rintro e w1 ⟨rfl, rfl⟩
    go_wp2_with fail
    go_end0
    exact ⟨rfl, H.out, WStep.refl _ _⟩
  · have hemp' : step.toList.isEmpty = false := by simpa using hemp
    rw [hemp'] at HL
    cases st with
    | none =>
      go_enter Tryz.func68, Tryz.ntmps68
      go_wp2_with fail
      refine HL.out.mono ?_
      rintro e w1 ⟨rfl, rfl⟩
      go_wp2_with fail
      refine (HF.out _ H.out).mono ?_
      rintro e w2 ⟨rfl, rfl⟩
      go_wp2_with fail
      go_end0
      exact ⟨rfl, H.out, WStep.refl _ _⟩
    | some m =>
      have e1 : linT step lev = [10] ++ Lib.repeatL step.toList lev := by rw [linT_def, hemp']; rfl
      have hw := fun W hW => write_S b y step lev (some m) ⟨#[10]⟩ (by decide) W hW
      have hz : (⟨(Lib.repeatL step.data.toList lev).toArray⟩ : ByteArray).size = lev * step.size := by show (Lib.repeatL step.data.toList lev).toArray.size = _; rw [List.size_toArray, Lib.repeatL_length]; simp
      have hle : lev * step.size ≤ 7000000 := by
        have := Nat.mul_le_mul hlev hstep
        omega
      have hw2 := fun W hW => write_S b y step lev (putS (some m) [10]) ⟨(Lib.repeatL step.data.toList lev).toArray⟩ (by rw [hz]; omega) W hW
      have hp : putS (putS (some m) [10]) (⟨(Lib.repeatL step.data.toList lev).toArray⟩ : ByteArray).data.toList = putS (some m) (linT step lev) := by
        rw [putS_append, e1, ByteArray.toList_eq]
      rw [hp] at hw2
      have HW := Lib.hid hw
      have HW2 := Lib.hid hw2
      have HLE := Lib.hid hle
      clear hw hw2 hp hz e1 hle hemp
      go_enter Tryz.func68, Tryz.ntmps68
      go_wp2_with fail
      refine HL.out.mono ?_
      rintro e w1 ⟨rfl, rfl⟩
      go_wp2_with fail
      refine (HF.out _ H.out).mono ?_
      rintro e w2 ⟨rfl, rfl⟩
      go_wp2_with fail
      refine (HW.out _ H.out).mono ?_
      rintro e w3 ⟨rfl, hw3, hs3⟩
      have hw3 : ShAt w3 b y step lev (putS (some m) [10]) := hw3
      obtain ⟨l', room', _, _, _, h4', _⟩ := hw3.parts
      obtain ⟨_, _, _, _, _, _, _, d9, d10, _, _, _, dlt⟩ := rowS h4'
      have HX3 := Lib.hid hw3
      have HS3 := Lib.hid hs3
      clear hw3 hs3 h4' c2 c3 c4 c5 c6 c7 c8 c9 c10 f2 f3 f10
      go_wp2_with fail
      go_region_with (first
        | (go_at_call 42; refine (Tryz.strings_Repeat step lev _ (by omega) (by have := HLE.out; rw [Nat.mul_comm]; omega)).mono ?_; rintro e w4 ⟨rfl, hb4⟩)
        | (go_at_call 73; refine (HW2.out w4 (HX3.out.ext (((Below.refl _ w3).drew).trans hb4))).mono ?_; rintro e w5 ⟨rfl, hw5, hs5⟩))
      all_goals
        have HW5 := Lib.hid hw5
        have HS5 := Lib.hid (HS3.out.trans ((WStep.refl _ w3).drew.trans ((WStep.of_below hb4 (Nat.le_of_lt dlt)).trans hs5)))
        clear hw5 hs5 hb4
        go_wp2_with fail
        go_end0
        exact ⟨rfl, HW5.out, HS5.out⟩
end Go.Proofs.YtjhghhjnccjhmaaGreatDoor
