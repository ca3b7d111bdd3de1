/- A sheet: a paper on which is written, in a style. -/
import Derived.Test.YtjhghhjnccjhmaaGreatDoorRBuild
namespace Go.Proofs.YtjhghhjnccjhmaaGreatDoor
open Go Go.RowKit

structure Sty where
  ind : Int
  tab : Bool
  srt : Bool
  asc : Bool
  col : Bool
/-- The cells behind the builder. -/
def shR (room : Int) (full : Bool) (y : Sty) (step : ByteArray) (lev : Int) : List Value := [.int .i64 room, .bool full, .int .i64 y.ind, .bool y.tab, .bool y.srt, .bool y.asc, .bool y.col, .string step, .int .i64 lev]
/-- What has been written: nothing is known, once something found no room. -/
def putS (st : Option (List UInt8)) (t : List UInt8) : Option (List UInt8) := st.bind fun l => if l.length + t.length ≤ 16777216 then some (l ++ t) else none
theorem putS_none (t : List UInt8) : putS none t = none := rfl
theorem putS_fit {l t : List UInt8} (h : l.length + t.length ≤ 16777216) : putS (some l) t = some (l ++ t) := if_pos h
theorem putS_not {l t : List UInt8} (h : ¬ l.length + t.length ≤ 16777216) : putS (some l) t = none := if_neg h
theorem putS_append (st : Option (List UInt8)) (t u : List UInt8) : putS (putS st t) u = putS st (t ++ u) := by
  cases st with
  | none => rfl
  | some l =>
    by_cases h : l.length + t.length ≤ 16777216
    · rw [putS_fit h]
      by_cases h2 : (l ++ t).length + u.length ≤ 16777216
      · rw [putS_fit h2, putS_fit (by rw [List.length_append] at *; omega), List.append_assoc]
      · rw [putS_not h2, putS_not (by rw [List.length_append] at *; omega)]
    · rw [putS_not h, putS_not (by rw [List.length_append]; omega)]; rfl
theorem putS_nil {st : Option (List UInt8)} (h : ∀ l, st = some l → l.length ≤ 16777216) : putS st [] = st := by
  cases st with
  | none => rfl
  | some l => rw [putS_fit (by have := h l rfl; simpa using this), List.append_nil]
theorem putS_more {st : Option (List UInt8)} {t : List UInt8} (h : putS st t = none) (u : List UInt8) : putS st (t ++ u) = none := by rw [← putS_append, h]; rfl
/-- The sheet in block b. -/
def ShAt (w : World) (b : Nat) (y : Sty) (step : ByteArray) (lev : Int) : Option (List UInt8) → Prop
  | some l => l.length ≤ 16777216 ∧ IsG 61 (shR (16777216 - l.length) false y step lev) w b l
  | none => ∃ l room, l.length ≤ 16777216 ∧ 0 ≤ room ∧ room ≤ 16777216 ∧ IsG 61 (shR room true y step lev) w b l
theorem lies_sheet (room : Int) (full : Bool) (y : Sty) (step : ByteArray) (lev : Int) : LiesG 61 (shR room full y step lev) := by
  show liesAt Tryz.prog Tryz.prog.depth 61 (11 / Tryz.prog.cellsOf 61) 0 57 1 = true
  kernel_rfl
theorem ShAt.len {w : World} {b : Nat} {y : Sty} {step : ByteArray} {lev : Int} {st : Option (List UInt8)} (h : ShAt w b y step lev st) : ∀ l, st = some l → l.length ≤ 16777216 := by
  rintro l rfl; exact h.1
theorem ShAt.nil {w : World} {b : Nat} {y : Sty} {step : ByteArray} {lev : Int} {st : Option (List UInt8)} (h : ShAt w b y step lev st) : putS st [] = st := putS_nil h.len
/-- In either state: a room, whether it is full, its bytes. -/
theorem ShAt.parts {w : World} {b : Nat} {y : Sty} {step : ByteArray} {lev : Int} {st : Option (List UInt8)} (h : ShAt w b y step lev st) :
    ∃ l room, l.length ≤ 16777216 ∧ 0 ≤ room ∧ room ≤ 16777216 ∧ IsG 61 (shR room st.isNone y step lev) w b l ∧ (∀ m, st = some m → m = l ∧ room = 16777216 - l.length) := by
  cases st with
  | none => obtain ⟨l, room, h1, h2, h3, h4⟩ := h; exact ⟨l, room, h1, h2, h3, h4, fun m e => by cases e⟩
  | some l => obtain ⟨h1, h2⟩ := h; exact ⟨l, _, h1, by omega, by omega, h2, fun m e => by cases e; exact ⟨rfl, rfl⟩⟩
theorem ShAt.of_parts {w : World} {b : Nat} {y : Sty} {step : ByteArray} {lev : Int} {st : Option (List UInt8)} {l : List UInt8} {room : Int} (h1 : l.length ≤ 16777216) (h2 : 0 ≤ room) (h3 : room ≤ 16777216)
    (h4 : IsG 61 (shR room st.isNone y step lev) w b l) (h5 : ∀ m, st = some m → m = l ∧ room = 16777216 - l.length) : ShAt w b y step lev st := by
  cases st with
  | none => exact ⟨l, room, h1, h2, h3, h4⟩
  | some m => obtain ⟨rfl, rfl⟩ := h5 m rfl; exact ⟨h1, h4⟩
theorem IsG.set {T : TypeId} {r : List Value} {w : World} {b : Nat} {l : List UInt8} (h : IsG T r w b l) (i : Nat) (x : Value) : IsG T (r.set i x) (w.setCell ⟨b, i + 2, none⟩ x) b l := by
  obtain ⟨p, hp, v, h1, h2⟩ := h
  refine ⟨p, hp, v, ?_, own_set_other h2 (by omega) _⟩
  simp [World.setCell, Array.getElem?_modify, h1]
theorem wstep_set {w : World} {b i : Nat} (x : Value) : WStep b w (w.setCell ⟨b, i, none⟩ x) :=
  ⟨(Below.refl b w).setCell (p := ⟨b, i, none⟩) (Nat.le_refl _) _, (Lib.OthersKept.refl _ _ w).setCell ⟨b, i, none⟩ rfl _⟩
/-- What a sheet's cells read as. -/
theorem rowS {w : World} {b : Nat} {l : List UInt8} {room : Int} {full : Bool} {y : Sty} {step : ByteArray} {lev : Int} (h : IsG 61 (shR room full y step lev) w b l) :
    w.cell? ⟨b, 2, none⟩ = some (.int .i64 room) ∧ w.cell? ⟨b, 3, none⟩ = some (.bool full) ∧ w.cell? ⟨b, 4, none⟩ = some (.int .i64 y.ind) ∧ w.cell? ⟨b, 5, none⟩ = some (.bool y.tab) ∧ w.cell? ⟨b, 6, none⟩ = some (.bool y.srt) ∧ w.cell? ⟨b, 7, none⟩ = some (.bool y.asc) ∧
    w.cell? ⟨b, 8, none⟩ = some (.bool y.col) ∧ w.cell? ⟨b, 9, none⟩ = some (.string step) ∧ w.cell? ⟨b, 10, none⟩ = some (.int .i64 lev) ∧ w.frozen? ⟨b, 2, none⟩ = false ∧ w.frozen? ⟨b, 3, none⟩ = false ∧ w.frozen? ⟨b, 10, none⟩ = false ∧ b < w.heap.size := by
  obtain ⟨p, hp, v, hb, _⟩ := h
  refine ⟨?_, ?_, ?_, ?_, ?_, ?_, ?_, ?_, ?_, ?_, ?_, ?_, (Array.getElem?_eq_some_iff.1 hb).1⟩ <;> simp [World.cell?, World.frozen?, hb, shR]
set_option maxRecDepth 100000 in
set_option maxHeartbeats 1000000 in
theorem isFull_S (b : Nat) (y : Sty) (step : ByteArray) (lev : Int) (st : Option (List UInt8)) (w : World) (h : ShAt w b y step lev st) :
    Calls Tryz.prog 67 #[.pointer (some ⟨b, 0, none⟩)] w fun e w' => e = .returned (.bool st.isNone) ∧ w' = w := by
  obtain ⟨l, room, h1, h2, h3, h4, h5⟩ := h.parts
  obtain ⟨c2, c3, c4, c5, c6, c7, c8, c9, c10, f2, f3, f10, hlt⟩ := rowS h4
  clear h h4 h5
  go_enter Tryz.func67, Tryz.ntmps67
  go_wp2_with fail
  go_ret
  exact ⟨rfl, rfl⟩
set_option maxRecDepth 100000 in
set_option maxHeartbeats 1000000 in
theorem hasLines_S (b : Nat) (y : Sty) (step : ByteArray) (lev : Int) (st : Option (List UInt8)) (w : World) (h : ShAt w b y step lev st) :
    Calls Tryz.prog 72 #[.pointer (some ⟨b, 0, none⟩)] w fun e w' => e = .returned (.bool (!step.toList.isEmpty)) ∧ w' = w := by
  obtain ⟨l, room, h1, h2, h3, h4, h5⟩ := h.parts
  obtain ⟨c2, c3, c4, c5, c6, c7, c8, c9, c10, f2, f3, f10, hlt⟩ := rowS h4
  clear h h4 h5
  go_enter Tryz.func72, Tryz.ntmps72
  go_wp2_with fail
  go_ret
  exact ⟨rfl, rfl⟩
set_option maxRecDepth 100000 in
set_option maxHeartbeats 1000000 in
theorem write_S (b : Nat) (y : Sty) (step : ByteArray) (lev : Int) (st : Option (List UInt8)) (s : ByteArray) (hs : s.size ≤ 1099511627776) (w : World) (h : ShAt w b y step lev st) :
    Calls Tryz.prog 73 #[.pointer (some ⟨b, 0, none⟩), .string s] w fun e w' => e = .returned (.tuple #[]) ∧ ShAt w' b y step lev (putS st s.data.toList) ∧ WStep b w w' := by
  have hsz : s.data.toList.length = s.size := by simp
  cases st with
  | none =>
    obtain ⟨l, room, h1, h2, h3, h4⟩ := h
    obtain ⟨c2, c3, c4, c5, c6, c7, c8, c9, c10, f2, f3, f10, hlt⟩ := rowS h4
    have h4s := h4.set 1 (.bool true)
    have H4 := Lib.hid h4
    have H4S := Lib.hid h4s
    clear h4 h4s hsz
    by_cases hbig : room < s.size
    · go_enter Tryz.func73, Tryz.ntmps73
      go_wp2_with fail
      refine bodyPost_ret (results_none rfl _ _ _) rfl ?_
      exact ⟨rfl, ⟨l, room, h1, h2, h3, H4S.out⟩, wstep_set _⟩
    · go_enter Tryz.func73, Tryz.ntmps73
      go_wp2_with fail
      refine bodyPost_ret (results_none rfl _ _ _) rfl ?_
      exact ⟨rfl, ⟨l, room, h1, h2, h3, H4.out⟩, WStep.refl _ _⟩
  | some l =>
    obtain ⟨h1, h4⟩ := h
    obtain ⟨c2, c3, c4, c5, c6, c7, c8, c9, c10, f2, f3, f10, hlt⟩ := rowS h4
    by_cases hbig : l.length + s.size ≤ 16777216
    · have h4s := h4.set 0 (.int .i64 (16777216 - l.length - s.size))
      have hws := WriteString_G (lies_sheet (16777216 - l.length - s.size) false y step lev) b l s _ h4s (by omega) (by omega)
      have HWS := Lib.hid hws
      have HSZ := Lib.hid hsz
      clear h4 h4s hsz hws
      go_enter Tryz.func73, Tryz.ntmps73
      go_wp2_with fail
      refine HWS.out.mono ?_
      rintro e w1 ⟨rfl, hw1, hst⟩
      have HW1 := Lib.hid hw1
      have HST := Lib.hid hst
      clear hw1 hst
      go_wp2_with fail
      go_end0
      rw [putS_fit (by rw [HSZ.out]; exact hbig)]
      refine ⟨rfl, ⟨by rw [List.length_append, HSZ.out]; exact hbig, ?_⟩, (wstep_set _).trans HST.out⟩
      have := HW1.out.is
      rw [List.length_append, HSZ.out]
      have e1 : (16777216 : Int) - ((l.length + s.size : Nat) : Int) = 16777216 - l.length - s.size := by omega
      rw [e1]
      exact this
    · have h4s := h4.set 1 (.bool true)
      have H4S := Lib.hid h4s
      have HSZ := Lib.hid hsz
      clear h4 h4s hsz
      go_enter Tryz.func73, Tryz.ntmps73
      go_wp2_with fail
      refine bodyPost_ret (results_none rfl _ _ _) rfl ?_
      rw [putS_not (by rw [HSZ.out]; exact hbig)]
      exact ⟨rfl, ⟨l, _, h1, by omega, by omega, H4S.out⟩, wstep_set _⟩
end Go.Proofs.YtjhghhjnccjhmaaGreatDoor
