/- The program's Print. -/
import Derived.Test.YtjhghhjnccjhmaaGreatDoorRVal4
namespace Go.Proofs.YtjhghhjnccjhmaaGreatDoor
open Go Go.RowKit

/-- What a level adds to the margin. -/
def stepT (y : Sty) : ByteArray := if y.tab then ⟨#[9]⟩ else ⟨(Lib.repeatL [32] y.ind.toNat).toArray⟩
/-- What is answered of what was written. -/
def outS (st : Option (List UInt8)) : ByteArray × Int := match st with
  | some l => (⟨l.toArray⟩, 0)
  | none => (⟨#[]⟩, 171)
def styC (y : Sty) : Array Value := #[.int .i64 y.ind, .bool y.tab, .bool y.srt, .bool y.asc, .bool y.col]
theorem tok_ne (col : Bool) (c t : List UInt8) (h : t ≠ []) : tokT col c t ≠ [] := by
  unfold tokT
  cases col
  · exact h
  · simp
theorem printV_ne (y : Sty) (step : ByteArray) (m : Nat) (v : V) (lev : Nat) (hf : v.f < 18446744073709551616) : printV y step (m + 1) v lev ≠ [] := by
  have hr : ∀ op cl n T, op ≠ [] → rowT y.col step lev op cl n T ≠ [] := by
    intro op cl n T h
    unfold rowT sgnT
    have := tok_ne y.col [49, 59, 51, 57] op h
    simp [this]
  by_cases h5 : v.k = 5
  · rw [printV_arr y step m v lev h5]; exact hr _ _ _ _ (by simp)
  by_cases h6 : v.k = 6
  · rw [printV_obj y step m v lev h6]; exact hr _ _ _ _ (by simp)
  by_cases h4 : v.k = 4
  · rw [printV_str y step m v lev h4]
    refine tok_ne _ _ _ ?_
    unfold escT
    split
    · exact asciiR_ne _ (by rw [size_arr]; unfold quoteR; simp)
    · unfold quoteR; simp
  · show (if v.k = 5 then _ else if v.k = 6 then _ else if v.k = 4 then _ else _) ≠ _
    rw [if_neg h5, if_neg h6, if_neg h4]
    exact tok_ne _ _ _ (textV_ne m v hf)
set_option maxRecDepth 100000 in
set_option maxHeartbeats 2000000 in
theorem written_S (b : Nat) (y : Sty) (step : ByteArray) (lev : Int) (st : Option (List UInt8)) (hne : ∀ l, st = some l → l ≠ []) (w : World) (h : ShAt w b y step lev st) :
    Calls Tryz.prog 26 #[.pointer (some ⟨b, 0, none⟩)] w fun e w' => e = .returned (.tuple #[.string (outS st).1, .int .i64 (outS st).2]) ∧ Below b w w' := by
  obtain ⟨l, room, h1, h2, h3, h4, h5⟩ := h.parts
  obtain ⟨c2, c3, c4, c5, c6, c7, c8, c9, c10, f2, f3, f10, hlt⟩ := rowS h4
  cases st with
  | none =>
    clear h h4 h5
    go_enter Tryz.func26, Tryz.ntmps26
    go_wp2_with fail
    go_ret2
    exact ⟨rfl, Below.refl _ _⟩
  | some m =>
    obtain ⟨rfl, _⟩ := h5 m rfl
    have hst := BString_G b m (hne m rfl) w h4
    have HST := Lib.hid hst
    clear h h4 h5 hst
    go_enter Tryz.func26, Tryz.ntmps26
    go_wp2_with fail
    refine HST.out.mono ?_
    rintro e w1 ⟨rfl, hb1⟩
    go_wp2_with fail
    go_ret2
    exact ⟨rfl, hb1⟩
theorem ShAt.frozen9 {w : World} {b : Nat} {y : Sty} {step : ByteArray} {lev : Int} {st : Option (List UInt8)} (h : ShAt w b y step lev st) : w.frozen? ⟨b, 9, none⟩ = false ∧ w.cell? ⟨b, 9, none⟩ = some (.string step) := by
  obtain ⟨l, room, h1, h2, h3, ⟨p, hp, v, hb, _⟩, h5⟩ := h.parts
  constructor <;> simp [World.cell?, World.frozen?, hb, shR]
theorem ShAt.newStep {w : World} {b : Nat} {y : Sty} {step : ByteArray} {lev : Int} {st : Option (List UInt8)} (h : ShAt w b y step lev st) (s : ByteArray) : ShAt (w.setCell ⟨b, 9, none⟩ (.string s)) b y s lev st := by
  obtain ⟨l, room, h1, h2, h3, h4, h5⟩ := h.parts
  exact ShAt.of_parts h1 h2 h3 (h4.set 7 (.string s)) h5
theorem block_set {w : World} {b i k : Nat} {x : Value} {o : Obj} (h : w.heap[k]? = some o) (hn : k ≠ b) : (w.setCell ⟨b, i, none⟩ x).heap[k]? = some o := by
  simp [World.setCell, Array.getElem?_modify, h]
  intro e
  omega
set_option maxRecDepth 100000 in
set_option maxHeartbeats 2000000 in
theorem newSheet_any (y : Sty) (h0 : 0 ≤ y.ind) (h7 : y.ind ≤ 7) (w : World) :
    Calls Tryz.prog 24 #[.agg (styC y)] w fun e w' => ∃ b, e = .returned (.pointer (some ⟨b, 0, none⟩)) ∧ w.heap.size ≤ b ∧ ShAt w' b y (stepT y) ((0 : Nat) : Int) (some []) ∧ Below w.heap.size w w' := by
  obtain ⟨ind, tab, srt, asc, col⟩ := y
  obtain ⟨c, rfl⟩ : ∃ c : Nat, ind = c := ⟨ind.toNat, by have : 0 ≤ ind := h0; omega⟩
  have h7 : (c : Int) ≤ 7 := h7
  unfold styC
  have hrep := fun W => Tryz.strings_Repeat ⟨#[32]⟩ c W (by omega) (by show 1 * c ≤ _; omega)
  have HREP := Lib.hid hrep
  clear hrep h0
  go_enter Tryz.func24, Tryz.ntmps24
  go_wp2_with fail
  have hsh : ShAt ((w.alloc (.cells #[.int .i64 c, .bool tab, .bool srt, .bool asc, .bool col] 29)).alloc (.cells #[.pointer none, .slice none 0 0, .int .i64 16777216, .bool false, .int .i64 c, .bool tab, .bool srt, .bool asc, .bool col, .string ⟨#[]⟩, .int .i64 0] 61)) (w.heap.size + 1) ⟨c, tab, srt, asc, col⟩ ⟨#[]⟩ ((0 : Nat) : Int) (some []) := by
    refine ⟨by simp, _, Or.inl rfl, _, ?_, ⟨rfl, Or.inl ⟨rfl, rfl⟩⟩⟩
    have := heap_alloc_new (w.alloc (.cells #[.int .i64 c, .bool tab, .bool srt, .bool asc, .bool col] 29)) (.cells #[.pointer none, .slice none 0 0, .int .i64 16777216, .bool false, .int .i64 c, .bool tab, .bool srt, .bool asc, .bool col, .string ⟨#[]⟩, .int .i64 0] 61)
    rw [World.size_alloc] at this
    exact this
  have hrow : ((w.alloc (.cells #[.int .i64 c, .bool tab, .bool srt, .bool asc, .bool col] 29)).alloc (.cells #[.pointer none, .slice none 0 0, .int .i64 16777216, .bool false, .int .i64 c, .bool tab, .bool srt, .bool asc, .bool col, .string ⟨#[]⟩, .int .i64 0] 61)).heap[w.heap.size]? = some (.cells #[.int .i64 c, .bool tab, .bool srt, .bool asc, .bool col] 29 (0, 0)) := row_alloc3 (heap_alloc_new w _) _
  have hbl : Below w.heap.size w ((w.alloc (.cells #[.int .i64 c, .bool tab, .bool srt, .bool asc, .bool col] 29)).alloc (.cells #[.pointer none, .slice none 0 0, .int .i64 16777216, .bool false, .int .i64 c, .bool tab, .bool srt, .bool asc, .bool col, .string ⟨#[]⟩, .int .i64 0] 61)) := ((Below.refl w.heap.size w).alloc (Nat.le_refl _) _).alloc (by simp) _
  generalize ((w.alloc (.cells #[.int .i64 c, .bool tab, .bool srt, .bool asc, .bool col] 29)).alloc (.cells #[.pointer none, .slice none 0 0, .int .i64 16777216, .bool false, .int .i64 c, .bool tab, .bool srt, .bool asc, .bool col, .string ⟨#[]⟩, .int .i64 0] 61)) = w1 at hsh hrow hbl ⊢
  refine (HREP.out w1).mono ?_
  rintro e w2 ⟨rfl, hb2⟩
  have hs2 := hsh.ext hb2
  obtain ⟨f9, c9⟩ := hs2.frozen9
  have hr2 := (hb2.block _ (Array.getElem?_eq_some_iff.1 hrow).1).trans hrow
  have hr3 := block_set (b := w.heap.size + 1) (i := 9) (x := .string ⟨(Lib.repeatL (⟨#[32]⟩ : ByteArray).data.toList c).toArray⟩) hr2 (by omega)
  have hs3 := hs2.newStep ⟨(Lib.repeatL (⟨#[32]⟩ : ByteArray).data.toList c).toArray⟩
  have hb3 : Below w.heap.size w (w2.setCell ⟨w.heap.size + 1, 9, none⟩ (.string ⟨(Lib.repeatL (⟨#[32]⟩ : ByteArray).data.toList c).toArray⟩)) := (hbl.trans (hb2.mono hbl.size)).setCell (p := ⟨w.heap.size + 1, 9, none⟩) (by simp) _
  have c1 : (w2.setCell ⟨w.heap.size + 1, 9, none⟩ (.string ⟨(Lib.repeatL (⟨#[32]⟩ : ByteArray).data.toList c).toArray⟩)).cell? ⟨w.heap.size, 1, none⟩ = some (.bool tab) := by
    rw [cell_of_row _ _ 1 _ _ _ hr3]; rfl
  obtain ⟨g9, d9⟩ := hs3.frozen9
  have hlt3 := hs3.lt
  have HS3 := Lib.hid hs3
  have HB3 := Lib.hid hb3
  clear hsh hrow hbl hs2 hr2 hr3 hs3 hb3 hb2
  cases tab with
  | false =>
    go_wp2_with fail
    go_ret
    exact ⟨_, rfl, by omega, HS3.out, HB3.out⟩
  | true =>
    go_wp2_with fail
    go_ret
    exact ⟨_, rfl, by omega, HS3.out.newStep _, HB3.out.setCell (p := ⟨w.heap.size + 1, 9, none⟩) (by simp) _⟩
end Go.Proofs.YtjhghhjnccjhmaaGreatDoor
