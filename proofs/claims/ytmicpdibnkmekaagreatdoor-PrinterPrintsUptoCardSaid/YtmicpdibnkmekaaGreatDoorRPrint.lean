/- The program's Print. -/
import Derived.Test.YtmicpdibnkmekaaGreatDoorRSca
namespace Go.Proofs.YtmicpdibnkmekaaGreatDoor
open Go Go.RowKit

/-- What a level adds to the margin. -/
def stepT (y : Sty) : ByteArray := if y.tab then ⟨#[9]⟩ else ⟨(Lib.repeatL [32] y.ind.toNat).toArray⟩
/-- What is answered of what was written. -/
def outS (st : Option (List UInt8)) : ByteArray × Int := match st with
  | some l => (⟨l.toArray⟩, 0)
  | none => (⟨#[]⟩, 171)
def styC (y : Sty) : Array Value := #[.int .i64 y.ind, .bool y.tab, .bool y.srt, .bool y.asc, .bool y.col]
theorem tok_ne (col : Bool) (c t : List UInt8) (h : t ≠ []) : tokT col c t ≠ [] := by
  unfold tokT
  cases col
  · exact h
  · simp
theorem printV_ne (y : Sty) (step : ByteArray) (m : Nat) (v : V) (lev : Nat) (hf : v.f < 18446744073709551616) : printV y step (m + 1) v lev ≠ [] := by
  have hr : ∀ op cl n T, op ≠ [] → rowT y.col step lev op cl n T ≠ [] := by
    intro op cl n T h
    unfold rowT sgnT
    have := tok_ne y.col [49, 59, 51, 57] op h
    simp [this]
  by_cases h5 : v.k = 5
  · rw [printV_arr y step m v lev h5]; exact hr _ _ _ _ (by simp)
  by_cases h6 : v.k = 6
  · rw [printV_obj y step m v lev h6]; exact hr _ _ _ _ (by simp)
  by_cases h4 : v.k = 4
  · rw [printV_str y step m v lev h4]
    refine tok_ne _ _ _ ?_
    unfold escT
    split
    · exact asciiR_ne _ (by rw [size_arr]; unfold quoteR; simp)
    · unfold quoteR; simp
  · show (if v.k = 5 then _ else if v.k = 6 then _ else if v.k = 4 then _ else _) ≠ _
    rw [if_neg h5, if_neg h6, if_neg h4]
    exact tok_ne _ _ _ (textV_ne m v hf)
set_option maxRecDepth 100000 in
set_option maxHeartbeats 2000000 in
theorem written_S (b : Nat) (y : Sty) (step : ByteArray) (lev : Int) (st : Option (List UInt8)) (hne : ∀ l, st = some l → l ≠ []) (w : World) (h : ShAt w b y step lev st) :
    Calls Tryz.prog 41 #[.pointer (some ⟨b, 0, none⟩)] w fun e w' => e = .returned (.tuple #[.string (outS st).1, .int .i64 (outS st).2]) ∧ Below b w w' := by
  obtain ⟨l, room, h1, h2, h3, h4, h5⟩ := h.parts
  obtain ⟨c2, c3, c4, c5, c6, c7, c8, c9, c10, f2, f3, f10, hlt⟩ := rowS h4
  cases st with
  | none =>
    clear h h4 h5
    go_enter Tryz.func41, Tryz.ntmps41
    go_wp2_with fail
    go_ret2
    exact ⟨rfl, Below.refl _ _⟩
  | some m =>
    obtain ⟨rfl, _⟩ := h5 m rfl
    have hst := BString_G b m (hne m rfl) w h4
    have HST := Lib.hid hst
    clear h h4 h5 hst
    go_enter Tryz.func41, Tryz.ntmps41
    go_wp2_with fail
    refine HST.out.mono ?_
    rintro e w1 ⟨rfl, hb1⟩
    go_wp2_with fail
    go_ret2
    exact ⟨rfl, hb1⟩
theorem ShAt.frozen9 {w : World} {b : Nat} {y : Sty} {step : ByteArray} {lev : Int} {st : Option (List UInt8)} (h : ShAt w b y step lev st) : w.frozen? ⟨b, 9, none⟩ = false ∧ w.cell? ⟨b, 9, none⟩ = some (.string step) := by
  obtain ⟨l, room, h1, h2, h3, ⟨p, hp, v, hb, _⟩, h5⟩ := h.parts
  constructor <;> simp [World.cell?, World.frozen?, hb, shR]
theorem ShAt.newStep {w : World} {b : Nat} {y : Sty} {step : ByteArray} {lev : Int} {st : Option (List UInt8)} (h : ShAt w b y step lev st) (s : ByteArray) : ShAt (w.setCell ⟨b, 9, none⟩ (.string s)) b y s lev st := by
  obtain ⟨l, room, h1, h2, h3, h4, h5⟩ := h.parts
  exact ShAt.of_parts h1 h2 h3 (h4.set 7 (.string s)) h5
theorem block_set {w : World} {b i k : Nat} {x : Value} {o : Obj} (h : w.heap[k]? = some o) (hn : k ≠ b) : (w.setCell ⟨b, i, none⟩ x).heap[k]? = some o := by
  simp [World.setCell, Array.getElem?_modify, h]
  intro e
  omega
set_option maxRecDepth 100000 in
set_option maxHeartbeats 2000000 in
theorem newSheet_any (y : Sty) (h0 : 0 ≤ y.ind) (h7 : y.ind ≤ 7) (w : World) :
    Calls Tryz.prog 39 #[.agg (styC y)] w fun e w' => ∃ b, e = .returned (.pointer (some ⟨b, 0, none⟩)) ∧ w.heap.size ≤ b ∧ ShAt w' b y (stepT y) ((0 : Nat) : Int) (some []) ∧ Below w.heap.size w w' := by
  obtain ⟨ind, tab, srt, asc, col⟩ := y
  obtain ⟨c, rfl⟩ : ∃ c : Nat, ind = c := ⟨ind.toNat, by have : 0 ≤ ind := h0; omega⟩
  have h7 : (c : Int) ≤ 7 := h7
  unfold styC
  have hrep := fun W => Tryz.strings_Repeat ⟨#[32]⟩ c W (by omega) (by show 1 * c ≤ _; omega)
  have HREP := Lib.hid hrep
  clear hrep h0
  go_enter Tryz.func39, Tryz.ntmps39
  go_wp2_with fail
  have hsh : ShAt ((w.alloc (.cells #[.int .i64 c, .bool tab, .bool srt, .bool asc, .bool col] 32)).alloc (.cells #[.pointer none, .slice none 0 0, .int .i64 16777216, .bool false, .int .i64 c, .bool tab, .bool srt, .bool asc, .bool col, .string ⟨#[]⟩, .int .i64 0] 73)) (w.heap.size + 1) ⟨c, tab, srt, asc, col⟩ ⟨#[]⟩ ((0 : Nat) : Int) (some []) := by
    refine ⟨by simp, _, Or.inl rfl, _, ?_, ⟨rfl, Or.inl ⟨rfl, rfl⟩⟩⟩
    have := heap_alloc_new (w.alloc (.cells #[.int .i64 c, .bool tab, .bool srt, .bool asc, .bool col] 32)) (.cells #[.pointer none, .slice none 0 0, .int .i64 16777216, .bool false, .int .i64 c, .bool tab, .bool srt, .bool asc, .bool col, .string ⟨#[]⟩, .int .i64 0] 73)
    rw [World.size_alloc] at this
    exact this
  have hrow : ((w.alloc (.cells #[.int .i64 c, .bool tab, .bool srt, .bool asc, .bool col] 32)).alloc (.cells #[.pointer none, .slice none 0 0, .int .i64 16777216, .bool false, .int .i64 c, .bool tab, .bool srt, .bool asc, .bool col, .string ⟨#[]⟩, .int .i64 0] 73)).heap[w.heap.size]? = some (.cells #[.int .i64 c, .bool tab, .bool srt, .bool asc, .bool col] 32 (0, 0)) := row_alloc3 (heap_alloc_new w _) _
  have hbl : Below w.heap.size w ((w.alloc (.cells #[.int .i64 c, .bool tab, .bool srt, .bool asc, .bool col] 32)).alloc (.cells #[.pointer none, .slice none 0 0, .int .i64 16777216, .bool false, .int .i64 c, .bool tab, .bool srt, .bool asc, .bool col, .string ⟨#[]⟩, .int .i64 0] 73)) := ((Below.refl w.heap.size w).alloc (Nat.le_refl _) _).alloc (by simp) _
  generalize ((w.alloc (.cells #[.int .i64 c, .bool tab, .bool srt, .bool asc, .bool col] 32)).alloc (.cells #[.pointer none, .slice none 0 0, .int .i64 16777216, .bool false, .int .i64 c, .bool tab, .bool srt, .bool asc, .bool col, .string ⟨#[]⟩, .int .i64 0] 73)) = w1 at hsh hrow hbl ⊢
  refine (HREP.out w1).mono ?_
  rintro e w2 ⟨rfl, hb2⟩
  have hs2 := hsh.ext hb2
  obtain ⟨f9, c9⟩ := hs2.frozen9
  have hr2 := (hb2.block _ (Array.getElem?_eq_some_iff.1 hrow).1).trans hrow
  have hr3 := block_set (b := w.heap.size + 1) (i := 9) (x := .string ⟨(Lib.repeatL (⟨#[32]⟩ : ByteArray).data.toList c).toArray⟩) hr2 (by omega)
  have hs3 := hs2.newStep ⟨(Lib.repeatL (⟨#[32]⟩ : ByteArray).data.toList c).toArray⟩
  have hb3 : Below w.heap.size w (w2.setCell ⟨w.heap.size + 1, 9, none⟩ (.string ⟨(Lib.repeatL (⟨#[32]⟩ : ByteArray).data.toList c).toArray⟩)) := (hbl.trans (hb2.mono hbl.size)).setCell (p := ⟨w.heap.size + 1, 9, none⟩) (by simp) _
  have c1 : (w2.setCell ⟨w.heap.size + 1, 9, none⟩ (.string ⟨(Lib.repeatL (⟨#[32]⟩ : ByteArray).data.toList c).toArray⟩)).cell? ⟨w.heap.size, 1, none⟩ = some (.bool tab) := by
    rw [cell_of_row _ _ 1 _ _ _ hr3]; rfl
  obtain ⟨g9, d9⟩ := hs3.frozen9
  have hlt3 := hs3.lt
  have HS3 := Lib.hid hs3
  have HB3 := Lib.hid hb3
  clear hsh hrow hbl hs2 hr2 hr3 hs3 hb3 hb2
  cases tab with
  | false =>
    go_wp2_with fail
    go_ret
    exact ⟨_, rfl, by omega, HS3.out, HB3.out⟩
  | true =>
    go_wp2_with fail
    go_ret
    exact ⟨_, rfl, by omega, HS3.out.newStep _, HB3.out.setCell (p := ⟨w.heap.size + 1, 9, none⟩) (by simp) _⟩
end Go.Proofs.YtmicpdibnkmekaaGreatDoor
namespace Go.Proofs.YtmicpdibnkmekaaGreatDoor
open Go Go.RowKit

/-- What Print writes. -/
def prT (y : Sty) (m : Nat) (v : V) : Option (List UInt8) := putS (some []) (printV y (stepT y) m v 0)
theorem step_size (y : Sty) (h7 : y.ind ≤ 7) : (stepT y).size ≤ 7 := by
  unfold stepT
  split
  · decide
  · rw [size_arr, Lib.repeatL_length]
    simp
    omega
set_option maxRecDepth 100000 in
set_option maxHeartbeats 2000000 in
theorem Print_any (y : Sty) (hO : OrderC y) (h0 : 0 ≤ y.ind) (h7 : y.ind ≤ 7) (m : Nat) (hm : m ≤ 1000000) (v : V) (d : Nat) (lv kv : Value) (w : World) (hN : NumW w) (h : At w w.heap.size m v lv kv) (hr : rightV d v = true) :
    Calls Tryz.prog 13 #[.agg (cellsV v lv kv), .agg (styC y)] w fun e w' => e = .returned (.tuple #[.string (outS (prT y m v)).1, .int .i64 (outS (prT y m v)).2]) ∧ Below w.heap.size w w' := by
  obtain ⟨m, rfl⟩ : ∃ m', m = m' + 1 := by cases m with | zero => exact h.elim | succ m => exact ⟨m, rfl⟩
  have hne : ∀ l, prT y (m + 1) v = some l → l ≠ [] := by
    intro l hl
    unfold prT at hl
    by_cases hf : ([] : List UInt8).length + (printV y (stepT y) (m + 1) v 0).length ≤ 16777216
    · rw [putS_fit hf] at hl
      injection hl with hl
      rw [← hl, List.nil_append]
      exact printV_ne y _ m v 0 h.opened.1.2.2.1
    · rw [putS_not hf] at hl; cases hl
  have hns := fun W => newSheet_any y h0 h7 W
  have hval := fun b (hb : w.heap.size ≤ b) W hB hW => value_P w hN b hb y hO (stepT y) (step_size y h7) (m + 1) v lv kv d 0 (some []) W hr h hB hW (by omega)
  have hwr := fun b W hW => written_S b y (stepT y) ((0 : Nat) : Int) (prT y (m + 1) v) hne W hW
  have HNS := Lib.hid hns
  have HVAL := Lib.hid hval
  have HWR := Lib.hid hwr
  obtain ⟨a1, n1, k1, a2, n2, k2, rfl, rfl⟩ := h.slices
  clear hns hval hwr hN h hr hne hO
  have hsf := run_store_float Tryz.prog
  have d0 : decide (y.ind < 0) = false := by simp; omega
  have d7 : decide (7 < y.ind) = false := by simp; omega
  unfold cellsV at HVAL ⊢
  unfold styC at HNS ⊢
  go_enter Tryz.func13, Tryz.ntmps13
  go_wp2_with fail
  have hrow : ((w.alloc (.cells #[.int .i64 v.k, .float .f64 v.f, .string v.s, .slice a1 n1 k1, .slice a2 n2 k2] 27)).alloc (.cells #[.int .i64 y.ind, .bool y.tab, .bool y.srt, .bool y.asc, .bool y.col] 32)).heap[w.heap.size]? = some (.cells #[.int .i64 v.k, .float .f64 v.f, .string v.s, .slice a1 n1 k1, .slice a2 n2 k2] 27 (0, 0)) := row_alloc3 (heap_alloc_new w _) _
  have hbl : Below w.heap.size w ((w.alloc (.cells #[.int .i64 v.k, .float .f64 v.f, .string v.s, .slice a1 n1 k1, .slice a2 n2 k2] 27)).alloc (.cells #[.int .i64 y.ind, .bool y.tab, .bool y.srt, .bool y.asc, .bool y.col] 32)) := ((Below.refl w.heap.size w).alloc (Nat.le_refl _) _).alloc (by simp) _
  have hz1 : w.heap.size < ((w.alloc (.cells #[.int .i64 v.k, .float .f64 v.f, .string v.s, .slice a1 n1 k1, .slice a2 n2 k2] 27)).alloc (.cells #[.int .i64 y.ind, .bool y.tab, .bool y.srt, .bool y.asc, .bool y.col] 32)).heap.size := by simp; omega
  generalize ((w.alloc (.cells #[.int .i64 v.k, .float .f64 v.f, .string v.s, .slice a1 n1 k1, .slice a2 n2 k2] 27)).alloc (.cells #[.int .i64 y.ind, .bool y.tab, .bool y.srt, .bool y.asc, .bool y.col] 32)) = w1 at hrow hbl hz1 ⊢
  refine (HNS.out w1).mono ?_
  rintro e w2 ⟨b, rfl, hb, hsh, hb2⟩
  have hr2 := (hb2.block _ hz1).trans hrow
  obtain ⟨e0, e1, e2, e3, e4, _⟩ := row5' hr2
  have HB2 := Lib.hid (hbl.trans (hb2.mono hbl.size))
  have hwb : w.heap.size ≤ b := by omega
  have HSH := Lib.hid hsh
  clear hsh hb2 hbl hrow hr2
  go_wp2_with fail
  refine (HVAL.out b hwb w2 HB2.out HSH.out).mono ?_
  rintro e w3 ⟨rfl, hw3, hs3⟩
  have HW3 := Lib.hid hw3
  have HB3 := Lib.hid (HB2.out.trans (hs3.1.mono hwb))
  clear hw3 hs3
  go_wp2_with fail
  refine (HWR.out b w3 HW3.out).mono ?_
  rintro e w4 ⟨rfl, hb4⟩
  have HB4 := Lib.hid (HB3.out.trans (hb4.mono hwb))
  clear hb4
  go_wp2_with fail
  go_ret2
  exact ⟨rfl, HB4.out⟩
set_option maxRecDepth 100000 in
set_option maxHeartbeats 2000000 in
theorem Print_bad (y : Sty) (hy : -9223372036854775808 ≤ y.ind ∧ y.ind ≤ 9223372036854775807) (hbad : y.ind < 0 ∨ 7 < y.ind) (k : Int) (f : Nat) (s : ByteArray) (lv kv : Value) (w : World) :
    Calls Tryz.prog 13 #[.agg #[.int .i64 k, .float .f64 f, .string s, lv, kv], .agg (styC y)] w fun e w' => e = .returned (.tuple #[.string ⟨#[]⟩, .int .i64 2]) ∧ Below w.heap.size w w' := by
  have hsf := run_store_float Tryz.prog
  have hd : decide (y.ind < 0) = true ∨ (decide (y.ind < 0) = false ∧ decide (7 < y.ind) = true) := by
    by_cases h : y.ind < 0
    · exact Or.inl (by simpa using h)
    · exact Or.inr ⟨by simpa using h, by simp; omega⟩
  clear hbad hy
  unfold styC
  rcases hd with d0 | ⟨d0, d7⟩
  all_goals
    go_enter Tryz.func13, Tryz.ntmps13
    go_wp2_with fail
    go_ret2
    exact ⟨rfl, ((Below.refl w.heap.size w).alloc (Nat.le_refl _) _).alloc (by simp) _⟩
end Go.Proofs.YtmicpdibnkmekaaGreatDoor
namespace Go.Proofs.YtmicpdibnkmekaaGreatDoor
open Go Go.RowKit

def y1 : Sty := ⟨2, false, false, false, false⟩
def y2 : Sty := ⟨0, false, false, false, true⟩
def y3 : Sty := ⟨8, false, false, false, false⟩
def inV : V := .mk 6 0 ⟨#[]⟩ [.mk 5 0 ⟨#[]⟩ [] []] [⟨#[97]⟩]
def headV : V := .mk 5 0 ⟨#[]⟩ [numV 4607182418800017408, inV] []
theorem out1 : outS (prT y1 3 headV) = (⟨#[91, 10, 32, 32, 49, 44, 10, 32, 32, 123, 10, 32, 32, 32, 32, 34, 97, 34, 58, 32, 91, 93, 10, 32, 32, 125, 10, 93]⟩, 0) := by kernel_rfl
theorem out2 : outS (prT y2 1 (leafV 0 0 ⟨#[]⟩)) = (⟨#[27, 91, 49, 59, 51, 48, 109, 110, 117, 108, 108, 27, 91, 48, 109]⟩, 0) := by kernel_rfl
theorem esc1 : (⟨(escT true ⟨#[240, 159, 152, 128]⟩).toArray⟩ : ByteArray) = ⟨#[34, 92, 117, 100, 56, 51, 100, 92, 117, 100, 101, 48, 48, 34]⟩ := by kernel_rfl
theorem good1 : allGood ⟨#[240, 159, 152, 128]⟩ 0 = true := by kernel_rfl
end Go.Proofs.YtmicpdibnkmekaaGreatDoor
namespace Go.Proofs.YtmicpdibnkmekaaGreatDoor
open Go Go.RowKit

theorem right_leaf (k : Int) (h0 : 0 ≤ k) (h6 : k ≤ 5) (_h4 : k ≠ 4) (d : Nat) (f : Nat) (hf : k = 3 ∨ zeroV f = true) : rightV (d + 1) (leafV k f ⟨#[]⟩) = true := by
  have hk : okK (sortK ([] : List ByteArray)) = true := by simp [sortK, okK]
  show (headOK (leafV k f ⟨#[]⟩) && ([] : List V).all _) = true
  rw [List.all_nil, Bool.and_true, headOK_iff]
  exact ⟨⟨h0, by show k ≤ 6; omega⟩, hf, Or.inr (by rw [ByteArray.toList_eq]; rfl), Or.inr rfl, Or.inl (by show k ≠ 6; omega), Or.inr rfl, by kernel_rfl, hk⟩
theorem right_in : rightV 2 inV = true := by
  have hk : okK (sortK [(⟨#[97]⟩ : ByteArray)]) = true := by rw [sortK_small _ (by decide)]; kernel_rfl
  show (headOK inV && [leafV 5 0 ⟨#[]⟩].all (fun x => rightV 1 x)) = true
  rw [Bool.and_eq_true]
  refine ⟨?_, by rw [List.all_cons, List.all_nil, Bool.and_true]; exact right_leaf 5 (by decide) (by decide) (by decide) 0 0 (Or.inr (by kernel_rfl))⟩
  rw [headOK_iff]
  exact ⟨⟨by show (0 : Int) ≤ 6; decide, by show (6 : Int) ≤ 6; decide⟩, Or.inr (by kernel_rfl), Or.inr (by rw [ByteArray.toList_eq]; rfl), Or.inl (by show (5 : Int) ≤ 6; decide), Or.inr rfl, Or.inl rfl, by kernel_rfl, hk⟩
theorem right_head : rightV 3 headV = true := by
  have hk : okK (sortK ([] : List ByteArray)) = true := by simp [sortK, okK]
  show (headOK headV && [numV 4607182418800017408, inV].all (fun x => rightV 2 x)) = true
  rw [Bool.and_eq_true]
  refine ⟨?_, by
    rw [List.all_cons, List.all_cons, List.all_nil, Bool.and_true, right_in, Bool.and_true]
    exact right_leaf 3 (by decide) (by decide) (by decide) 1 4607182418800017408 (Or.inl rfl)⟩
  rw [headOK_iff]
  exact ⟨⟨by show (0 : Int) ≤ 5; decide, by show (5 : Int) ≤ 6; decide⟩, Or.inr (by kernel_rfl), Or.inr (by rw [ByteArray.toList_eq]; rfl), Or.inl (by show (5 : Int) ≤ 5; decide), Or.inl (by show (5 : Int) ≠ 6; decide), Or.inr rfl, by kernel_rfl, hk⟩
theorem caps_two (g : Nat) (n : Nat) (hn : n ≤ 2) : Caps (.slice (some ⟨g, 0, none⟩) n n) := fun A k c e => by cases e; exact ⟨Nat.le_refl _, by unfold maxLen; omega, fun e => by cases e⟩
set_option maxHeartbeats 1000000 in
theorem head_at {W : World} {ng g1 gk : Nat} (hg : W.heap[ng]? = some (.cells #[.int .i64 3, .float .f64 4607182418800017408, .string ⟨#[]⟩, .slice none 0 0, .slice none 0 0, .int .i64 6, .float .f64 0, .string ⟨#[]⟩, .slice (some ⟨g1, 0, none⟩) 1 1, .slice (some ⟨gk, 0, none⟩) 1 1] 27 (0, 0)))
    (h1 : W.heap[g1]? = some (.cells #[.int .i64 5, .float .f64 0, .string ⟨#[]⟩, .slice none 0 0, .slice none 0 0] 27 (0, 0)))
    (hk : W.heap[gk]? = some (.cells #[.string ⟨#[97]⟩] 9 (0, 0))) : At W W.heap.size 3 headV (.slice (some ⟨ng, 0, none⟩) 2 2) nilS := by
  have l1 := (Array.getElem?_eq_some_iff.1 hg).1
  have l2 := (Array.getElem?_eq_some_iff.1 h1).1
  have l3 := (Array.getElem?_eq_some_iff.1 hk).1
  have hc : ∀ j u, (#[Value.int .i64 3, .float .f64 4607182418800017408, .string ⟨#[]⟩, .slice none 0 0, .slice none 0 0, .int .i64 6, .float .f64 0, .string ⟨#[]⟩, .slice (some ⟨g1, 0, none⟩) 1 1, .slice (some ⟨gk, 0, none⟩) 1 1])[j]? = some u → W.cell? ⟨ng, j, none⟩ = some u := fun j u h => by rw [cell_of_row W ng j _ _ _ hg]; exact h
  obtain ⟨c0, c1, c2, c3, c4, _⟩ := row5 h1
  have hin : At W W.heap.size 2 inV (.slice (some ⟨g1, 0, none⟩) 1 1) (.slice (some ⟨gk, 0, none⟩) 1 1) := by
    refine ⟨⟨by show (_ : Int) ≤ 6; decide, by show (6 : Int) ≤ _; decide, by show (0 : Nat) < _; decide, by show (0 : Nat) ≤ _; decide, by show (1 : Nat) ≤ _; decide, by show (1 : Nat) ≤ _; decide, by show (1 : Nat) ≤ _; decide⟩, ⟨⟨some ⟨gk, 0, none⟩, 1, rfl, fun _ => ⟨⟨gk, 0, none⟩, rfl, l3, fun j u hu => ?_⟩⟩, caps_two gk 1 (by decide)⟩, caps_two g1 1 (by decide), some ⟨g1, 0, none⟩, 1, g1, 0, rfl, fun _ => ⟨rfl, l2⟩, fun i hi => ?_⟩
    · have hj : j = 0 := by
        have := (List.getElem?_eq_some_iff.1 hu).1
        have : j < 1 := this
        omega
      subst hj
      have hu : some (Value.string ⟨#[97]⟩) = some u := hu
      cases hu
      show W.cell? ⟨gk, 0, none⟩ = _
      rw [cell_of_row W gk 0 _ _ _ hk]; rfl
    · have hi0 : i = 0 := by
        have : i < 1 := hi
        omega
      subst hi0
      exact ⟨.slice none 0 0, .slice none 0 0, ⟨c0, c1, c2, c3, c4⟩, leaf_at W W.heap.size 0 5 0 ⟨#[]⟩ (by decide) (by decide) (by decide)⟩
  refine ⟨⟨by show (_ : Int) ≤ 5; decide, by show (5 : Int) ≤ _; decide, by show (0 : Nat) < _; decide, by show (0 : Nat) ≤ _; decide, by show (2 : Nat) ≤ _; decide, by show (0 : Nat) ≤ _; decide, by show (0 : Nat) ≤ _; decide⟩, ⟨⟨none, 0, rfl, fun h => absurd h (by decide)⟩, caps_nil⟩, caps_two ng 2 (by decide), some ⟨ng, 0, none⟩, 2, ng, 0, rfl, fun _ => ⟨rfl, l1⟩, fun i hi => ?_⟩
  have hi2 : i = 0 ∨ i = 1 := by
    have : i < 2 := hi
    omega
  rcases hi2 with rfl | rfl
  · exact ⟨.slice none 0 0, .slice none 0 0, ⟨hc 0 _ rfl, hc 1 _ rfl, hc 2 _ rfl, hc 3 _ rfl, hc 4 _ rfl⟩, leaf_at W W.heap.size 1 3 4607182418800017408 ⟨#[]⟩ (by decide) (by decide) (by decide)⟩
  · exact ⟨_, _, ⟨hc 5 _ rfl, hc 6 _ rfl, hc 7 _ rfl, hc 8 _ rfl, hc 9 _ rfl⟩, hin⟩
theorem head_print1 (ng : Nat) (W : World) (hN : NumW W) (hat : At W W.heap.size 3 headV (.slice (some ⟨ng, 0, none⟩) 2 2) nilS) :
    Calls Tryz.prog 13 #[.agg #[.int .i64 5, .float .f64 0, .string ⟨#[]⟩, .slice (some ⟨ng, 0, none⟩) 2 2, .slice none 0 0], .agg #[.int .i64 2, .bool false, .bool false, .bool false, .bool false]] W fun e w' =>
      e = .returned (.tuple #[.string ⟨#[91, 10, 32, 32, 49, 44, 10, 32, 32, 123, 10, 32, 32, 32, 32, 34, 97, 34, 58, 32, 91, 93, 10, 32, 32, 125, 10, 93]⟩, .int .i64 0]) ∧ Below W.heap.size W w' := by
  have h := Print_any y1 (order_F y1 rfl) (by decide) (by decide) 3 (by decide) headV 3 _ _ W hN hat right_head
  rw [out1] at h
  exact h
theorem head_print2 (W : World) (hN : NumW W) :
    Calls Tryz.prog 13 #[.agg #[.int .i64 0, .float .f64 0, .string ⟨#[]⟩, .slice none 0 0, .slice none 0 0], .agg #[.int .i64 0, .bool false, .bool false, .bool false, .bool true]] W fun e w' =>
      e = .returned (.tuple #[.string ⟨#[27, 91, 49, 59, 51, 48, 109, 110, 117, 108, 108, 27, 91, 48, 109]⟩, .int .i64 0]) ∧ Below W.heap.size W w' := by
  have h := Print_any y2 (order_F y2 rfl) (by decide) (by decide) 1 (by decide) (leafV 0 0 ⟨#[]⟩) 1 nilS nilS W hN (leaf_at W W.heap.size 0 0 0 ⟨#[]⟩ (by decide) (by decide) (by decide)) (right_leaf 0 (by decide) (by decide) (by decide) 0 0 (Or.inr (by kernel_rfl)))
  rw [out2] at h
  exact h
theorem head_print3 (ng : Nat) (W : World) :
    Calls Tryz.prog 13 #[.agg #[.int .i64 5, .float .f64 0, .string ⟨#[]⟩, .slice (some ⟨ng, 0, none⟩) 2 2, .slice none 0 0], .agg #[.int .i64 8, .bool false, .bool false, .bool false, .bool false]] W fun e w' =>
      e = .returned (.tuple #[.string ⟨#[]⟩, .int .i64 2]) ∧ Below W.heap.size W w' :=
  Print_bad y3 (by decide) (Or.inr (by decide)) 5 0 ⟨#[]⟩ _ _ W
theorem head_escape (W : World) (hN : NumW W) :
    Calls Tryz.prog 37 #[.string ⟨#[240, 159, 152, 128]⟩, .bool true] W fun e w' => e = .returned (.string ⟨#[34, 92, 117, 100, 56, 51, 100, 92, 117, 100, 101, 48, 48, 34]⟩) ∧ Below W.heap.size W w' := by
  have h := Escape_any ⟨#[240, 159, 152, 128]⟩ true (by decide) good1 W hN
  rw [esc1] at h
  exact h
theorem head_colour (ng : Nat) (W : World) :
    Calls Tryz.prog 38 #[.agg #[.int .i64 5, .float .f64 0, .string ⟨#[]⟩, .slice (some ⟨ng, 0, none⟩) 2 2, .slice none 0 0]] W fun e w' => e = .returned (.string ⟨#[49, 59, 51, 57]⟩) ∧ Below W.heap.size W w' :=
  Colour_any 5 (by decide) (by decide) _ _ _ _ W
end Go.Proofs.YtmicpdibnkmekaaGreatDoor
