/- A sheet: in which order an object's keys are written; colours. -/
import Derived.Test.YtmicpdibnkmekaaGreatDoorUSheet
import Derived.Test.YtmicpdibnkmekaaGreatDoorUBase
import Derived.Test.YtmicpdibnkmekaaGreatDoorUPRow
import Derived.Test.YtmicpdibnkmekaaGreatDoorUEsc
import Derived.StillTailTactics
import Derived.Deep.RegionHeld3
namespace Go.Proofs.YtmicpdibnkmekaaGreatDoor
open Go Go.RowKit

/-- Block g is a row of n numbers; the first i of them are 0, 1, .. -/
def Pls (w : World) (g n i : Nat) : Prop :=
  ∃ (cur : Array Value) (f : Nat → Nat), w.heap[g]? = some (.cells cur 3 (0, 0)) ∧ cur.size = n ∧ (∀ j, j < n → cur[j]? = some (.int .i64 ((f j : Nat) : Int))) ∧ ∀ j, j < i → f j = j
section
variable {w w' : World} {g n i : Nat}
theorem Pls.keep (h : Pls w g n i) (hk : w'.heap[g]? = w.heap[g]?) : Pls w' g n i := by
  obtain ⟨cur, f, h1, h2⟩ := h
  exact ⟨cur, f, hk.trans h1, h2⟩
theorem Pls.lt (h : Pls w g n i) : g < w.heap.size := by
  obtain ⟨cur, f, h1, _⟩ := h
  exact (Array.getElem?_eq_some_iff.1 h1).1
theorem Pls.at_ (h : Pls w g n i) (j : Nat) (hj : j < n) (hi : j < i) : w.cell? ⟨g, j, none⟩ = some (.int .i64 (j : Int)) := by
  obtain ⟨cur, f, h1, h2, h3, h4⟩ := h
  rw [cell_of_row w g j cur _ _ h1, h3 j hj, h4 j hi]
theorem Pls.cell_frozen (h : Pls w g n i) (j : Nat) (hj : j < n) : (∃ u, w.cell? ⟨g, j, none⟩ = some u) ∧ w.frozen? ⟨g, j, none⟩ = false := by
  obtain ⟨cur, f, h1, h2, h3, h4⟩ := h
  exact ⟨⟨_, by rw [cell_of_row w g j cur _ _ h1]; exact h3 j hj⟩, by simp [World.frozen?, h1]⟩
theorem Pls.put (h : Pls w g n i) (hi : i < n) : Pls (w.setCell ⟨g, i, none⟩ (.int .i64 (i : Int))) g n (i + 1) := by
  obtain ⟨cur, f, h1, h2, h3, h4⟩ := h
  refine ⟨cur.setIfInBounds i (.int .i64 (i : Int)), fun j => if j = i then i else f j, ?_, by simpa using h2, fun j hj => ?_, fun j hj => ?_⟩
  · simp [World.setCell, Array.getElem?_modify, h1]
  · rw [Array.getElem?_setIfInBounds]
    by_cases hij : i = j
    · subst hij; rw [if_pos rfl, if_pos (by omega)]; simp only [if_true]
    · rw [if_neg hij]; simp only [if_neg (fun e : j = i => hij e.symm)]; exact h3 j hj
  · by_cases hij : j = i
    · subst hij; simp only [if_true]
    · simp only [if_neg hij]; exact h4 j (by omega)
theorem Pls.made (w : World) (n : Nat) : Pls (w.alloc (.cells (madeCells #[.int .i64 0] n) 3)) w.heap.size n 0 := by
  refine ⟨_, fun _ => 0, heap_alloc_new w _, ?_, fun j hj => ?_, fun j hj => absurd hj (Nat.not_lt_zero j)⟩
  · exact size_madeCells _ _
  · rw [← Array.getElem?_toList, toList_madeCells_one, List.getElem?_replicate, if_pos hj]; rfl
end
/-- In which order keys are written. -/
def ordP (srt : Bool) (ks : List ByteArray) (j : Nat) : Nat := if srt then ks.findIdx (fun k => decide (k = (sortK ks).getD j default)) else j
/-- Block g is a row of n numbers: p 0, p 1, .. -/
def Prm (w : World) (g n : Nat) (p : Nat → Nat) : Prop := ∃ cur : Array Value, w.heap[g]? = some (.cells cur 3 (0, 0)) ∧ cur.size = n ∧ ∀ j, j < n → cur[j]? = some (.int .i64 ((p j : Nat) : Int))
theorem Prm.keep {w w' : World} {g n : Nat} {p : Nat → Nat} (h : Prm w g n p) (hk : w'.heap[g]? = w.heap[g]?) : Prm w' g n p := by
  obtain ⟨cur, h1, h2⟩ := h
  exact ⟨cur, hk.trans h1, h2⟩
theorem Prm.lt {w : World} {g n : Nat} {p : Nat → Nat} (h : Prm w g n p) : g < w.heap.size := by
  obtain ⟨cur, h1, _⟩ := h
  exact (Array.getElem?_eq_some_iff.1 h1).1
theorem Prm.at_ {w : World} {g n : Nat} {p : Nat → Nat} (h : Prm w g n p) (j : Nat) (hj : j < n) : w.cell? ⟨g, j, none⟩ = some (.int .i64 (p j : Int)) := by
  obtain ⟨cur, h1, h2, h3⟩ := h
  rw [cell_of_row w g j cur _ _ h1, h3 j hj]
theorem Prm.of_pls {w : World} {g n : Nat} (h : Pls w g n n) : Prm w g n (fun j => j) := by
  obtain ⟨cur, f, h1, h2, h3, h4⟩ := h
  exact ⟨cur, h1, h2, fun j hj => by rw [h3 j hj, h4 j hj]⟩
set_option maxRecDepth 100000 in
set_option maxHeartbeats 2000000 in
theorem order_S (b : Nat) (y : Sty) (hsrt : y.srt = false) (step : ByteArray) (lev : Int) (st : Option (List UInt8)) (A : Option Addr) (n c : Nat) (hn : n ≤ 1048576) (w : World) (h : ShAt w b y step lev st) :
    Calls Tryz.prog 78 #[.pointer (some ⟨b, 0, none⟩), .slice A n c] w fun e w' => ∃ g, e = .returned (.slice (some ⟨g, 0, none⟩) n n) ∧ w.heap.size ≤ g ∧ Pls w' g n n ∧ Below w.heap.size w w' := by
  obtain ⟨i0, hi, hz0, hz1, hz2⟩ := info_parts infoInt
  have hmk : ∀ u : World, (Instr.makeSlice 107 (.int .i64 (n : Int)) (.int .i64 (n : Int))).run Tryz.prog u =
      .ok (.slice (some ⟨u.heap.size, 0, none⟩) n n) (u.alloc (.cells (madeCells #[.int .i64 0] n) 3)) := fun u => by
    have h := run_make (P := Tryz.prog) u 107 3 i0 (.int .i64 0) Tryz.underlying107 hi hz0 .i64 .i64 (n : Int) (n : Int) (by omega) (Int.le_refl _) (by rw [hz2]; omega) (by omega)
    rw [Int.toNat_natCast] at h
    simpa [hz1, Value.cells] using h
  have H := Lib.hid h
  have hlt := h.lt
  clear hi hz0 hz1 hz2 h
  go_enter Tryz.func78, Tryz.ntmps78
  go_wp2_with fail
  go_loopw [12] (fun i W => ∃ j : Nat, j ≤ n ∧ i = .int .i64 j ∧ Pls W (w.heap.size + 1) n j ∧ Below w.heap.size w W) (fun i _ => n - (intOf i).toNat)
  case atStart =>
    refine ⟨0, Nat.zero_le _, rfl, ?_, ?_⟩
    · have := Pls.made (w.alloc (.cells #[.slice A n c] 25)) n
      rw [World.size_alloc] at this
      exact this
    · exact ((Below.refl w.heap.size w).alloc (Nat.le_refl _) _).alloc (by simp) _
  case round =>
    obtain ⟨j, hj, rfl, hp, hb⟩ := hrel
    by_cases hlt2 : j < n
    · obtain ⟨⟨u, hu⟩, hf⟩ := hp.cell_frozen j hlt2
      have HP := Lib.hid (hp.put hlt2)
      have HB := Lib.hid hb
      have dj : decide ((j : Int) < (n : Int)) = true := by simp; omega
      have j0 : (0 : Int) ≤ (j : Int) := by omega
      have j1 : (j : Int) < (n : Int) := by omega
      clear hp hb
      go_wp2_with fail
      go_roundw
      case rel => exact ⟨j + 1, by omega, by go_num, HP.out, HB.out.setCell (p := ⟨w.heap.size + 1, j, none⟩) (by simp) _⟩
      case measure => simp [intOf]; omega
    · obtain rfl : j = n := by omega
      have HX := Lib.hid (H.out.ext (hb.mono (Nat.le_refl _)))
      obtain ⟨l, room, h1, h2, h3, h4, h5⟩ := HX.out.parts
      obtain ⟨c2, c3, c4, c5, c6, c7, c8, c9, c10, f2, f3, f10, _⟩ := rowS h4
      have HP := Lib.hid hp
      have HB := Lib.hid hb
      rw [hsrt] at c6
      have dj : decide ((j : Int) < (j : Int)) = false := by simp
      clear hp hb h4 h5
      go_wp2_with fail
      go_ret
      exact ⟨_, rfl, by omega, HP.out, HB.out⟩
set_option maxHeartbeats 1000000 in
/-- The colour of a kind. -/
def colT (k : Int) : ByteArray := if k = 0 then ⟨#[49, 59, 51, 48]⟩ else if k = 4 then ⟨#[48, 59, 51, 50]⟩ else if 5 ≤ k then ⟨#[49, 59, 51, 57]⟩ else ⟨#[48, 59, 51, 57]⟩
set_option maxRecDepth 100000 in
set_option maxHeartbeats 1000000 in
theorem Colour_any (k : Int) (h0 : 0 ≤ k) (h6 : k ≤ 6) (x1 x2 x3 x4 : Value) (w : World) : Calls Tryz.prog 38 #[.agg #[.int .i64 k, x1, x2, x3, x4]] w fun e w' => e = .returned (.string (colT k)) ∧ Below w.heap.size w w' := by
  have hk : k = 0 ∨ k = 1 ∨ k = 2 ∨ k = 3 ∨ k = 4 ∨ k = 5 ∨ k = 6 := by omega
  clear h0 h6
  rcases hk with rfl | rfl | rfl | rfl | rfl | rfl | rfl
  all_goals
    go_enter Tryz.func38, Tryz.ntmps38
    go_wp2_with fail
    go_ret
    first | exact ⟨rfl, Below.refl _ _⟩ | exact ⟨rfl, (Below.refl _ _).alloc (Nat.le_refl _) _⟩ | exact ⟨rfl, (Below.refl w.heap.size w).drew⟩
end Go.Proofs.YtmicpdibnkmekaaGreatDoor
namespace Go.Proofs.YtmicpdibnkmekaaGreatDoor
open Go Go.RowKit

def blankT (step : ByteArray) : List UInt8 := if step.data.toList.isEmpty then [] else [32]
theorem blankT_def (step : ByteArray) : blankT step = if step.toList.isEmpty then [] else [32] := by unfold blankT; rw [ByteArray.toList_eq]
/-- A pair's text: the key, a colon, the value's text. -/
def pairT (y : Sty) (step : ByteArray) (key : ByteArray) (text : List UInt8) : List UInt8 := tokT y.col [51, 52, 59, 49] (escT y.asc key) ++ sgnT y.col [58] ++ blankT step ++ text
/-- A value's text in a style, on a level. -/
def printV (y : Sty) (step : ByteArray) : Nat → V → Nat → List UInt8
  | 0, _, _ => []
  | m + 1, v, lev =>
    if v.k = 5 then rowT y.col step lev [91] [93] v.l.length (fun i => printV y step m (v.l.getD i default) (lev + 1))
    else if v.k = 6 then rowT y.col step lev [123] [125] v.l.length (fun i => pairT y step (v.ks.getD (ordP y.srt v.ks i) default) (printV y step m (v.l.getD (ordP y.srt v.ks i) default) (lev + 1)))
    else if v.k = 4 then tokT y.col (colT 4).data.toList (escT y.asc v.s)
    else tokT y.col (colT v.k).data.toList (textV (m + 1) v)
/-- What the writing of values promises, of all values of at most m levels that lie below w0. -/
def ValueP (w0 : World) (b : Nat) (y : Sty) (step : ByteArray) (m : Nat) : Prop := ∀ (v : V) (lv kv : Value) (d lev : Nat) (st : Option (List UInt8)) (w : World), rightV d v = true → At w0 w0.heap.size m v lv kv → Below w0.heap.size w0 w → ShAt w b y step lev st → lev + m ≤ 1000000 →
    Calls Tryz.prog 40 #[.pointer (some ⟨b, 0, none⟩), .agg (cellsV v lv kv)] w fun e w' => e = .returned (.tuple #[]) ∧ ShAt w' b y step lev (putS st (printV y step m v lev)) ∧ WStep b w w'
/-- What a part's closure finds. -/
structure PEnv (w0 : World) (b P : Nat) (cells : Array Value) (W : World) : Prop where
  p2 : W.heap[P]? = some (.cells #[.pointer (some ⟨b, 0, none⟩)] 67 (0, 0))
  p3 : W.heap[P + 1]? = some (.cells cells 27 (0, 0))
  bel : Below w0.heap.size w0 W
theorem PEnv.step {w0 : World} {b P : Nat} {cells : Array Value} (hP : b < P) (hb : w0.heap.size ≤ b) (w w' : World) (h : PEnv w0 b P cells w) (hs : WStep b w w') : PEnv w0 b P cells w' :=
  ⟨hs.block h.p2 (by omega) (by decide), hs.block h.p3 (by omega) (by decide), h.bel.trans (hs.1.mono hb)⟩
set_option maxRecDepth 100000 in
set_option maxHeartbeats 4000000 in
theorem part1_S (w0 : World) (b P : Nat) (_hb : w0.heap.size ≤ b) (_hP : b < P) (y : Sty) (step : ByteArray) (m : Nat) (hC : ValueP w0 b y step m) (v : V) (d : Nat) (hr : rightV d v = true) (k : Int) (a : Option Addr) (c B o : Nat) (kv : Value) (hls : v.l.length ≤ 1048576)
    (hab : 0 < v.l.length → a = some ⟨B, o, none⟩ ∧ B < w0.heap.size) (hi : ∀ i (h : i < v.l.length), ∃ lv' kv', FiveAt w0 B (o + i * 5) (v.l[i]) lv' kv' ∧ At w0 w0.heap.size m (v.l[i]) lv' kv') (lev : Nat) (hlev : lev + m ≤ 1000000)
    (i : Nat) (st : Option (List UInt8)) (w : World) (hlt : i < v.l.length) (hE : PEnv w0 b P #[.int .i64 k, .float .f64 v.f, .string v.s, .slice a v.l.length c, kv] w) (hw : ShAt w b y step lev st) :
    Calls Tryz.prog 77 #[.int .i64 i, .pointer (some ⟨P, 0, none⟩), .pointer (some ⟨P + 1, 0, none⟩)] w fun e w' => e = .returned (.tuple #[]) ∧ ShAt w' b y step lev (putS st (printV y step m (v.l.getD i default) lev)) ∧ WStep b w w' := by
  have hg : v.l.getD i default = v.l[i] := by simp [List.getD, hlt]
  rw [hg]
  obtain ⟨rfl, hBw⟩ := hab (by omega)
  obtain ⟨lv', kv', h5, hAt⟩ := hi i hlt
  obtain ⟨f0, f1, f2, f3, f4⟩ := h5.keep hBw (fun p hp => hE.bel.cell hp)
  obtain ⟨a1, n1, k1, a2, n2, k2, rfl, rfl⟩ := hAt.slices
  have hcall := hC v.l[i] _ _ (d - 1) lev st w.drew (right_sub hr hlt) hAt hE.bel.drew (hw.ext ((Below.refl _ w).drew)) hlev
  unfold cellsV at hcall
  have HC := Lib.hid hcall
  have g2 := row1V hE.p2
  obtain ⟨e0, e1, e2, e3, e4, _, _, _, _, _⟩ := row5' hE.p3
  clear hcall hC hE h5 hAt hi hab hr hg hw
  go_enter Tryz.func77, Tryz.ntmps77
  go_wp2_with fail
  go_region_with (go_at_call 40; refine HC.out.mono ?_; rintro e w2 ⟨rfl, hw2, hs2⟩)
  all_goals
    go_end0
    exact ⟨rfl, hw2, ((WStep.refl _ _).drew).trans hs2⟩
set_option maxRecDepth 100000 in
set_option maxHeartbeats 4000000 in
theorem pair_S (w0 : World) (hN : NumW w0) (b : Nat) (hb : w0.heap.size ≤ b) (y : Sty) (step : ByteArray) (m : Nat) (hC : ValueP w0 b y step m) (v : V) (lv kv : Value) (d lev : Nat) (st : Option (List UInt8)) (key : ByteArray) (hks : key.size ≤ 1048576) (hkg : allGood key 0 = true) (w : World) (hr : rightV d v = true) (hA : At w0 w0.heap.size m v lv kv) (hbel : Below w0.heap.size w0 w)
    (hw : ShAt w b y step lev st) (hlev : lev + m ≤ 1000000) :
    Calls Tryz.prog 80 #[.pointer (some ⟨b, 0, none⟩), .string key, .agg (cellsV v lv kv)] w fun e w' => e = .returned (.tuple #[]) ∧ ShAt w' b y step lev (putS st (pairT y step key (printV y step m v lev))) ∧ WStep b w w' := by
  have hlen := escT_len y.asc key
  have hesc := fun W hW => Escape_any key y.asc hks hkg W hW
  have htok := fun W hW => token_S b y step lev st ⟨#[51, 52, 59, 49]⟩ ⟨(escT y.asc key).toArray⟩ (by decide) (by rw [size_arr]; omega) W hW
  have hsg := fun W hW => sign_S b y step lev (putS st (tokT y.col [51, 52, 59, 49] (escT y.asc key))) ⟨#[58]⟩ (by decide) W hW
  have hhl := fun W hW => hasLines_S b y step lev (putS st (tokT y.col [51, 52, 59, 49] (escT y.asc key) ++ sgnT y.col [58])) W hW
  have hwr := fun W hW => write_S b y step lev (putS st (tokT y.col [51, 52, 59, 49] (escT y.asc key) ++ sgnT y.col [58])) ⟨#[32]⟩ (by decide) W hW
  have hcall := fun W hB hW => hC v lv kv d lev (putS st (tokT y.col [51, 52, 59, 49] (escT y.asc key) ++ sgnT y.col [58] ++ blankT step)) W hr hA hB hW hlev
  rw [putS_append] at hsg hcall
  have hpt : tokT y.col [51, 52, 59, 49] (escT y.asc key) ++ sgnT y.col [58] ++ blankT step ++ printV y step m v lev = pairT y step key (printV y step m v lev) := rfl
  rw [hpt] at hcall
  have HESC := Lib.hid hesc
  have HTOK := Lib.hid htok
  have HSG := Lib.hid hsg
  have HHL := Lib.hid hhl
  have HWR := Lib.hid hwr
  have HC := Lib.hid hcall
  have HB := Lib.hid hbel
  have HN := Lib.hid (hN.below hbel)
  have HW := Lib.hid hw
  obtain ⟨l, room, _, _, _, h4, _⟩ := hw.parts
  obtain ⟨c2, c3, c4, c5, c6, c7, c8, c9, c10, f2, f3, f10, hlt⟩ := rowS h4
  obtain ⟨a1, n1, k1, a2, n2, k2, rfl, rfl⟩ := hA.slices
  unfold cellsV at HC ⊢
  clear hesc htok hsg hhl hwr hcall hC hA hr hbel hN hw h4 hpt hlen
  go_enter Tryz.func80, Tryz.ntmps80
  go_wp2_with fail
  have hrow0 := heap_alloc_new w (Obj.cells #[.int .i64 v.k, .float .f64 v.f, .string v.s, .slice a1 n1 k1, .slice a2 n2 k2] 27)
  have hst0 : WStep b w (w.alloc (Obj.cells #[.int .i64 v.k, .float .f64 v.f, .string v.s, .slice a1 n1 k1, .slice a2 n2 k2] 27)) := (WStep.refl b w).alloc (by omega) _
  have hbl0 : Below w.heap.size w (w.alloc (Obj.cells #[.int .i64 v.k, .float .f64 v.f, .string v.s, .slice a1 n1 k1, .slice a2 n2 k2] 27)) := (Below.refl w.heap.size w).alloc (Nat.le_refl _) _
  generalize (w.alloc (Obj.cells #[.int .i64 v.k, .float .f64 v.f, .string v.s, .slice a1 n1 k1, .slice a2 n2 k2] 27)) = w1 at hrow0 hst0 hbl0 ⊢
  have HX1 := Lib.hid (HW.out.ext hbl0)
  refine (HESC.out w1 (HN.out.below hbl0)).mono ?_
  rintro e w2 ⟨rfl, hb2⟩
  have hlt1 := HX1.out.lt
  have hst2 : WStep b w w2 := hst0.trans (WStep.of_below hb2 (Nat.le_of_lt hlt1))
  have hrow2 := (hb2.block _ (Array.getElem?_eq_some_iff.1 hrow0).1).trans hrow0
  have HX2 := Lib.hid (HX1.out.ext hb2)
  have HS2 := Lib.hid hst2
  have HR2 := Lib.hid hrow2
  clear hb2 hst2 hrow2 hrow0 hst0 hbl0 c2 c3 c4 c5 c6 c7 c8 c9 c10 f2 f3 f10
  go_wp2_with fail
  refine (HTOK.out w2 HX2.out).mono ?_
  rintro e w3 ⟨rfl, hw3, hs3⟩
  have hw3 : ShAt w3 b y step lev (putS st (tokT y.col [51, 52, 59, 49] (escT y.asc key))) := hw3
  have HX3 := Lib.hid hw3
  have HS3 := Lib.hid (HS2.out.trans hs3)
  have HR3 := Lib.hid (hs3.block HR2.out (by omega) (by decide))
  clear hw3 hs3
  go_wp2_with fail
  refine (HSG.out w3 HX3.out).mono ?_
  rintro e w4 ⟨rfl, hw4, hs4⟩
  have HX4 := Lib.hid hw4
  have HS4 := Lib.hid (HS3.out.trans hs4)
  have HR4 := Lib.hid (hs4.block HR3.out (by omega) (by decide))
  clear hw4 hs4
  go_wp2_with fail
  refine (HHL.out w4 HX4.out).mono ?_
  rintro e w5 ⟨rfl, rfl⟩
  by_cases hemp : step.toList.isEmpty = true
  · have hbk : blankT step = [] := by rw [blankT_def, if_pos hemp]
    rw [hbk, List.append_nil] at HC
    rw [hemp]
    obtain ⟨e0, e1, e2, e3, e4, _, _, _, _, _⟩ := row5' HR4.out
    clear hbk
    go_wp2_with fail
    refine (HC.out _ (HB.out.trans ((HS4.out.1).mono hb)) HX4.out).mono ?_
    rintro e w6 ⟨rfl, hw6, hs6⟩
    have HX6 := Lib.hid hw6
    have HS6 := Lib.hid (HS4.out.trans hs6)
    clear hw6 hs6
    go_wp2_with fail
    go_end0
    exact ⟨rfl, HX6.out, HS6.out⟩
  · have hemp' : step.toList.isEmpty = false := by simpa using hemp
    have hbk : blankT step = [32] := by rw [blankT_def, if_neg hemp]
    rw [hbk, ← putS_append] at HC
    rw [hemp']
    clear hbk hemp
    go_wp2_with fail
    refine (HWR.out _ HX4.out).mono ?_
    rintro e w7 ⟨rfl, hw7, hs7⟩
    have HX7 := Lib.hid hw7
    have HS7 := Lib.hid (HS4.out.trans hs7)
    have HR7 := Lib.hid (hs7.block HR4.out (by omega) (by decide))
    obtain ⟨e0, e1, e2, e3, e4, _, _, _, _, _⟩ := row5' HR7.out
    clear hw7 hs7
    go_wp2_with fail
    refine (HC.out _ (HB.out.trans ((HS7.out.1).mono hb)) HX7.out).mono ?_
    rintro e w6 ⟨rfl, hw6, hs6⟩
    have HX6 := Lib.hid hw6
    have HS6 := Lib.hid (HS7.out.trans hs6)
    clear hw6 hs6
    go_wp2_with fail
    go_end0
    exact ⟨rfl, HX6.out, HS6.out⟩
end Go.Proofs.YtmicpdibnkmekaaGreatDoor
namespace Go.Proofs.YtmicpdibnkmekaaGreatDoor
open Go Go.RowKit

structure PEnv2 (w0 : World) (b P Q g n : Nat) (p : Nat → Nat) (cells : Array Value) (W : World) : Prop where
  e : PEnv w0 b P cells W
  p4 : W.heap[Q]? = some (.cells #[.slice (some ⟨g, 0, none⟩) n n] 107 (0, 0))
  pls : Prm W g n p
theorem Prm.step {b : Nat} {w w' : World} {g n : Nat} {p : Nat → Nat} (h : Prm w g n p) (hs : WStep b w w') (hg : g ≠ b) : Prm w' g n p := by
  obtain ⟨cur, h1, h2⟩ := h
  exact ⟨cur, hs.block h1 hg (by decide), h2⟩
theorem PEnv2.step {w0 : World} {b P Q g n : Nat} {p : Nat → Nat} {cells : Array Value} (hP : b < P) (hQ : b < Q) (hg : b < g) (hb : w0.heap.size ≤ b) (w w' : World) (h : PEnv2 w0 b P Q g n p cells w) (hs : WStep b w w') : PEnv2 w0 b P Q g n p cells w' :=
  ⟨PEnv.step hP hb w w' h.e hs, hs.block h.p4 (by omega) (by decide), h.pls.step hs (by omega)⟩
set_option maxRecDepth 100000 in
set_option maxHeartbeats 4000000 in
theorem part2_S (w0 : World) (hN : NumW w0) (b P Q g : Nat) (hb : w0.heap.size ≤ b) (_hP : b < P) (_hQ : b < Q) (_hgb : b < g) (y : Sty) (step : ByteArray) (m : Nat) (hC : ValueP w0 b y step m) (v : V) (d : Nat) (hr : rightV d v = true) (k : Int) (a : Option Addr) (c B o : Nat) (kv : Value) (hls : v.l.length ≤ 1048576)
    (hab : 0 < v.l.length → a = some ⟨B, o, none⟩ ∧ B < w0.heap.size) (hi : ∀ i (h : i < v.l.length), ∃ lv' kv', FiveAt w0 B (o + i * 5) (v.l[i]) lv' kv' ∧ At w0 w0.heap.size m (v.l[i]) lv' kv')
    (hk : KeysAt w0 w0.heap.size kv v.ks) (hkl : v.ks.length = v.l.length) (hkg : ∀ key ∈ v.ks, key.size ≤ 1048576 ∧ allGood key 0 = true) (lev : Nat) (hlev : lev + m ≤ 1000000)
    (p : Nat → Nat) (hp : ∀ j, j < v.l.length → p j < v.l.length) (i : Nat) (st : Option (List UInt8)) (w : World) (hlti : i < v.l.length) (hE : PEnv2 w0 b P Q g v.l.length p #[.int .i64 k, .float .f64 v.f, .string v.s, .slice a v.l.length c, kv] w) (hw : ShAt w b y step lev st) :
    Calls Tryz.prog 79 #[.int .i64 i, .pointer (some ⟨P, 0, none⟩), .pointer (some ⟨P + 1, 0, none⟩), .pointer (some ⟨Q, 0, none⟩)] w fun e w' => e = .returned (.tuple #[]) ∧
      ShAt w' b y step lev (putS st (pairT y step (v.ks.getD (p i) default) (printV y step m (v.l.getD (p i) default) lev))) ∧ WStep b w w' := by
  have hlt := hp i hlti
  have gi := hE.pls.at_ i hlti
  clear hp
  generalize p i = q at hlt gi ⊢
  have hg : v.l.getD q default = v.l[q] := by simp [List.getD, hlt]
  have hgk : v.ks.getD q default = v.ks[q]'(by omega) := by rw [List.getD, List.getElem?_eq_getElem (by omega)]; rfl
  rw [hg, hgk]
  have hlk : q < v.ks.length := by omega
  obtain ⟨A, ad, ck, rfl, hA, hac⟩ := hk.1.dest
  rw [List.length_map] at hE hA
  obtain ⟨rfl, hAw⟩ := hA (by omega)
  have hck : w0.cell? (ad.add q) = some (.string (v.ks[q]'hlk)) := hac q _ (by simp [hlk])
  have hkc : w.cell? (ad.add q) = some (.string (v.ks[q]'hlk)) := (hE.e.bel.cell (p := ad.add q) (by rw [add_block]; exact hAw)).trans hck
  obtain ⟨rfl, hBw⟩ := hab (by omega)
  obtain ⟨lv', kv', h5, hAt⟩ := hi q hlt
  obtain ⟨f0, f1, f2, f3, f4⟩ := h5.keep hBw (fun p hp => hE.e.bel.cell hp)
  obtain ⟨a1, n1, k1, a2, n2, k2, rfl, rfl⟩ := hAt.slices
  have hkey := hkg (v.ks[q]'hlk) (List.getElem_mem hlk)
  have hcall := pair_S w0 hN b hb y step m hC v.l[q] _ _ (d - 1) lev st (v.ks[q]'hlk) hkey.1 hkey.2 w.drew (right_sub hr hlt) hAt hE.e.bel.drew (hw.ext ((Below.refl _ w).drew)) hlev
  unfold cellsV at hcall
  have HC := Lib.hid hcall
  have g2 := row1V hE.e.p2
  have g4 := row1V hE.p4
  have i0 : (0 : Int) ≤ (i : Int) := by omega
  have i1 : (i : Int) < (v.l.length : Int) := by omega
  have q0 : (0 : Int) ≤ (q : Int) := by omega
  have q1 : (q : Int) < (v.l.length : Int) := by omega
  obtain ⟨e0, e1, e2, e3, e4, _, _, _, _, _⟩ := row5' hE.e.p3
  clear hcall hC hE h5 hAt hi hab hr hg hgk hw hk hac hA hck hkg hkey
  go_enter Tryz.func79, Tryz.ntmps79
  go_wp2_with fail
  go_still_tail 17, (by kernel_rfl)
  change wpList _ _ _ _ _ w.drew
  go_wp2_with fail
  refine HC.out.mono ?_
  rintro e w2 ⟨rfl, hw2, hs2⟩
  go_wp2_with fail
  go_end0
  exact ⟨rfl, hw2, ((WStep.refl _ _).drew).trans hs2⟩
end Go.Proofs.YtmicpdibnkmekaaGreatDoor
namespace Go.Proofs.YtmicpdibnkmekaaGreatDoor
open Go Go.RowKit

/-- How the world stands within the writing of one value. -/
structure VS (w : World) (b P : Nat) (k : Int) (f : Nat) (s : ByteArray) (lv kv : Value) (y : Sty) (step : ByteArray) (lev : Nat) (st : Option (List UInt8)) (W : World) : Prop where
  p2 : W.heap[P]? = some (.cells #[.pointer (some ⟨b, 0, none⟩)] 67 (0, 0))
  p3 : W.heap[P + 1]? = some (.cells #[.int .i64 k, .float .f64 f, .string s, lv, kv] 27 (0, 0))
  ws : WStep b w W
  sh : ShAt W b y step lev st
section
variable {w W W' : World} {b P : Nat} {k : Int} {f : Nat} {s : ByteArray} {lv kv : Value} {y : Sty} {step : ByteArray} {lev : Nat} {st st' : Option (List UInt8)}
theorem VS.below (h : VS w b P k f s lv kv y step lev st W) (hb : Below W.heap.size W W') : VS w b P k f s lv kv y step lev st W' :=
  ⟨(hb.block _ (Array.getElem?_eq_some_iff.1 h.p2).1).trans h.p2, (hb.block _ (Array.getElem?_eq_some_iff.1 h.p3).1).trans h.p3, h.ws.trans (WStep.of_below hb (Nat.le_of_lt h.sh.lt)), h.sh.ext hb⟩
theorem VS.wrote (h : VS w b P k f s lv kv y step lev st W) (hP : b < P) (hs : WStep b W W') (h' : ShAt W' b y step lev st') : VS w b P k f s lv kv y step lev st' W' :=
  ⟨hs.block h.p2 (by omega) (by decide), hs.block h.p3 (by omega) (by decide), h.ws.trans hs, h'⟩
theorem VS.cells (h : VS w b P k f s lv kv y step lev st W) : (W.cell? ⟨P, 0, none⟩ = some (.pointer (some ⟨b, 0, none⟩))) ∧ (W.cell? ⟨P + 1, 0, none⟩ = some (.int .i64 k) ∧ W.cell? ⟨P + 1, 1, none⟩ = some (.float .f64 f) ∧ W.cell? ⟨P + 1, 2, none⟩ = some (.string s) ∧ W.cell? ⟨P + 1, 3, none⟩ = some lv ∧ W.cell? ⟨P + 1, 4, none⟩ = some kv) ∧ (W.cell? ⟨b, 7, none⟩ = some (.bool y.asc)) := by
  obtain ⟨e0, e1, e2, e3, e4, _⟩ := row5' h.p3
  obtain ⟨l, room, _, _, _, h4, _⟩ := h.sh.parts
  obtain ⟨c2, c3, c4, c5, c6, c7, _⟩ := rowS h4
  exact ⟨row1V h.p2, ⟨e0, e1, e2, e3, e4⟩, c7⟩
theorem VS.start (w : World) (hb : b < w.heap.size) (h : ShAt w b y step lev st) : VS w b w.heap.size k f s lv kv y step lev st ((w.alloc (.cells #[.pointer (some ⟨b, 0, none⟩)] 67)).alloc (.cells #[.int .i64 k, .float .f64 f, .string s, lv, kv] 27)) := by
  have hb2 : Below w.heap.size w ((w.alloc (.cells #[.pointer (some ⟨b, 0, none⟩)] 67)).alloc (.cells #[.int .i64 k, .float .f64 f, .string s, lv, kv] 27)) := ((Below.refl w.heap.size w).alloc (Nat.le_refl _) _).alloc (by simp) _
  refine ⟨row_alloc3 (heap_alloc_new w _) _, ?_, WStep.of_below hb2 (Nat.le_of_lt hb), h.ext hb2⟩
  have := heap_alloc_new (w.alloc (.cells #[.pointer (some ⟨b, 0, none⟩)] 67)) (.cells #[.int .i64 k, .float .f64 f, .string s, lv, kv] 27)
  rwa [World.size_alloc] at this
end
set_option maxRecDepth 100000 in
set_option maxHeartbeats 8000000 in
/-- A string. -/
theorem value_str (b : Nat) (y : Sty) (step : ByteArray) (lev : Nat) (st : Option (List UInt8)) (f : Nat) (s : ByteArray) (hs : s.size ≤ 1048576) (hv : allGood s 0 = true) (a1 a2 : Option Addr) (n1 k1 n2 k2 : Nat) (w : World) (hN : NumW w) (hw : ShAt w b y step lev st) :
    Calls Tryz.prog 40 #[.pointer (some ⟨b, 0, none⟩), .agg #[.int .i64 4, .float .f64 f, .string s, .slice a1 n1 k1, .slice a2 n2 k2]] w fun e w' => e = .returned (.tuple #[]) ∧ ShAt w' b y step lev (putS st (tokT y.col (colT 4).data.toList (escT y.asc s))) ∧ WStep b w w' := by
  have hlen := escT_len y.asc s
  have hsf := run_store_float Tryz.prog
  have hesc := fun W hW => Escape_any s y.asc hs hv W hW
  have htok := fun W hW => token_S b y step lev st (colT 4) ⟨(escT y.asc s).toArray⟩ (by decide) (by rw [size_arr]; omega) W hW
  have hcol := fun W (_ : NumW W) => Colour_any 4 (by decide) (by decide) (.float .f64 f) (.string s) (.slice a1 n1 k1) (.slice a2 n2 k2) W
  have hvs := VS.start (k := 4) (f := f) (s := s) (lv := .slice a1 n1 k1) (kv := .slice a2 n2 k2) w hw.lt hw
  have hnw : ∀ W, WStep b w W → Below w.heap.size w W → NumW W := fun W _ h => hN.below h
  have hlt := hw.lt
  have HESC := Lib.hid hesc
  have HTOK := Lib.hid htok
  have HCOL := Lib.hid hcol
  have HVS := Lib.hid hvs
  have HN := Lib.hid hN
  clear hesc htok hcol hvs hN hw hlen hnw
  have HBL : Hid (Below w.heap.size w ((w.alloc (.cells #[.pointer (some ⟨b, 0, none⟩)] 67)).alloc (.cells #[.int .i64 4, .float .f64 f, .string s, .slice a1 n1 k1, .slice a2 n2 k2] 27))) := Lib.hid (((Below.refl w.heap.size w).alloc (Nat.le_refl _) _).alloc (by simp) _)
  go_enter Tryz.func40, Tryz.ntmps40
  go_wp2_with fail
  generalize ((w.alloc (.cells #[.pointer (some ⟨b, 0, none⟩)] 67)).alloc (.cells #[.int .i64 4, .float .f64 f, .string s, .slice a1 n1 k1, .slice a2 n2 k2] 27)) = w1 at HVS HBL ⊢
  have HNW := Lib.hid ((HN.out.below HBL.out).below ((Below.refl _ w1).drew))
  obtain ⟨q0, ⟨q1, q2, q3, q4, q5⟩, q6⟩ := HVS.out.cells
  have hvd := HVS.out.below ((Below.refl _ w1).drew)
  clear HBL HN HVS
  have HVS := Lib.hid hvd
  clear hvd
  go_region_held3 (fun W => (W.cell? ⟨w.heap.size, 0, none⟩ = some (.pointer (some ⟨b, 0, none⟩))) ∧ (W.cell? ⟨w.heap.size + 1, 0, none⟩ = some (.int .i64 4) ∧ W.cell? ⟨w.heap.size + 1, 1, none⟩ = some (.float .f64 f) ∧ W.cell? ⟨w.heap.size + 1, 2, none⟩ = some (.string s) ∧ W.cell? ⟨w.heap.size + 1, 3, none⟩ = some (.slice a1 n1 k1) ∧ W.cell? ⟨w.heap.size + 1, 4, none⟩ = some (.slice a2 n2 k2)) ∧ (W.cell? ⟨b, 7, none⟩ = some (.bool y.asc))) (first | exact HVS.out.cells)
    (first
    | (go_at_call 38; have hc := HCOL.out _ HNW.out; (with_reducible refine hc.mono ?_); clear hc; rintro e wn ⟨rfl, hb⟩; have hh := HVS.out.below hb; have hn := HNW.out.below hb; clear HVS HNW; have HVS := Lib.hid hh; have HNW := Lib.hid hn; clear hh hb hn)
    | (go_at_call 37; have hc := HESC.out _ HNW.out; (with_reducible refine hc.mono ?_); clear hc; rintro e wn ⟨rfl, hb⟩; have hh := HVS.out.below hb; have hn := HNW.out.below hb; clear HVS HNW; have HVS := Lib.hid hh; have HNW := Lib.hid hn; clear hh hb hn)
    | (go_at_call 81; have hc := HTOK.out _ HVS.out.sh; (with_reducible refine hc.mono ?_); clear hc; rintro e wn ⟨rfl, hw2, hs2⟩; have hh := HVS.out.wrote hlt hs2 hw2; clear HVS; have HVS := Lib.hid hh; clear hh hw2 hs2))
  all_goals
    go_wp2_with fail
    go_end0
    exact ⟨rfl, HVS.out.sh, HVS.out.ws⟩
end Go.Proofs.YtmicpdibnkmekaaGreatDoor
