/- A sheet: every value, its keys in their order. -/
import Derived.Test.YtjhghhjnccjhmaaGreatDoorRRow2
import Derived.Test.YtjhghhjnccjhmaaGreatDoorROrd
import Derived.Test.YtjhghhjnccjhmaaGreatDoorREscW
namespace Go.Proofs.YtjhghhjnccjhmaaGreatDoor
open Go Go.RowKit

def blankT (step : ByteArray) : List UInt8 := if step.data.toList.isEmpty then [] else [32]
theorem blankT_def (step : ByteArray) : blankT step = if step.toList.isEmpty then [] else [32] := by unfold blankT; rw [ByteArray.toList_eq]
/-- A pair's text: the key, a colon, the value's text. -/
def pairT (y : Sty) (step : ByteArray) (key : ByteArray) (text : List UInt8) : List UInt8 := tokT y.col [51, 52, 59, 49] (escT y.asc key) ++ sgnT y.col [58] ++ blankT step ++ text
/-- A value's text in a style, on a level. -/
def printV (y : Sty) (step : ByteArray) : Nat → V → Nat → List UInt8
  | 0, _, _ => []
  | m + 1, v, lev =>
    if v.k = 5 then rowT y.col step lev [91] [93] v.l.length (fun i => printV y step m (v.l.getD i default) (lev + 1))
    else if v.k = 6 then rowT y.col step lev [123] [125] v.l.length (fun i => pairT y step (v.ks.getD (ordP y.srt v.ks i) default) (printV y step m (v.l.getD (ordP y.srt v.ks i) default) (lev + 1)))
    else if v.k = 4 then tokT y.col (colT 4).data.toList (escT y.asc v.s)
    else tokT y.col (colT v.k).data.toList (textV (m + 1) v)
/-- What the writing of values promises, of all values of at most m levels that lie below w0. -/
def ValueP (w0 : World) (b : Nat) (y : Sty) (step : ByteArray) (m : Nat) : Prop := ∀ (v : V) (lv kv : Value) (d lev : Nat) (st : Option (List UInt8)) (w : World), rightV d v = true → At w0 w0.heap.size m v lv kv → Below w0.heap.size w0 w → ShAt w b y step lev st → lev + m ≤ 1000000 →
    Calls Tryz.prog 25 #[.pointer (some ⟨b, 0, none⟩), .agg (cellsV v lv kv)] w fun e w' => e = .returned (.tuple #[]) ∧ ShAt w' b y step lev (putS st (printV y step m v lev)) ∧ WStep b w w'
/-- What a part's closure finds. -/
structure PEnv (w0 : World) (b P : Nat) (cells : Array Value) (W : World) : Prop where
  p2 : W.heap[P]? = some (.cells #[.pointer (some ⟨b, 0, none⟩)] 51 (0, 0))
  p3 : W.heap[P + 1]? = some (.cells cells 27 (0, 0))
  bel : Below w0.heap.size w0 W
theorem PEnv.step {w0 : World} {b P : Nat} {cells : Array Value} (hP : b < P) (hb : w0.heap.size ≤ b) (w w' : World) (h : PEnv w0 b P cells w) (hs : WStep b w w') : PEnv w0 b P cells w' :=
  ⟨hs.block h.p2 (by omega) (by decide), hs.block h.p3 (by omega) (by decide), h.bel.trans (hs.1.mono hb)⟩
set_option maxRecDepth 100000 in
set_option maxHeartbeats 4000000 in
theorem part1_S (w0 : World) (b P : Nat) (_hb : w0.heap.size ≤ b) (_hP : b < P) (y : Sty) (step : ByteArray) (m : Nat) (hC : ValueP w0 b y step m) (v : V) (d : Nat) (hr : rightV d v = true) (k : Int) (a : Option Addr) (c B o : Nat) (kv : Value) (hls : v.l.length ≤ 1048576)
    (hab : 0 < v.l.length → a = some ⟨B, o, none⟩ ∧ B < w0.heap.size) (hi : ∀ i (h : i < v.l.length), ∃ lv' kv', FiveAt w0 B (o + i * 5) (v.l[i]) lv' kv' ∧ At w0 w0.heap.size m (v.l[i]) lv' kv') (lev : Nat) (hlev : lev + m ≤ 1000000)
    (i : Nat) (st : Option (List UInt8)) (w : World) (hlt : i < v.l.length) (hE : PEnv w0 b P #[.int .i64 k, .float .f64 v.f, .string v.s, .slice a v.l.length c, kv] w) (hw : ShAt w b y step lev st) :
    Calls Tryz.prog 44 #[.int .i64 i, .pointer (some ⟨P, 0, none⟩), .pointer (some ⟨P + 1, 0, none⟩)] w fun e w' => e = .returned (.tuple #[]) ∧ ShAt w' b y step lev (putS st (printV y step m (v.l.getD i default) lev)) ∧ WStep b w w' := by
  have hg : v.l.getD i default = v.l[i] := by simp [List.getD, hlt]
  rw [hg]
  obtain ⟨rfl, hBw⟩ := hab (by omega)
  obtain ⟨lv', kv', h5, hAt⟩ := hi i hlt
  obtain ⟨f0, f1, f2, f3, f4⟩ := h5.keep hBw (fun p hp => hE.bel.cell hp)
  obtain ⟨a1, n1, k1, a2, n2, k2, rfl, rfl⟩ := hAt.slices
  have hcall := hC v.l[i] _ _ (d - 1) lev st w.drew (right_sub hr hlt) hAt hE.bel.drew (hw.ext ((Below.refl _ w).drew)) hlev
  unfold cellsV at hcall
  have HC := Lib.hid hcall
  have g2 := row1V hE.p2
  obtain ⟨e0, e1, e2, e3, e4, _, _, _, _, _⟩ := row5' hE.p3
  clear hcall hC hE h5 hAt hi hab hr hg hw
  go_enter Tryz.func44, Tryz.ntmps44
  go_wp2_with fail
  go_region_with (go_at_call 25; refine HC.out.mono ?_; rintro e w2 ⟨rfl, hw2, hs2⟩)
  all_goals
    go_end0
    exact ⟨rfl, hw2, ((WStep.refl _ _).drew).trans hs2⟩
set_option maxRecDepth 100000 in
set_option maxHeartbeats 4000000 in
theorem pair_S (w0 : World) (hN : NumW w0) (b : Nat) (hb : w0.heap.size ≤ b) (y : Sty) (step : ByteArray) (m : Nat) (hC : ValueP w0 b y step m) (v : V) (lv kv : Value) (d lev : Nat) (st : Option (List UInt8)) (key : ByteArray) (hks : key.size ≤ 1048576) (hkg : allGood key 0 = true) (w : World) (hr : rightV d v = true) (hA : At w0 w0.heap.size m v lv kv) (hbel : Below w0.heap.size w0 w)
    (hw : ShAt w b y step lev st) (hlev : lev + m ≤ 1000000) :
    Calls Tryz.prog 47 #[.pointer (some ⟨b, 0, none⟩), .string key, .agg (cellsV v lv kv)] w fun e w' => e = .returned (.tuple #[]) ∧ ShAt w' b y step lev (putS st (pairT y step key (printV y step m v lev))) ∧ WStep b w w' := by
  have hlen := escT_len y.asc key
  have hesc := fun W hW => Escape_any key y.asc hks hkg W hW
  have htok := fun W hW => token_S b y step lev st ⟨#[51, 52, 59, 49]⟩ ⟨(escT y.asc key).toArray⟩ (by decide) (by rw [size_arr]; omega) W hW
  have hsg := fun W hW => sign_S b y step lev (putS st (tokT y.col [51, 52, 59, 49] (escT y.asc key))) ⟨#[58]⟩ (by decide) W hW
  have hhl := fun W hW => hasLines_S b y step lev (putS st (tokT y.col [51, 52, 59, 49] (escT y.asc key) ++ sgnT y.col [58])) W hW
  have hwr := fun W hW => write_S b y step lev (putS st (tokT y.col [51, 52, 59, 49] (escT y.asc key) ++ sgnT y.col [58])) ⟨#[32]⟩ (by decide) W hW
  have hcall := fun W hB hW => hC v lv kv d lev (putS st (tokT y.col [51, 52, 59, 49] (escT y.asc key) ++ sgnT y.col [58] ++ blankT step)) W hr hA hB hW hlev
  rw [putS_append] at hsg hcall
  have hpt : tokT y.col [51, 52, 59, 49] (escT y.asc key) ++ sgnT y.col [58] ++ blankT step ++ printV y step m v lev = pairT y step key (printV y step m v lev) := rfl
  rw [hpt] at hcall
  have HESC := Lib.hid hesc
  have HTOK := Lib.hid htok
  have HSG := Lib.hid hsg
  have HHL := Lib.hid hhl
  have HWR := Lib.hid hwr
  have HC := Lib.hid hcall
  have HB := Lib.hid hbel
  have HN := Lib.hid (hN.below hbel)
  have HW := Lib.hid hw
  obtain ⟨l, room, _, _, _, h4, _⟩ := hw.parts
  obtain ⟨c2, c3, c4, c5, c6, c7, c8, c9, c10, f2, f3, f10, hlt⟩ := rowS h4
  obtain ⟨a1, n1, k1, a2, n2, k2, rfl, rfl⟩ := hA.slices
  unfold cellsV at HC ⊢
  clear hesc htok hsg hhl hwr hcall hC hA hr hbel hN hw h4 hpt hlen
  go_enter Tryz.func47, Tryz.ntmps47
  go_wp2_with fail
  have hrow0 := heap_alloc_new w (Obj.cells #[.int .i64 v.k, .float .f64 v.f, .string v.s, .slice a1 n1 k1, .slice a2 n2 k2] 27)
  have hst0 : WStep b w (w.alloc (Obj.cells #[.int .i64 v.k, .float .f64 v.f, .string v.s, .slice a1 n1 k1, .slice a2 n2 k2] 27)) := (WStep.refl b w).alloc (by omega) _
  have hbl0 : Below w.heap.size w (w.alloc (Obj.cells #[.int .i64 v.k, .float .f64 v.f, .string v.s, .slice a1 n1 k1, .slice a2 n2 k2] 27)) := (Below.refl w.heap.size w).alloc (Nat.le_refl _) _
  generalize (w.alloc (Obj.cells #[.int .i64 v.k, .float .f64 v.f, .string v.s, .slice a1 n1 k1, .slice a2 n2 k2] 27)) = w1 at hrow0 hst0 hbl0 ⊢
  have HX1 := Lib.hid (HW.out.ext hbl0)
  refine (HESC.out w1 (HN.out.below hbl0)).mono ?_
  rintro e w2 ⟨rfl, hb2⟩
  have hlt1 := HX1.out.lt
  have hst2 : WStep b w w2 := hst0.trans (WStep.of_below hb2 (Nat.le_of_lt hlt1))
  have hrow2 := (hb2.block _ (Array.getElem?_eq_some_iff.1 hrow0).1).trans hrow0
  have HX2 := Lib.hid (HX1.out.ext hb2)
  have HS2 := Lib.hid hst2
  have HR2 := Lib.hid hrow2
  clear hb2 hst2 hrow2 hrow0 hst0 hbl0 c2 c3 c4 c5 c6 c7 c8 c9 c10 f2 f3 f10
  go_wp2_with fail
  refine (HTOK.out w2 HX2.out).mono ?_
  rintro e w3 ⟨rfl, hw3, hs3⟩
  have hw3 : ShAt w3 b y step lev (putS st (tokT y.col [51, 52, 59, 49] (escT y.asc key))) := hw3
  have HX3 := Lib.hid hw3
  have HS3 := Lib.hid (HS2.out.trans hs3)
  have HR3 := Lib.hid (hs3.block HR2.out (by omega) (by decide))
  clear hw3 hs3
  go_wp2_with fail
  refine (HSG.out w3 HX3.out).mono ?_
  rintro e w4 ⟨rfl, hw4, hs4⟩
  have HX4 := Lib.hid hw4
  have HS4 := Lib.hid (HS3.out.trans hs4)
  have HR4 := Lib.hid (hs4.block HR3.out (by omega) (by decide))
  clear hw4 hs4
  go_wp2_with fail
  refine (HHL.out w4 HX4.out).mono ?_
  rintro e w5 ⟨rfl, rfl⟩
  by_cases hemp : step.toList.isEmpty = true
  · have hbk : blankT step = [] := by rw [blankT_def, if_pos hemp]
    rw [hbk, List.append_nil] at HC
    rw [hemp]
    obtain ⟨e0, e1, e2, e3, e4, _, _, _, _, _⟩ := row5' HR4.out
    clear hbk
    go_wp2_with fail
    refine (HC.out _ (HB.out.trans ((HS4.out.1).mono hb)) HX4.out).mono ?_
    rintro e w6 ⟨rfl, hw6, hs6⟩
    have HX6 := Lib.hid hw6
    have HS6 := Lib.hid (HS4.out.trans hs6)
    clear hw6 hs6
    go_wp2_with fail
    go_end0
    exact ⟨rfl, HX6.out, HS6.out⟩
  · have hemp' : step.toList.isEmpty = false := by simpa using hemp
    have hbk : blankT step = [32] := by rw [blankT_def, if_neg hemp]
    rw [hbk, ← putS_append] at HC
    rw [hemp']
    clear hbk hemp
    go_wp2_with fail
    refine (HWR.out _ HX4.out).mono ?_
    rintro e w7 ⟨rfl, hw7, hs7⟩
    have HX7 := Lib.hid hw7
    have HS7 := Lib.hid (HS4.out.trans hs7)
    have HR7 := Lib.hid (hs7.block HR4.out (by omega) (by decide))
    obtain ⟨e0, e1, e2, e3, e4, _, _, _, _, _⟩ := row5' HR7.out
    clear hw7 hs7
    go_wp2_with fail
    refine (HC.out _ (HB.out.trans ((HS7.out.1).mono hb)) HX7.out).mono ?_
    rintro e w6 ⟨rfl, hw6, hs6⟩
    have HX6 := Lib.hid hw6
    have HS6 := Lib.hid (HS7.out.trans hs6)
    clear hw6 hs6
    go_wp2_with fail
    go_end0
    exact ⟨rfl, HX6.out, HS6.out⟩
end Go.Proofs.YtjhghhjnccjhmaaGreatDoor
