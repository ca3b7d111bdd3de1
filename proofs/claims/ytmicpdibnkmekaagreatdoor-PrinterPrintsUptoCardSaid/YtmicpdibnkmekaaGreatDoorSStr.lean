/- The document's Text of null, false, true. -/
import Derived.Test.YtmicpdibnkmekaaGreatDoorRPieces
import Derived.Test.YtmicpdibnkmekaaGreatDoorSRun
import Derived.Deep.RegionHeld3
namespace Go.Proofs.YtmicpdibnkmekaaGreatDoor
open Go Go.RowKit

set_option maxRecDepth 100000 in
set_option maxHeartbeats 4000000 in
theorem refWriteLow (k : Int) (T : ByteArray) (hk : (k = 0 ∧ T = ⟨#[110, 117, 108, 108]⟩) ∨ (k = 1 ∧ T = ⟨#[102, 97, 108, 115, 101]⟩) ∨ (k = 2 ∧ T = ⟨#[116, 114, 117, 101]⟩)) (f : Nat) (s : ByteArray) (a1 a2 : Option Addr) (n1 k1 n2 k2 : Nat) (w : World) :
    Calls Tryz.prog 32 #[.slice none 0 0, .agg #[.int .i64 k, .float .f64 f, .string s, .slice a1 n1 k1, .slice a2 n2 k2]] w fun e w' => ∃ v', e = .returned v' ∧ w'.ownsRow w.heap.size 5 1 v' T.size (Lib.byteCells T.data.toList) ∧ Below w.heap.size w w' := by
  have hsf := run_store_float Tryz.prog
  obtain ⟨i0, hi, hz0, hz1, hz2⟩ := info_parts infoU8
  rcases hk with ⟨rfl, rfl⟩ | ⟨rfl, rfl⟩ | ⟨rfl, rfl⟩
  all_goals
    go_enter Tryz.func32, Tryz.ntmps32
    go_wp2_with (at_builtin; refine Lib.wpList_append_own_string _ rfl _ _ 56 9 rfl w.heap.size 5 i0 Tryz.underlying56 Tryz.underlying9 hi hz0 hz1 hz2 _ _ _ rfl (World.ownsRow_nil _ _ _ _) _ rfl ?c3 ?c4 ?c5 ?_)
    case c3 => decide
    case c4 => decide
    case c5 => simp
    intro v' w2 hown2 hg _
    have hb2 : Below w.heap.size w w2 := ((Below.refl w.heap.size w).alloc (Nat.le_refl _) _).grown hg (by simp) (fun j hj => by cases hj)
    have HB2 := Lib.hid hb2
    have HO2 := Lib.hid hown2
    clear hown2 hg hb2
    go_wp2_with fail
    go_ret
    exact ⟨_, rfl, by have h9 := HO2.out; rw [str_bytes] at h9; exact h9, HB2.out⟩
/-- What 'null', 'false', 'true' are. -/
def lowT (k : Int) : ByteArray := if k = 0 then ⟨#[110, 117, 108, 108]⟩ else if k = 1 then ⟨#[102, 97, 108, 115, 101]⟩ else ⟨#[116, 114, 117, 101]⟩
set_option maxRecDepth 100000 in
set_option maxHeartbeats 4000000 in
theorem refTextLow (k : Int) (hk : 0 ≤ k ∧ k ≤ 2) (f : Nat) (s : ByteArray) (a1 a2 : Option Addr) (n1 k1 n2 k2 : Nat) (w : World) :
    Calls Tryz.prog 8 #[.agg #[.int .i64 k, .float .f64 f, .string s, .slice a1 n1 k1, .slice a2 n2 k2]] w fun e w' => e = .returned (.string (lowT k)) ∧ Below w.heap.size w w' := by
  have hsf := run_store_float Tryz.prog
  have hlow : (k = 0 ∧ lowT k = ⟨#[110, 117, 108, 108]⟩) ∨ (k = 1 ∧ lowT k = ⟨#[102, 97, 108, 115, 101]⟩) ∨ (k = 2 ∧ lowT k = ⟨#[116, 114, 117, 101]⟩) := by
    have h3 : k = 0 ∨ k = 1 ∨ k = 2 := by omega
    rcases h3 with rfl | rfl | rfl
    · exact Or.inl ⟨rfl, rfl⟩
    · exact Or.inr (Or.inl ⟨rfl, rfl⟩)
    · exact Or.inr (Or.inr ⟨rfl, rfl⟩)
  have hwr := fun W => refWriteLow k (lowT k) hlow f s a1 a2 n1 k1 n2 k2 W
  have HWR := Lib.hid hwr
  have hb1 : Below w.heap.size w (w.alloc (.cells #[.int .i64 k, .float .f64 f, .string s, .slice a1 n1 k1, .slice a2 n2 k2] 27)) := (Below.refl w.heap.size w).alloc (Nat.le_refl _) _
  have HB1 := Lib.hid hb1
  clear hwr hb1 hlow
  go_enter Tryz.func8, Tryz.ntmps8
  go_wp2_with fail
  refine (HWR.out _).mono ?_
  rintro e w2 ⟨v2, rfl, ho2, hb2⟩
  have hst := arr_string (P := Tryz.prog) (Arr.of_own ho2 (Nat.le_refl _)) 56 9 5 Tryz.underlying56 Tryz.underlying5 Tryz.underlying9
  have hst' : (convert 56 9 v2).run Tryz.prog w2 = .ok (.string (lowT k)) w2 := hst
  have HB2 := Lib.hid (HB1.out.trans (hb2.mono HB1.out.size))
  clear hst ho2 hb2
  go_wp2_with fail
  go_ret
  exact ⟨rfl, HB2.out⟩
end Go.Proofs.YtmicpdibnkmekaaGreatDoor
namespace Go.Proofs.YtmicpdibnkmekaaGreatDoor
open Go Go.RowKit

/-- How the world stands within the writing of one value. -/
structure RS (w : World) (b P : Nat) (k : Int) (f : Nat) (s : ByteArray) (lv kv : Value) (y : Sty) (st : Option (List UInt8)) (v : Value) (l : List UInt8) (W : World) : Prop where
  p3 : W.heap[P]? = some (.cells #[.int .i64 k, .float .f64 f, .string s, lv, kv] 27 (0, 0))
  ws : WStep b w W
  rn : RnV W b y st v l
  hz : P ≤ W.heap.size
  nw : NumW W
section
variable {w W W' : World} {b P : Nat} {k : Int} {f : Nat} {s : ByteArray} {lv kv v : Value} {y : Sty} {l : List UInt8} {st : Option (List UInt8)}
theorem RS.below (h : RS w b P k f s lv kv y st v l W) (hb : Below W.heap.size W W') : RS w b P k f s lv kv y st v l W' :=
  ⟨(hb.block _ (Array.getElem?_eq_some_iff.1 h.p3).1).trans h.p3, h.ws.trans (WStep.of_below hb (Nat.le_of_lt h.rn.lt)), h.rn.below hb, Nat.le_trans h.hz hb.size, h.nw.below hb⟩
theorem RS.cells (h : RS w b P k f s lv kv y st v l W) : (W.cell? ⟨P, 0, none⟩ = some (.int .i64 k) ∧ W.cell? ⟨P, 1, none⟩ = some (.float .f64 f) ∧ W.cell? ⟨P, 2, none⟩ = some (.string s) ∧ W.cell? ⟨P, 3, none⟩ = some lv ∧ W.cell? ⟨P, 4, none⟩ = some kv) ∧ (W.cell? ⟨b, 3, none⟩ = some (.bool y.asc)) := by
  obtain ⟨e0, e1, e2, e3, e4, _⟩ := row5' h.p3
  obtain ⟨c0, c1, c2, c3, c4, c5, c6, _⟩ := row7R h.rn.row
  exact ⟨⟨e0, e1, e2, e3, e4⟩, c3⟩
theorem RS.start (w : World) (hN : NumW w) (h : RnV w b y st v l) : RS w b w.heap.size k f s lv kv y st v l (w.alloc (.cells #[.int .i64 k, .float .f64 f, .string s, lv, kv] 27)) := by
  have hb2 : Below w.heap.size w (w.alloc (.cells #[.int .i64 k, .float .f64 f, .string s, lv, kv] 27)) := (Below.refl w.heap.size w).alloc (Nat.le_refl _) _
  exact ⟨heap_alloc_new w _, WStep.of_below hb2 (Nat.le_of_lt h.lt), h.below hb2, by simp, hN.below hb2⟩
theorem RS.after {st' : Option (List UInt8)} (h : RS w b P k f s lv kv y st v l W) (hP : b < P) (hs : WStep b W W') (h' : RnAt W' b y st') : (W'.cell? ⟨P, 0, none⟩ = some (.int .i64 k) ∧ W'.cell? ⟨P, 1, none⟩ = some (.float .f64 f) ∧ W'.cell? ⟨P, 2, none⟩ = some (.string s) ∧ W'.cell? ⟨P, 3, none⟩ = some lv ∧ W'.cell? ⟨P, 4, none⟩ = some kv) ∧ (W'.cell? ⟨b, 3, none⟩ = some (.bool y.asc)) := by
  obtain ⟨e0, e1, e2, e3, e4, _⟩ := row5' (hs.block h.p3 (by omega) (by decide))
  exact ⟨⟨e0, e1, e2, e3, e4⟩, h'.cells.2.2.2.1⟩
end
set_option maxRecDepth 100000 in
set_option maxHeartbeats 8000000 in
theorem value_strR (b : Nat) (y : Sty) (st : Option (List UInt8)) (lev : Int) (f : Nat) (s : ByteArray) (hs : s.size ≤ 1048576) (hv : allGood s 0 = true) (a1 a2 : Option Addr) (n1 k1 n2 k2 : Nat) (w : World) (hN : NumW w) (hw : RnAt w b y st) :
    Calls Tryz.prog 42 #[.pointer (some ⟨b, 0, none⟩), .agg #[.int .i64 4, .float .f64 f, .string s, .slice a1 n1 k1, .slice a2 n2 k2], .int .i64 lev] w fun e w' => e = .returned (.tuple #[]) ∧ RnAt w' b y (putS st (tokT y.col (colT 4).data.toList (escT y.asc s))) ∧ WStep b w w' := by
  obtain ⟨v, l, hw⟩ := hw
  have hlen := escT_len y.asc s
  have hsf := run_store_float Tryz.prog
  have hvs := RS.start (k := 4) (f := f) (s := s) (lv := .slice a1 n1 k1) (kv := .slice a2 n2 k2) w hN hw
  have hesc := fun W (_ : RS w b w.heap.size 4 f s (.slice a1 n1 k1) (.slice a2 n2 k2) y st v l W) => refEscape_any s y.asc hs hv W
  have hcol := fun W (_ : RS w b w.heap.size 4 f s (.slice a1 n1 k1) (.slice a2 n2 k2) y st v l W) => refColour_any 4 (by decide) (by decide) (.float .f64 f) (.string s) (.slice a1 n1 k1) (.slice a2 n2 k2) W
  have htok := fun W (hR : RS w b w.heap.size 4 f s (.slice a1 n1 k1) (.slice a2 n2 k2) y st v l W) tv (hy : Byt W w.heap.size tv (escT y.asc s)) => token_R b y st v l w.heap.size hw.room hw.lt (escT y.asc s) (by omega) tv (colT 4) (by decide) W hR.rn hy
  have hlt := hw.lt
  have HESC := Lib.hid hesc
  have HTOK := Lib.hid htok
  have HCOL := Lib.hid hcol
  have HVS := Lib.hid hvs
  clear hesc htok hcol hvs hw hlen hN
  go_enter Tryz.func42, Tryz.ntmps42
  go_wp2_with fail
  generalize (w.alloc (.cells #[.int .i64 4, .float .f64 f, .string s, .slice a1 n1 k1, .slice a2 n2 k2] 27)) = w1 at HVS ⊢
  obtain ⟨⟨q1, q2, q3, q4, q5⟩, q6⟩ := HVS.out.cells
  have hvd := HVS.out.below ((Below.refl _ w1).drew)
  clear HVS
  have HVS := Lib.hid hvd
  clear hvd
  go_region_held3 (fun W => (W.cell? ⟨w.heap.size, 0, none⟩ = some (.int .i64 4) ∧ W.cell? ⟨w.heap.size, 1, none⟩ = some (.float .f64 f) ∧ W.cell? ⟨w.heap.size, 2, none⟩ = some (.string s) ∧ W.cell? ⟨w.heap.size, 3, none⟩ = some (.slice a1 n1 k1) ∧ W.cell? ⟨w.heap.size, 4, none⟩ = some (.slice a2 n2 k2)) ∧ (W.cell? ⟨b, 3, none⟩ = some (.bool y.asc))) (first | exact HVS.out.cells | exact HQ.out)
    (first
    | (go_at_call 85; have hc := HCOL.out _ HVS.out; (with_reducible refine hc.mono ?_); clear hc; rintro e wn ⟨rfl, hb⟩; have hh := HVS.out.below hb; clear HVS; have HVS := Lib.hid hh; clear hh; (try (have hy2 := HY.out.below hb; clear HY; have HY := Lib.hid hy2; clear hy2)); clear hb)
    | (go_at_call 84; have hc := HESC.out _ HVS.out; (with_reducible refine hc.mono ?_); clear hc; rintro e wn ⟨tv, rfl, ho, hb⟩; have hy := (Byt.of_own ho).more HVS.out.hz; have HY := Lib.hid hy; have hh := HVS.out.below hb; clear HVS; have HVS := Lib.hid hh; clear hh hb ho hy)
    | (go_at_call 83; have hc := HTOK.out _ HVS.out _ HY.out; (with_reducible refine hc.mono ?_); clear hc; rintro e wn ⟨rfl, hw2, hs2⟩; have HW2 := Lib.hid hw2; have HS2 := Lib.hid (HVS.out.ws.trans hs2); have hq := HVS.out.after hlt hs2 hw2; have HQ := Lib.hid hq; clear hw2 hs2 hq))
  all_goals
    go_wp2_with fail
    go_end0
    exact ⟨rfl, HW2.out, HS2.out⟩
end Go.Proofs.YtmicpdibnkmekaaGreatDoor
