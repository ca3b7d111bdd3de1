/- A sheet: every value, joined. -/
import Derived.Test.YtjhghhjnccjhmaaGreatDoorRVal2
import Derived.Deep.RegionHeld3
namespace Go.Proofs.YtjhghhjnccjhmaaGreatDoor
open Go Go.RowKit

/-- How the world stands within the writing of one value. -/
structure VS (w : World) (b P : Nat) (k : Int) (f : Nat) (s : ByteArray) (lv kv : Value) (y : Sty) (step : ByteArray) (lev : Nat) (st : Option (List UInt8)) (W : World) : Prop where
  p2 : W.heap[P]? = some (.cells #[.pointer (some ⟨b, 0, none⟩)] 51 (0, 0))
  p3 : W.heap[P + 1]? = some (.cells #[.int .i64 k, .float .f64 f, .string s, lv, kv] 27 (0, 0))
  ws : WStep b w W
  sh : ShAt W b y step lev st
section
variable {w W W' : World} {b P : Nat} {k : Int} {f : Nat} {s : ByteArray} {lv kv : Value} {y : Sty} {step : ByteArray} {lev : Nat} {st st' : Option (List UInt8)}
theorem VS.below (h : VS w b P k f s lv kv y step lev st W) (hb : Below W.heap.size W W') : VS w b P k f s lv kv y step lev st W' :=
  ⟨(hb.block _ (Array.getElem?_eq_some_iff.1 h.p2).1).trans h.p2, (hb.block _ (Array.getElem?_eq_some_iff.1 h.p3).1).trans h.p3, h.ws.trans (WStep.of_below hb (Nat.le_of_lt h.sh.lt)), h.sh.ext hb⟩
theorem VS.wrote (h : VS w b P k f s lv kv y step lev st W) (hP : b < P) (hs : WStep b W W') (h' : ShAt W' b y step lev st') : VS w b P k f s lv kv y step lev st' W' :=
  ⟨hs.block h.p2 (by omega) (by decide), hs.block h.p3 (by omega) (by decide), h.ws.trans hs, h'⟩
theorem VS.cells (h : VS w b P k f s lv kv y step lev st W) : (W.cell? ⟨P, 0, none⟩ = some (.pointer (some ⟨b, 0, none⟩))) ∧ (W.cell? ⟨P + 1, 0, none⟩ = some (.int .i64 k) ∧ W.cell? ⟨P + 1, 1, none⟩ = some (.float .f64 f) ∧ W.cell? ⟨P + 1, 2, none⟩ = some (.string s) ∧ W.cell? ⟨P + 1, 3, none⟩ = some lv ∧ W.cell? ⟨P + 1, 4, none⟩ = some kv) ∧ (W.cell? ⟨b, 7, none⟩ = some (.bool y.asc)) := by
  obtain ⟨e0, e1, e2, e3, e4, _⟩ := row5' h.p3
  obtain ⟨l, room, _, _, _, h4, _⟩ := h.sh.parts
  obtain ⟨c2, c3, c4, c5, c6, c7, _⟩ := rowS h4
  exact ⟨row1V h.p2, ⟨e0, e1, e2, e3, e4⟩, c7⟩
theorem VS.start (w : World) (hb : b < w.heap.size) (h : ShAt w b y step lev st) : VS w b w.heap.size k f s lv kv y step lev st ((w.alloc (.cells #[.pointer (some ⟨b, 0, none⟩)] 51)).alloc (.cells #[.int .i64 k, .float .f64 f, .string s, lv, kv] 27)) := by
  have hb2 : Below w.heap.size w ((w.alloc (.cells #[.pointer (some ⟨b, 0, none⟩)] 51)).alloc (.cells #[.int .i64 k, .float .f64 f, .string s, lv, kv] 27)) := ((Below.refl w.heap.size w).alloc (Nat.le_refl _) _).alloc (by simp) _
  refine ⟨row_alloc3 (heap_alloc_new w _) _, ?_, WStep.of_below hb2 (Nat.le_of_lt hb), h.ext hb2⟩
  have := heap_alloc_new (w.alloc (.cells #[.pointer (some ⟨b, 0, none⟩)] 51)) (.cells #[.int .i64 k, .float .f64 f, .string s, lv, kv] 27)
  rwa [World.size_alloc] at this
end
set_option maxRecDepth 100000 in
set_option maxHeartbeats 8000000 in
/-- A string. -/
theorem value_str (b : Nat) (y : Sty) (step : ByteArray) (lev : Nat) (st : Option (List UInt8)) (f : Nat) (s : ByteArray) (hs : s.size ≤ 1048576) (hv : allGood s 0 = true) (a1 a2 : Option Addr) (n1 k1 n2 k2 : Nat) (w : World) (hN : NumW w) (hw : ShAt w b y step lev st) :
    Calls Tryz.prog 25 #[.pointer (some ⟨b, 0, none⟩), .agg #[.int .i64 4, .float .f64 f, .string s, .slice a1 n1 k1, .slice a2 n2 k2]] w fun e w' => e = .returned (.tuple #[]) ∧ ShAt w' b y step lev (putS st (tokT y.col (colT 4).data.toList (escT y.asc s))) ∧ WStep b w w' := by
  have hlen := escT_len y.asc s
  have hsf := run_store_float Tryz.prog
  have hesc := fun W hW => Escape_any s y.asc hs hv W hW
  have htok := fun W hW => token_S b y step lev st (colT 4) ⟨(escT y.asc s).toArray⟩ (by decide) (by rw [size_arr]; omega) W hW
  have hcol := fun W (_ : NumW W) => Colour_any 4 (by decide) (by decide) (.float .f64 f) (.string s) (.slice a1 n1 k1) (.slice a2 n2 k2) W
  have hvs := VS.start (k := 4) (f := f) (s := s) (lv := .slice a1 n1 k1) (kv := .slice a2 n2 k2) w hw.lt hw
  have hnw : ∀ W, WStep b w W → Below w.heap.size w W → NumW W := fun W _ h => hN.below h
  have hlt := hw.lt
  have HESC := Lib.hid hesc
  have HTOK := Lib.hid htok
  have HCOL := Lib.hid hcol
  have HVS := Lib.hid hvs
  have HN := Lib.hid hN
  clear hesc htok hcol hvs hN hw hlen hnw
  have HBL : Hid (Below w.heap.size w ((w.alloc (.cells #[.pointer (some ⟨b, 0, none⟩)] 51)).alloc (.cells #[.int .i64 4, .float .f64 f, .string s, .slice a1 n1 k1, .slice a2 n2 k2] 27))) := Lib.hid (((Below.refl w.heap.size w).alloc (Nat.le_refl _) _).alloc (by simp) _)
  go_enter Tryz.func25, Tryz.ntmps25
  go_wp2_with fail
  generalize ((w.alloc (.cells #[.pointer (some ⟨b, 0, none⟩)] 51)).alloc (.cells #[.int .i64 4, .float .f64 f, .string s, .slice a1 n1 k1, .slice a2 n2 k2] 27)) = w1 at HVS HBL ⊢
  have HNW := Lib.hid ((HN.out.below HBL.out).below ((Below.refl _ w1).drew))
  obtain ⟨q0, ⟨q1, q2, q3, q4, q5⟩, q6⟩ := HVS.out.cells
  have hvd := HVS.out.below ((Below.refl _ w1).drew)
  clear HBL HN HVS
  have HVS := Lib.hid hvd
  clear hvd
  go_region_held3 (fun W => (W.cell? ⟨w.heap.size, 0, none⟩ = some (.pointer (some ⟨b, 0, none⟩))) ∧ (W.cell? ⟨w.heap.size + 1, 0, none⟩ = some (.int .i64 4) ∧ W.cell? ⟨w.heap.size + 1, 1, none⟩ = some (.float .f64 f) ∧ W.cell? ⟨w.heap.size + 1, 2, none⟩ = some (.string s) ∧ W.cell? ⟨w.heap.size + 1, 3, none⟩ = some (.slice a1 n1 k1) ∧ W.cell? ⟨w.heap.size + 1, 4, none⟩ = some (.slice a2 n2 k2)) ∧ (W.cell? ⟨b, 7, none⟩ = some (.bool y.asc))) (first | exact HVS.out.cells)
    (first
    | (go_at_call 16; have hc := HCOL.out _ HNW.out; (with_reducible refine hc.mono ?_); clear hc; rintro e wn ⟨rfl, hb⟩; have hh := HVS.out.below hb; have hn := HNW.out.below hb; clear HVS HNW; have HVS := Lib.hid hh; have HNW := Lib.hid hn; clear hh hb hn)
    | (go_at_call 14; have hc := HESC.out _ HNW.out; (with_reducible refine hc.mono ?_); clear hc; rintro e wn ⟨rfl, hb⟩; have hh := HVS.out.below hb; have hn := HNW.out.below hb; clear HVS HNW; have HVS := Lib.hid hh; have HNW := Lib.hid hn; clear hh hb hn)
    | (go_at_call 48; have hc := HTOK.out _ HVS.out.sh; (with_reducible refine hc.mono ?_); clear hc; rintro e wn ⟨rfl, hw2, hs2⟩; have hh := HVS.out.wrote hlt hs2 hw2; clear HVS; have HVS := Lib.hid hh; clear hh hw2 hs2))
  all_goals
    go_wp2_with fail
    go_end0
    exact ⟨rfl, HVS.out.sh, HVS.out.ws⟩
end Go.Proofs.YtjhghhjnccjhmaaGreatDoor
