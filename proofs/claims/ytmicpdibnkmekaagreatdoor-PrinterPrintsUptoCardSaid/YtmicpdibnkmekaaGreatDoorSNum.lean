/- The document's run: null, false, true, a number. -/
import Derived.Test.YtmicpdibnkmekaaGreatDoorSStr
import Derived.Test.YtmicpdibnkmekaaGreatDoorSJoin
import Derived.Deep.RegionHeld
namespace Go.Proofs.YtmicpdibnkmekaaGreatDoor
open Go Go.RowKit

set_option maxRecDepth 100000 in
set_option maxHeartbeats 8000000 in
theorem value_R0 (b : Nat) (y : Sty) (st : Option (List UInt8)) (lev : Int) (f : Nat) (_hf : f < 18446744073709551616) (s : ByteArray) (a1 a2 : Option Addr) (n1 k1 n2 k2 : Nat) (w : World) (hN : NumW w) (hw : RnAt w b y st) :
    Calls Tryz.prog 42 #[.pointer (some ⟨b, 0, none⟩), .agg #[.int .i64 0, .float .f64 f, .string s, .slice a1 n1 k1, .slice a2 n2 k2], .int .i64 lev] w fun e w' => e = .returned (.tuple #[]) ∧ RnAt w' b y (putS st (tokT y.col (colT 0).data.toList (nullT))) ∧ WStep b w w' := by
  obtain ⟨v, l, hw⟩ := hw
  have hsf := run_store_float Tryz.prog
  obtain ⟨T, hT⟩ : ∃ T : ByteArray, lowT 0 = T := ⟨_, rfl⟩
  have hTL : T.data.toList = (nullT) := by rw [← hT]; rfl
  have hTz : T.size ≤ 1000 := by rw [← hT]; decide
  rw [← hTL]
  have hvs := RS.start (k := 0) (f := f) (s := s) (lv := .slice a1 n1 k1) (kv := .slice a2 n2 k2) w hN hw
  have htx := fun W (hR : RS w b w.heap.size 0 f s (.slice a1 n1 k1) (.slice a2 n2 k2) y st v l W) => refTextLow 0 (by decide) f s a1 a2 n1 k1 n2 k2 W
  rw [hT] at htx
  have hcol := fun W (_ : RS w b w.heap.size 0 f s (.slice a1 n1 k1) (.slice a2 n2 k2) y st v l W) => refColour_any 0 (by decide) (by decide) (.float .f64 f) (.string s) (.slice a1 n1 k1) (.slice a2 n2 k2) W
  have htok := fun W (hR : RS w b w.heap.size 0 f s (.slice a1 n1 k1) (.slice a2 n2 k2) y st v l W) tv (hy : Byt W w.heap.size tv T.data.toList) => token_R b y st v l w.heap.size hw.room hw.lt T.data.toList (by simp; omega) tv (colT 0) (by decide) W hR.rn hy
  have hcv := fun W => Lib.run_convert_string_bytes (P := Tryz.prog) W 9 56 5 T Tryz.underlying9 Tryz.underlying56 Tryz.underlying5
  have hlt := hw.lt
  have HTX := Lib.hid htx
  have HTOK := Lib.hid htok
  have HCOL := Lib.hid hcol
  have HVS := Lib.hid hvs
  clear htx htok hcol hvs hw hN hTL hTz hT
  go_enter Tryz.func42, Tryz.ntmps42
  go_wp2_with fail
  generalize (w.alloc (.cells #[.int .i64 0, .float .f64 f, .string s, .slice a1 n1 k1, .slice a2 n2 k2] 27)) = w1 at HVS ⊢
  obtain ⟨⟨q1, q2, q3, q4, q5⟩, q6⟩ := HVS.out.cells
  have hvd := HVS.out.below ((Below.refl _ w1).drew)
  clear HVS
  have HVS := Lib.hid hvd
  clear hvd
  go_region_held (fun W => (W.cell? ⟨w.heap.size, 0, none⟩ = some (.int .i64 0) ∧ W.cell? ⟨w.heap.size, 1, none⟩ = some (.float .f64 f) ∧ W.cell? ⟨w.heap.size, 2, none⟩ = some (.string s) ∧ W.cell? ⟨w.heap.size, 3, none⟩ = some (.slice a1 n1 k1) ∧ W.cell? ⟨w.heap.size, 4, none⟩ = some (.slice a2 n2 k2)) ∧ (W.cell? ⟨b, 3, none⟩ = some (.bool y.asc))) (first | exact HVS.out.cells | exact (HVS.out.below (below_conv _ T)).cells | exact HQ.out)
    (first
    | (go_at_call 85; have hc := HCOL.out _ HVS.out; (with_reducible refine hc.mono ?_); clear hc; rintro e wn ⟨rfl, hb⟩; have hh := HVS.out.below hb; clear HVS; have HVS := Lib.hid hh; clear hh; (try (have hy2 := HY.out.below hb; clear HY; have HY := Lib.hid hy2; clear hy2)); clear hb)
    | (go_at_call 85; have hc := HCOL.out _ (HVS.out.below (below_conv _ T)); (with_reducible refine hc.mono ?_); clear hc; rintro e wn ⟨rfl, hb⟩; have hy2 := fun c => (byt_conv _ T _ HVS.out.hz c).below hb; have HY := Lib.hid hy2; clear hy2; have hh := (HVS.out.below (below_conv _ T)).below hb; clear HVS; have HVS := Lib.hid hh; clear hh hb)
    | (go_at_call 8; have hc := HTX.out _ HVS.out; (with_reducible refine hc.mono ?_); clear hc; rintro e wn ⟨rfl, hb⟩; have hh := HVS.out.below hb; clear HVS; have HVS := Lib.hid hh; clear hh hb)
    | (go_at_call 83; (with_reducible refine (HTOK.out _ HVS.out _ (HY.out _)).mono ?_); rintro e wn ⟨rfl, hw2, hs2⟩; have HW2 := Lib.hid hw2; have HS2 := Lib.hid (HVS.out.ws.trans hs2); have hq := HVS.out.after hlt hs2 hw2; have HQ := Lib.hid hq; clear hw2 hs2 hq)
    | (go_at_call 83; (with_reducible refine (HTOK.out _ (HVS.out.below (below_conv _ T)) _ (byt_conv _ T _ HVS.out.hz _)).mono ?_); rintro e wn ⟨rfl, hw2, hs2⟩; have HW2 := Lib.hid hw2; have HS2 := Lib.hid ((HVS.out.below (below_conv _ T)).ws.trans hs2); have hq := (HVS.out.below (below_conv _ T)).after hlt hs2 hw2; have HQ := Lib.hid hq; clear hw2 hs2 hq))
  all_goals
    go_wp2_with fail
    go_end0
    exact ⟨rfl, HW2.out, HS2.out⟩
set_option maxRecDepth 100000 in
set_option maxHeartbeats 8000000 in
theorem value_R1 (b : Nat) (y : Sty) (st : Option (List UInt8)) (lev : Int) (f : Nat) (_hf : f < 18446744073709551616) (s : ByteArray) (a1 a2 : Option Addr) (n1 k1 n2 k2 : Nat) (w : World) (hN : NumW w) (hw : RnAt w b y st) :
    Calls Tryz.prog 42 #[.pointer (some ⟨b, 0, none⟩), .agg #[.int .i64 1, .float .f64 f, .string s, .slice a1 n1 k1, .slice a2 n2 k2], .int .i64 lev] w fun e w' => e = .returned (.tuple #[]) ∧ RnAt w' b y (putS st (tokT y.col (colT 1).data.toList (falseT))) ∧ WStep b w w' := by
  obtain ⟨v, l, hw⟩ := hw
  have hsf := run_store_float Tryz.prog
  obtain ⟨T, hT⟩ : ∃ T : ByteArray, lowT 1 = T := ⟨_, rfl⟩
  have hTL : T.data.toList = (falseT) := by rw [← hT]; rfl
  have hTz : T.size ≤ 1000 := by rw [← hT]; decide
  rw [← hTL]
  have hvs := RS.start (k := 1) (f := f) (s := s) (lv := .slice a1 n1 k1) (kv := .slice a2 n2 k2) w hN hw
  have htx := fun W (hR : RS w b w.heap.size 1 f s (.slice a1 n1 k1) (.slice a2 n2 k2) y st v l W) => refTextLow 1 (by decide) f s a1 a2 n1 k1 n2 k2 W
  rw [hT] at htx
  have hcol := fun W (_ : RS w b w.heap.size 1 f s (.slice a1 n1 k1) (.slice a2 n2 k2) y st v l W) => refColour_any 1 (by decide) (by decide) (.float .f64 f) (.string s) (.slice a1 n1 k1) (.slice a2 n2 k2) W
  have htok := fun W (hR : RS w b w.heap.size 1 f s (.slice a1 n1 k1) (.slice a2 n2 k2) y st v l W) tv (hy : Byt W w.heap.size tv T.data.toList) => token_R b y st v l w.heap.size hw.room hw.lt T.data.toList (by simp; omega) tv (colT 1) (by decide) W hR.rn hy
  have hcv := fun W => Lib.run_convert_string_bytes (P := Tryz.prog) W 9 56 5 T Tryz.underlying9 Tryz.underlying56 Tryz.underlying5
  have hlt := hw.lt
  have HTX := Lib.hid htx
  have HTOK := Lib.hid htok
  have HCOL := Lib.hid hcol
  have HVS := Lib.hid hvs
  clear htx htok hcol hvs hw hN hTL hTz hT
  go_enter Tryz.func42, Tryz.ntmps42
  go_wp2_with fail
  generalize (w.alloc (.cells #[.int .i64 1, .float .f64 f, .string s, .slice a1 n1 k1, .slice a2 n2 k2] 27)) = w1 at HVS ⊢
  obtain ⟨⟨q1, q2, q3, q4, q5⟩, q6⟩ := HVS.out.cells
  have hvd := HVS.out.below ((Below.refl _ w1).drew)
  clear HVS
  have HVS := Lib.hid hvd
  clear hvd
  go_region_held (fun W => (W.cell? ⟨w.heap.size, 0, none⟩ = some (.int .i64 1) ∧ W.cell? ⟨w.heap.size, 1, none⟩ = some (.float .f64 f) ∧ W.cell? ⟨w.heap.size, 2, none⟩ = some (.string s) ∧ W.cell? ⟨w.heap.size, 3, none⟩ = some (.slice a1 n1 k1) ∧ W.cell? ⟨w.heap.size, 4, none⟩ = some (.slice a2 n2 k2)) ∧ (W.cell? ⟨b, 3, none⟩ = some (.bool y.asc))) (first | exact HVS.out.cells | exact (HVS.out.below (below_conv _ T)).cells | exact HQ.out)
    (first
    | (go_at_call 85; have hc := HCOL.out _ HVS.out; (with_reducible refine hc.mono ?_); clear hc; rintro e wn ⟨rfl, hb⟩; have hh := HVS.out.below hb; clear HVS; have HVS := Lib.hid hh; clear hh; (try (have hy2 := HY.out.below hb; clear HY; have HY := Lib.hid hy2; clear hy2)); clear hb)
    | (go_at_call 85; have hc := HCOL.out _ (HVS.out.below (below_conv _ T)); (with_reducible refine hc.mono ?_); clear hc; rintro e wn ⟨rfl, hb⟩; have hy2 := fun c => (byt_conv _ T _ HVS.out.hz c).below hb; have HY := Lib.hid hy2; clear hy2; have hh := (HVS.out.below (below_conv _ T)).below hb; clear HVS; have HVS := Lib.hid hh; clear hh hb)
    | (go_at_call 8; have hc := HTX.out _ HVS.out; (with_reducible refine hc.mono ?_); clear hc; rintro e wn ⟨rfl, hb⟩; have hh := HVS.out.below hb; clear HVS; have HVS := Lib.hid hh; clear hh hb)
    | (go_at_call 83; (with_reducible refine (HTOK.out _ HVS.out _ (HY.out _)).mono ?_); rintro e wn ⟨rfl, hw2, hs2⟩; have HW2 := Lib.hid hw2; have HS2 := Lib.hid (HVS.out.ws.trans hs2); have hq := HVS.out.after hlt hs2 hw2; have HQ := Lib.hid hq; clear hw2 hs2 hq)
    | (go_at_call 83; (with_reducible refine (HTOK.out _ (HVS.out.below (below_conv _ T)) _ (byt_conv _ T _ HVS.out.hz _)).mono ?_); rintro e wn ⟨rfl, hw2, hs2⟩; have HW2 := Lib.hid hw2; have HS2 := Lib.hid ((HVS.out.below (below_conv _ T)).ws.trans hs2); have hq := (HVS.out.below (below_conv _ T)).after hlt hs2 hw2; have HQ := Lib.hid hq; clear hw2 hs2 hq))
  all_goals
    go_wp2_with fail
    go_end0
    exact ⟨rfl, HW2.out, HS2.out⟩
set_option maxRecDepth 100000 in
set_option maxHeartbeats 8000000 in
theorem value_R2 (b : Nat) (y : Sty) (st : Option (List UInt8)) (lev : Int) (f : Nat) (_hf : f < 18446744073709551616) (s : ByteArray) (a1 a2 : Option Addr) (n1 k1 n2 k2 : Nat) (w : World) (hN : NumW w) (hw : RnAt w b y st) :
    Calls Tryz.prog 42 #[.pointer (some ⟨b, 0, none⟩), .agg #[.int .i64 2, .float .f64 f, .string s, .slice a1 n1 k1, .slice a2 n2 k2], .int .i64 lev] w fun e w' => e = .returned (.tuple #[]) ∧ RnAt w' b y (putS st (tokT y.col (colT 2).data.toList (trueT))) ∧ WStep b w w' := by
  obtain ⟨v, l, hw⟩ := hw
  have hsf := run_store_float Tryz.prog
  obtain ⟨T, hT⟩ : ∃ T : ByteArray, lowT 2 = T := ⟨_, rfl⟩
  have hTL : T.data.toList = (trueT) := by rw [← hT]; rfl
  have hTz : T.size ≤ 1000 := by rw [← hT]; decide
  rw [← hTL]
  have hvs := RS.start (k := 2) (f := f) (s := s) (lv := .slice a1 n1 k1) (kv := .slice a2 n2 k2) w hN hw
  have htx := fun W (hR : RS w b w.heap.size 2 f s (.slice a1 n1 k1) (.slice a2 n2 k2) y st v l W) => refTextLow 2 (by decide) f s a1 a2 n1 k1 n2 k2 W
  rw [hT] at htx
  have hcol := fun W (_ : RS w b w.heap.size 2 f s (.slice a1 n1 k1) (.slice a2 n2 k2) y st v l W) => refColour_any 2 (by decide) (by decide) (.float .f64 f) (.string s) (.slice a1 n1 k1) (.slice a2 n2 k2) W
  have htok := fun W (hR : RS w b w.heap.size 2 f s (.slice a1 n1 k1) (.slice a2 n2 k2) y st v l W) tv (hy : Byt W w.heap.size tv T.data.toList) => token_R b y st v l w.heap.size hw.room hw.lt T.data.toList (by simp; omega) tv (colT 2) (by decide) W hR.rn hy
  have hcv := fun W => Lib.run_convert_string_bytes (P := Tryz.prog) W 9 56 5 T Tryz.underlying9 Tryz.underlying56 Tryz.underlying5
  have hlt := hw.lt
  have HTX := Lib.hid htx
  have HTOK := Lib.hid htok
  have HCOL := Lib.hid hcol
  have HVS := Lib.hid hvs
  clear htx htok hcol hvs hw hN hTL hTz hT
  go_enter Tryz.func42, Tryz.ntmps42
  go_wp2_with fail
  generalize (w.alloc (.cells #[.int .i64 2, .float .f64 f, .string s, .slice a1 n1 k1, .slice a2 n2 k2] 27)) = w1 at HVS ⊢
  obtain ⟨⟨q1, q2, q3, q4, q5⟩, q6⟩ := HVS.out.cells
  have hvd := HVS.out.below ((Below.refl _ w1).drew)
  clear HVS
  have HVS := Lib.hid hvd
  clear hvd
  go_region_held (fun W => (W.cell? ⟨w.heap.size, 0, none⟩ = some (.int .i64 2) ∧ W.cell? ⟨w.heap.size, 1, none⟩ = some (.float .f64 f) ∧ W.cell? ⟨w.heap.size, 2, none⟩ = some (.string s) ∧ W.cell? ⟨w.heap.size, 3, none⟩ = some (.slice a1 n1 k1) ∧ W.cell? ⟨w.heap.size, 4, none⟩ = some (.slice a2 n2 k2)) ∧ (W.cell? ⟨b, 3, none⟩ = some (.bool y.asc))) (first | exact HVS.out.cells | exact (HVS.out.below (below_conv _ T)).cells | exact HQ.out)
    (first
    | (go_at_call 85; have hc := HCOL.out _ HVS.out; (with_reducible refine hc.mono ?_); clear hc; rintro e wn ⟨rfl, hb⟩; have hh := HVS.out.below hb; clear HVS; have HVS := Lib.hid hh; clear hh; (try (have hy2 := HY.out.below hb; clear HY; have HY := Lib.hid hy2; clear hy2)); clear hb)
    | (go_at_call 85; have hc := HCOL.out _ (HVS.out.below (below_conv _ T)); (with_reducible refine hc.mono ?_); clear hc; rintro e wn ⟨rfl, hb⟩; have hy2 := fun c => (byt_conv _ T _ HVS.out.hz c).below hb; have HY := Lib.hid hy2; clear hy2; have hh := (HVS.out.below (below_conv _ T)).below hb; clear HVS; have HVS := Lib.hid hh; clear hh hb)
    | (go_at_call 8; have hc := HTX.out _ HVS.out; (with_reducible refine hc.mono ?_); clear hc; rintro e wn ⟨rfl, hb⟩; have hh := HVS.out.below hb; clear HVS; have HVS := Lib.hid hh; clear hh hb)
    | (go_at_call 83; (with_reducible refine (HTOK.out _ HVS.out _ (HY.out _)).mono ?_); rintro e wn ⟨rfl, hw2, hs2⟩; have HW2 := Lib.hid hw2; have HS2 := Lib.hid (HVS.out.ws.trans hs2); have hq := HVS.out.after hlt hs2 hw2; have HQ := Lib.hid hq; clear hw2 hs2 hq)
    | (go_at_call 83; (with_reducible refine (HTOK.out _ (HVS.out.below (below_conv _ T)) _ (byt_conv _ T _ HVS.out.hz _)).mono ?_); rintro e wn ⟨rfl, hw2, hs2⟩; have HW2 := Lib.hid hw2; have HS2 := Lib.hid ((HVS.out.below (below_conv _ T)).ws.trans hs2); have hq := (HVS.out.below (below_conv _ T)).after hlt hs2 hw2; have HQ := Lib.hid hq; clear hw2 hs2 hq))
  all_goals
    go_wp2_with fail
    go_end0
    exact ⟨rfl, HW2.out, HS2.out⟩
set_option maxRecDepth 100000 in
set_option maxHeartbeats 8000000 in
theorem value_R3 (b : Nat) (y : Sty) (st : Option (List UInt8)) (lev : Int) (f : Nat) (hf : f < 18446744073709551616) (s : ByteArray) (a1 a2 : Option Addr) (n1 k1 n2 k2 : Nat) (w : World) (hN : NumW w) (hw : RnAt w b y st) :
    Calls Tryz.prog 42 #[.pointer (some ⟨b, 0, none⟩), .agg #[.int .i64 3, .float .f64 f, .string s, .slice a1 n1 k1, .slice a2 n2 k2], .int .i64 lev] w fun e w' => e = .returned (.tuple #[]) ∧ RnAt w' b y (putS st (tokT y.col (colT 3).data.toList (textB f))) ∧ WStep b w w' := by
  obtain ⟨v, l, hw⟩ := hw
  have hsf := run_store_float Tryz.prog
  obtain ⟨T, hT⟩ : ∃ T : ByteArray, str (textB f) = T := ⟨_, rfl⟩
  have hTL : T.data.toList = (textB f) := by rw [← hT]; simp [str]
  have hTz : T.size ≤ 1000 := by
    have h1 := textB_len f hf
    have h2 : T.data.toList.length = (textB f).length := by rw [hTL]
    simp at h2
    omega
  rw [← hTL]
  have hvs := RS.start (k := 3) (f := f) (s := s) (lv := .slice a1 n1 k1) (kv := .slice a2 n2 k2) w hN hw
  have htx := fun W (hR : RS w b w.heap.size 3 f s (.slice a1 n1 k1) (.slice a2 n2 k2) y st v l W) => refText_any f hf W hR.nw
  rw [hT] at htx
  have hcol := fun W (_ : RS w b w.heap.size 3 f s (.slice a1 n1 k1) (.slice a2 n2 k2) y st v l W) => refColour_any 3 (by decide) (by decide) (.float .f64 f) (.string s) (.slice a1 n1 k1) (.slice a2 n2 k2) W
  have htok := fun W (hR : RS w b w.heap.size 3 f s (.slice a1 n1 k1) (.slice a2 n2 k2) y st v l W) tv (hy : Byt W w.heap.size tv T.data.toList) => token_R b y st v l w.heap.size hw.room hw.lt T.data.toList (by simp; omega) tv (colT 3) (by decide) W hR.rn hy
  have hcv := fun W => Lib.run_convert_string_bytes (P := Tryz.prog) W 9 56 5 T Tryz.underlying9 Tryz.underlying56 Tryz.underlying5
  have hlt := hw.lt
  have HTX := Lib.hid htx
  have HTOK := Lib.hid htok
  have HCOL := Lib.hid hcol
  have HVS := Lib.hid hvs
  clear htx htok hcol hvs hw hN hTL hTz hT
  go_enter Tryz.func42, Tryz.ntmps42
  go_wp2_with fail
  generalize (w.alloc (.cells #[.int .i64 3, .float .f64 f, .string s, .slice a1 n1 k1, .slice a2 n2 k2] 27)) = w1 at HVS ⊢
  obtain ⟨⟨q1, q2, q3, q4, q5⟩, q6⟩ := HVS.out.cells
  have hvd := HVS.out.below ((Below.refl _ w1).drew)
  clear HVS
  have HVS := Lib.hid hvd
  clear hvd
  go_region_held (fun W => (W.cell? ⟨w.heap.size, 0, none⟩ = some (.int .i64 3) ∧ W.cell? ⟨w.heap.size, 1, none⟩ = some (.float .f64 f) ∧ W.cell? ⟨w.heap.size, 2, none⟩ = some (.string s) ∧ W.cell? ⟨w.heap.size, 3, none⟩ = some (.slice a1 n1 k1) ∧ W.cell? ⟨w.heap.size, 4, none⟩ = some (.slice a2 n2 k2)) ∧ (W.cell? ⟨b, 3, none⟩ = some (.bool y.asc))) (first | exact HVS.out.cells | exact (HVS.out.below (below_conv _ T)).cells | exact HQ.out)
    (first
    | (go_at_call 85; have hc := HCOL.out _ HVS.out; (with_reducible refine hc.mono ?_); clear hc; rintro e wn ⟨rfl, hb⟩; have hh := HVS.out.below hb; clear HVS; have HVS := Lib.hid hh; clear hh; (try (have hy2 := HY.out.below hb; clear HY; have HY := Lib.hid hy2; clear hy2)); clear hb)
    | (go_at_call 85; have hc := HCOL.out _ (HVS.out.below (below_conv _ T)); (with_reducible refine hc.mono ?_); clear hc; rintro e wn ⟨rfl, hb⟩; have hy2 := fun c => (byt_conv _ T _ HVS.out.hz c).below hb; have HY := Lib.hid hy2; clear hy2; have hh := (HVS.out.below (below_conv _ T)).below hb; clear HVS; have HVS := Lib.hid hh; clear hh hb)
    | (go_at_call 70; have hc := HTX.out _ HVS.out; (with_reducible refine hc.mono ?_); clear hc; rintro e wn ⟨rfl, hb⟩; have hh := HVS.out.below hb; clear HVS; have HVS := Lib.hid hh; clear hh hb)
    | (go_at_call 83; (with_reducible refine (HTOK.out _ HVS.out _ (HY.out _)).mono ?_); rintro e wn ⟨rfl, hw2, hs2⟩; have HW2 := Lib.hid hw2; have HS2 := Lib.hid (HVS.out.ws.trans hs2); have hq := HVS.out.after hlt hs2 hw2; have HQ := Lib.hid hq; clear hw2 hs2 hq)
    | (go_at_call 83; (with_reducible refine (HTOK.out _ (HVS.out.below (below_conv _ T)) _ (byt_conv _ T _ HVS.out.hz _)).mono ?_); rintro e wn ⟨rfl, hw2, hs2⟩; have HW2 := Lib.hid hw2; have HS2 := Lib.hid ((HVS.out.below (below_conv _ T)).ws.trans hs2); have hq := (HVS.out.below (below_conv _ T)).after hlt hs2 hw2; have HQ := Lib.hid hq; clear hw2 hs2 hq))
  all_goals
    go_wp2_with fail
    go_end0
    exact ⟨rfl, HW2.out, HS2.out⟩
end Go.Proofs.YtmicpdibnkmekaaGreatDoor
