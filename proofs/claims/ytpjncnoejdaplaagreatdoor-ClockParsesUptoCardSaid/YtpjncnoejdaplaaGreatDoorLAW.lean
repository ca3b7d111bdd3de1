/- An array of a time's fields is one. -/
import Derived.Test.YtpjncnoejdaplaaGreatDoorLAV
import Derived.Deep.AppendLies
import Derived.Deep.RegionLaw
import Derived.LoopTactic
namespace Go.Proofs.YtpjncnoejdaplaaGreatDoor
open Go Go.RowKit Go.Shelf

theorem JnI.one {w X : World} {b g c8 : Nat} {v : Array Value} (h : JnI w X b g c8 v) (o : Obj) : JnI w (X.alloc o) b g c8 v := h.below ((Below.refl _ X).alloc (Nat.le_refl _) o)
set_option maxRecDepth 100000 in
theorem isLong_any (g c8 : Nat) (w : World) : Calls Tryz.prog 46 #[.agg #[.int .i64 5, .float .f64 0, .string ⟨#[]⟩, .slice (some ⟨g, 0, none⟩) 8 c8, .slice none 0 0]] w fun e w' => e = .returned (.bool true) ∧ Below w.heap.size w w' := by
  have hb := (Below.refl w.heap.size w).alloc (Nat.le_refl _) (.cells #[.int .i64 5, .float .f64 0, .string ⟨#[]⟩, .slice (some ⟨g, 0, none⟩) 8 c8, .slice none 0 0] 46)
  have HB := Lib.hid hb
  clear hb
  go_enter Tryz.func46, Tryz.ntmps46
  go_wp2_with fail
  go_ret
  exact ⟨rfl, HB.out⟩
set_option maxRecDepth 100000 in
set_option maxHeartbeats 4000000 in
theorem isTime_any (g c8 : Nat) (hc8 : 8 ≤ c8) (y m d h i : Int) (s : Nat) (wd yd : Int) (w : World) (hg : RowT w g (tmCells y m d h i s wd yd)) :
    Calls Tryz.prog 47 #[.agg #[.int .i64 5, .float .f64 0, .string ⟨#[]⟩, .slice (some ⟨g, 0, none⟩) 8 c8, .slice none 0 0]] w fun e w' => e = .returned (.bool true) ∧ Below w.heap.size w w' := by
  have hsf := run_store_float Tryz.prog
  have HG := Lib.hid hg
  clear hg
  go_enter Tryz.func47, Tryz.ntmps47
  go_upto_region 1 with fail
  have hj : JnI w (w.alloc (.cells #[.int .i64 5, .float .f64 0, .string ⟨#[]⟩, .slice (some ⟨g, 0, none⟩) 8 c8, .slice none 0 0] 46)) w.heap.size g c8 (tmCells y m d h i s wd yd) := ⟨heap_alloc_new w _, HG.out.below ((Below.refl w.heap.size w).alloc (Nat.le_refl _) _), (Below.refl w.heap.size w).alloc (Nat.le_refl _) _⟩
  generalize w.alloc (.cells #[.int .i64 5, .float .f64 0, .string ⟨#[]⟩, .slice (some ⟨g, 0, none⟩) 8 c8, .slice none 0 0] 46) = X0 at hj ⊢
  have HF := Lib.hid hj
  have hl := HF.out.list
  clear hj HG
  go_wp2_with fail
  go_loopw [9] (fun x wr => ∃ k : Nat, k ≤ 6 ∧ x = .int .i64 k ∧ Hid (JnI w wr w.heap.size g c8 (tmCells y m d h i s wd yd))) (fun x _ => 6 - (intOf x).toNat)
  case atStart => exact ⟨0, by omega, rfl, HF⟩
  case round =>
    obtain ⟨k, hk, rfl, HK⟩ := hrel
    clear HF hl
    rcases (by omega : k = 0 ∨ k = 1 ∨ k = 2 ∨ k = 3 ∨ k = 4 ∨ k = 5 ∨ k = 6) with rfl | rfl | rfl | rfl | rfl | rfl | rfl
    · have c0 := HK.out.cell 0 (.int .i64 3) rfl
      have c1 := HK.out.cell 1 (.float .f64 (fI y)) rfl
      have c2 := HK.out.cell 2 (.string ⟨#[]⟩) rfl
      have c3 := HK.out.cell 3 (.slice none 0 0) rfl
      have c4 := HK.out.cell 4 (.slice none 0 0) rfl
      go_wp2_with fail
      go_roundw
      case rel => exact ⟨1, by omega, rfl, Lib.hid (HK.out.one _)⟩
      case measure => simp [intOf]
    · have c0 := HK.out.cell 5 (.int .i64 3) rfl
      have c1 := HK.out.cell 6 (.float .f64 (fI m)) rfl
      have c2 := HK.out.cell 7 (.string ⟨#[]⟩) rfl
      have c3 := HK.out.cell 8 (.slice none 0 0) rfl
      have c4 := HK.out.cell 9 (.slice none 0 0) rfl
      go_wp2_with fail
      go_roundw
      case rel => exact ⟨2, by omega, rfl, Lib.hid (HK.out.one _)⟩
      case measure => simp [intOf]
    · have c0 := HK.out.cell 10 (.int .i64 3) rfl
      have c1 := HK.out.cell 11 (.float .f64 (fI d)) rfl
      have c2 := HK.out.cell 12 (.string ⟨#[]⟩) rfl
      have c3 := HK.out.cell 13 (.slice none 0 0) rfl
      have c4 := HK.out.cell 14 (.slice none 0 0) rfl
      go_wp2_with fail
      go_roundw
      case rel => exact ⟨3, by omega, rfl, Lib.hid (HK.out.one _)⟩
      case measure => simp [intOf]
    · have c0 := HK.out.cell 15 (.int .i64 3) rfl
      have c1 := HK.out.cell 16 (.float .f64 (fI h)) rfl
      have c2 := HK.out.cell 17 (.string ⟨#[]⟩) rfl
      have c3 := HK.out.cell 18 (.slice none 0 0) rfl
      have c4 := HK.out.cell 19 (.slice none 0 0) rfl
      go_wp2_with fail
      go_roundw
      case rel => exact ⟨4, by omega, rfl, Lib.hid (HK.out.one _)⟩
      case measure => simp [intOf]
    · have c0 := HK.out.cell 20 (.int .i64 3) rfl
      have c1 := HK.out.cell 21 (.float .f64 (fI i)) rfl
      have c2 := HK.out.cell 22 (.string ⟨#[]⟩) rfl
      have c3 := HK.out.cell 23 (.slice none 0 0) rfl
      have c4 := HK.out.cell 24 (.slice none 0 0) rfl
      go_wp2_with fail
      go_roundw
      case rel => exact ⟨5, by omega, rfl, Lib.hid (HK.out.one _)⟩
      case measure => simp [intOf]
    · have c0 := HK.out.cell 25 (.int .i64 3) rfl
      have c1 := HK.out.cell 26 (.float .f64 s) rfl
      have c2 := HK.out.cell 27 (.string ⟨#[]⟩) rfl
      have c3 := HK.out.cell 28 (.slice none 0 0) rfl
      have c4 := HK.out.cell 29 (.slice none 0 0) rfl
      go_wp2_with fail
      go_roundw
      case rel => exact ⟨6, by omega, rfl, Lib.hid (HK.out.one _)⟩
      case measure => simp [intOf]
    · go_wp2_with fail
      go_ret
      exact ⟨rfl, HK.out.is⟩
end Go.Proofs.YtpjncnoejdaplaaGreatDoor
namespace Go.Proofs.YtpjncnoejdaplaaGreatDoor
open Go Go.RowKit Go.Shelf

set_option maxRecDepth 100000 in
set_option maxHeartbeats 4000000 in
theorem Mktime_of (g c8 : Nat) (hc8 : 8 ≤ c8) (y m d h i : Int) (s : Nat) (wd yd : Int) (hy : -9007199254740992 ≤ y ∧ y ≤ 9007199254740992) (hm : -9007199254740992 ≤ m ∧ m ≤ 9007199254740992) (hd : -9007199254740992 ≤ d ∧ d ≤ 9007199254740992) (hh : -9007199254740992 ≤ h ∧ h ≤ 9007199254740992) (hi : -9007199254740992 ≤ i ∧ i ≤ 9007199254740992)
    (a : Int) (hJn : ∀ w, Calls Tryz.prog 53 #[.agg (timeV y m d h i s 0 0)] w fun e w' => e = .returned (.tuple #[.int .i64 a, .int .i64 0]) ∧ Below w.heap.size w w') (w : World) (hg : RowT w g (tmCells y m d h i s wd yd)) :
    Calls Tryz.prog 18 #[.agg #[.int .i64 5, .float .f64 0, .string ⟨#[]⟩, .slice (some ⟨g, 0, none⟩) 8 c8, .slice none 0 0]] w fun e w' => e = .returned (.tuple #[.agg (numV (fI a)), .agg noErr]) ∧ Below w.heap.size w w' := by
  have hsf := run_store_float Tryz.prog
  have HJN := Lib.hid (fun w hg => joined_any g c8 hc8 y m d h i s wd yd hy hm hd hh hi a 0 hJn w hg)
  have HTM := Lib.hid (fun w hg => isTime_any g c8 hc8 y m d h i s wd yd w hg)
  have HT := Lib.hid hg
  have HNM := Lib.hid (Number_any a)
  unfold numV at HNM ⊢
  clear hy hm hd hh hi hJn hg
  go_enter Tryz.func18, Tryz.ntmps18
  go_upto_region 1 with fail
  have hgg := GmI.first w #[.int .i64 5, .float .f64 0, .string ⟨#[]⟩, .slice (some ⟨g, 0, none⟩) 8 c8, .slice none 0 0]
  have HT0 := Lib.hid (HT.out.below ((((Below.refl w.heap.size w).alloc (Nat.le_refl _) (.cells #[.int .i64 5, .float .f64 0, .string ⟨#[]⟩, .slice (some ⟨g, 0, none⟩) 8 c8, .slice none 0 0] 46)).alloc (by simp) (.cells #[.int .i64 0, .float .f64 0, .string ⟨#[]⟩, .slice none 0 0, .slice none 0 0] 46)).alloc (by simp; omega) (.cells #[.bool false, .int .i64 0, .float .f64 0, .string ⟨#[]⟩, .slice none 0 0, .slice none 0 0] 48)))
  generalize ((w.alloc (.cells #[.int .i64 5, .float .f64 0, .string ⟨#[]⟩, .slice (some ⟨g, 0, none⟩) 8 c8, .slice none 0 0] 46)).alloc (.cells #[.int .i64 0, .float .f64 0, .string ⟨#[]⟩, .slice none 0 0, .slice none 0 0] 46)).alloc (.cells #[.bool false, .int .i64 0, .float .f64 0, .string ⟨#[]⟩, .slice none 0 0, .slice none 0 0] 48) = X0 at hgg HT0 ⊢
  have HG0 := Lib.hid hgg
  clear hgg HT
  obtain ⟨⟨p0, p1, p2, p3, p4⟩, _⟩ := row5n HG0.out.arg
  go_wp2_with fail
  refine (isLong_any g c8 _).mono ?_
  rintro e w1 ⟨rfl, hb⟩
  have HG1 := Lib.hid (HG0.out.below hb)
  have HT1 := Lib.hid (HT0.out.below hb)
  clear hb HG0 HT0 p0 p1 p2 p3 p4
  obtain ⟨⟨p0, p1, p2, p3, p4⟩, _⟩ := row5n HG1.out.arg
  go_wp2_with fail
  refine (HTM.out _ HT1.out).mono ?_
  rintro e w2 ⟨rfl, hb⟩
  have HG2 := Lib.hid (HG1.out.below hb)
  have HT2 := Lib.hid (HT1.out.below hb)
  clear hb HG1 HT1 p0 p1 p2 p3 p4
  obtain ⟨⟨p0, p1, p2, p3, p4⟩, _⟩ := row5n HG2.out.arg
  go_wp2_with fail
  refine (HJN.out _ HT2.out).mono ?_
  rintro e w3 ⟨rfl, hb⟩
  have HG3 := Lib.hid (HG2.out.below hb)
  have HT3 := Lib.hid (HT2.out.below hb)
  clear hb HG2 HT2 p0 p1 p2 p3 p4
  obtain ⟨⟨p0, p1, p2, p3, p4⟩, _⟩ := row5n HG3.out.arg
  go_wp2_with fail
  refine (HNM.out _).mono ?_
  rintro e w4 ⟨rfl, hb⟩
  have HG4 := Lib.hid (HG3.out.below hb)
  have HT4 := Lib.hid (HT3.out.below hb)
  clear hb HG3 HT3 p0 p1 p2 p3 p4
  obtain ⟨⟨p0, p1, p2, p3, p4⟩, _⟩ := row5n HG4.out.arg
  clear p0 p1 p2 p3 p4
  obtain ⟨⟨p0, p1, p2, p3, p4⟩, ⟨v0, v1, v2, v3, v4⟩⟩ := row5n HG4.out.res
  obtain ⟨⟨k0, k1, k2, k3, k4, k5⟩, ⟨l0, l1, l2, l3, l4, l5⟩⟩ := row6n HG4.out.err
  go_wp2_with fail
  have hr1 := set5_row HG4.out.res (.int .i64 3) (.float .f64 (fI a)) (.string ⟨#[]⟩) (.slice none 0 0) (.slice none 0 0)
  have he1 := (set5_other (X := w4) (g := w.heap.size + 1) (k := w.heap.size + 2) (by omega) (.int .i64 3) (.float .f64 (fI a)) (.string ⟨#[]⟩) (.slice none 0 0) (.slice none 0 0)).trans HG4.out.err
  have hb1 := set5_below HG4.out.is (g := w.heap.size + 1) (by omega) (.int .i64 3) (.float .f64 (fI a)) (.string ⟨#[]⟩) (.slice none 0 0) (.slice none 0 0)
  refine bodyPost_ret_by (results_two_rows rfl _ _ (w.heap.size + 1) (w.heap.size + 2) 46 48 _ _ (0, 0) (0, 0) _ _ rfl rfl ((set6_other (g := w.heap.size + 2) (by omega) ..).trans hr1) (set6_row he1 ..) Tryz.underlying46 rfl sizeV Tryz.underlying48 rfl sizeE) rfl ?_
  exact ⟨rfl, set6_below hb1 (by omega) ..⟩
end Go.Proofs.YtpjncnoejdaplaaGreatDoor
namespace Go.Proofs.YtpjncnoejdaplaaGreatDoor
open Go Go.RowKit Go.Shelf

def strV (s : ByteArray) : Array Value := #[.int .i64 4, .float .f64 0, .string s, .slice none 0 0, .slice none 0 0]
set_option maxRecDepth 100000 in
theorem rNum_any (f : Nat) (w : World) : Calls Tryz.prog 17 #[.float .f64 f] w fun e w' => e = .returned (.agg (numV f)) ∧ Below w.heap.size w w' := by
  have hsf := run_store_float Tryz.prog
  have hb := (Below.refl w.heap.size w).alloc (Nat.le_refl _) (.cells (numV f) 46)
  have hr := heap_alloc_new w (.cells (numV f) 46)
  have HB := Lib.hid hb
  have HR := Lib.hid hr
  clear hb hr
  unfold numV at HB HR ⊢
  go_enter Tryz.func17, Tryz.ntmps17
  go_wp2_with fail
  refine bodyPost_ret_by (results_cell_row rfl _ _ w.heap.size 46 _ (0, 0) _ rfl HR.out Tryz.underlying46 rfl sizeV) rfl ?_
  exact ⟨rfl, HB.out⟩
set_option maxRecDepth 100000 in
theorem rStr_any (s : ByteArray) (w : World) : Calls Tryz.prog 29 #[.string s] w fun e w' => e = .returned (.agg (strV s)) ∧ Below w.heap.size w w' := by
  have hsf := run_store_float Tryz.prog
  have hb := (Below.refl w.heap.size w).alloc (Nat.le_refl _) (.cells (strV s) 46)
  have hr := heap_alloc_new w (.cells (strV s) 46)
  have HB := Lib.hid hb
  have HR := Lib.hid hr
  clear hb hr
  unfold strV at HB HR ⊢
  go_enter Tryz.func29, Tryz.ntmps29
  go_wp2_with fail
  refine bodyPost_ret_by (results_cell_row rfl _ _ w.heap.size 46 _ (0, 0) _ rfl HR.out Tryz.underlying46 rfl sizeV) rfl ?_
  exact ⟨rfl, HB.out⟩
/-- Two results' cells. -/
structure TwI (w X : World) : Prop where
  res : X.heap[w.heap.size]? = some (.cells #[.int .i64 0, .float .f64 0, .string ⟨#[]⟩, .slice none 0 0, .slice none 0 0] 46 (0, 0))
  err : X.heap[w.heap.size + 1]? = some (.cells #[.bool false, .int .i64 0, .float .f64 0, .string ⟨#[]⟩, .slice none 0 0, .slice none 0 0] 48 (0, 0))
  is : Below w.heap.size w X
theorem TwI.below {w X X' : World} (h : TwI w X) (hb : Below X.heap.size X X') : TwI w X' :=
  ⟨(hb.block _ (Array.getElem?_eq_some_iff.1 h.res).1).trans h.res, (hb.block _ (Array.getElem?_eq_some_iff.1 h.err).1).trans h.err, h.is.trans (hb.mono h.is.size)⟩
theorem TwI.first (w : World) : TwI w ((w.alloc (.cells #[.int .i64 0, .float .f64 0, .string ⟨#[]⟩, .slice none 0 0, .slice none 0 0] 46)).alloc (.cells #[.bool false, .int .i64 0, .float .f64 0, .string ⟨#[]⟩, .slice none 0 0, .slice none 0 0] 48)) := by
  have h1 := heap_alloc_new (w.alloc (.cells #[.int .i64 0, .float .f64 0, .string ⟨#[]⟩, .slice none 0 0, .slice none 0 0] 46)) (.cells #[.bool false, .int .i64 0, .float .f64 0, .string ⟨#[]⟩, .slice none 0 0, .slice none 0 0] 48)
  rw [World.size_alloc] at h1
  exact ⟨row_alloc3 (heap_alloc_new w _) _, h1, ((Below.refl w.heap.size w).alloc (Nat.le_refl _) _).alloc (by simp) _⟩
set_option maxRecDepth 100000 in
set_option maxHeartbeats 2000000 in
theorem failed_any (s : ByteArray) (w : World) : Calls Tryz.prog 44 #[.string s] w fun e w' => e = .returned (.tuple #[.agg nilV, .agg (errT s)]) ∧ Below w.heap.size w w' := by
  have hsf := run_store_float Tryz.prog
  have HFl := Lib.hid (Failure_any s)
  unfold errT at HFl
  go_enter Tryz.func44, Tryz.ntmps44
  go_wp2_with fail
  have ht := TwI.first w
  generalize (w.alloc (.cells #[.int .i64 0, .float .f64 0, .string ⟨#[]⟩, .slice none 0 0, .slice none 0 0] 46)).alloc (.cells #[.bool false, .int .i64 0, .float .f64 0, .string ⟨#[]⟩, .slice none 0 0, .slice none 0 0] 48) = X0 at ht ⊢
  have HT := Lib.hid ht
  clear ht
  refine (HFl.out _).mono ?_
  rintro e w1 ⟨rfl, hb⟩
  have HT1 := Lib.hid (HT.out.below hb)
  clear hb HT
  obtain ⟨⟨p0, p1, p2, p3, p4⟩, ⟨v0, v1, v2, v3, v4⟩⟩ := row5n HT1.out.res
  obtain ⟨⟨k0, k1, k2, k3, k4, k5⟩, ⟨l0, l1, l2, l3, l4, l5⟩⟩ := row6n HT1.out.err
  go_wp2_with fail
  have hr1 := set5_row HT1.out.res (.int .i64 0) (.float .f64 0) (.string ⟨#[]⟩) (.slice none 0 0) (.slice none 0 0)
  have he1 := (set5_other (X := w1) (g := w.heap.size) (k := w.heap.size + 1) (by omega) (.int .i64 0) (.float .f64 0) (.string ⟨#[]⟩) (.slice none 0 0) (.slice none 0 0)).trans HT1.out.err
  have hb1 := set5_below HT1.out.is (g := w.heap.size) (Nat.le_refl _) (.int .i64 0) (.float .f64 0) (.string ⟨#[]⟩) (.slice none 0 0) (.slice none 0 0)
  refine bodyPost_ret_by (results_two_rows rfl _ _ w.heap.size (w.heap.size + 1) 46 48 _ _ (0, 0) (0, 0) _ _ rfl rfl ((set6_other (g := w.heap.size + 1) (by omega) ..).trans hr1) (set6_row he1 ..) Tryz.underlying46 rfl sizeV Tryz.underlying48 rfl sizeE) rfl ?_
  exact ⟨rfl, set6_below hb1 (by omega) ..⟩
end Go.Proofs.YtpjncnoejdaplaaGreatDoor
namespace Go.Proofs.YtpjncnoejdaplaaGreatDoor
open Go Go.RowKit Go.Shelf

def gmText : ByteArray := ⟨#[103, 109, 116, 105, 109, 101, 40, 41, 32, 114, 101, 113, 117, 105, 114, 101, 115, 32, 97, 32, 110, 117, 109, 98, 101, 114]⟩
set_option maxRecDepth 100000 in
set_option maxHeartbeats 2000000 in
theorem Gmtime_str (s : ByteArray) (w : World) : Calls Tryz.prog 16 #[.agg #[.int .i64 4, .float .f64 0, .string s, .slice none 0 0, .slice none 0 0]] w fun e w' => e = .returned (.tuple #[.agg nilV, .agg (errT gmText)]) ∧ Below w.heap.size w w' := by
  have hsf := run_store_float Tryz.prog
  have HF := Lib.hid (failed_any gmText)
  unfold nilV errT gmText at HF
  go_enter Tryz.func16, Tryz.ntmps16
  go_upto_region 1 with fail
  have hgg := GmI.first w #[.int .i64 4, .float .f64 0, .string s, .slice none 0 0, .slice none 0 0]
  generalize ((w.alloc (.cells #[.int .i64 4, .float .f64 0, .string s, .slice none 0 0, .slice none 0 0] 46)).alloc (.cells #[.int .i64 0, .float .f64 0, .string ⟨#[]⟩, .slice none 0 0, .slice none 0 0] 46)).alloc (.cells #[.bool false, .int .i64 0, .float .f64 0, .string ⟨#[]⟩, .slice none 0 0, .slice none 0 0] 48) = X0 at hgg ⊢
  have HG0 := Lib.hid hgg
  clear hgg
  obtain ⟨⟨p0, p1, p2, p3, p4⟩, _⟩ := row5n HG0.out.arg
  go_wp2_with fail
  refine (HF.out _).mono ?_
  rintro e w1 ⟨rfl, hb⟩
  have HG4 := Lib.hid (HG0.out.below hb)
  clear hb HG0 p0 p1 p2 p3 p4
  obtain ⟨⟨p0, p1, p2, p3, p4⟩, ⟨v0, v1, v2, v3, v4⟩⟩ := row5n HG4.out.res
  obtain ⟨⟨k0, k1, k2, k3, k4, k5⟩, ⟨l0, l1, l2, l3, l4, l5⟩⟩ := row6n HG4.out.err
  go_wp2_with fail
  have hr1 := set5_row HG4.out.res (.int .i64 0) (.float .f64 0) (.string ⟨#[]⟩) (.slice none 0 0) (.slice none 0 0)
  have he1 := (set5_other (X := w1) (g := w.heap.size + 1) (k := w.heap.size + 2) (by omega) (.int .i64 0) (.float .f64 0) (.string ⟨#[]⟩) (.slice none 0 0) (.slice none 0 0)).trans HG4.out.err
  have hb1 := set5_below HG4.out.is (g := w.heap.size + 1) (by omega) (.int .i64 0) (.float .f64 0) (.string ⟨#[]⟩) (.slice none 0 0) (.slice none 0 0)
  refine bodyPost_ret_by (results_two_rows rfl _ _ (w.heap.size + 1) (w.heap.size + 2) 46 48 _ _ (0, 0) (0, 0) _ _ rfl rfl ((set6_other (g := w.heap.size + 2) (by omega) ..).trans hr1) (set6_row he1 ..) Tryz.underlying46 rfl sizeV Tryz.underlying48 rfl sizeE) rfl ?_
  exact ⟨rfl, set6_below hb1 (by omega) ..⟩
end Go.Proofs.YtpjncnoejdaplaaGreatDoor
namespace Go.Proofs.YtpjncnoejdaplaaGreatDoor
open Go Go.RowKit

theorem infoVl : (Tryz.prog.info? 46).map (fun i => (i.zero, i.size, i.bytes)) = some (some (.agg #[.int .i64 0, .float .f64 0, .string ⟨#[]⟩, .slice none 0 0, .slice none 0 0]), 5, 80) := by kernel_rfl
theorem vparts {i? : Option TypeInfo} {z : Value} {s b : Nat} (h : i?.map (fun i => (i.zero, i.size, i.bytes)) = some (some z, s, b)) : ∃ i, i? = some i ∧ i.zero = some z ∧ i.size = s ∧ i.bytes = b := by
  cases i? with
  | none => cases h
  | some i =>
    simp at h
    exact ⟨i, rfl, h.1, h.2.1, h.2.2⟩
/-- The cells of some numbers. -/
def cellsN : List Nat → List Value
  | [] => []
  | f :: l => (numV f).toList ++ cellsN l
theorem cellsN_snoc (f : Nat) : ∀ l, cellsN (l ++ [f]) = cellsN l ++ (numV f).toList
  | [] => by simp [cellsN]
  | g :: l => by simp [cellsN, cellsN_snoc f l]
/-- A time's fields, as doubles. -/
def tmFl (y m d h i : Int) (s : Nat) (wd yd : Int) : List Nat := [fI y, fI m, fI d, fI h, fI i, s, fI wd, fI yd]
theorem cellsN_tm (y m d h i : Int) (s : Nat) (wd yd : Int) : cellsN (tmFl y m d h i s wd yd) = (tmCells y m d h i s wd yd).toList := rfl
structure ArI (w : World) (fl : List Nat) (j : Nat) (lv : Value) (W : World) : Prop where
  res : W.heap[w.heap.size + 1]? = some (.cells #[.int .i64 0, .float .f64 0, .string ⟨#[]⟩, .slice none 0 0, .slice none 0 0] 46 (0, 0))
  fls : W.heap[w.heap.size + 2]? = some (.cells (fl.map (Value.float .f64)).toArray 22 (0, 0))
  box : W.heap[w.heap.size + 3]? = some (.cells #[.int .i64 5, .float .f64 0, .string ⟨#[]⟩, lv, .slice none 0 0] 46 (0, 0))
  own : W.ownsRow (w.heap.size + 4) 46 5 lv j (cellsN (fl.take j))
  bel : Below w.heap.size w W
theorem ArI.step {w : World} {fl : List Nat} {j : Nat} {lv : Value} {W w2 w4 : World} {cs : Array Value} {g cap : Nat} (hI : ArI w fl j lv W) (hj : j < fl.length) (h2 : Below W.heap.size W w2)
    (hown : w4.ownsRow (w.heap.size + 4) 46 5 (.slice (some ⟨g, 0, none⟩) (j + 1) cap) (j + 1) (cellsN (fl.take j) ++ (numV fl[j]).toList))
    (hgrow : (w2.alloc (.cells cs 46)).grownBy w4 lv.ownBlock) (hgb : lv.ownBlock = some g ∨ g = w2.heap.size + 1) :
    ArI w fl (j + 1) (.slice (some ⟨g, 0, none⟩) (j + 1) cap) (w4.setCell ⟨w.heap.size + 3, 3, none⟩ (.slice (some ⟨g, 0, none⟩) (j + 1) cap)) := by
  have hsz := h2.size
  have hs4 : w2.heap.size + 1 ≤ w4.heap.size := by have := hgrow.size; simpa using this
  have hs0 := hI.bel.size
  have l2 := (Array.getElem?_eq_some_iff.1 hI.box).1
  have hlv : ∀ k, lv.ownBlock = some k → w.heap.size + 4 ≤ k ∧ k < W.heap.size := fun k hk => hI.own.lt k hk
  have keep4 : ∀ k, k < w2.heap.size → some k ≠ lv.ownBlock → w4.heap[k]? = w2.heap[k]? := fun k hk hn => by
    rw [hgrow.block k (by simp; omega) hn]
    show (w2.heap.push _)[k]? = _
    rw [Array.getElem?_push, if_neg (by omega)]
  have keepW : ∀ k, k < W.heap.size → some k ≠ lv.ownBlock → w4.heap[k]? = W.heap[k]? := fun k hk hn => (keep4 k (by omega) hn).trans (h2.block k hk)
  have small : ∀ k, k < w.heap.size + 4 → some k ≠ lv.ownBlock := fun k hk e => by have := (hlv k e.symm).1; omega
  have hS : (w4.setCell ⟨w.heap.size + 3, 3, none⟩ (.slice (some ⟨g, 0, none⟩) (j + 1) cap)).heap.size = w4.heap.size := by simp
  refine ⟨?_, ?_, ?_, ?_, ?_⟩
  · rw [setCell_other_block _ (by omega), keepW _ (by omega) (small _ (by omega))]; exact hI.res
  · rw [setCell_other_block _ (by omega), keepW _ (by omega) (small _ (by omega))]; exact hI.fls
  · have := keepW (w.heap.size + 3) l2 (small _ (by omega))
    rw [hI.box] at this
    exact row_setAt this 3 _
  · rw [List.take_succ_eq_append_getElem hj, cellsN_snoc]
    refine hown.kept (row := some (w.heap.size + 3)) ⟨rfl, rfl, rfl, by rw [hS]; exact Nat.le_refl _, fun k _ hn => setCell_other_block _ (fun e => hn (by rw [e]))⟩ (Or.inr ?_)
    intro e
    have e : g = w.heap.size + 3 := by simpa [Value.ownBlock] using e
    rcases hgb with h | h
    · have := (hlv g h).1; omega
    · omega
  · have hb4 : Below w.heap.size w w4 := ((hI.bel.trans (h2.mono hs0)).alloc (by omega) _).grown hgrow (by simp; omega) (fun k hk => by have := (hlv k hk).1; omega)
    exact hb4.setCell (by simp) _
theorem ArI.mid {w : World} {fl : List Nat} {j : Nat} {lv : Value} {W w2 w4 : World} {o : Obj} (hI : ArI w fl j lv W) (h2 : Below W.heap.size W w2) (hgrow : (w2.alloc o).grownBy w4 lv.ownBlock) :
    w4.cell? ⟨w.heap.size + 3, 3, none⟩ = some lv ∧ w4.frozen? ⟨w.heap.size + 3, 3, none⟩ = false := by
  have l2 := (Array.getElem?_eq_some_iff.1 hI.box).1
  have hsz := h2.size
  have e : w4.heap[w.heap.size + 3]? = some (.cells #[.int .i64 5, .float .f64 0, .string ⟨#[]⟩, lv, .slice none 0 0] 46 (0, 0)) := by
    rw [hgrow.block _ (by simp; omega) (fun e => by have := (hI.own.lt _ e.symm).1; omega)]
    refine row_alloc3 ?_ _
    rw [h2.block _ l2]
    exact hI.box
  obtain ⟨⟨_, _, _, c3, _⟩, _, _, _, z3, _⟩ := row5n e
  exact ⟨c3, z3⟩
theorem ownN_carry {W w2 : World} {base : Nat} {e : TypeId} {size : Nat} {v : Value} {n : Nat} {xs : List Value} (h : W.ownsRow base e size v n xs) (h2 : Below W.heap.size W w2) (o : Obj) : (w2.alloc o).ownsRow base e size v n xs :=
  (h.kept (row := none) ⟨h2.os, h2.tape, h2.output, h2.size, fun k hk _ => h2.block k hk⟩ (by cases v.ownBlock <;> simp)).alloc o
theorem ownN_slice {w : World} {base : Nat} {e : TypeId} {size : Nat} {v : Value} {n : Nat} {xs : List Value} (h : w.ownsRow base e size v n xs) : ∃ A n c, v = .slice A n c := by
  rcases h.2 with ⟨rfl, _⟩ | ⟨g, cap, cur, rfl, _⟩
  · exact ⟨_, _, _, rfl⟩
  · exact ⟨_, _, _, rfl⟩
theorem ArI.fl_cell {w : World} {fl : List Nat} {j : Nat} {lv : Value} {W : World} (hI : ArI w fl j lv W) (hj : j < fl.length) : W.cell? ⟨w.heap.size + 2, j, none⟩ = some (.float .f64 fl[j]) := by
  have h := hI.fls
  simp only [World.cell?, h]
  simp [hj]
theorem ar_start (w : World) (y m d h i : Int) (s : Nat) (wd yd : Int) (fl : List Nat) (hfl : tmFl y m d h i s wd yd = fl) : ArI w fl 0 (.slice none 0 0) ((((w.alloc (.cells #[.int .i64 y, .int .i64 m, .int .i64 d, .int .i64 h, .int .i64 i, .float .f64 s, .int .i64 wd, .int .i64 yd] 24)).alloc (.cells #[.int .i64 0, .float .f64 0, .string ⟨#[]⟩, .slice none 0 0, .slice none 0 0] 46)).alloc (.cells #[.float .f64 (fI y), .float .f64 (fI m), .float .f64 (fI d), .float .f64 (fI h), .float .f64 (fI i), .float .f64 s, .float .f64 (fI wd), .float .f64 (fI yd)] 22)).alloc (.cells #[.int .i64 5, .float .f64 0, .string ⟨#[]⟩, .slice none 0 0, .slice none 0 0] 46)) := by
  subst hfl
  refine ⟨?_, ?_, ?_, ⟨by simp [cellsN], .inl ⟨rfl, rfl⟩⟩, ?_⟩
  · refine row_alloc3 (row_alloc3 ?_ _) _
    have := heap_alloc_new (w.alloc (.cells #[.int .i64 y, .int .i64 m, .int .i64 d, .int .i64 h, .int .i64 i, .float .f64 s, .int .i64 wd, .int .i64 yd] 24)) (.cells #[.int .i64 0, .float .f64 0, .string ⟨#[]⟩, .slice none 0 0, .slice none 0 0] 46)
    rw [World.size_alloc] at this
    exact this
  · refine row_alloc3 ?_ _
    have := heap_alloc_new ((w.alloc (.cells #[.int .i64 y, .int .i64 m, .int .i64 d, .int .i64 h, .int .i64 i, .float .f64 s, .int .i64 wd, .int .i64 yd] 24)).alloc (.cells #[.int .i64 0, .float .f64 0, .string ⟨#[]⟩, .slice none 0 0, .slice none 0 0] 46)) (.cells #[.float .f64 (fI y), .float .f64 (fI m), .float .f64 (fI d), .float .f64 (fI h), .float .f64 (fI i), .float .f64 s, .float .f64 (fI wd), .float .f64 (fI yd)] 22)
    rw [World.size_alloc, World.size_alloc] at this
    exact this
  · have := heap_alloc_new (((w.alloc (.cells #[.int .i64 y, .int .i64 m, .int .i64 d, .int .i64 h, .int .i64 i, .float .f64 s, .int .i64 wd, .int .i64 yd] 24)).alloc (.cells #[.int .i64 0, .float .f64 0, .string ⟨#[]⟩, .slice none 0 0, .slice none 0 0] 46)).alloc (.cells #[.float .f64 (fI y), .float .f64 (fI m), .float .f64 (fI d), .float .f64 (fI h), .float .f64 (fI i), .float .f64 s, .float .f64 (fI wd), .float .f64 (fI yd)] 22)) (.cells #[.int .i64 5, .float .f64 0, .string ⟨#[]⟩, .slice none 0 0, .slice none 0 0] 46)
    rw [World.size_alloc, World.size_alloc, World.size_alloc] at this
    exact this
  · exact ((((Below.refl w.heap.size w).alloc (Nat.le_refl _) _).alloc (by simp) _).alloc (by simp; omega) _).alloc (by simp; omega) _
theorem ar_end {w W : World} {fl : List Nat} {lv : Value} (hI : ArI w fl 8 lv W) (hl : fl.length = 8) : ∃ g c8, lv = .slice (some ⟨g, 0, none⟩) 8 c8 ∧ 8 ≤ c8 ∧ w.heap.size + 4 ≤ g ∧ g < W.heap.size ∧ RowT W g (cellsN fl).toArray := by
  have hown := hI.own
  rw [List.take_of_length_le (by omega)] at hown
  have hlen := hown.1
  rcases hown.2 with ⟨_, h0⟩ | ⟨g, cap, cur, e, hb, hg, h8, _, _, hcur⟩
  · omega
  · refine ⟨g, cap, e, h8, hb, (Array.getElem?_eq_some_iff.1 hg).1, cur, hg, fun k hk => ?_⟩
    rw [← hcur] at hk ⊢
    have hk' : k < 8 * 5 := by
      simp at hk
      omega
    simp [hk']
theorem RowT.other {W : World} {g B : Nat} {v : Array Value} (h : RowT W g v) (hn : g ≠ B) {a b c d e : Value} : RowT (set5 W B a b c d e) g v := by
  obtain ⟨cs, h1, h2⟩ := h
  exact ⟨cs, (set5_other hn ..).trans h1, h2⟩
end Go.Proofs.YtpjncnoejdaplaaGreatDoor
namespace Go.Proofs.YtpjncnoejdaplaaGreatDoor
open Go Go.RowKit Go.Shelf

/-- What Array answers: a slice of eight values, of a row that begins with the fields. -/
def ArPost (w : World) (v : Array Value) (e : Ending) (w' : World) : Prop := (∃ g c8, 8 ≤ c8 ∧ w.heap.size ≤ g ∧ g < w'.heap.size ∧ e = .returned (.agg #[.int .i64 5, .float .f64 0, .string ⟨#[]⟩, .slice (some ⟨g, 0, none⟩) 8 c8, .slice none 0 0]) ∧ RowT w' g v) ∧ Below w.heap.size w w'
set_option maxRecDepth 100000 in
set_option maxHeartbeats 4000000 in
theorem Array_any (y m d h i : Int) (s : Nat) (wd yd : Int) (w : World) : Calls Tryz.prog 28 #[.agg (timeV y m d h i s wd yd)] w fun e w' => ArPost w (tmCells y m d h i s wd yd) e w' := by
  have hsf := run_store_float Tryz.prog
  have hci := conv_int
  obtain ⟨i0, hi0, hz0, hz1, hz2⟩ := vparts infoVl
  unfold timeV
  go_enter Tryz.func28, Tryz.ntmps28
  go_wp2_with fail
  obtain ⟨fl, hfl⟩ : ∃ fl, tmFl y m d h i s wd yd = fl := ⟨_, rfl⟩
  have hl : fl.length = 8 := by rw [← hfl]; rfl
  have hst : ArI w fl 0 (.slice none 0 0) ((((w.alloc (.cells #[.int .i64 y, .int .i64 m, .int .i64 d, .int .i64 h, .int .i64 i, .float .f64 s, .int .i64 wd, .int .i64 yd] 24)).alloc (.cells #[.int .i64 0, .float .f64 0, .string ⟨#[]⟩, .slice none 0 0, .slice none 0 0] 46)).alloc (.cells #[.float .f64 (fI y), .float .f64 (fI m), .float .f64 (fI d), .float .f64 (fI h), .float .f64 (fI i), .float .f64 s, .float .f64 (fI wd), .float .f64 (fI yd)] 22)).alloc (.cells #[.int .i64 5, .float .f64 0, .string ⟨#[]⟩, .slice none 0 0, .slice none 0 0] 46)) := ar_start w y m d h i s wd yd fl hfl
  generalize (((w.alloc (.cells #[.int .i64 y, .int .i64 m, .int .i64 d, .int .i64 h, .int .i64 i, .float .f64 s, .int .i64 wd, .int .i64 yd] 24)).alloc (.cells #[.int .i64 0, .float .f64 0, .string ⟨#[]⟩, .slice none 0 0, .slice none 0 0] 46)).alloc (.cells #[.float .f64 (fI y), .float .f64 (fI m), .float .f64 (fI d), .float .f64 (fI h), .float .f64 (fI i), .float .f64 s, .float .f64 (fI wd), .float .f64 (fI yd)] 22)).alloc (.cells #[.int .i64 5, .float .f64 0, .string ⟨#[]⟩, .slice none 0 0, .slice none 0 0] 46) = X0 at hst ⊢
  have HST := Lib.hid hst
  have HFL := Lib.hid hfl
  have HL := Lib.hid hl
  clear hst hfl hl
  go_loopw [5] (fun i W => ∃ (j : Nat) (lv : Value), i = .int .i64 j ∧ j ≤ 8 ∧ ArI w fl j lv W) (fun i _ => 8 - (intOf i).toNat)
  case atStart => exact ⟨0, _, rfl, Nat.zero_le _, HST.out⟩
  case round =>
    obtain ⟨j, lv, rfl, hj, hI⟩ := hrel
    have CI := Lib.hid hI
    obtain ⟨A5, n5, c5, rfl⟩ := ownN_slice hI.own
    obtain ⟨⟨_, _, _, bx3, _⟩, _⟩ := row5n hI.box
    have rs3 : wr.cell? ⟨w.heap.size + 1 + 1 + 1, 3, none⟩ = some (.slice A5 n5 c5) := bx3
    have hszw : w.heap.size + 1 + 1 + 1 < wr.heap.size := (Array.getElem?_eq_some_iff.1 hI.box).1
    clear hI HST bx3
    by_cases hlt : j < 8
    · have f0 : wr.cell? ⟨w.heap.size + 1 + 1, j, none⟩ = some (.float .f64 (fl[j]'(by have := HL.out; omega))) := CI.out.fl_cell _
      obtain ⟨fj, hfj⟩ : ∃ fj, fl[j]'(by have := HL.out; omega) = fj := ⟨_, rfl⟩
      rw [hfj] at f0
      have HFJ := Lib.hid hfj
      clear hfj
      have rs3d : wr.drew.cell? ⟨w.heap.size + 1 + 1 + 1, 3, none⟩ = some (.slice A5 n5 c5) := rs3
      go_wp2_with fail
      go_region_law ((first
            | (go_simp; go_at_call 17; refine (rNum_any fj wr.drew).mono ?_; rintro e w2 ⟨rfl, hb2⟩; unfold numV; have rs2 := (((((Below.refl _ _).drew).trans hb2).cell (p := ⟨w.heap.size + 1 + 1 + 1, 3, none⟩) hszw).trans rs3); have rs2a := fun o => ((((((Below.refl _ _).drew).trans hb2).alloc (by have := hb2.size; simpa using this) o).cell (p := ⟨w.heap.size + 1 + 1 + 1, 3, none⟩) hszw).trans rs3))
            | (refine step_append_lies _ (by rfl) _ _ _ (by rfl) (w.heap.size + 4) 46 i0 _ 5 80 Tryz.underlying44 hi0 hz0 hz1 hz2 rfl (by omega) (.slice A5 n5 c5) j (cellsN (fl.take j)) (by rfl) (ownN_carry CI.out.own (((Below.refl _ _).drew).trans hb2) _) ⟨w2.heap.size, 0, none⟩ 1 1 (numV fj).toList (by rfl) (by rfl) (World.news_of_block (cs := numV fj) (t := 46) (fr := (0, 0)) (heap_alloc_new w2 _)) (by simp [Value.oneCell', numV]) (by omega) (by unfold maxLen; omega) (by omega) (by have := hb2.size; simp at this ⊢; omega) (w2.heap.size + 1) (by simp) ?_; intro gg cap w4 hown4 hgrow4 hat4 hlt4; obtain ⟨c3, z3⟩ := CI.out.mid (((Below.refl _ _).drew).trans hb2) hgrow4; have c3' : w4.cell? ⟨w.heap.size + 1 + 1 + 1, 3, none⟩ = some (.slice A5 n5 c5) := c3; have z3' : w4.frozen? ⟨w.heap.size + 1 + 1 + 1, 3, none⟩ = false := z3; clear c3 z3)))
      all_goals (go_wp2_with fail)
      all_goals go_roundw
      all_goals try (simp only [Go.RowKit.intOf]; omega)
      all_goals exact ⟨j + 1, _, by go_num, by omega, CI.out.step (by have := HL.out; omega) (((Below.refl _ _).drew).trans hb2) (by rw [HFJ.out]; exact hown4) hgrow4 hat4⟩
    · obtain rfl : j = 8 := by omega
      obtain ⟨⟨e10, e11, e12, e13, e14⟩, d10, d11, d12, d13, d14⟩ := row5n CI.out.res
      obtain ⟨⟨b10, b11, b12, b13, b14⟩, _⟩ := row5n CI.out.box
      have b10' : wr.cell? ⟨w.heap.size + 1 + 1 + 1, 0, none⟩ = some (.int .i64 5) := b10
      have b11' : wr.cell? ⟨w.heap.size + 1 + 1 + 1, 1, none⟩ = some (.float .f64 0) := b11
      have b12' : wr.cell? ⟨w.heap.size + 1 + 1 + 1, 2, none⟩ = some (.string ⟨#[]⟩) := b12
      have b14' : wr.cell? ⟨w.heap.size + 1 + 1 + 1, 4, none⟩ = some (.slice none 0 0) := b14
      clear b10 b11 b12 b13 b14
      have HE := Lib.hid (ar_end (fl := fl) CI.out HL.out)
      go_wp2_with fail
      have hrow := set5_row CI.out.res (.int .i64 5) (.float .f64 0) (.string ⟨#[]⟩) (.slice A5 n5 c5) (.slice none 0 0)
      refine bodyPost_ret_by (results_cell_row rfl _ _ (w.heap.size + 1) 46 _ (0, 0) _ rfl hrow Tryz.underlying46 rfl sizeV) rfl ?_
      obtain ⟨g, c8, k1, k2, k3, k4, k5⟩ := HE.out
      rw [k1]
      have hR : RowT (set5 wr (w.heap.size + 1) (.int .i64 5) (.float .f64 0) (.string ⟨#[]⟩) (.slice (some ⟨g, 0, none⟩) 8 c8) (.slice none 0 0)) g (tmCells y m d h i s wd yd) := by
        have e : (cellsN fl).toArray = tmCells y m d h i s wd yd := by rw [← HFL.out, cellsN_tm]
        rw [← e]
        exact RowT.other k5 (by omega)
      exact ⟨⟨g, c8, k2, by omega, (Array.getElem?_eq_some_iff.1 hR.choose_spec.1).1, rfl, hR⟩, set5_below CI.out.bel (by omega) ..⟩
end Go.Proofs.YtpjncnoejdaplaaGreatDoor
