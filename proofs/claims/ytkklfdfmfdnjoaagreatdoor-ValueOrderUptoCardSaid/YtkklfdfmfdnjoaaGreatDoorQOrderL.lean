/- The document's Equal. -/
import Derived.Test.YtkklfdfmfdnjoaaGreatDoorQRefCmpO
import Derived.Test.YtkklfdfmfdnjoaaGreatDoorQCompare
import Derived.Test.YtkklfdfmfdnjoaaGreatDoorQHeadsA
import Derived.Test.YtkklfdfmfdnjoaaGreatDoorQSorted
namespace Go.Proofs.YtkklfdfmfdnjoaaGreatDoor
open Go Go.RowKit

set_option maxRecDepth 100000 in
set_option maxHeartbeats 1000000 in
theorem refEqual_any (m : Nat) (a b : V) (da db : Nat) (la ka lb kb : Value) (w : World) (hra : rightV da a = true) (hrb : rightV db b = true) (ha : At w w.heap.size m a la ka) (hb : At w w.heap.size m b lb kb) :
    Calls Tryz.prog 23 #[.agg (cellsV a la ka), .agg (cellsV b lb kb)] w fun e w' => e = .returned (.bool (cmpV m a b == 0)) ∧ Below w.heap.size w w' := by
  have hsf := run_store_float Tryz.prog
  have hc := fun W (h : Below w.heap.size w W) => refCompare_any m a b da db la ka lb kb W hra hrb ((ha.below h).more h.size) ((hb.below h).more h.size)
  obtain ⟨A1, n1, m1, A2, n2, m2, rfl, rfl⟩ := ha.slices
  obtain ⟨A3, n3, m3, A4, n4, m4, rfl, rfl⟩ := hb.slices
  unfold cellsV at hc ⊢
  generalize cmpV m a b = r at hc ⊢
  have HC := Lib.hid hc
  clear hc ha hb hra hrb
  go_enter Tryz.func23, Tryz.ntmps23
  go_wp2_with fail
  have hb0 := ((Below.refl w.heap.size w).alloc (Nat.le_refl _) (Obj.cells #[.int .i64 a.k, .float .f64 a.f, .string a.s, .slice A1 n1 m1, .slice A2 n2 m2] 27)).alloc (by simp) (Obj.cells #[.int .i64 b.k, .float .f64 b.f, .string b.s, .slice A3 n3 m3, .slice A4 n4 m4] 27)
  refine (HC.out _ hb0).mono ?_
  rintro e w1 ⟨rfl, hb1⟩
  have HB1 := Lib.hid (hb0.trans (hb1.mono hb0.size))
  clear hb0 hb1
  go_wp2_with fail
  go_ret
  exact ⟨rfl, HB1.out⟩
end Go.Proofs.YtkklfdfmfdnjoaaGreatDoor
/- ValueOrder: its walks. -/
namespace Go.Proofs.YtkklfdfmfdnjoaaGreatDoor
open Go Go.RowKit

set_option maxRecDepth 100000 in
set_option maxHeartbeats 8000000 in
theorem order_bad (a : V) (a1 : Option Addr) (n1 c1 : Nat) (a2 : Option Addr) (n2 c2 : Nat) (b : V) (a3 : Option Addr) (n3 c3 : Nat) (a4 : Option Addr) (n4 c4 : Nat) (m : Nat) (w : World) (hN : NumW w) (ha : At w w.heap.size m a (.slice a1 n1 c1) (.slice a2 n2 c2)) (hb : At w w.heap.size m b (.slice a3 n3 c3) (.slice a4 n4 c4))
    (hbad : ¬ (rightV 10000 a = true ∧ rightV 10000 b = true)) :
    Calls Tryz.prog 5 #[.agg (cellsV a (.slice a1 n1 c1) (.slice a2 n2 c2)), .agg (cellsV b (.slice a3 n3 c3) (.slice a4 n4 c4))] w fun e w' => e = .returned (.bool true) ∧ Below w.heap.size w w' := by
  have hsf := run_store_float Tryz.prog
  obtain ⟨i0, hi0, hz0, hz1, hz2⟩ := info_parts infoVal
  have HN := Lib.hid (fun W (hW : Below w.heap.size w W) => hN.below hW)
  have hra := fun W (hW : Below w.heap.size w W) => refRightT_any m a _ _ W ((ha.below hW).more hW.size)
  have hrb := fun W (hW : Below w.heap.size w W) => refRightT_any m b _ _ W ((hb.below hW).more hW.size)
  obtain ⟨r1, g1⟩ : ∃ bb, rightV 10000 a = bb := ⟨_, rfl⟩
  simp only [g1] at hra
  obtain ⟨r2, g2⟩ : ∃ bb, rightV 10000 b = bb := ⟨_, rfl⟩
  simp only [g2] at hrb
  rw [g1, g2] at hbad
  unfold cellsV at hra hrb ⊢
  have HRA := Lib.hid hra
  have HRB := Lib.hid hrb
  have HBAD := Lib.hid hbad
  clear hra hrb hbad g1 g2 hN ha hb
  go_enter Tryz.func5, Tryz.ntmps5
  go_wp2_with fail
  have H0 := Lib.hid ((HW.start w).two #[.int .i64 a.k, .float .f64 a.f, .string a.s, .slice a1 n1 c1, .slice a2 n2 c2] #[.int .i64 b.k, .float .f64 b.f, .string b.s, .slice a3 n3 c3, .slice a4 n4 c4] 27 27)
  refine (HRA.out _ H0.out.bel).mono ?_
  rintro e w1 ⟨rfl, hb⟩
  have H1 := Lib.hid (H0.out.below hb)
  clear hb H0
  obtain ⟨bc0, bc1, bc2, bc3, bc4⟩ := row5p (H1.out.rows _ (.head _))
  cases r1
  · go_wp2_with fail
    refine (heads_true _ (HN.out _ H1.out.bel)).mono ?_
    rintro e w9 ⟨rfl, hb⟩
    go_wp2_with fail
    go_ret
    exact ⟨rfl, trk0 H1.out.bel hb⟩
  go_wp2_with fail
  refine (HRB.out _ H1.out.bel).mono ?_
  rintro e w2 ⟨rfl, hb⟩
  have H2 := Lib.hid (H1.out.below hb)
  clear hb H1 bc0 bc1 bc2 bc3 bc4
  cases r2
  · go_wp2_with fail
    refine (heads_true _ (HN.out _ H2.out.bel)).mono ?_
    rintro e w9 ⟨rfl, hb⟩
    go_wp2_with fail
    go_ret
    exact ⟨rfl, trk0 H2.out.bel hb⟩
  exact absurd (by simp) HBAD.out
set_option maxRecDepth 100000 in
set_option maxHeartbeats 16000000 in
theorem order_good (a : V) (a1 : Option Addr) (n1 c1 : Nat) (a2 : Option Addr) (n2 c2 : Nat) (b : V) (a3 : Option Addr) (n3 c3 : Nat) (a4 : Option Addr) (n4 c4 : Nat) (m : Nat) (w : World) (hN : NumW w) (ha : At w w.heap.size m a (.slice a1 n1 c1) (.slice a2 n2 c2)) (hb : At w w.heap.size m b (.slice a3 n3 c3) (.slice a4 n4 c4))
    (ga : rightV 10000 a = true) (gb : rightV 10000 b = true) :
    Calls Tryz.prog 5 #[.agg (cellsV a (.slice a1 n1 c1) (.slice a2 n2 c2)), .agg (cellsV b (.slice a3 n3 c3) (.slice a4 n4 c4))] w fun e w' => e = .returned (.bool true) ∧ Below w.heap.size w w' := by
  have hsf := run_store_float Tryz.prog
  obtain ⟨i0, hi0, hz0, hz1, hz2⟩ := info_parts infoVal
  have HN := Lib.hid (fun W (hW : Below w.heap.size w W) => hN.below hW)
  have hra := fun W (hW : Below w.heap.size w W) => refRightT_any m a _ _ W ((ha.below hW).more hW.size)
  have hrb := fun W (hW : Below w.heap.size w W) => refRightT_any m b _ _ W ((hb.below hW).more hW.size)
  simp only [ga] at hra
  simp only [gb] at hrb
  have hcv := fun W (hW : Below w.heap.size w W) => Compare_any m a b 10000 10000 _ _ _ _ W ga gb ((ha.below hW).more hW.size) ((hb.below hW).more hW.size)
  have hcr := fun W (hW : Below w.heap.size w W) => refCompare_any m a b 10000 10000 _ _ _ _ W ga gb ((ha.below hW).more hW.size) ((hb.below hW).more hW.size)
  have hev := fun W (hW : Below w.heap.size w W) => Equal_any m a b 10000 10000 _ _ _ _ W ga gb ((ha.below hW).more hW.size) ((hb.below hW).more hW.size)
  have her := fun W (hW : Below w.heap.size w W) => refEqual_any m a b 10000 10000 _ _ _ _ W ga gb ((ha.below hW).more hW.size) ((hb.below hW).more hW.size)
  obtain ⟨⟨k0, k6⟩, _, _⟩ := right_head ga
  have hnv := fun W => Name_any a a1 n1 c1 a2 n2 c2 k0 k6 W
  have hnr := fun W => refName_any a a1 n1 c1 a2 n2 c2 k0 k6 W
  have htv := fun W => Truth_any a a1 n1 c1 a2 n2 c2 k0 k6 W
  have htr := fun W => refTruth_any a a1 n1 c1 a2 n2 c2 k0 k6 W
  generalize cmpV m a b = x at hcv hcr hev her
  generalize nameV a.k = nm at hnv hnr
  generalize truthV a.k = tr at htv htr
  unfold cellsV at hra hrb hcv hcr hev her hnv hnr htv htr ⊢
  have HRA := Lib.hid hra
  have HRB := Lib.hid hrb
  have HCV := Lib.hid hcv
  have HCR := Lib.hid hcr
  have HEV := Lib.hid hev
  have HER := Lib.hid her
  have HNV := Lib.hid hnv
  have HNR := Lib.hid hnr
  have HTV := Lib.hid htv
  have HTR := Lib.hid htr
  clear hra hrb hcv hcr hev her hnv hnr htv htr k0 k6 ga gb hN ha hb
  go_enter Tryz.func5, Tryz.ntmps5
  go_wp2_with fail
  have H0 := Lib.hid ((HW.start w).two #[.int .i64 a.k, .float .f64 a.f, .string a.s, .slice a1 n1 c1, .slice a2 n2 c2] #[.int .i64 b.k, .float .f64 b.f, .string b.s, .slice a3 n3 c3, .slice a4 n4 c4] 27 27)
  refine (HRA.out _ H0.out.bel).mono ?_
  rintro e w1 ⟨rfl, hb⟩
  have H1 := Lib.hid (H0.out.below hb)
  clear hb H0
  obtain ⟨bc0, bc1, bc2, bc3, bc4⟩ := row5p (H1.out.rows _ (.head _))
  go_wp2_with fail
  refine (HRB.out _ H1.out.bel).mono ?_
  rintro e w2 ⟨rfl, hb⟩
  have H2 := Lib.hid (H1.out.below hb)
  clear hb H1 bc0 bc1 bc2 bc3 bc4
  go_wp2_with fail
  have hh := H2.out.below ((Below.refl _ _).drew)
  clear H2
  have H := Lib.hid hh
  clear hh
  have HSS := Lib.hid (fun W (h : HW w W [(w.heap.size + 1, #[.int .i64 b.k, .float .f64 b.f, .string b.s, .slice a3 n3 c3, .slice a4 n4 c4], 27), (w.heap.size, #[.int .i64 a.k, .float .f64 a.f, .string a.s, .slice a1 n1 c1, .slice a2 n2 c2], 27)]) => (show (W.cell? ⟨w.heap.size, 0, none⟩ = some (.int .i64 a.k) ∧ W.cell? ⟨w.heap.size, 1, none⟩ = some (.float .f64 a.f) ∧ W.cell? ⟨w.heap.size, 2, none⟩ = some (.string a.s) ∧ W.cell? ⟨w.heap.size, 3, none⟩ = some (.slice a1 n1 c1) ∧ W.cell? ⟨w.heap.size, 4, none⟩ = some (.slice a2 n2 c2)) ∧ (W.cell? ⟨w.heap.size + 1, 0, none⟩ = some (.int .i64 b.k) ∧ W.cell? ⟨w.heap.size + 1, 1, none⟩ = some (.float .f64 b.f) ∧ W.cell? ⟨w.heap.size + 1, 2, none⟩ = some (.string b.s) ∧ W.cell? ⟨w.heap.size + 1, 3, none⟩ = some (.slice a3 n3 c3) ∧ W.cell? ⟨w.heap.size + 1, 4, none⟩ = some (.slice a4 n4 c4)) from ⟨row5p (h.get _ _ _ (.tail _ (.head _))), row5p (h.get _ _ _ (.head _))⟩))
  go_region_held3 (fun W => (W.cell? ⟨w.heap.size, 0, none⟩ = some (.int .i64 a.k) ∧ W.cell? ⟨w.heap.size, 1, none⟩ = some (.float .f64 a.f) ∧ W.cell? ⟨w.heap.size, 2, none⟩ = some (.string a.s) ∧ W.cell? ⟨w.heap.size, 3, none⟩ = some (.slice a1 n1 c1) ∧ W.cell? ⟨w.heap.size, 4, none⟩ = some (.slice a2 n2 c2)) ∧ (W.cell? ⟨w.heap.size + 1, 0, none⟩ = some (.int .i64 b.k) ∧ W.cell? ⟨w.heap.size + 1, 1, none⟩ = some (.float .f64 b.f) ∧ W.cell? ⟨w.heap.size + 1, 2, none⟩ = some (.string b.s) ∧ W.cell? ⟨w.heap.size + 1, 3, none⟩ = some (.slice a3 n3 c3) ∧ W.cell? ⟨w.heap.size + 1, 4, none⟩ = some (.slice a4 n4 c4))) (exact HSS.out _ H.out)
    (first
    | (go_at_call 20; have hc := (HCV.out) _ H.out.bel; (with_reducible refine hc.mono ?_); clear hc; rintro e wn ⟨rfl, hb⟩; have hh := H.out.below hb; clear H; have H := Lib.hid hh; clear hh hb)
    | (go_at_call 21; have hc := (HCR.out) _ H.out.bel; (with_reducible refine hc.mono ?_); clear hc; rintro e wn ⟨rfl, hb⟩; have hh := H.out.below hb; clear H; have H := Lib.hid hh; clear hh hb)
    | (go_at_call 22; have hc := (HEV.out) _ H.out.bel; (with_reducible refine hc.mono ?_); clear hc; rintro e wn ⟨rfl, hb⟩; have hh := H.out.below hb; clear H; have H := Lib.hid hh; clear hh hb)
    | (go_at_call 23; have hc := (HER.out) _ H.out.bel; (with_reducible refine hc.mono ?_); clear hc; rintro e wn ⟨rfl, hb⟩; have hh := H.out.below hb; clear H; have H := Lib.hid hh; clear hh hb)
    | (go_at_call 24; have hc := (fun W (hW : Below w.heap.size w W) => HNV.out W) _ H.out.bel; (with_reducible refine hc.mono ?_); clear hc; rintro e wn ⟨rfl, hb⟩; have hh := H.out.below hb; clear H; have H := Lib.hid hh; clear hh hb)
    | (go_at_call 25; have hc := (fun W (hW : Below w.heap.size w W) => HNR.out W) _ H.out.bel; (with_reducible refine hc.mono ?_); clear hc; rintro e wn ⟨rfl, hb⟩; have hh := H.out.below hb; clear H; have H := Lib.hid hh; clear hh hb)
    | (go_at_call 26; have hc := (fun W (hW : Below w.heap.size w W) => HTV.out W) _ H.out.bel; (with_reducible refine hc.mono ?_); clear hc; rintro e wn ⟨rfl, hb⟩; have hh := H.out.below hb; clear H; have H := Lib.hid hh; clear hh hb)
    | (go_at_call 27; have hc := (fun W (hW : Below w.heap.size w W) => HTR.out W) _ H.out.bel; (with_reducible refine hc.mono ?_); clear hc; rintro e wn ⟨rfl, hb⟩; have hh := H.out.below hb; clear H; have H := Lib.hid hh; clear hh hb)
    | (go_at_call 12; have hc := heads_true _ (HN.out _ H.out.bel); (with_reducible refine hc.mono ?_); clear hc; rintro e wn ⟨rfl, hb⟩; have hh := H.out.below hb; clear H; have H := Lib.hid hh; clear hh hb))
  all_goals
    go_wp2_with fail
    go_ret
    exact ⟨rfl, H.out.bel⟩
theorem valueOrder_true (a : V) (m1 : Nat) (la ka : Value) (b : V) (m2 : Nat) (lb kb : Value) (w : World) (hN : NumW w) (ha : At w w.heap.size m1 a la ka) (hb : At w w.heap.size m2 b lb kb) :
    Calls Tryz.prog 5 #[.agg (cellsV a la ka), .agg (cellsV b lb kb)] w fun e w' => e = .returned (.bool true) ∧ Below w.heap.size w w' := by
  have ha' : At w w.heap.size (m1 + m2) a la ka := atP_lev m1 _ _ _ _ (by omega) ha
  have hb' : At w w.heap.size (m1 + m2) b lb kb := atP_lev m2 _ _ _ _ (by omega) hb
  obtain ⟨a1, n1, c1, a2, n2, c2, rfl, rfl⟩ := ha.slices
  obtain ⟨a3, n3, c3, a4, n4, c4, rfl, rfl⟩ := hb.slices
  by_cases hg : rightV 10000 a = true ∧ rightV 10000 b = true
  · exact order_good a a1 n1 c1 a2 n2 c2 b a3 n3 c3 a4 n4 c4 (m1 + m2) w hN ha' hb' hg.1 hg.2
  · exact order_bad a a1 n1 c1 a2 n2 c2 b a3 n3 c3 a4 n4 c4 (m1 + m2) w hN ha' hb' hg
end Go.Proofs.YtkklfdfmfdnjoaaGreatDoor
