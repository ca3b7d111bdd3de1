/- PrinterPieces: its walk. -/
import Derived.Test.YtjhghhjnccjhmaaGreatDoorRHeadsW
import Derived.Test.YtjhghhjnccjhmaaGreatDoorRRefE
import Derived.Test.YtjhghhjnccjhmaaGreatDoorQRightR
import Derived.Deep.RegionHeld3
namespace Go.Proofs.YtjhghhjnccjhmaaGreatDoor
open Go Go.RowKit

set_option maxHeartbeats 1000000 in
theorem refRightT_any (m : Nat) (v : V) (lv kv : Value) (w : World) (h : At w w.heap.size m v lv kv) :
    Calls Tryz.prog 7 #[.agg (cellsV v lv kv)] w fun e w' => e = .returned (.bool (rightV 10000 v)) ∧ Below w.heap.size w w' := by
  have hsf := run_store_float Tryz.prog
  obtain ⟨i0, hi0, hz0, hz1, hz2⟩ := info_parts infoVal
  have hr := fun o => refRight_any3 m v lv kv 10000 (w.alloc o) (Nat.le_refl _) (At.more (by simp) _ _ _ _ (h.below ((Below.refl w.heap.size w).alloc (Nat.le_refl _) o)))
  obtain ⟨a1, n1, k1, a2, n2, k2, rfl, rfl⟩ := h.slices
  unfold cellsV at hr ⊢
  have HR := Lib.hid hr
  clear hr h
  go_enter Tryz.func7, Tryz.ntmps7
  go_wp2_with fail
  refine (HR.out _).mono ?_
  rintro e w1 ⟨rfl, hb1⟩
  go_wp2_with fail
  go_ret
  exact ⟨rfl, ((Below.refl w.heap.size w).alloc (Nat.le_refl _) _).trans (hb1.mono (by simp))⟩
set_option maxRecDepth 100000 in
set_option maxHeartbeats 1000000 in
theorem refColour_any (k : Int) (h0 : 0 ≤ k) (h6 : k ≤ 6) (x1 x2 x3 x4 : Value) (w : World) : Calls Tryz.prog 17 #[.agg #[.int .i64 k, x1, x2, x3, x4]] w fun e w' => e = .returned (.string (colT k)) ∧ Below w.heap.size w w' := by
  have hk : k = 0 ∨ k = 1 ∨ k = 2 ∨ k = 3 ∨ k = 4 ∨ k = 5 ∨ k = 6 := by omega
  clear h0 h6
  rcases hk with rfl | rfl | rfl | rfl | rfl | rfl | rfl
  all_goals
    go_enter Tryz.func17, Tryz.ntmps17
    go_wp2_with fail
    go_ret
    first | exact ⟨rfl, Below.refl _ _⟩ | exact ⟨rfl, (Below.refl _ _).alloc (Nat.le_refl _) _⟩
theorem kind_of {d : Nat} {v : V} (h : rightV d v = true) : 0 ≤ v.k ∧ v.k ≤ 6 := by
  cases d with
  | zero => cases h
  | succ d =>
    have h : (headOK v && v.l.all (fun x => rightV d x)) = true := h
    rw [Bool.and_eq_true, headOK_iff] at h
    exact h.1.1
set_option maxRecDepth 100000 in
set_option maxHeartbeats 4000000 in
theorem printerPieces_true (s : ByteArray) (asc : Bool) (v : V) (m : Nat) (lv kv : Value) (w : World) (hN : NumW w) (hs : s.size ≤ 1048576) (h : At w w.heap.size m v lv kv) :
    Calls Tryz.prog 4 #[.string s, .bool asc, .agg (cellsV v lv kv)] w fun e w' => e = .returned (.bool true) ∧ Below w.heap.size w w' := by
  have hsf := run_store_float Tryz.prog
  have HN := Lib.hid (fun W (hW : Below w.heap.size w W) => hN.below hW)
  have hh := fun W hW => heads_true W hW
  have hrr := fun W (hW : Below w.heap.size w W) => refRightT_any m v _ _ W ((h.below hW).more hW.size)
  have hva := fun W => refValid_any s (by omega) W
  obtain ⟨a1, n1, k1, a2, n2, k2, rfl, rfl⟩ := h.slices
  unfold cellsV at hrr ⊢
  have HH := Lib.hid hh
  have HRR := Lib.hid hrr
  have HVA := Lib.hid hva
  have H := Lib.hid ((HW.start w).one #[.int .i64 v.k, .float .f64 v.f, .string v.s, .slice a1 n1 k1, .slice a2 n2 k2] 27)
  clear hh hrr hva h hN
  go_enter Tryz.func4, Tryz.ntmps4
  go_wp2_with fail
  refine (HRR.out _ H.out.bel).mono ?_
  rintro e w1 ⟨rfl, hb⟩
  have hx := H.out.below hb
  clear H
  have H := Lib.hid hx
  obtain ⟨i0, i1, i2, i3, i4⟩ := row5p (hx.get _ _ _ (.head _))
  clear hx hb
  cases hR : rightV 10000 v with
  | false =>
    go_wp2_with fail
    refine (HH.out _ (HN.out _ H.out.bel)).mono ?_
    rintro e w2 ⟨rfl, hb⟩
    have hz := H.out.bel.trans (hb.mono H.out.bel.size)
    go_wp2_with fail
    go_ret
    exact ⟨rfl, hz⟩
  | true =>
    obtain ⟨hk0, hk6⟩ := kind_of hR
    cases hG : allGood s 0 with
    | false =>
      rw [hG] at HVA
      go_wp2_with fail
      refine (HVA.out _).mono ?_
      rintro e w2 ⟨rfl, rfl⟩
      go_wp2_with fail
      refine (HH.out _ (HN.out _ H.out.bel)).mono ?_
      rintro e w2 ⟨rfl, hb⟩
      have hz := H.out.bel.trans (hb.mono H.out.bel.size)
      go_wp2_with fail
      go_ret
      exact ⟨rfl, hz⟩
    | true =>
      rw [hG] at HVA
      have hes := fun W hW => Escape_any s asc hs hG W hW
      have hre := fun W (_ : NumW W) => refEscape_any s asc hs hG W
      have hco := fun W (_ : NumW W) => Colour_any v.k hk0 hk6 (.float .f64 v.f) (.string v.s) (.slice a1 n1 k1) (.slice a2 n2 k2) W
      have hrc := fun W (_ : NumW W) => refColour_any v.k hk0 hk6 (.float .f64 v.f) (.string v.s) (.slice a1 n1 k1) (.slice a2 n2 k2) W
      have HES := Lib.hid hes
      have HRE := Lib.hid hre
      have HCO := Lib.hid hco
      have HRC := Lib.hid hrc
      clear hes hre hco hrc hR hG
      go_wp2_with fail
      refine (HVA.out _).mono ?_
      rintro e w2 ⟨rfl, rfl⟩
      go_wp2_with fail
      have hvd := H.out.below ((Below.refl _ w1).drew)
      clear H
      have H := Lib.hid hvd
      clear hvd
      go_region_with (first
        | (go_at_call 14; have hc := HES.out _ (HN.out _ H.out.bel); refine hc.mono ?_; clear hc; rintro e wn ⟨rfl, hb⟩; have hh := H.out.below hb; clear H i0 i1 i2 i3 i4; have H := Lib.hid hh; obtain ⟨i0, i1, i2, i3, i4⟩ := row5p (hh.get _ _ _ (.head _)); clear hh hb)
        | (go_at_call 15; have hc := HRE.out _ (HN.out _ H.out.bel); refine hc.mono ?_; clear hc; rintro e wn ⟨vr, rfl, ho, hb⟩; have hst := arr_string (P := Tryz.prog) (Arr.of_own ho (Nat.le_refl _)) 42 9 5 Tryz.underlying42 Tryz.underlying5 Tryz.underlying9; clear ho; have hh := H.out.below hb; clear H i0 i1 i2 i3 i4; have H := Lib.hid hh; obtain ⟨i0, i1, i2, i3, i4⟩ := row5p (hh.get _ _ _ (.head _)); clear hh hb)
        | (go_at_call 16; have hc := HCO.out _ (HN.out _ H.out.bel); refine hc.mono ?_; clear hc; rintro e wn ⟨rfl, hb⟩; have hh := H.out.below hb; clear H i0 i1 i2 i3 i4; have H := Lib.hid hh; obtain ⟨i0, i1, i2, i3, i4⟩ := row5p (hh.get _ _ _ (.head _)); clear hh hb)
        | (go_at_call 17; have hc := HRC.out _ (HN.out _ H.out.bel); refine hc.mono ?_; clear hc; rintro e wn ⟨rfl, hb⟩; have hh := H.out.below hb; clear H i0 i1 i2 i3 i4; have H := Lib.hid hh; obtain ⟨i0, i1, i2, i3, i4⟩ := row5p (hh.get _ _ _ (.head _)); clear hh hb)
        | (go_at_call 8; have hc := HH.out _ (HN.out _ H.out.bel); refine hc.mono ?_; clear hc; rintro e wn ⟨rfl, hb⟩; have hh := H.out.below hb; clear H i0 i1 i2 i3 i4; have H := Lib.hid hh; obtain ⟨i0, i1, i2, i3, i4⟩ := row5p (hh.get _ _ _ (.head _)); clear hh hb))
      all_goals
        go_wp2_with fail
        go_ret
        exact ⟨rfl, H.out.bel⟩
end Go.Proofs.YtjhghhjnccjhmaaGreatDoor
