/- ValueRight: its walk. -/
import Derived.Test.YtkklfdfmfdnjoaaGreatDoorQHeadsL
import Derived.Test.YtkklfdfmfdnjoaaGreatDoorQLarge
namespace Go.Proofs.YtkklfdfmfdnjoaaGreatDoor
open Go Go.RowKit

set_option maxHeartbeats 1000000 in
theorem refRightT_any (m : Nat) (v : V) (lv kv : Value) (w : World) (h : At w w.heap.size m v lv kv) :
    Calls Tryz.prog 11 #[.agg (cellsV v lv kv)] w fun e w' => e = .returned (.bool (rightV 10000 v)) ∧ Below w.heap.size w w' := by
  have hsf := run_store_float Tryz.prog
  obtain ⟨i0, hi0, hz0, hz1, hz2⟩ := info_parts infoVal
  have hr := fun o => refRight_any3 m v lv kv 10000 (w.alloc o) (Nat.le_refl _) (At.more (by simp) _ _ _ _ (h.below ((Below.refl w.heap.size w).alloc (Nat.le_refl _) o)))
  obtain ⟨a1, n1, k1, a2, n2, k2, rfl, rfl⟩ := h.slices
  unfold cellsV at hr ⊢
  have HR := Lib.hid hr
  clear hr h
  go_enter Tryz.func11, Tryz.ntmps11
  go_wp2_with fail
  refine (HR.out _).mono ?_
  rintro e w1 ⟨rfl, hb1⟩
  go_wp2_with fail
  go_ret
  exact ⟨rfl, ((Below.refl w.heap.size w).alloc (Nat.le_refl _) _).trans (hb1.mono (by simp))⟩

set_option maxRecDepth 100000 in
set_option maxHeartbeats 4000000 in
theorem valueRight_true (v : V) (m : Nat) (lv kv : Value) (w : World) (hN : NumW w) (h : At w w.heap.size m v lv kv) :
    Calls Tryz.prog 4 #[.agg (cellsV v lv kv)] w fun e w' => e = .returned (.bool true) ∧ Below w.heap.size w w' := by
  have hsf := run_store_float Tryz.prog
  obtain ⟨i0, hi0, hz0, hz1, hz2⟩ := info_parts infoVal
  have HN := Lib.hid (fun W (hW : Below w.heap.size w W) => hN.below hW)
  have HH := Lib.hid (fun W (hW : Below w.heap.size w W) => (h.below hW).more hW.size)
  have hco := fun o => Copy_any m v lv kv (w.alloc o) (At.more (by simp) _ _ _ _ (h.below ((Below.refl w.heap.size w).alloc (Nat.le_refl _) o)))
  obtain ⟨a1, n1, k1, a2, n2, k2, rfl, rfl⟩ := h.slices
  have hrr := fun W (hW : Below w.heap.size w W) => refRightT_any m v _ _ W ((h.below hW).more hW.size)
  have hrl := fun W (hW : Below w.heap.size w W) => refLarge_any m v _ _ W ((h.below hW).more hW.size)
  have HS := Lib.hid (HW.start w)
  obtain ⟨L, hL⟩ : ∃ L, largeV m v = L := ⟨_, rfl⟩
  obtain ⟨R, hR⟩ : ∃ R, rightV 10000 v = R := ⟨_, rfl⟩
  rw [hL] at hrl
  rw [hR] at hrr
  unfold cellsV at hco hrr hrl ⊢
  have HCO := Lib.hid hco
  have HRR := Lib.hid hrr
  have HRL := Lib.hid hrl
  clear hco hrr hrl h hN
  go_enter Tryz.func4, Tryz.ntmps4
  go_wp2_with fail
  refine (HCO.out _).mono ?_
  rintro e w1 ⟨lv1, kv1, rfl, hat, hb⟩
  obtain ⟨a3, n3, k3, a4, n4, k4, rfl, rfl⟩ := AtP.slices hat
  have hh := (((HS.out.one _ _).below hb).one #[.int .i64 v.k, .float .f64 v.f, .string v.s, .slice a3 n3 k3, .slice a4 n4 k4] 27)
  have hat1 : ∀ o, At (w1.alloc o) (w1.alloc o).heap.size m v (.slice a3 n3 k3) (.slice a4 n4 k4) := fun o => AtP.more (fun b hb => by have := hb.2; simp; omega) _ _ _ _ (AtP.keep (fun p hp => cell_old hp.2) _ _ _ _ hat)
  have hpr := fun o W (hW : Below (w1.alloc o).heap.size (w1.alloc o) W) => Right_any3 m v _ _ W (((hat1 o).below hW).more hW.size)
  have hpl := fun o W (hW : Below (w1.alloc o).heap.size (w1.alloc o) W) => Large_any m v _ _ W (((hat1 o).below hW).more hW.size)
  rw [hR] at hpr
  rw [hL] at hpl
  unfold cellsV at hpr hpl
  have HPR := Lib.hid (hpr (.cells #[.int .i64 v.k, .float .f64 v.f, .string v.s, .slice a3 n3 k3, .slice a4 n4 k4] 27))
  have HPL := Lib.hid (hpl (.cells #[.int .i64 v.k, .float .f64 v.f, .string v.s, .slice a3 n3 k3, .slice a4 n4 k4] 27))
  have H := Lib.hid hh
  clear hh hpr hpl hat1 hat hb HCO HS
  have B := Lib.hid ((Below.refl (w1.alloc (.cells #[.int .i64 v.k, .float .f64 v.f, .string v.s, .slice a3 n3 k3, .slice a4 n4 k4] 27)).heap.size (w1.alloc (.cells #[.int .i64 v.k, .float .f64 v.f, .string v.s, .slice a3 n3 k3, .slice a4 n4 k4] 27))).drew)
  obtain ⟨x0, x1, x2, x3, x4⟩ := row5p (H.out.rows _ (.head _))
  obtain ⟨y0, y1, y2, y3, y4⟩ := row5p (H.out.rows _ (.tail _ (.head _)))
  go_wp2_with fail
  go_region_with (first
    | (go_at_call 17; (with_reducible refine (HPR.out _ B.out).mono ?_); rintro e wa ⟨rfl, hb⟩; have B := Lib.hid (B.out.trans (hb.mono B.out.size)); clear hb; obtain ⟨x0, x1, x2, x3, x4⟩ := row5p ((H.out.below B.out).rows _ (.head _)); obtain ⟨y0, y1, y2, y3, y4⟩ := row5p ((H.out.below B.out).rows _ (.tail _ (.head _))))
    | (go_at_call 18; (with_reducible refine (HPL.out _ B.out).mono ?_); rintro e wb ⟨rfl, hb⟩; have B := Lib.hid (B.out.trans (hb.mono B.out.size)); clear hb; obtain ⟨x0, x1, x2, x3, x4⟩ := row5p ((H.out.below B.out).rows _ (.head _)); obtain ⟨y0, y1, y2, y3, y4⟩ := row5p ((H.out.below B.out).rows _ (.tail _ (.head _))))
    | (go_at_call 11; (with_reducible refine (HRR.out _ (H.out.below B.out).bel).mono ?_); rintro e wc ⟨rfl, hb⟩; have B := Lib.hid (B.out.trans (hb.mono B.out.size)); clear hb; obtain ⟨x0, x1, x2, x3, x4⟩ := row5p ((H.out.below B.out).rows _ (.head _)); obtain ⟨y0, y1, y2, y3, y4⟩ := row5p ((H.out.below B.out).rows _ (.tail _ (.head _))))
    | (go_at_call 19; (with_reducible refine (HRL.out _ (H.out.below B.out).bel).mono ?_); rintro e wd ⟨rfl, hb⟩; have B := Lib.hid (B.out.trans (hb.mono B.out.size)); clear hb; obtain ⟨x0, x1, x2, x3, x4⟩ := row5p ((H.out.below B.out).rows _ (.head _)); obtain ⟨y0, y1, y2, y3, y4⟩ := row5p ((H.out.below B.out).rows _ (.tail _ (.head _))))
    | (go_at_call 12; (with_reducible refine (heads_true _ (HN.out _ (H.out.below B.out).bel)).mono ?_); rintro e we ⟨rfl, hb⟩; have B := Lib.hid (B.out.trans (hb.mono B.out.size)); clear hb; obtain ⟨x0, x1, x2, x3, x4⟩ := row5p ((H.out.below B.out).rows _ (.head _)); obtain ⟨y0, y1, y2, y3, y4⟩ := row5p ((H.out.below B.out).rows _ (.tail _ (.head _)))))
  all_goals
    go_wp2_with fail
    go_ret
    exact ⟨rfl, (H.out.below B.out).bel⟩
end Go.Proofs.YtkklfdfmfdnjoaaGreatDoor
