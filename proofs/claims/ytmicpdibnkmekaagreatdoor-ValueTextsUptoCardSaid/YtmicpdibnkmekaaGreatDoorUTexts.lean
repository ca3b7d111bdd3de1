/- ValueTexts: its walk. -/
import Derived.Test.YtmicpdibnkmekaaGreatDoorUShorts
import Derived.Test.YtmicpdibnkmekaaGreatDoorUBulk
import Derived.Test.YtmicpdibnkmekaaGreatDoorUHeadsL
import Derived.Test.YtmicpdibnkmekaaGreatDoorURightW
namespace Go.Proofs.YtmicpdibnkmekaaGreatDoor
open Go Go.RowKit

set_option maxRecDepth 100000 in
set_option maxHeartbeats 8000000 in
theorem valueTexts_true (v : V) (m : Nat) (lv kv : Value) (w : World) (hN : NumW w) (h : At w w.heap.size m v lv kv) (hb : bulkV m v ≤ 1048576) :
    Calls Tryz.prog 3 #[.agg (cellsV v lv kv)] w fun e w' => e = .returned (.bool true) ∧ Below w.heap.size w w' := by
  have hsf := run_store_float Tryz.prog
  have hlen := text_bulk m v lv kv h
  have HN := Lib.hid (fun W (hW : Below w.heap.size w W) => hN.below hW)
  have hh := fun W hW => heads_true W hW
  have hrr := fun W (hW : Below w.heap.size w W) => refRightT_any m v _ _ W ((h.below hW).more hW.size)
  have hpt := fun hr W (hW : Below w.heap.size w W) => Text_any3 m v 10000 lv kv W (hN.below hW) ((h.below hW).more hW.size) hr (by omega)
  have hrt := fun hr W (hW : Below w.heap.size w W) => refTextV_any m v 10000 lv kv W (hN.below hW) ((h.below hW).more hW.size) hr (by omega)
  have hps := fun hr W (hW : Below w.heap.size w W) => Short_any m v 10000 lv kv W (hN.below hW) ((h.below hW).more hW.size) hr (by omega)
  have hrs := fun hr W (hW : Below w.heap.size w W) => refShort_any m v 10000 lv kv W (hN.below hW) ((h.below hW).more hW.size) hr (by omega)
  obtain ⟨T, hT⟩ : ∃ T, textV m v = T := ⟨_, rfl⟩
  rw [hT] at hpt hrt hps hrs
  obtain ⟨a1, n1, k1, a2, n2, k2, rfl, rfl⟩ := h.slices
  unfold cellsV at hrr hpt hrt hps hrs ⊢
  have HH := Lib.hid hh
  have HRR := Lib.hid hrr
  have HPT := Lib.hid hpt
  have HRT := Lib.hid hrt
  have HPS := Lib.hid hps
  have HRS := Lib.hid hrs
  have H := Lib.hid ((HW.start w).one #[.int .i64 v.k, .float .f64 v.f, .string v.s, .slice a1 n1 k1, .slice a2 n2 k2] 27)
  clear hh hrr hpt hrt hps hrs h hN hT hlen hb
  go_enter Tryz.func3, Tryz.ntmps3
  go_wp2_with fail
  refine (HRR.out _ H.out.bel).mono ?_
  rintro e w1 ⟨rfl, hb⟩
  have hx := H.out.below hb
  clear H
  have H := Lib.hid hx
  obtain ⟨i0, i1, i2, i3, i4⟩ := row5p (hx.get _ _ _ (.head _))
  clear hx hb
  cases hR : rightV 10000 v with
  | false =>
    go_wp2_with fail
    refine (HH.out _ (HN.out _ H.out.bel)).mono ?_
    rintro e w2 ⟨rfl, hb⟩
    have hz := H.out.bel.trans (hb.mono H.out.bel.size)
    go_wp2_with fail
    go_ret
    exact ⟨rfl, hz⟩
  | true =>
    have hpt := fun W hW => HPT.out hR W hW
    have hrt := fun W hW => HRT.out hR W hW
    have hps := fun W hW => HPS.out hR W hW
    have hrs := fun W hW => HRS.out hR W hW
    clear HPT HRT HPS HRS hR
    have HPT := Lib.hid hpt
    have HRT := Lib.hid hrt
    have HPS := Lib.hid hps
    have HRS := Lib.hid hrs
    clear hpt hrt hps hrs
    go_wp2_with fail
    have hvd := H.out.below ((Below.refl _ w1).drew)
    clear H
    have H := Lib.hid hvd
    clear hvd
    go_region_held (fun W => W.cell? ⟨w.heap.size, 0, none⟩ = some (.int .i64 v.k) ∧ W.cell? ⟨w.heap.size, 1, none⟩ = some (.float .f64 v.f) ∧ W.cell? ⟨w.heap.size, 2, none⟩ = some (.string v.s) ∧ W.cell? ⟨w.heap.size, 3, none⟩ = some (.slice a1 n1 k1) ∧ W.cell? ⟨w.heap.size, 4, none⟩ = some (.slice a2 n2 k2)) (first | exact row5p (H.out.get _ _ _ (.head _)))
      (first
      | (go_at_call 7; have hc := HPT.out _ H.out.bel; (with_reducible refine hc.mono ?_); clear hc; rintro e wn ⟨rfl, hb⟩; have hh := H.out.below hb; clear H; have H := Lib.hid hh; clear hh hb)
      | (go_at_call 8; have hc := HRT.out _ H.out.bel; (with_reducible refine hc.mono ?_); clear hc; rintro e wn ⟨rfl, hb⟩; have hh := H.out.below hb; clear H; have H := Lib.hid hh; clear hh hb)
      | (go_at_call 9; have hc := HPS.out _ H.out.bel; (with_reducible refine hc.mono ?_); clear hc; rintro e wn ⟨rfl, hb⟩; have hh := H.out.below hb; clear H; have H := Lib.hid hh; clear hh hb)
      | (go_at_call 10; have hc := HRS.out _ H.out.bel; (with_reducible refine hc.mono ?_); clear hc; rintro e wn ⟨rfl, hb⟩; have hh := H.out.below hb; clear H; have H := Lib.hid hh; clear hh hb)
      | (go_at_call 6; have hc := HH.out _ (HN.out _ H.out.bel); (with_reducible refine hc.mono ?_); clear hc; rintro e wn ⟨rfl, hb⟩; have hh := H.out.below hb; clear H; have H := Lib.hid hh; clear hh hb))
    all_goals
      go_wp2_with fail
      go_ret
      exact ⟨rfl, H.out.bel⟩
end Go.Proofs.YtmicpdibnkmekaaGreatDoor
