/- The heads of layer 3. -/
import Derived.Test.YtdlighmnlcklnaaGreatDoorUHeadsK
namespace Go.Proofs.YtdlighmnlcklnaaGreatDoor
open Go Go.RowKit

/-- Rows of the call's own, and what lay below. -/
structure HW (w W : World) (l : List (Nat × Array Value × TypeId)) : Prop where
  rows : ∀ x ∈ l, W.heap[x.1]? = some (.cells x.2.1 x.2.2 (0, 0))
  bel : Below w.heap.size w W
theorem HW.start (w : World) : HW w w [] := ⟨fun x hx => by simp at hx, Below.refl _ _⟩
theorem HW.lt {w W : World} {l : List (Nat × Array Value × TypeId)} (h : HW w W l) (x : Nat × Array Value × TypeId) (hx : x ∈ l) : x.1 < W.heap.size := (Array.getElem?_eq_some_iff.1 (h.rows x hx)).1
theorem HW.below {w W W' : World} {l : List (Nat × Array Value × TypeId)} (h : HW w W l) (hb : Below W.heap.size W W') : HW w W' l :=
  ⟨fun x hx => (hb.block _ (h.lt x hx)).trans (h.rows x hx), h.bel.trans (hb.mono h.bel.size)⟩
theorem HW.one {w W : World} {l : List (Nat × Array Value × TypeId)} (h : HW w W l) (c : Array Value) (t : TypeId) : HW w (W.alloc (.cells c t)) ((W.heap.size, c, t) :: l) := by
  refine ⟨fun x hx => ?_, h.bel.alloc h.bel.size _⟩
  rcases List.mem_cons.1 hx with rfl | hx
  · exact heap_alloc_new W _
  · exact row_alloc3 (h.rows x hx) _
theorem HW.two {w W : World} {l : List (Nat × Array Value × TypeId)} (h : HW w W l) (c d : Array Value) (t u : TypeId) : HW w ((W.alloc (.cells c t)).alloc (.cells d u)) ((W.heap.size + 1, d, u) :: (W.heap.size, c, t) :: l) := by
  have := (h.one c t).one d u
  rw [World.size_alloc] at this
  exact this
theorem HW.get {w W : World} {l : List (Nat × Array Value × TypeId)} (h : HW w W l) (n : Nat) (c : Array Value) (t : TypeId) (hx : (n, c, t) ∈ l) : W.heap[n]? = some (.cells c t (0, 0)) := h.rows _ hx

theorem row5p {w : World} {b : Nat} {u0 u1 u2 u3 u4 : Value} {t : TypeId} (hb : w.heap[b]? = some (.cells #[u0, u1, u2, u3, u4] t (0, 0))) :
    w.cell? ⟨b, 0, none⟩ = some u0 ∧ w.cell? ⟨b, 1, none⟩ = some u1 ∧ w.cell? ⟨b, 2, none⟩ = some u2 ∧ w.cell? ⟨b, 3, none⟩ = some u3 ∧ w.cell? ⟨b, 4, none⟩ = some u4 := by
  refine ⟨?_, ?_, ?_, ?_, ?_⟩ <;> simp [World.cell?, hb]
theorem row6p {w : World} {b : Nat} {u0 u1 u2 u3 u4 u5 : Value} {t : TypeId} (hb : w.heap[b]? = some (.cells #[u0, u1, u2, u3, u4, u5] t (0, 0))) :
    w.cell? ⟨b, 0, none⟩ = some u0 ∧ w.cell? ⟨b, 1, none⟩ = some u1 ∧ w.cell? ⟨b, 2, none⟩ = some u2 ∧ w.cell? ⟨b, 3, none⟩ = some u3 ∧ w.cell? ⟨b, 4, none⟩ = some u4 ∧ w.cell? ⟨b, 5, none⟩ = some u5 := by
  refine ⟨?_, ?_, ?_, ?_, ?_, ?_⟩ <;> simp [World.cell?, hb]
set_option maxRecDepth 100000 in
set_option maxHeartbeats 8000000 in
theorem heads_true (w : World) (hN : NumW w) : Calls Tryz.prog 6 #[] w fun e w' => e = .returned (.bool true) ∧ Below w.heap.size w w' := by
  have hsf := run_store_float Tryz.prog
  obtain ⟨i0, hi0, hz0, hz1, hz2⟩ := info_parts infoVal
  have HN := Lib.hid (fun W (hW : Below w.heap.size w W) => hN.below hW)
  have H := Lib.hid (HW.start w)
  have hfe : (FloatKind.f64.format.order 13830554455654793216 13830554455654793216 == some .eq) = true := by decide +kernel
  clear hN
  go_enter Tryz.func6, Tryz.ntmps6
  go_wp2_with fail
  refine (objA_any _).mono ?_
  rintro e w1 ⟨g1, g2, rfl, hat, hb⟩
  have hh := H.out.below hb
  have Ax := hat
  clear H
  have H := Lib.hid hh
  have A := Lib.hid Ax
  clear Ax
  clear hh hb hat
  go_wp2_with fail
  refine (Num_any _ _).mono ?_
  rintro e w2 ⟨rfl, hb⟩
  have hh := H.out.below hb
  have Ax := At.more hb.size _ _ _ _ (A.out.below hb)
  clear H A
  have H := Lib.hid hh
  have A := Lib.hid Ax
  clear Ax
  clear hh hb
  go_wp2_with fail
  refine (head_plus g1 g2 _ (HN.out _ H.out.bel) A.out).mono ?_
  rintro e w3 ⟨p1, q1, r1, p2, q2, r2, rfl, hb⟩
  have hh := H.out.below hb
  clear H A
  have H := Lib.hid hh
  clear hh hb
  unfold errA
  go_wp2_with fail
  refine (Str_any _ _).mono ?_
  rintro e w4 ⟨rfl, hb⟩
  have hh := (H.out.two _ _ _ _).below hb
  generalize w3.heap.size = n1 at hh ⊢
  clear H
  have H := Lib.hid hh
  clear hh hb
  go_wp2_with fail
  refine (Num_any _ _).mono ?_
  rintro e w5 ⟨rfl, hb⟩
  have hh := H.out.below hb
  clear H
  have H := Lib.hid hh
  clear hh hb
  go_wp2_with fail
  refine (head_times _).mono ?_
  rintro e w6 ⟨p3, q3, r3, p4, q4, r4, rfl, hb⟩
  have hh := H.out.below hb
  clear H
  have H := Lib.hid hh
  clear hh hb
  unfold okA
  go_wp2_with fail
  refine (Num_any _ _).mono ?_
  rintro e w7 ⟨rfl, hb⟩
  have hh := (H.out.two _ _ _ _).below hb
  generalize w6.heap.size = n2 at hh ⊢
  clear H
  have H := Lib.hid hh
  clear hh hb
  go_wp2_with fail
  refine (Num_any _ _).mono ?_
  rintro e w8 ⟨rfl, hb⟩
  have hh := H.out.below hb
  clear H
  have H := Lib.hid hh
  clear hh hb
  go_wp2_with fail
  refine (head_rest _).mono ?_
  rintro e w9 ⟨p5, q5, r5, p6, q6, r6, rfl, hb⟩
  have hh := H.out.below hb
  clear H
  have H := Lib.hid hh
  clear hh hb
  unfold okA
  go_wp2_with fail
  refine (Num_any _ _).mono ?_
  rintro e w10 ⟨rfl, hb⟩
  have hh := (H.out.two _ _ _ _).below hb
  generalize w9.heap.size = n3 at hh ⊢
  clear H
  have H := Lib.hid hh
  clear hh hb
  go_wp2_with fail
  refine (Num_any _ _).mono ?_
  rintro e w11 ⟨rfl, hb⟩
  have hh := H.out.below hb
  clear H
  have H := Lib.hid hh
  clear hh hb
  go_wp2_with fail
  refine (head_zero _ (HN.out _ H.out.bel)).mono ?_
  rintro e w12 ⟨p7, q7, r7, p8, q8, r8, rfl, hb⟩
  have hh := H.out.below hb
  clear H
  have H := Lib.hid hh
  clear hh hb
  unfold errA
  go_wp2_with fail
  refine (objA_any _).mono ?_
  rintro e w13 ⟨g3, g4, rfl, hat, hb⟩
  have hh := (H.out.two _ _ _ _).below hb
  have Ax := hat
  generalize w12.heap.size = n4 at hh ⊢
  clear H
  have H := Lib.hid hh
  have A := Lib.hid Ax
  clear Ax
  clear hh hb hat
  go_wp2_with fail
  refine (Str_any _ _).mono ?_
  rintro e w14 ⟨rfl, hb⟩
  have hh := H.out.below hb
  have Ax := At.more hb.size _ _ _ _ (A.out.below hb)
  clear H A
  have H := Lib.hid hh
  have A := Lib.hid Ax
  clear Ax
  clear hh hb
  go_wp2_with fail
  refine (head_put _ _ _ A.out).mono ?_
  rintro e w15 ⟨lv, kv, rfl, hat, hb⟩
  have hh := H.out.below hb
  have Ax := hat
  clear H A
  have H := Lib.hid hh
  have A := Lib.hid Ax
  clear Ax
  clear hh hb hat
  obtain ⟨a1, m1, c1, a2, m2, c2, rfl, rfl⟩ := At.slices A.out
  have hgg := fun W (hW : At W W.heap.size 2 putR (.slice a1 m1 c1) (.slice a2 m2 c2)) => head_get _ _ W hW
  unfold cellsV at hgg ⊢
  go_wp2_with fail
  refine (hgg _ A.out).mono ?_
  rintro e w16 ⟨p9, q9, r9, p0, q0, r0, rfl, hb⟩
  have hh := H.out.below hb
  clear H A hgg
  have H := Lib.hid hh
  clear hh hb
  go_wp2_with fail
  refine (NaN_any _).mono ?_
  rintro e w0 ⟨rfl, rfl⟩
  go_wp2_with fail
  refine (Num_any _ _).mono ?_
  rintro e w17 ⟨rfl, hb⟩
  have hh := (H.out.one _ _).below hb
  generalize w16.heap.size = n5 at hh ⊢
  clear H
  have H := Lib.hid hh
  clear hh hb
  have hq := H.out.one #[.int .i64 3, .float .f64 9221120237041090561, .string ⟨#[]⟩, .slice none 0 0, .slice none 0 0] 27
  obtain ⟨y00, y01, y02, y03, y04⟩ := row5p (hq.rows _ (.head _))
  obtain ⟨y10, y11, y12, y13, y14⟩ := row5p (hq.rows _ (.tail _ (.head _)))
  obtain ⟨y20, y21, y22, y23, y24, y25⟩ := row6p (hq.rows _ (.tail _ (.tail _ (.head _))))
  obtain ⟨y40, y41, y42, y43, y44, y45⟩ := row6p (hq.rows _ (.tail _ (.tail _ (.tail _ (.tail _ (.head _))))))
  obtain ⟨y50, y51, y52, y53, y54⟩ := row5p (hq.rows _ (.tail _ (.tail _ (.tail _ (.tail _ (.tail _ (.head _)))))))
  obtain ⟨y60, y61, y62, y63, y64, y65⟩ := row6p (hq.rows _ (.tail _ (.tail _ (.tail _ (.tail _ (.tail _ (.tail _ (.head _))))))))
  obtain ⟨y70, y71, y72, y73, y74⟩ := row5p (hq.rows _ (.tail _ (.tail _ (.tail _ (.tail _ (.tail _ (.tail _ (.tail _ (.head _)))))))))
  obtain ⟨y80, y81, y82, y83, y84, y85⟩ := row6p (hq.rows _ (.tail _ (.tail _ (.tail _ (.tail _ (.tail _ (.tail _ (.tail _ (.tail _ (.head _))))))))))
  obtain ⟨y90, y91, y92, y93, y94⟩ := row5p (hq.rows _ (.tail _ (.tail _ (.tail _ (.tail _ (.tail _ (.tail _ (.tail _ (.tail _ (.tail _ (.head _)))))))))))
  clear hq
  go_wp2_with fail
  refine (Arr_nil _).mono ?_
  rintro e w18 ⟨rfl, hb⟩
  have hh := (H.out.one _ _).below hb
  generalize w17.heap.size = n6 at hh ⊢
  clear H y00 y01 y02 y03 y04 y10 y11 y12 y13 y14 y20 y21 y22 y23 y24 y25 y40 y41 y42 y43 y44 y45 y50 y51 y52 y53 y54 y60 y61 y62 y63 y64 y65 y70 y71 y72 y73 y74 y80 y81 y82 y83 y84 y85 y90 y91 y92 y93 y94
  have H := Lib.hid hh
  clear hh hb
  obtain ⟨z0, z1, z2, z3, z4⟩ := row5p (H.out.rows _ (.head _))
  go_wp2_with fail
  refine (objA_any _).mono ?_
  rintro e w19 ⟨g5, g6, rfl, hat, hb⟩
  have hh := H.out.below hb
  clear H z0 z1 z2 z3 z4
  have H := Lib.hid hh
  clear hh hb
  obtain ⟨z0, z1, z2, z3, z4⟩ := row5p (H.out.rows _ (.head _))
  go_wp2_with fail
  refine (Compare_kinds 5 6 _ _ _ _ _ _ _ _ _ _ _ _ _ _ _ _ (by decide) _).mono ?_
  rintro e w20 ⟨rfl, hb⟩
  have hh := H.out.below hb
  clear H z0 z1 z2 z3 z4
  have H := Lib.hid hh
  clear hh hb
  obtain ⟨z0, z1, z2, z3, z4⟩ := row5p (H.out.rows _ (.head _))
  rw [show cmpI 5 6 = -1 from rfl]
  go_wp2_with fail
  refine (Compare_nan _ _ _ _ _ _ _ _ _ _ _ _ _ _ _ _ nan_sz _).mono ?_
  rintro e w21 ⟨rfl, hb⟩
  have hh := H.out.below hb
  clear H z0 z1 z2 z3 z4
  have H := Lib.hid hh
  clear hh hb
  obtain ⟨z0, z1, z2, z3, z4⟩ := row5p (H.out.rows _ (.head _))
  go_wp2_with fail
  refine (objA_any _).mono ?_
  rintro e w22 ⟨g7, g8, rfl, hat, hb⟩
  have hh := H.out.below hb
  have Ax := hat
  clear H z0 z1 z2 z3 z4
  have H := Lib.hid hh
  have A := Lib.hid Ax
  clear Ax
  clear hh hb hat
  obtain ⟨z0, z1, z2, z3, z4⟩ := row5p (H.out.rows _ (.head _))
  go_wp2_with fail
  refine (head_right g7 g8 _ A.out).mono ?_
  rintro e w23 ⟨rfl, hb⟩
  have hh := H.out.below hb
  clear H A z0 z1 z2 z3 z4
  have H := Lib.hid hh
  clear hh hb
  obtain ⟨z0, z1, z2, z3, z4⟩ := row5p (H.out.rows _ (.head _))
  go_wp2_with fail
  refine (head_wrong _).mono ?_
  rintro e w24 ⟨rfl, hb⟩
  have hh := H.out.below hb
  clear H z0 z1 z2 z3 z4
  have H := Lib.hid hh
  clear hh hb
  obtain ⟨z0, z1, z2, z3, z4⟩ := row5p (H.out.rows _ (.head _))
  go_wp2_with fail
  refine (objA_any _).mono ?_
  rintro e w25 ⟨g9, g0, rfl, hat, hb⟩
  have hh := H.out.below hb
  have Ax := hat
  clear H z0 z1 z2 z3 z4
  have H := Lib.hid hh
  have A := Lib.hid Ax
  clear Ax
  clear hh hb hat
  obtain ⟨z0, z1, z2, z3, z4⟩ := row5p (H.out.rows _ (.head _))
  go_wp2_with fail
  refine (head_text g9 g0 _ (HN.out _ H.out.bel) A.out).mono ?_
  rintro e w26 ⟨rfl, hb⟩
  have hh := H.out.below hb
  clear H A z0 z1 z2 z3 z4
  have H := Lib.hid hh
  clear hh hb
  obtain ⟨z0, z1, z2, z3, z4⟩ := row5p (H.out.rows _ (.head _))
  go_wp2_with fail
  refine (head_large _).mono ?_
  rintro e w27 ⟨rfl, hb⟩
  have hh := H.out.below hb
  clear H z0 z1 z2 z3 z4
  have H := Lib.hid hh
  clear hh hb
  obtain ⟨z0, z1, z2, z3, z4⟩ := row5p (H.out.rows _ (.head _))
  go_wp2_with fail
  refine (Num_any _ _).mono ?_
  rintro e w28 ⟨rfl, hb⟩
  have hh := H.out.below hb
  clear H z0 z1 z2 z3 z4
  have H := Lib.hid hh
  clear hh hb
  obtain ⟨z0, z1, z2, z3, z4⟩ := row5p (H.out.rows _ (.head _))
  go_wp2_with fail
  refine (head_truth _).mono ?_
  rintro e w29 ⟨rfl, hb⟩
  have hh := H.out.below hb
  clear H z0 z1 z2 z3 z4
  have H := Lib.hid hh
  clear hh hb
  obtain ⟨z0, z1, z2, z3, z4⟩ := row5p (H.out.rows _ (.head _))
  go_wp2_with fail
  refine (head_name _).mono ?_
  rintro e w30 ⟨rfl, hb⟩
  have hh := H.out.below hb
  clear H z0 z1 z2 z3 z4
  have H := Lib.hid hh
  clear hh hb
  obtain ⟨z0, z1, z2, z3, z4⟩ := row5p (H.out.rows _ (.head _))
  go_wp2_with fail
  go_ret
  exact ⟨rfl, H.out.bel⟩
end Go.Proofs.YtdlighmnlcklnaaGreatDoor
