/- What must come at any rate: the walk. -/
import Derived.Test.YtmicpdibnkmekaaGreatDoorRPrint
import Derived.Deep.Cut
import Derived.Deep.CutRange
namespace Go.Proofs.YtmicpdibnkmekaaGreatDoor
open Go Go.RowKit

/-- Rows of the call's own, and what lay below. -/
structure HW (w W : World) (l : List (Nat × Array Value × TypeId)) : Prop where
  rows : ∀ x ∈ l, W.heap[x.1]? = some (.cells x.2.1 x.2.2 (0, 0))
  bel : Below w.heap.size w W
theorem HW.start (w : World) : HW w w [] := ⟨fun x hx => by simp at hx, Below.refl _ _⟩
theorem HW.lt {w W : World} {l : List (Nat × Array Value × TypeId)} (h : HW w W l) (x : Nat × Array Value × TypeId) (hx : x ∈ l) : x.1 < W.heap.size := (Array.getElem?_eq_some_iff.1 (h.rows x hx)).1
theorem HW.below {w W W' : World} {l : List (Nat × Array Value × TypeId)} (h : HW w W l) (hb : Below W.heap.size W W') : HW w W' l :=
  ⟨fun x hx => (hb.block _ (h.lt x hx)).trans (h.rows x hx), h.bel.trans (hb.mono h.bel.size)⟩
theorem HW.one {w W : World} {l : List (Nat × Array Value × TypeId)} (h : HW w W l) (c : Array Value) (t : TypeId) : HW w (W.alloc (.cells c t)) ((W.heap.size, c, t) :: l) := by
  refine ⟨fun x hx => ?_, h.bel.alloc h.bel.size _⟩
  rcases List.mem_cons.1 hx with rfl | hx
  · exact heap_alloc_new W _
  · exact row_alloc3 (h.rows x hx) _
theorem HW.two {w W : World} {l : List (Nat × Array Value × TypeId)} (h : HW w W l) (c d : Array Value) (t u : TypeId) : HW w ((W.alloc (.cells c t)).alloc (.cells d u)) ((W.heap.size + 1, d, u) :: (W.heap.size, c, t) :: l) := by
  have := (h.one c t).one d u
  rw [World.size_alloc] at this
  exact this
theorem HW.get {w W : World} {l : List (Nat × Array Value × TypeId)} (h : HW w W l) (n : Nat) (c : Array Value) (t : TypeId) (hx : (n, c, t) ∈ l) : W.heap[n]? = some (.cells c t (0, 0)) := h.rows _ hx

theorem row5p {w : World} {b : Nat} {u0 u1 u2 u3 u4 : Value} {t : TypeId} (hb : w.heap[b]? = some (.cells #[u0, u1, u2, u3, u4] t (0, 0))) :
    w.cell? ⟨b, 0, none⟩ = some u0 ∧ w.cell? ⟨b, 1, none⟩ = some u1 ∧ w.cell? ⟨b, 2, none⟩ = some u2 ∧ w.cell? ⟨b, 3, none⟩ = some u3 ∧ w.cell? ⟨b, 4, none⟩ = some u4 := by
  refine ⟨?_, ?_, ?_, ?_, ?_⟩ <;> simp [World.cell?, hb]
theorem row5o {w : World} {b : Nat} {u0 u1 u2 u3 u4 : Value} {t : TypeId} (hb : w.heap[b]? = some (.cells #[u0, u1, u2, u3, u4] t (0, 0))) :
    (∀ o, (w.alloc o).cell? ⟨b, 0, none⟩ = some u0) ∧ (∀ o, (w.alloc o).cell? ⟨b, 1, none⟩ = some u1) ∧ (∀ o, (w.alloc o).cell? ⟨b, 2, none⟩ = some u2) ∧ (∀ o, (w.alloc o).cell? ⟨b, 3, none⟩ = some u3) ∧ (∀ o, (w.alloc o).cell? ⟨b, 4, none⟩ = some u4) :=
  ⟨fun o => (row5p (row_alloc3 hb o)).1, fun o => (row5p (row_alloc3 hb o)).2.1, fun o => (row5p (row_alloc3 hb o)).2.2.1, fun o => (row5p (row_alloc3 hb o)).2.2.2.1, fun o => (row5p (row_alloc3 hb o)).2.2.2.2⟩
theorem HW.sub {w W : World} {l l' : List (Nat × Array Value × TypeId)} (h : HW w W l) (hl : ∀ x ∈ l', x ∈ l) : HW w W l' := ⟨fun x hx => h.rows x (hl x hx), h.bel⟩
theorem HW.ne {w W : World} {l : List (Nat × Array Value × TypeId)} (h : HW w W l) {x z : Nat × Array Value × TypeId} (hx : x ∈ l) (hz : z ∈ l) (hn : x.2 ≠ z.2) : x.1 ≠ z.1 := by
  intro e
  have h1 := h.rows x hx
  have h2 := h.rows z hz
  rw [e, h2] at h1
  apply hn
  injection h1 with h1
  injection h1 with h1 h3 _
  exact Prod.ext h1.symm h3.symm
theorem HW.set5 {w W : World} {l l' : List (Nat × Array Value × TypeId)} (h : HW w W l) {R : Nat} {u0 u1 u2 u3 u4 : Value} {t : TypeId} (hz : (R, #[u0, u1, u2, u3, u4], t) ∈ l) (hR : w.heap.size ≤ R) (hl : ∀ x ∈ l', x ∈ l ∧ x.2 ≠ (#[u0, u1, u2, u3, u4], t)) (x0 x1 x2 x3 x4 : Value) :
    HW w (Go.Proofs.YtmicpdibnkmekaaGreatDoor.set5 W R x0 x1 x2 x3 x4) ((R, #[x0, x1, x2, x3, x4], t) :: l') := by
  refine ⟨fun x hx => ?_, set5_below0 h.bel hR _ _ _ _ _⟩
  rcases List.mem_cons.1 hx with rfl | hx
  · exact set5_row (h.rows _ hz) _ _ _ _ _
  · obtain ⟨h1, h2⟩ := hl x hx
    rw [set5_other (h.ne h1 hz h2)]
    exact h.rows x h1
set_option maxRecDepth 100000 in
set_option maxHeartbeats 400000 in
theorem Arr_any (A : Option Addr) (n c : Nat) (w : World) : Calls Tryz.prog 25 #[.slice A n c] w fun e w' => e = .returned (.agg #[.int .i64 5, .float .f64 0, .string ⟨#[]⟩, .slice A n c, .slice none 0 0]) ∧ Below w.heap.size w w' := by
  have hsf := run_store_float Tryz.prog
  obtain ⟨i0, hi0, hz0, hz1, hz2⟩ := info_parts infoVal
  go_enter Tryz.func25, Tryz.ntmps25
  go_wp2_with fail
  refine bodyPost_ret_by (results_cell_row rfl _ _ w.heap.size 27 _ (0, 0) _ rfl (heap_alloc_new w _) Tryz.underlying27 rfl (by rw [hi0]; simp [hz1])) rfl ?_
  exact ⟨rfl, (Below.refl w.heap.size w).alloc (Nat.le_refl _) _⟩
set_option maxRecDepth 100000 in
set_option maxHeartbeats 4000000 in
theorem heads_true (w : World) (hN : NumW w) : Calls Tryz.prog 11 #[] w fun e w' => e = .returned (.bool true) ∧ Below w.heap.size w w' := by
  have hsf := run_store_float Tryz.prog
  obtain ⟨i0, hi0, hz0, hz1, hz2⟩ := info_parts infoVal
  have HN := Lib.hid (fun W (hW : Below w.heap.size w W) => hN.below hW)
  have H := Lib.hid ((HW.start w).one #[.string ⟨#[97]⟩] 9)
  clear hN
  go_enter Tryz.func11, Tryz.ntmps11
  go_wp2_with fail
  refine (Arr_any _ _ _ _).mono ?_
  rintro e w1 ⟨rfl, hb⟩
  have hh := H.out.below hb
  clear H
  have H := Lib.hid hh
  clear hh hb
  go_wp2_with fail
  have hh := (H.out.two #[.int .i64 5, .float .f64 0, .string ⟨#[]⟩, .slice none 0 0, .slice none 0 0] #[.int .i64 6, .float .f64 0, .string ⟨#[]⟩, .slice (some ⟨w1.heap.size, 0, none⟩) 1 1, .slice (some ⟨w.heap.size, 0, none⟩) 1 1] 27 27)
  generalize ((w1.alloc (.cells #[.int .i64 5, .float .f64 0, .string ⟨#[]⟩, .slice none 0 0, .slice none 0 0] 27)).alloc (.cells #[.int .i64 6, .float .f64 0, .string ⟨#[]⟩, .slice (some ⟨w1.heap.size, 0, none⟩) 1 1, .slice (some ⟨w.heap.size, 0, none⟩) 1 1] 27)) = x1 at hh ⊢
  clear H
  have H := Lib.hid (hh.below ((Below.refl _ x1).drew))
  obtain ⟨i0, i1, i2, i3, i4⟩ := row5p (hh.get _ _ _ (.head _))
  obtain ⟨o0, o1, o2, o3, o4⟩ := row5o (hh.get _ _ _ (.head _))
  have hil := hh.lt _ (.head _)
  clear hh
  generalize w1.heap.size = g1 at *
  have hx1 : w.heap.size ≤ x1.heap.size := H.out.bel.size
  have HDZ := Lib.hid (show x1.drew.heap.size = x1.heap.size from rfl)
  go_cut [2] from 13 to 16 (fun s2 wx => ∃ nv ng : Nat, s2 = .pointer (some ⟨nv, 0, none⟩) ∧ Hid (HW w wx [(nv, #[.int .i64 5, .float .f64 0, .string ⟨#[]⟩, .slice (some ⟨ng, 0, none⟩) 2 2, .slice none 0 0], 27), (ng, #[.int .i64 3, .float .f64 4607182418800017408, .string ⟨#[]⟩, .slice none 0 0, .slice none 0 0, .int .i64 6, .float .f64 0, .string ⟨#[]⟩, .slice (some ⟨g1, 0, none⟩) 1 1, .slice (some ⟨w.heap.size, 0, none⟩) 1 1], 27), (g1, #[.int .i64 5, .float .f64 0, .string ⟨#[]⟩, .slice none 0 0, .slice none 0 0], 27), (w.heap.size, #[.string ⟨#[97]⟩], 9)]))
  case first =>
    go_region_with (first
      | (go_at_call 19; refine (Num_any _ _).mono ?_; rintro e w2 ⟨rfl, hb⟩; have hh := H.out.below hb; clear H; have hz := hh.bel.size; have H := Lib.hid hh; clear hz; have hz2 := hh.bel.size; clear i0 i1 i2 i3 i4 o0 o1 o2 o3 o4; obtain ⟨i0, i1, i2, i3, i4⟩ := row5p (hh.get _ _ _ (.head _)); obtain ⟨o0, o1, o2, o3, o4⟩ := row5o (hh.get _ _ _ (.head _)); clear hh hb)
      | (go_at_call 19; refine (Num_any _ _).mono ?_; rintro e w2 ⟨rfl, hb⟩; have hh := (H.out.one _ _).below hb; clear H; have hz := hh.bel.size; have H := Lib.hid hh; clear hz; have hz2 := hh.bel.size; clear i0 i1 i2 i3 i4 o0 o1 o2 o3 o4; obtain ⟨i0, i1, i2, i3, i4⟩ := row5p (hh.get _ _ _ (.tail _ (.head _))); obtain ⟨o0, o1, o2, o3, o4⟩ := row5o (hh.get _ _ _ (.tail _ (.head _))); clear hh hb)
      | (go_at_call 25; refine (Arr_any _ _ _ _).mono ?_; rintro e w3 ⟨rfl, hb⟩; have hh := (H.out.one _ _).below hb; clear H; have hz := hh.bel.size; have H := Lib.hid hh; obtain ⟨j0, j1, j2, j3, j4, k0, k1, k2, k3, k4⟩ := row5 (hh.get _ _ _ (.tail _ (.head _))); (try simp only [HDZ.out] at j0 j1 j2 j3 j4 k0 k1 k2 k3 k4); clear hh hb)
      | (go_at_call 25; refine (Arr_any _ _ _ _).mono ?_; rintro e w3 ⟨rfl, hb⟩; have hh := (H.out.two _ _ _ _).below hb; clear H; have hz := hh.bel.size; have H := Lib.hid hh; obtain ⟨j0, j1, j2, j3, j4, k0, k1, k2, k3, k4⟩ := row5 (hh.get _ _ _ (.head _)); clear hh hb)
      | (go_at_call 25; refine (Arr_any _ _ _ _).mono ?_; rintro e w3 ⟨rfl, hb⟩; have hh := (H.out.two _ _ _ _).below hb; clear H; have hz := hh.bel.size; have H := Lib.hid hh; obtain ⟨j0, j1, j2, j3, j4, k0, k1, k2, k3, k4⟩ := row5 (hh.get _ _ _ (.tail _ (.head _))); (try simp only [HDZ.out] at j0 j1 j2 j3 j4 k0 k1 k2 k3 k4); clear hh hb))
    all_goals
      go_wp2_with fail
      go_meet
      case rel =>
        first
        | (refine ⟨w3.heap.size, w2.heap.size, (by with_reducible rfl), Lib.hid ?_⟩; exact (H.out.one _ _).sub (fun x hx => by simp only [List.mem_cons, List.not_mem_nil, or_false] at hx; rcases hx with rfl | rfl | rfl | rfl <;> simp))
        | (refine ⟨w2.heap.size + 1, w2.heap.size, (by with_reducible rfl), Lib.hid ?_⟩; exact H.out.set5 (R := w2.heap.size + 1) (u0 := .int .i64 0) (u1 := .float .f64 0) (u2 := .string ⟨#[]⟩) (u3 := .slice none 0 0) (u4 := .slice none 0 0) (t := 27) (.head _) (by omega) (fun x hx => by simp only [List.mem_cons, List.not_mem_nil, or_false] at hx; rcases hx with rfl | rfl | rfl <;> exact ⟨by simp, by simp⟩) _ _ _ _ _)
        | (refine ⟨w2.heap.size, w2.heap.size + 1, (by with_reducible rfl), Lib.hid ?_⟩; exact H.out.set5 (R := w2.heap.size) (u0 := .int .i64 0) (u1 := .float .f64 0) (u2 := .string ⟨#[]⟩) (u3 := .slice none 0 0) (u4 := .slice none 0 0) (t := 27) (.tail _ (.head _)) (by omega) (fun x hx => by simp only [List.mem_cons, List.not_mem_nil, or_false] at hx; rcases hx with rfl | rfl | rfl <;> exact ⟨by simp, by simp⟩) _ _ _ _ _)
        | (refine ⟨x1.heap.size, w2.heap.size, (by with_reducible rfl), Lib.hid ?_⟩; exact H.out.set5 (R := x1.heap.size) (u0 := .int .i64 0) (u1 := .float .f64 0) (u2 := .string ⟨#[]⟩) (u3 := .slice none 0 0) (u4 := .slice none 0 0) (t := 27) (.tail _ (.head _)) (by omega) (fun x hx => by simp only [List.mem_cons, List.not_mem_nil, or_false] at hx; rcases hx with rfl | rfl | rfl <;> exact ⟨by simp, by simp⟩) _ _ _ _ _)
  case rest =>
    obtain ⟨nv, ng, rfl, H⟩ := hcut
    have hat := head_at (H.out.get _ _ _ (.tail _ (.head _))) (H.out.get _ _ _ (.tail _ (.tail _ (.head _)))) (H.out.get _ _ _ (.tail _ (.tail _ (.tail _ (.head _)))))
    obtain ⟨i0, i1, i2, i3, i4⟩ := row5p (H.out.get _ _ _ (.head _))
    have HP1 := Lib.hid (head_print1 ng _ (HN.out _ H.out.bel) hat)
    clear hat
    go_wp2_with fail
    refine HP1.out.mono ?_
    rintro e w4 ⟨rfl, hb⟩
    have hh := H.out.below hb
    clear H i0 i1 i2 i3 i4
    have H := Lib.hid hh
    obtain ⟨i0, i1, i2, i3, i4⟩ := row5p (hh.get _ _ _ (.head _))
    clear hh hb
    go_wp2_with fail
    refine (head_print2 _ (HN.out _ H.out.bel)).mono ?_
    rintro e w5 ⟨rfl, hb⟩
    have hh := H.out.below hb
    clear H i0 i1 i2 i3 i4
    have H := Lib.hid hh
    obtain ⟨i0, i1, i2, i3, i4⟩ := row5p (hh.get _ _ _ (.head _))
    clear hh hb
    go_wp2_with fail
    refine (head_print3 ng _).mono ?_
    rintro e w6 ⟨rfl, hb⟩
    have hh := H.out.below hb
    clear H i0 i1 i2 i3 i4
    have H := Lib.hid hh
    obtain ⟨i0, i1, i2, i3, i4⟩ := row5p (hh.get _ _ _ (.head _))
    clear hh hb
    go_wp2_with fail
    refine (head_escape _ (HN.out _ H.out.bel)).mono ?_
    rintro e w7 ⟨rfl, hb⟩
    have hh := H.out.below hb
    clear H i0 i1 i2 i3 i4
    have H := Lib.hid hh
    obtain ⟨i0, i1, i2, i3, i4⟩ := row5p (hh.get _ _ _ (.head _))
    clear hh hb
    go_wp2_with fail
    refine (head_colour ng _).mono ?_
    rintro e w8 ⟨rfl, hb⟩
    have hh := H.out.bel.trans (hb.mono H.out.bel.size)
    go_wp2_with fail
    go_ret
    exact ⟨rfl, hh⟩
end Go.Proofs.YtmicpdibnkmekaaGreatDoor
