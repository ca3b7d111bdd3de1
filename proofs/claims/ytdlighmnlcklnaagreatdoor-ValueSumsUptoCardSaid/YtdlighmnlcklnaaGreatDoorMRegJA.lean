/- The program's merge: the region that stores what the second value answers, whatever its order. -/
import Derived.Test.YtdlighmnlcklnaaGreatDoorMReg
import Derived.Test.YtdlighmnlcklnaaGreatDoorMStep
import Derived.Deep.RegionWith
import Derived.Deep.RegionHeld3
namespace Go.Proofs.YtdlighmnlcklnaaGreatDoor
open Go Go.RowKit

noncomputable def mergeRegionJA : Code := ((Tryz.f86.body.bind (regionAt 13)).getD .skip)
set_option maxRecDepth 1000000 in
set_option maxHeartbeats 6000000 in
theorem merge_regionJA (W1 wr : World) (Q X Y B0 m t i an pB po pc bn qB qo qc g cap : Nat) (L : List V) (qt : List (Value × Value)) (K : List ByteArray) (kv : Value) (hR : RS W1 Q L qt K (.slice (some ⟨g, 0, none⟩) L.length cap) kv wr) (hE : EA wr B0 W1.heap.size Q m (.slice (some ⟨g, 0, none⟩) L.length cap) kv L qt) (hB0 : B0 ≤ W1.heap.size) (_hL : L.length ≤ 1048576) (hi : i < L.length)
    (x y r : V) (a1 a2 a3 a4 : Option Addr) (n1 k1 n2 k2 n3 k3 n4 k4 : Nat) (s0 s1 s2 s4 u0 u1 u2 u4 : Value) (hX : wr.heap[X]? = some (.cells #[s0, s1, s2, .slice (some ⟨pB, po, none⟩) an pc, s4] 27 (0, 0))) (hY : wr.heap[Y]? = some (.cells #[u0, u1, u2, .slice (some ⟨qB, qo, none⟩) bn qc, u4] 27 (0, 0)))
    (hia : i < an) (ht : t < bn) (h5a : FiveAt wr pB (po + i * 5) x (.slice a1 n1 k1) (.slice a2 n2 k2)) (h5b : FiveAt wr qB (qo + t * 5) y (.slice a3 n3 k3) (.slice a4 n4 k4))
    (hJ : Calls Tryz.prog 87 #[.agg (cellsV x (.slice a1 n1 k1) (.slice a2 n2 k2)), .agg (cellsV y (.slice a3 n3 k3) (.slice a4 n4 k4))] wr.drew fun e w' => ∃ lv kv, e = .returned (.agg (cellsV r lv kv)) ∧ AtN w' B0 wr.drew.heap.size m r lv kv ∧ Below wr.drew.heap.size wr.drew w') (c0 c1 c5 c6 c7 c8 c9 c12 c14 c15 c16 c17 c18 c19 c20 c21 c22 c23 c24 c25 c26 c27 c28 c29 c30 c31 c32 c33 c34 c35 c36 c37 c38 c39 c40 c41 c42 c43 c44 c45 c46 c47 c48 c49 c50 c51 c52 c53 c54 c55 c56 c57 c58 c59 c60 c61 c62 c63 c64 c65 c66 c67 c68 c69 c70 c71 c72 c73 c74 c75 c76 c77 c78 c79 c80 c81 c82 c83 c84 c85 c86 : Value) :
    Code.wp Tryz.prog mergeRegionJA (Exit.then (fun z w => ∃ (y53 y54 y55 y56 y57 y58 y59 y60 y61 y62 y63 y64 y65 y66 y67 y68 aa bb : Value), z = ⟨#[c0, c1, .func (.func 87) #[] #[], .pointer (some ⟨X, 0, none⟩), .pointer (some ⟨Y, 0, none⟩), c5, c6, c7, c8, c9, .pointer (some ⟨Q, 0, none⟩), .int .i64 (t : Int), c12, .int .i64 (i : Int), c14, c15, c16, c17, c18, c19, c20, c21, c22, c23, c24, c25, c26, c27, c28, c29, c30, c31, c32, c33, c34, c35, c36, c37, c38, c39, c40, c41, c42, c43, c44, c45, c46, c47, c48, c49, c50, c51, c52, y53, y54, y55, y56, y57, y58, y59, y60, y61, y62, y63, y64, y65, y66, y67, y68, c69, c70, c71, c72, c73, c74, c75, c76, c77, c78, c79, c80, c81, c82, c83, c84, c85, c86], []⟩ ∧ RS W1 Q (L.set i r) (qt.set i (aa, bb)) K (.slice (some ⟨g, 0, none⟩) L.length cap) kv w ∧ EA w B0 W1.heap.size Q m (.slice (some ⟨g, 0, none⟩) L.length cap) kv (L.set i r) (qt.set i (aa, bb))) (fun _ _ _ => False)) ⟨#[c0, c1, .func (.func 87) #[] #[], .pointer (some ⟨X, 0, none⟩), .pointer (some ⟨Y, 0, none⟩), c5, c6, c7, c8, c9, .pointer (some ⟨Q, 0, none⟩), .int .i64 (t : Int), c12, .int .i64 (i : Int), c14, c15, c16, c17, c18, c19, c20, c21, c22, c23, c24, c25, c26, c27, c28, c29, c30, c31, c32, c33, c34, c35, c36, c37, c38, c39, c40, c41, c42, c43, c44, c45, c46, c47, c48, c49, c50, c51, c52, c53, c54, c55, c56, c57, c58, c59, c60, c61, c62, c63, c64, c65, c66, c67, c68, c69, c70, c71, c72, c73, c74, c75, c76, c77, c78, c79, c80, c81, c82, c83, c84, c85, c86], []⟩ wr := by
  have hsf := run_store_float Tryz.prog
  obtain ⟨_, _, _, c3, _⟩ := row5q hR.hP
  obtain ⟨_, _, _, x3, _⟩ := row5q hX
  obtain ⟨_, _, _, y3, _⟩ := row5q hY
  obtain ⟨f0, f1, f2, f3, f4⟩ := h5a
  obtain ⟨g0, g1, g2, g3, g4⟩ := h5b
  unfold cellsV at hJ
  have HJC := Lib.hid hJ
  have hIlt := hR.lt
  have hIQ := hR.hQ
  have hbz := hR.bel.size
  have HQT := Lib.hid hR.len
  rcases id hR.lown.2 with ⟨e0, _⟩ | ⟨g', cap', cur, hsl, hgb, hgh, hgc, _, hgs, _⟩
  · cases e0
  obtain ⟨rfl, rfl⟩ : g = g' ∧ cap = cap' := by cases hsl; exact ⟨rfl, rfl⟩
  have hcell := hR.lown.cells (g := g) rfl
  have hex : ∀ c, c < 5 → ∃ u, wr.cell? ⟨g, i * 5 + c, none⟩ = some u := fun c hc => by
    have hl5 := flat5_len L qt HQT.out.symm
    have := hcell (i * 5 + c) _ (List.getElem?_eq_getElem (by omega))
    rw [add_zero_off] at this
    exact ⟨_, this⟩
  have hfz : ∀ q, wr.frozen? ⟨g, q, none⟩ = false := fun q => by simp [World.frozen?, hgh]
  obtain ⟨v0, d0⟩ := hex 0 (by omega)
  obtain ⟨v1, d1⟩ := hex 1 (by omega)
  obtain ⟨v2, d2⟩ := hex 2 (by omega)
  obtain ⟨v3, d3⟩ := hex 3 (by omega)
  obtain ⟨v4, d4⟩ := hex 4 (by omega)
  have hgl : g < wr.heap.size := (Array.getElem?_eq_some_iff.1 hgh).1
  have HFZ := Lib.hid hfz
  have HI := Lib.hid hR
  have HE := Lib.hid hE
  clear hcell hex hfz hgh hgc hgs hJ hR hE hX hY hsl
  conv => arg 2; whnf
  go_region_with (go_at_call 87; refine HJC.out.mono ?_; rintro e w5 ⟨aa, bb, he, hat5, hb5⟩; obtain ⟨p1, p2, p3, p4, p5, p6, rfl, rfl⟩ := AtP.slices hat5; subst he; have hbw : Below wr.heap.size wr w5 := (Below.refl _ _).drew.trans hb5; have c3 := (hbw.cell (p := ⟨Q, 3, none⟩) hIlt).trans c3; have d0 := (hbw.cell (p := ⟨g, i * 5, none⟩) hgl).trans d0; have d1 := (hbw.cell (p := ⟨g, i * 5 + 1, none⟩) hgl).trans d1; have d2 := (hbw.cell (p := ⟨g, i * 5 + 2, none⟩) hgl).trans d2; have d3 := (hbw.cell (p := ⟨g, i * 5 + 3, none⟩) hgl).trans d3; have d4 := (hbw.cell (p := ⟨g, i * 5 + 4, none⟩) hgl).trans d4; have z0 := (hbw.frozen (p := ⟨g, i * 5, none⟩) hgl).trans (HFZ.out _); have z1 := (hbw.frozen (p := ⟨g, i * 5 + 1, none⟩) hgl).trans (HFZ.out _); have z2 := (hbw.frozen (p := ⟨g, i * 5 + 2, none⟩) hgl).trans (HFZ.out _); have z3 := (hbw.frozen (p := ⟨g, i * 5 + 3, none⟩) hgl).trans (HFZ.out _); have z4 := (hbw.frozen (p := ⟨g, i * 5 + 4, none⟩) hgl).trans (HFZ.out _))
  all_goals
    have hst := RS.put (HI.out.below hbw) hi r (.slice p1 p2 p3) (.slice p4 p5 p6)
    have hea := EA.put ((HE.out.below (by omega) hbw).put5 (by omega) (i * 5) (.int .i64 r.k) (.float .f64 r.f) (.string r.s) (.slice p1 p2 p3) (.slice p4 p5 p6)) HQT.out (p := i) (x := r) (q := (.slice p1 p2 p3, .slice p4 p5 p6)) (fresh_put hat5 hIlt (by omega) hIQ (by omega) hgl (fun k hk => (HI.out.kown.lt k hk).2) ..)
    exact ⟨_, _, _, _, _, _, _, _, _, _, _, _, _, _, _, _, _, _, rfl, hst, hea⟩
end Go.Proofs.YtdlighmnlcklnaaGreatDoor
