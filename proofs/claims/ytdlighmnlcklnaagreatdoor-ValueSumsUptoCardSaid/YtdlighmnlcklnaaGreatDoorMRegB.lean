/- The program's merge: the region that appends a value of the second object, whatever its order. -/
import Derived.Test.YtdlighmnlcklnaaGreatDoorMReg
import Derived.Test.YtdlighmnlcklnaaGreatDoorMStep
import Derived.Deep.AppendLies
import Derived.Deep.RegionLaw
namespace Go.Proofs.YtdlighmnlcklnaaGreatDoor
open Go Go.RowKit

noncomputable def mergeRegionB : Code := ((Tryz.f86.body.bind (regionAt 15)).getD .skip)
set_option maxRecDepth 1000000 in
set_option maxHeartbeats 6000000 in
theorem merge_regionB (W1 W5 : World) (Q Y B0 m t bn qB qo qc : Nat) (L : List V) (qt : List (Value × Value)) (K : List ByteArray) (Al : Option Addr) (cl : Nat) (kv : Value) (hR : RS W1 Q L qt K (.slice Al L.length cl) kv W5) (hE : EA W5 B0 W1.heap.size Q m (.slice Al L.length cl) kv L qt) (hB0 : B0 ≤ W1.heap.size) (hL : L.length ≤ 1048576)
    (x : V) (a3 a4 : Option Addr) (n3 k3 n4 k4 : Nat) (u0 u1 u2 u4 : Value) (hY : W5.heap[Y]? = some (.cells #[u0, u1, u2, .slice (some ⟨qB, qo, none⟩) bn qc, u4] 27 (0, 0))) (ht : t < bn) (h5 : FiveAt W5 qB (qo + t * 5) x (.slice a3 n3 k3) (.slice a4 n4 k4)) (hat : At W5 B0 m x (.slice a3 n3 k3) (.slice a4 n4 k4)) (c0 c1 c2 c3 c5 c6 c7 c8 c9 c12 c13 c14 c15 c16 c17 c18 c19 c20 c21 c22 c23 c24 c25 c26 c27 c28 c29 c30 c31 c32 c33 c34 c35 c36 c37 c38 c39 c40 c41 c42 c43 c44 c45 c46 c47 c48 c49 c50 c51 c52 c53 c54 c55 c56 c57 c58 c59 c60 c61 c62 c63 c64 c65 c66 c67 c68 c69 c70 c71 c72 c73 c74 c75 c76 c77 c78 c79 c80 c81 c82 c83 c84 c85 c86 : Value) :
    Code.wp Tryz.prog mergeRegionB (Exit.then (fun z w => ∃ (y75 y76 y77 y78 y79 y80 y81 y82 y83 y84 lv' : Value), z = ⟨#[c0, c1, c2, c3, .pointer (some ⟨Y, 0, none⟩), c5, c6, c7, c8, c9, .pointer (some ⟨Q, 0, none⟩), .int .i64 (t : Int), c12, c13, c14, c15, c16, c17, c18, c19, c20, c21, c22, c23, c24, c25, c26, c27, c28, c29, c30, c31, c32, c33, c34, c35, c36, c37, c38, c39, c40, c41, c42, c43, c44, c45, c46, c47, c48, c49, c50, c51, c52, c53, c54, c55, c56, c57, c58, c59, c60, c61, c62, c63, c64, c65, c66, c67, c68, c69, c70, c71, c72, c73, c74, y75, y76, y77, y78, y79, y80, y81, y82, y83, y84, c85, c86], []⟩ ∧ RS W1 Q (L ++ [x]) (qt ++ [(.slice a3 n3 k3, .slice a4 n4 k4)]) K lv' kv w ∧ EA w B0 W1.heap.size Q m lv' kv (L ++ [x]) (qt ++ [(.slice a3 n3 k3, .slice a4 n4 k4)])) (fun _ _ _ => False)) ⟨#[c0, c1, c2, c3, .pointer (some ⟨Y, 0, none⟩), c5, c6, c7, c8, c9, .pointer (some ⟨Q, 0, none⟩), .int .i64 (t : Int), c12, c13, c14, c15, c16, c17, c18, c19, c20, c21, c22, c23, c24, c25, c26, c27, c28, c29, c30, c31, c32, c33, c34, c35, c36, c37, c38, c39, c40, c41, c42, c43, c44, c45, c46, c47, c48, c49, c50, c51, c52, c53, c54, c55, c56, c57, c58, c59, c60, c61, c62, c63, c64, c65, c66, c67, c68, c69, c70, c71, c72, c73, c74, c75, c76, c77, c78, c79, c80, c81, c82, c83, c84, c85, c86], []⟩ W5 := by
  have hsf := run_store_float Tryz.prog
  obtain ⟨i0, hi0, hz0, hz1, hz2⟩ := info_parts infoVal
  obtain ⟨p0, p1, p2, p3, p4⟩ := row5q hR.hP
  obtain ⟨x0, x1, x2, x3, x4⟩ := row5q hY
  obtain ⟨f0, f1, f2, f3, f4⟩ := h5
  have hlt5 := hR.lt
  have hbz := hR.bel.size
  have PD := Lib.hid (hR.below ((Below.refl _ _).drew))
  have PE := Lib.hid (hE.below (by omega) ((Below.refl _ _).drew))
  have HQT := Lib.hid hR.len
  have HAB := Lib.hid (hat.below (B := B0) ((Below.refl B0 W5).drew))
  clear hR hE hY hat
  conv => arg 2; whnf
  go_region_law ((refine step_append_lies _ (by rfl) _ _ _ (by rfl) W1.heap.size 27 i0 _ 5 80 Tryz.underlying24 hi0 hz0 hz1 hz2 rfl (by omega) (.slice Al L.length cl) L.length (flat5 L qt) (by rfl) (PD.out.lown.alloc _) ⟨W5.heap.size, 0, none⟩ 1 1 (cellsV x (.slice a3 n3 k3) (.slice a4 n4 k4)).toList (by rfl) (by rfl) (World.news_of_block (cs := cellsV x (.slice a3 n3 k3) (.slice a4 n4 k4)) (t := 27) (fr := (0, 0)) (heap_alloc_new W5.drew _)) (by simp [Value.oneCell', cellsV]) (by omega) (by unfold maxLen; omega) (by omega) (by simp; omega) (W5.heap.size + 1) (by simp) ?_; intro gl capl w6 hown6 hgrow6 hat6 hlt6; obtain ⟨c3, z3⟩ := RS.midL PD.out hgrow6))
  all_goals
    have hpv := PD.out.valsG (x := x) (q := (.slice a3 n3 k3, .slice a4 n4 k4)) hown6 hgrow6 hat6
    have hk0 : ∀ p : Addr, p.block < B0 → (w6.setCell ⟨Q, 3, none⟩ (.slice (some ⟨gl, 0, none⟩) (L.length + 1) capl)).cell? p = W5.drew.cell? p := fun p hp => (hpv.bel.cell (by omega)).trans (PD.out.bel.cell (by omega)).symm
    have hev := (PE.out.valsG (lv' := .slice (some ⟨gl, 0, none⟩) (L.length + 1) capl) PD.out (by omega) hgrow6 (by rcases hat6 with q | q; exact Or.inl q.symm; exact Or.inr (by rw [q]; rfl))).snoc HQT.out (x := x) (q := (.slice a3 n3 k3, .slice a4 n4 k4)) (AtP.more (fun _ q => Or.inl q) _ _ _ _ (At.keep hk0 _ _ _ _ HAB.out))
    exact ⟨_, _, _, _, _, _, _, _, _, _, _, rfl, hpv, hev⟩
end Go.Proofs.YtdlighmnlcklnaaGreatDoor
