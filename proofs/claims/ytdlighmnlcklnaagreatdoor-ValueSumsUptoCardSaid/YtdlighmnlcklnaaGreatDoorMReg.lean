/- The program's merge: the region that clones both rows and makes the object, whatever its order. -/
import Derived.Test.YtdlighmnlcklnaaGreatDoorMRS
import Derived.Deep.RegionLaw
import Derived.Deep.RegionWith
namespace Go.Proofs.YtdlighmnlcklnaaGreatDoor
open Go Go.RowKit

/-- A region of a function's code, by its number. -/
def regionAt (n : Nat) : Code → Option Code
  | .region i o d => if i = n then some (.region i o d) else none
  | .seq a b => match regionAt n a with
    | some c => some c
    | none => regionAt n b
  | .cond _ a b => match regionAt n a with
    | some c => some c
    | none => regionAt n b
  | .block _ c => regionAt n c
  | .scope c => regionAt n c
  | .loop c => regionAt n c
  | _ => none
noncomputable def mergeRegion : Code := ((Tryz.f86.body.bind (regionAt 7)).getD .skip)
theorem zeros_row {w : World} {b : Nat} {u0 u1 u2 u3 u4 : Value} {t : TypeId} (hb : w.heap[b]? = some (.cells #[u0, u1, u2, u3, u4] t (0, 0))) {w' : World} (h : Below w.heap.size w w') : w'.heap[b]? = some (.cells #[u0, u1, u2, u3, u4] t (0, 0)) :=
  (h.block b (Array.getElem?_eq_some_iff.1 hb).1).trans hb
/-- The object has been made, its box ahead of a row .. -/
theorem RS.finS {w1 w4 w5 : World} {Q bk bl : Nat} {L : List V} {qs : List (Value × Value)} {ks : List ByteArray} {lvv kvv : Value} (hk : OwnKeys w4 bk kvv ks) (hbk : w1.heap.size ≤ bk) (hl : w5.ownsRow bl 27 5 lvv L.length (flat5 L qs)) (hbl : w4.heap.size ≤ bl) (h45 : Below w4.heap.size w4 w5) (h14 : Below w1.heap.size w1 w4) (hps : qs.length = L.length)
    (hz : w5.heap[Q]? = some (.cells #[.int .i64 0, .float .f64 0, .string ⟨#[]⟩, .slice none 0 0, .slice none 0 0] 27 (0, 0))) (hQ : (w1.heap.size ≤ Q ∧ Q < bk ∧ Q < w4.heap.size) ∨ (w4.heap.size ≤ Q ∧ Q < bl)) : RS w1 Q L qs ks lvv kvv (set5 w5 Q (.int .i64 6) (.float .f64 0) (.string ⟨#[]⟩) lvv kvv) := by
  have s1 := h14.size
  have s2 := h45.size
  have hkb : ∀ g, kvv.ownBlock = some g → bk ≤ g ∧ g < w4.heap.size := fun g hg => hk.lt g hg
  have hlb : ∀ g, lvv.ownBlock = some g → bl ≤ g ∧ g < w5.heap.size := fun g hg => hl.lt g hg
  have h2 : some Q ≠ lvv.ownBlock := fun e => by have := hlb Q e.symm; omega
  have h3 : some Q ≠ kvv.ownBlock := fun e => by have := hkb Q e.symm; omega
  refine ⟨by omega, set5_row hz .., hps, own_base (own_keepM hl fun g hg => set5_other (fun e => h2 (by rw [← e]; exact hg.symm)) ..) (by omega), own_base (own_keepM (own_belowV hk h45) fun g hg => set5_other (fun e => h3 (by rw [← e]; exact hg.symm)) ..) hbk, fun g hg e => ?_, h2, h3, set5_belowM (h14.trans (h45.mono s1)) (by omega) ..⟩
  have := hkb g hg
  have := hlb g e.symm
  omega
/-- .. behind both. -/
theorem RS.finA {w1 w4 w5 : World} {bk bl : Nat} {L : List V} {qs : List (Value × Value)} {ks : List ByteArray} {lvv kvv : Value} (hk : OwnKeys w4 bk kvv ks) (hbk : w1.heap.size ≤ bk) (hl : w5.ownsRow bl 27 5 lvv L.length (flat5 L qs)) (hbl : w4.heap.size ≤ bl) (h45 : Below w4.heap.size w4 w5) (h14 : Below w1.heap.size w1 w4) (hps : qs.length = L.length) :
    RS w1 w5.heap.size L qs ks lvv kvv (w5.alloc (.cells #[.int .i64 6, .float .f64 0, .string ⟨#[]⟩, lvv, kvv] 27)) := by
  have s1 := h14.size
  have s2 := h45.size
  have hkb : ∀ g, kvv.ownBlock = some g → bk ≤ g ∧ g < w4.heap.size := fun g hg => hk.lt g hg
  have hlb : ∀ g, lvv.ownBlock = some g → bl ≤ g ∧ g < w5.heap.size := fun g hg => hl.lt g hg
  have hal : ∀ {e : TypeId} {size n b : Nat} {u : Value} {xs : List Value}, w5.ownsRow b e size u n xs → (w5.alloc (.cells #[.int .i64 6, .float .f64 0, .string ⟨#[]⟩, lvv, kvv] 27)).ownsRow b e size u n xs := fun h => own_belowV h ((Below.refl _ _).alloc (Nat.le_refl _) _)
  refine ⟨by omega, heap_alloc_new w5 _, hps, own_base (hal hl) (by omega), own_base (hal (own_belowV hk h45)) hbk, fun g hg e => ?_, fun e => ?_, fun e => ?_, (h14.trans (h45.mono s1)).alloc (by omega) _⟩
  · have := hkb g hg
    have := hlb g e.symm
    omega
  · have := hlb _ e.symm
    omega
  · have := hkb _ e.symm
    omega
/-- The object has been made. -/
theorem RS.made {w1 W : World} {Q : Nat} {L : List V} {qs : List (Value × Value)} {ks : List ByteArray} {lv kv : Value} (hQ : w1.heap.size ≤ Q) (hP : W.heap[Q]? = some (.cells #[.int .i64 6, .float .f64 0, .string ⟨#[]⟩, lv, kv] 27 (0, 0))) (hl : qs.length = L.length)
    (hlown : W.ownsRow w1.heap.size 27 5 lv L.length (flat5 L qs)) (hkown : W.ownsRow w1.heap.size 9 1 kv ks.length (ks.map Value.string)) (h1 : ∀ g, kv.ownBlock = some g → some g ≠ lv.ownBlock) (h2 : some Q ≠ lv.ownBlock) (h3 : some Q ≠ kv.ownBlock) (hb : Below w1.heap.size w1 W) : RS w1 Q L qs ks lv kv W :=
  ⟨hQ, hP, hl, hlown, hkown, h1, h2, h3, hb⟩
set_option maxRecDepth 1000000 in
set_option maxHeartbeats 3000000 in
theorem merge_region (w1 : World) (X : Nat) (a : V) (_m B0 : Nat) (la : Option Addr) (lc : Nat) (kv : Value) (ps : List (Value × Value)) (b o : Nat) (k0 f0 s0 : Value) (hX : w1.heap[X]? = some (.cells #[k0, f0, s0, .slice la a.l.length lc, kv] 27 (0, 0)))
    (hps : ps.length = a.l.length) (hpsl : ∀ i (h : i < ps.length), ∃ A n c A' n' c', ps[i].1 = .slice A n c ∧ ps[i].2 = .slice A' n' c') (hl : a.l.length ≤ 1048576) (hk : a.ks.length ≤ 1048576) (hcap : Caps (.slice la a.l.length lc)) (hab : 0 < a.l.length → la = some ⟨b, o, none⟩ ∧ b < B0) (hB0 : B0 ≤ w1.heap.size)
    (h5 : ∀ i (h : i < a.l.length) (h2 : i < ps.length), FiveAt w1 b (o + i * 5) a.l[i] ps[i].1 ps[i].2) (hka : KeysAt w1 B0 kv a.ks) (c0 c1 c2 c4 c5 c6 c7 c8 c9 c10 c11 c12 c13 c14 c15 c16 c17 c18 c19 c20 c21 c22 c23 c24 c25 c26 c27 c28 c29 c30 c31 c32 c33 c34 c35 c36 c37 c38 c39 c40 c41 c42 c43 c44 c45 c46 c47 c48 c49 c50 c51 c52 c53 c54 c55 c56 c57 c58 c59 c60 c61 c62 c63 c64 c65 c66 c67 c68 c69 c70 c71 c72 c73 c74 c75 c76 c77 c78 c79 c80 c81 c82 c83 c84 c85 c86 : Value) :
    Code.wp Tryz.prog mergeRegion (Exit.then (fun x w => ∃ (Q : Nat) (lvv kvv : Value), x = ⟨#[c0, c1, c2, .pointer (some ⟨X, 0, none⟩), c4, c5, c6, c7, c8, c9, .pointer (some ⟨Q, 0, none⟩), c11, c12, c13, c14, c15, c16, c17, c18, c19, c20, c21, c22, c23, c24, c25, c26, c27, c28, c29, c30, .pointer (some ⟨X, 4, none⟩), kv, kvv, .pointer (some ⟨X, 3, none⟩), .slice la a.l.length lc, lvv, .agg #[.int .i64 6, .float .f64 0, .string ⟨#[]⟩, lvv, kvv], c38, c39, c40, c41, c42, c43, c44, c45, c46, c47, c48, c49, c50, c51, c52, c53, c54, c55, c56, c57, c58, c59, c60, c61, c62, c63, c64, c65, c66, c67, c68, c69, c70, c71, c72, c73, c74, c75, c76, c77, c78, c79, c80, c81, c82, c83, c84, c85, c86], []⟩ ∧ RS w1 Q a.l ps a.ks lvv kvv w) (fun _ _ _ => False)) ⟨#[c0, c1, c2, .pointer (some ⟨X, 0, none⟩), c4, c5, c6, c7, c8, c9, c10, c11, c12, c13, c14, c15, c16, c17, c18, c19, c20, c21, c22, c23, c24, c25, c26, c27, c28, c29, c30, c31, c32, c33, c34, c35, c36, c37, c38, c39, c40, c41, c42, c43, c44, c45, c46, c47, c48, c49, c50, c51, c52, c53, c54, c55, c56, c57, c58, c59, c60, c61, c62, c63, c64, c65, c66, c67, c68, c69, c70, c71, c72, c73, c74, c75, c76, c77, c78, c79, c80, c81, c82, c83, c84, c85, c86], []⟩ w1 := by
  have hsf := run_store_float Tryz.prog
  have hck : ∀ W, Below w1.heap.size w1 W → Calls Tryz.prog 96 #[kv] W fun e w' => ∃ v', e = .returned v' ∧ OwnKeys w' W.heap.size v' a.ks ∧ Below W.heap.size W w' := fun W hW => Clone_keys a.ks kv W hk (((hka.more hB0).below hW).more hW.size)
  have hcv : ∀ W, Below w1.heap.size w1 W → Calls Tryz.prog 58 #[.slice la a.l.length lc] W fun e w' => ∃ v', e = .returned v' ∧ w'.ownsRow W.heap.size 27 5 v' a.l.length (flat5 a.l ps) ∧ Below W.heap.size W w' := fun W hW =>
    CloneV_any a.l ps hps hpsl hl la lc b o W hcap (fun h => (hab h).1) (fun i h1 h2 => (h5 i h1 h2).keep (hab (by omega)).2 (fun p hp => hW.cell (by omega))) (fun h => by have := (hab h).2; have := hW.size; omega)
  obtain ⟨A2, ad2, c2, rfl, _, _⟩ := hka.1.dest
  rw [List.length_map] at *
  have HCK := Lib.hid hck
  have HCV := Lib.hid hcv
  have HX := Lib.hid hX
  have hlt : X < w1.heap.size := (Array.getElem?_eq_some_iff.1 hX).1
  have H0 : Hid (Below w1.heap.size w1 w1.drew) := Lib.hid (Below.refl _ _).drew
  obtain ⟨x0, x1, x2, x3, x4⟩ := row5q hX
  have y3 : ∀ u, (w1.drew.alloc u).cell? ⟨X, 3, none⟩ = some (.slice la a.l.length lc) := fun u => (cell_old (w := w1.drew) hlt).trans x3
  have y4 : ∀ u, (w1.drew.alloc u).cell? ⟨X, 4, none⟩ = some (.slice A2 a.ks.length c2) := fun u => (cell_old (w := w1.drew) hlt).trans x4
  clear hck hcv h5 hka hX hpsl hcap hab
  conv => arg 2; whnf
  go_region_law ((first
    | (go_simp; go_at_call 58; (refine (HCV.out _ (by first | exact B4.out | exact B4.out.drew | exact B4.out.alloc B4.out.size _ | exact (B4.out.alloc B4.out.size _).drew)).mono ?_); rintro e w5 ⟨lvv, rfl, hlown, hb5⟩; obtain ⟨Al, cl, rfl⟩ := own_slC hlown; have HB45 : Below w4.heap.size w4 w5 := (by first | exact hb5 | exact (((Below.refl w4.heap.size w4).alloc (Nat.le_refl _) _).trans (hb5.mono (by simp)))); (first | (have q5a := (hb5.block w1.heap.size (by have := (Array.getElem?_eq_some_iff.1 q4).1; first | exact this | (show w1.heap.size < (w4.alloc _).heap.size; simp; omega))).trans q4; obtain ⟨z0, z1, z2, z3, z4, e0, e1, e2, e3, e4⟩ := row5 q5a) | (have q5b : w5.heap[w4.heap.size]? = some (.cells #[.int .i64 0, .float .f64 0, .string ⟨#[]⟩, .slice none 0 0, .slice none 0 0] 27 (0, 0)) := (hb5.block _ (by show w4.heap.size < (w4.alloc _).heap.size; simp)).trans (heap_alloc_new w4 _); obtain ⟨z0, z1, z2, z3, z4, e0, e1, e2, e3, e4⟩ := row5 q5b) | skip))
    | (go_simp; go_at_call 96; (refine (HCK.out _ (by first | exact H0.out | exact H0.out.alloc H0.out.size _ | exact ((Below.refl w1.heap.size w1).alloc (Nat.le_refl _) _).drew)).mono ?_); rintro e w4 ⟨kvv, rfl, hkown, hb4⟩; obtain ⟨Ak, ck, rfl⟩ := own_slC hkown; have B4 := Lib.hid (show Below w1.heap.size w1 w4 from by first | exact H0.out.trans (hb4.mono H0.out.size) | exact (H0.out.alloc H0.out.size _).trans (hb4.mono (by simp)) | exact ((Below.refl w1.heap.size w1).alloc (Nat.le_refl _) _).drew.trans (hb4.mono (by show w1.heap.size ≤ (w1.alloc _).heap.size; simp))); have x3 := (B4.out.cell (p := ⟨X, 3, none⟩) hlt).trans x3; have y5 := fun u => (cell_old (w := w4) (o := u) (p := ⟨X, 3, none⟩) (by have := B4.out.size; show X < w4.heap.size; omega)).trans x3; try (have q4 : w4.heap[w1.heap.size]? = some (.cells #[.int .i64 0, .float .f64 0, .string ⟨#[]⟩, .slice none 0 0, .slice none 0 0] 27 (0, 0)) := (hb4.block _ (by show w1.heap.size < (w1.alloc _).heap.size; simp)).trans (heap_alloc_new w1 _)))))
  all_goals
    first
      | (have hq := q5a
         exact ⟨w1.heap.size, _, _, rfl, RS.finS hkown (by simp) hlown (by simp) HB45 B4.out hps hq (Or.inl ⟨Nat.le_refl _, by simp, (Array.getElem?_eq_some_iff.1 q4).1⟩)⟩)
      | (have hq := q5b
         exact ⟨w4.heap.size, _, _, rfl, RS.finS hkown (by simp) hlown (by simp) HB45 B4.out hps hq (Or.inr ⟨Nat.le_refl _, by simp⟩)⟩)
      | exact ⟨_, _, _, rfl, RS.finA hkown (by simp) hlown (Nat.le_refl _) HB45 B4.out hps⟩
end Go.Proofs.YtdlighmnlcklnaaGreatDoor
