/- The program's product: objects merged, level by level. -/
import Derived.Test.YtdlighmnlcklnaaGreatDoorMWalkP
import Derived.Test.YtdlighmnlcklnaaGreatDoorUHeadsD
namespace Go.Proofs.YtdlighmnlcklnaaGreatDoor
open Go Go.RowKit

def prodV : Nat → V → V → V
  | 0, _, y => y
  | m + 1, a, b => mergeV (fun x y => if x.k = 6 ∧ y.k = 6 then prodV m x y else y) a b
/-- What stands where both have a key. -/
def jn (m : Nat) (x y : V) : V := if x.k = 6 ∧ y.k = 6 then prodV m x y else y
theorem prodV_is (m : Nat) (a b : V) : prodV (m + 1) a b = mergeV (jn m) a b := rfl
/-- Objects have a key for each value, and none twice; so within. -/
def okO : Nat → V → Prop
  | 0, _ => True
  | m + 1, v => (v.k = 6 → v.ks.Nodup ∧ v.ks.length = v.l.length ∧ v.f = 0 ∧ v.s = ⟨#[]⟩) ∧ ∀ x ∈ v.l, okO m x
/-- No level is too great. -/
def Smalls : Nat → V → Prop
  | 0, _ => True
  | m + 1, v => Small v ∧ ∀ x ∈ v.l, Smalls m x
theorem merge_met (J : V → V → V) {a b : V} (hna : a.ks.Nodup) (hnb : b.ks.Nodup) (hla : a.ks.length = a.l.length) (hlb : b.ks.length = b.l.length) {i j : Nat} (hi : i < a.l.length) (hj : j < b.l.length) (e : a.ks[i]? = b.ks[j]?) : J a.l[i] b.l[j] ∈ (mergeV J a b).l := by
  have h := mt_any J hna hnb hla hlb b.ks.length (Nat.le_refl _)
  rw [List.getElem?_eq_getElem (by omega), List.getElem?_eq_getElem (by omega)] at e
  obtain ⟨x, y, h1, h2, h3⟩ := h.met i j (by omega) (by omega) (by omega) (Option.some.inj e)
  rw [List.getElem?_eq_getElem hi] at h1
  rw [List.getElem?_eq_getElem hj] at h2
  rw [Option.some.inj h1, Option.some.inj h2]
  exact List.mem_of_getElem? h3
def ProdC (m : Nat) : Prop := ∀ (a b : V) (la ka lb kb : Value) (B0 : Nat) (w : World), B0 ≤ w.heap.size → At w B0 m a la ka → At w B0 m b lb kb → okO m a → okO m b → a.k = 6 → b.k = 6 → Smalls m (prodV m a b) →
  Calls Tryz.prog 91 #[.agg (cellsV a la ka), .agg (cellsV b lb kb)] w fun e w' => ∃ lv kv, e = .returned (.agg (cellsV (prodV m a b) lv kv)) ∧ AtN w' B0 w.heap.size m (prodV m a b) lv kv ∧ Below w.heap.size w w'
theorem AtN.later {w : World} {B0 B1 B2 m : Nat} {v : V} {lv kv : Value} (h : AtN w B0 B1 m v lv kv) (hB : B2 ≤ B1) : AtN w B0 B2 m v lv kv :=
  AtP.more (fun b q => by rcases q with q | q; exact Or.inl q; exact Or.inr ⟨by omega, q.2⟩) _ _ _ _ h
set_option maxRecDepth 100000 in
set_option maxHeartbeats 4000000 in
theorem prod1_any (m : Nat) (ih : ProdC m) (x y : V) (lx kx ly ky : Value) (B0 : Nat) (w : World) (hB0 : B0 ≤ w.heap.size) (hx : At w B0 m x lx kx) (hy : At w B0 m y ly ky) (ox : okO m x) (oy : okO m y) (hS : x.k = 6 → y.k = 6 → Smalls m (prodV m x y)) :
    Calls Tryz.prog 126 #[.agg (cellsV x lx kx), .agg (cellsV y ly ky)] w fun e w' => ∃ lv kv, e = .returned (.agg (cellsV (jn m x y) lv kv)) ∧ AtN w' B0 w.heap.size m (jn m x y) lv kv ∧ Below w.heap.size w w' := by
  have hsf := run_store_float Tryz.prog
  have hih := fun W (hW : Below w.heap.size w W) (h1 : x.k = 6) (h2 : y.k = 6) => ih x y lx kx ly ky B0 W (Nat.le_trans hB0 hW.size) (At.keep (fun p hp => hW.cell (by omega)) _ _ _ _ hx) (At.keep (fun p hp => hW.cell (by omega)) _ _ _ _ hy) ox oy h1 h2 (hS h1 h2)
  have hyk := fun W (hW : Below w.heap.size w W) => At.keep (w := w) (w' := W) (B := B0) (fun p hp => hW.cell (by omega)) _ _ _ _ hy
  obtain ⟨a1, n1, c1, a2, n2, c2, rfl, rfl⟩ := hx.slices
  obtain ⟨a3, n3, c3, a4, n4, c4, rfl, rfl⟩ := hy.slices
  unfold cellsV at hih ⊢
  have HIH := Lib.hid hih
  have HYK := Lib.hid hyk
  clear hih hx hy ox oy hS hyk ih
  go_enter Tryz.func126, Tryz.ntmps126
  go_wp2_with fail
  obtain ⟨r0, r1, r2, hz0, hb0⟩ := threeM w (.cells #[.int .i64 x.k, .float .f64 x.f, .string x.s, .slice a1 n1 c1, .slice a2 n2 c2] 27) (.cells #[.int .i64 y.k, .float .f64 y.f, .string y.s, .slice a3 n3 c3, .slice a4 n4 c4] 27) (.cells #[.int .i64 0, .float .f64 0, .string ⟨#[]⟩, .slice none 0 0, .slice none 0 0] 27)
  generalize (((w.alloc (.cells #[.int .i64 x.k, .float .f64 x.f, .string x.s, .slice a1 n1 c1, .slice a2 n2 c2] 27)).alloc (.cells #[.int .i64 y.k, .float .f64 y.f, .string y.s, .slice a3 n3 c3, .slice a4 n4 c4] 27)).alloc (.cells #[.int .i64 0, .float .f64 0, .string ⟨#[]⟩, .slice none 0 0, .slice none 0 0] 27)) = W0 at r0 r1 r2 hz0 hb0 ⊢
  refine (both_any 6 x.k y.k x.f y.f x.s y.s a1 a2 a3 a4 n1 n2 n3 n4 c1 c2 c3 c4 W0).mono ?_
  rintro e w1 ⟨rfl, hb1⟩
  have r0 := (hb1.block _ (by omega)).trans r0
  have r1 := (hb1.block _ (by omega)).trans r1
  have r2 := (hb1.block _ (by omega)).trans r2
  have hb01 := hb0.trans (hb1.mono hb0.size)
  have hz1 : w.heap.size + 1 + 1 + 1 ≤ w1.heap.size := by have := hb1.size; omega
  clear hz0 hb0 hb1
  have R2 := Lib.hid r2
  have B1 := Lib.hid hb01
  obtain ⟨x0, x1, x2, x3, x4⟩ := row5q r0
  obtain ⟨y0, y1, y2, y3, y4⟩ := row5q r1
  clear r0 r1 r2 hb01
  by_cases hk : x.k = 6 ∧ y.k = 6
  · have hbb : (x.k == 6 && y.k == 6) = true := by simp [hk]
    have hj : jn m x y = prodV m x y := if_pos hk
    have hcall := HIH.out w1 B1.out hk.1 hk.2
    obtain ⟨r, hr⟩ : ∃ r, prodV m x y = r := ⟨_, rfl⟩
    rw [hr] at hj
    simp only [hr] at hcall
    have HJ := Lib.hid hj
    clear hr
    have HC := Lib.hid hcall
    clear hj hcall
    rw [hbb]
    clear hbb hk
    go_wp2_with fail
    refine HC.out.mono ?_
    rintro e w2 ⟨lv, kv, rfl, hat, hb2⟩
    obtain ⟨p1, p2, p3, p4, p5, p6, rfl, rfl⟩ := AtP.slices hat
    have r2 := (hb2.block _ (by omega)).trans R2.out
    have RR := Lib.hid r2
    have HAT := Lib.hid hat
    have B2 := Lib.hid (B1.out.trans (hb2.mono B1.out.size))
    obtain ⟨u0, u1, u2, u3, u4, v0, v1, v2, v3, v4⟩ := row5 r2
    clear x0 x1 x2 x3 x4 y0 y1 y2 y3 y4 r2 hat hb2
    go_wp2_with fail
    refine bodyPost_ret_by (results_cell_row rfl _ _ (w.heap.size + 1 + 1) 27 _ (0, 0) _ rfl (set5_row RR.out (.int .i64 r.k) (.float .f64 r.f) (.string r.s) (.slice p1 p2 p3) (.slice p4 p5 p6)) Tryz.underlying27 rfl sizeValM) rfl ?_
    rw [HJ.out]
    exact ⟨_, _, rfl, (AtN.keep HAT.out (by rw [set5_size]; exact Nat.le_refl _) (fun b q => set5_other (by rcases q with q | q <;> omega) ..)).later (by omega), set5_belowM B2.out (by omega) ..⟩
  · have hbb : (x.k == 6 && y.k == 6) = false := by
      rcases Decidable.em (x.k = 6) with h | h
      · have : ¬ y.k = 6 := fun q => hk ⟨h, q⟩
        simp [h, this]
      · simp [h]
    have hj : jn m x y = y := if_neg hk
    have HJ := Lib.hid hj
    have HYW := Lib.hid (HYK.out w1 B1.out)
    clear hj
    rw [hbb]
    clear hbb hk
    obtain ⟨u0, u1, u2, u3, u4, v0, v1, v2, v3, v4⟩ := row5 R2.out
    go_wp2_with fail
    refine bodyPost_ret_by (results_cell_row rfl _ _ (w.heap.size + 1 + 1) 27 _ (0, 0) _ rfl (set5_row R2.out (.int .i64 y.k) (.float .f64 y.f) (.string y.s) (.slice a3 n3 c3) (.slice a4 n4 c4)) Tryz.underlying27 rfl sizeValM) rfl ?_
    rw [HJ.out]
    exact ⟨_, _, rfl, AtN.of_at (At.keep (fun p hp => cell_of_block (set5_other (by omega) ..)) _ _ _ _ HYW.out), set5_belowM B1.out (by omega) ..⟩
set_option maxRecDepth 100000 in
set_option maxHeartbeats 4000000 in
theorem product_any (m : Nat) : ProdC m := by
  induction m with
  | zero => intro a b la ka lb kb B0 w _ h; exact h.elim
  | succ m ih =>
    intro a b la ka lb kb B0 w hB0 ha hb oa ob hka hkb hS
    obtain ⟨hna, hla, -, -⟩ := oa.1 hka
    obtain ⟨hnb, hlb, -, -⟩ := ob.1 hkb
    have hsf := run_store_float Tryz.prog
    have hmg := fun W (hW : Below w.heap.size w W) => mergeP_any (jn m) a b m B0 la ka lb kb W (Nat.le_trans hB0 hW.size) (At.keep (fun p hp => hW.cell (by omega)) _ _ _ _ ha) (At.keep (fun p hp => hW.cell (by omega)) _ _ _ _ hb) hna hla hlb hS.1
      (fun W2 hW2 i j hi hj lx kx ly ky e h1 h2 => prod1_any m ih a.l[i] b.l[j] lx kx ly ky B0 W2 (Nat.le_trans (Nat.le_trans hB0 hW.size) hW2.size) h1 h2 (oa.2 _ (List.getElem_mem _)) (ob.2 _ (List.getElem_mem _)) (fun k1 k2 => by
        have := hS.2 _ (merge_met (jn m) hna hnb hla hlb hi hj e)
        unfold jn at this
        rw [if_pos ⟨k1, k2⟩] at this
        exact this))
    rw [prodV_is]
    obtain ⟨r, hr⟩ : ∃ r, mergeV (jn m) a b = r := ⟨_, rfl⟩
    simp only [hr] at hmg ⊢
    clear hr hS
    obtain ⟨a1, n1, c1, a2, n2, c2, rfl, rfl⟩ := ha.slices
    obtain ⟨a3, n3, c3, a4, n4, c4, rfl, rfl⟩ := hb.slices
    unfold cellsV at hmg ⊢
    have HMG := Lib.hid hmg
    clear hmg ha hb oa ob ih hka hkb hna hla hnb hlb
    go_enter Tryz.func91, Tryz.ntmps91
    go_wp2_with fail
    obtain ⟨r0, r1, r2, hz0, hb0⟩ := threeM w (.cells #[.int .i64 a.k, .float .f64 a.f, .string a.s, .slice a1 n1 c1, .slice a2 n2 c2] 27) (.cells #[.int .i64 b.k, .float .f64 b.f, .string b.s, .slice a3 n3 c3, .slice a4 n4 c4] 27) (.cells #[.int .i64 0, .float .f64 0, .string ⟨#[]⟩, .slice none 0 0, .slice none 0 0] 27)
    generalize (((w.alloc (.cells #[.int .i64 a.k, .float .f64 a.f, .string a.s, .slice a1 n1 c1, .slice a2 n2 c2] 27)).alloc (.cells #[.int .i64 b.k, .float .f64 b.f, .string b.s, .slice a3 n3 c3, .slice a4 n4 c4] 27)).alloc (.cells #[.int .i64 0, .float .f64 0, .string ⟨#[]⟩, .slice none 0 0, .slice none 0 0] 27)) = W0 at r0 r1 r2 hz0 hb0 ⊢
    refine (HMG.out W0 hb0).mono ?_
    rintro e w2 ⟨lv, kv, rfl, hat, hb2⟩
    obtain ⟨p1, p2, p3, p4, p5, p6, rfl, rfl⟩ := AtP.slices hat
    have r2 := (hb2.block _ (by omega)).trans r2
    have RR := Lib.hid r2
    have HAT := Lib.hid hat
    have B2 := Lib.hid (hb0.trans (hb2.mono hb0.size))
    obtain ⟨u0, u1, u2, u3, u4, v0, v1, v2, v3, v4⟩ := row5 r2
    clear r0 r1 r2 hat hb2 hb0
    go_wp2_with fail
    refine bodyPost_ret_by (results_cell_row rfl _ _ (w.heap.size + 1 + 1) 27 _ (0, 0) _ rfl (set5_row RR.out (.int .i64 r.k) (.float .f64 r.f) (.string r.s) (.slice p1 p2 p3) (.slice p4 p5 p6)) Tryz.underlying27 rfl sizeValM) rfl ?_
    exact ⟨_, _, rfl, (AtN.keep HAT.out (by rw [set5_size]; exact Nat.le_refl _) (fun b q => set5_other (by rcases q with q | q <;> omega) ..)).later (by omega), set5_belowM B2.out (by omega) ..⟩
end Go.Proofs.YtdlighmnlcklnaaGreatDoor
