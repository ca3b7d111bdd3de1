/- Two objects multiplied by the program's Operate. -/
import Derived.Test.YtdlighmnlcklnaaGreatDoorMProd
import Derived.Test.YtdlighmnlcklnaaGreatDoorUBulk
namespace Go.Proofs.YtdlighmnlcklnaaGreatDoor
open Go Go.RowKit

/-- The value that stands beside an error. -/
def noV : V := .mk 0 0 ⟨#[]⟩ [] []
/-- What a call that may refuse answers: a value that lies below B0 or from N on, or an error's text. -/
def OutP (B0 N m : Nat) (o : Option V) (txt : ByteArray) (e : Ending) (w' : World) : Prop :=
  ∃ (v : V) (lv kv : Value) (bb : Bool) (k' : Int) (s' : ByteArray), e = .returned (.tuple #[.agg (cellsV v lv kv), .agg #[.bool bb, .int .i64 k', .float .f64 0, .string s', .slice none 0 0, .slice none 0 0]]) ∧ AtN w' B0 N m v lv kv ∧
    ((o = some v ∧ bb = false ∧ k' = 0 ∧ s' = ⟨#[]⟩) ∨ (o = none ∧ v = noV ∧ bb = true ∧ k' = 4 ∧ s' = txt))
theorem noV_at (w : World) (p : Nat → Prop) (m : Nat) : AtP w p (m + 1) noV (.slice none 0 0) (.slice none 0 0) := leaf_atP w p m 0 0 ⟨#[]⟩ (by omega) (by omega) (by decide)
def largeT : ByteArray := ⟨#[118, 97, 108, 117, 101, 32, 105, 115, 32, 116, 111, 111, 32, 108, 97, 114, 103, 101]⟩
set_option maxRecDepth 100000 in
set_option maxHeartbeats 1000000 in
theorem tooLarge_any (w : World) : Calls Tryz.prog 115 #[] w fun e w' => e = .returned (.tuple #[.agg zeroA, .agg (errA largeT)]) ∧ Below w.heap.size w w' := by
  have hsf := run_store_float Tryz.prog
  have hf := fun W => failed_any largeT W
  unfold largeT zeroA errA at hf ⊢
  have HF := Lib.hid hf
  clear hf
  go_enter Tryz.func115, Tryz.ntmps115
  go_wp2_with fail
  obtain ⟨q1, q2⟩ := two_new w (.cells zeroA 27) (.cells okA 31)
  have hb : Below w.heap.size w ((w.alloc (.cells zeroA 27)).alloc (.cells okA 31)) := ((Below.refl w.heap.size w).alloc (Nat.le_refl _) _).alloc (by simp) _
  have hz : w.heap.size + 2 = ((w.alloc (.cells zeroA 27)).alloc (.cells okA 31)).heap.size := by simp
  unfold zeroA okA at q1 q2 hb hz
  generalize (w.alloc (.cells #[.int .i64 0, .float .f64 0, .string ⟨#[]⟩, .slice none 0 0, .slice none 0 0] 27)).alloc (.cells #[.bool false, .int .i64 0, .float .f64 0, .string ⟨#[]⟩, .slice none 0 0, .slice none 0 0] 31) = W0 at q1 q2 hb hz ⊢
  refine (HF.out W0).mono ?_
  rintro e w1 ⟨rfl, hb1⟩
  have q1 := (hb1.block _ (by omega)).trans q1
  have q2 := (hb1.block _ (by omega)).trans q2
  have hb := hb.trans (hb1.mono hb.size)
  have Q1 := Lib.hid q1
  have Q2 := Lib.hid q2
  have B1 := Lib.hid hb
  obtain ⟨u0, u1, u2, u3, u4, d0, d1, d2, d3, d4⟩ := row5 q1
  obtain ⟨v0, v1, v2, v3, v4, v5⟩ := row6' q2
  have hfz : ∀ q, w1.frozen? ⟨w.heap.size + 1, q, none⟩ = false := fun q => by simp [World.frozen?, q2]
  clear hb1 hz hb q1 q2
  go_wp2_with fail
  refine bodyPost_ret_by (results_two_rows rfl _ _ w.heap.size (w.heap.size + 1) 27 31 _ _ (0, 0) (0, 0) _ _ rfl rfl ((set6_other (show w.heap.size ≠ w.heap.size + 1 by omega) ..).trans (set5_row Q1.out (.int .i64 0) (.float .f64 0) (.string ⟨#[]⟩) (.slice none 0 0) (.slice none 0 0))) (set6_row ((set5_other (show w.heap.size + 1 ≠ w.heap.size by omega) ..).trans Q2.out) (.bool true) (.int .i64 4) (.float .f64 0) (.string ⟨#[118, 97, 108, 117, 101, 32, 105, 115, 32, 116, 111, 111, 32, 108, 97, 114, 103, 101]⟩) (.slice none 0 0) (.slice none 0 0)) Tryz.underlying27 rfl sizeVal Tryz.underlying31 rfl infoErr) rfl ?_
  exact ⟨rfl, set6_below (set5_below0 B1.out (Nat.le_refl _) ..) (by omega) ..⟩
set_option maxRecDepth 100000 in
set_option maxHeartbeats 4000000 in
theorem unlessLarge_any (v : V) (m B0 N : Nat) (lv kv : Value) (w : World) (hB0 : B0 ≤ w.heap.size) (h : AtN w B0 N (m + 1) v lv kv) :
    Calls Tryz.prog 84 #[.agg (cellsV v lv kv)] w fun e w' => OutP B0 N (m + 1) (if largeV (m + 1) v then none else some v) largeT e w' ∧ Below w.heap.size w w' := by
  have hsf := run_store_float Tryz.prog
  have hlg := fun W (hW : Below w.heap.size w W) => Large_any (m + 1) v lv kv W (AtN.to_at (h.below hB0 hW) (Nat.le_trans hB0 hW.size))
  have hkeep := fun (W : World) (hs : w.heap.size ≤ W.heap.size) (hk : ∀ b, b < w.heap.size → W.heap[b]? = w.heap[b]?) => h.keep hs (fun b q => hk b (by rcases q with q | q <;> omega))
  have htl := tooLarge_any
  obtain ⟨a1, n1, c1, a2, n2, c2, rfl, rfl⟩ := AtP.slices h
  obtain ⟨r, hr⟩ : ∃ r, largeV (m + 1) v = r := ⟨_, rfl⟩
  rw [hr] at hlg ⊢
  unfold cellsV at hlg ⊢
  unfold zeroA errA at htl
  have HL := Lib.hid hlg
  have HK := Lib.hid hkeep
  have HT := Lib.hid htl
  clear hlg h hkeep htl hr
  go_enter Tryz.func84, Tryz.ntmps84
  go_wp2_with fail
  have hr0 := row_alloc3 (row_alloc3 (heap_alloc_new w (.cells #[.int .i64 v.k, .float .f64 v.f, .string v.s, .slice a1 n1 c1, .slice a2 n2 c2] 27)) (.cells #[.int .i64 0, .float .f64 0, .string ⟨#[]⟩, .slice none 0 0, .slice none 0 0] 27)) (.cells #[.bool false, .int .i64 0, .float .f64 0, .string ⟨#[]⟩, .slice none 0 0, .slice none 0 0] 31)
  obtain ⟨_, r1, r2, hz0, hb0⟩ := threeM w (.cells #[.int .i64 v.k, .float .f64 v.f, .string v.s, .slice a1 n1 c1, .slice a2 n2 c2] 27) (.cells #[.int .i64 0, .float .f64 0, .string ⟨#[]⟩, .slice none 0 0, .slice none 0 0] 27) (.cells #[.bool false, .int .i64 0, .float .f64 0, .string ⟨#[]⟩, .slice none 0 0, .slice none 0 0] 31)
  generalize (((w.alloc (.cells #[.int .i64 v.k, .float .f64 v.f, .string v.s, .slice a1 n1 c1, .slice a2 n2 c2] 27)).alloc (.cells #[.int .i64 0, .float .f64 0, .string ⟨#[]⟩, .slice none 0 0, .slice none 0 0] 27)).alloc (.cells #[.bool false, .int .i64 0, .float .f64 0, .string ⟨#[]⟩, .slice none 0 0, .slice none 0 0] 31)) = W0 at hr0 r1 r2 hz0 hb0 ⊢
  refine (HL.out W0 hb0).mono ?_
  rintro e w1 ⟨rfl, hb1⟩
  have hr0 := (hb1.block _ (by omega)).trans hr0
  have r1 := (hb1.block _ (by omega)).trans r1
  have r2 := (hb1.block _ (by omega)).trans r2
  have hb0 := hb0.trans (hb1.mono hb0.size)
  have hz1 : w.heap.size + 1 + 1 + 1 ≤ w1.heap.size := by have := hb1.size; omega
  clear hz0 hb1
  cases r
  · have R1 := Lib.hid r1
    have R2 := Lib.hid r2
    have B1 := Lib.hid hb0
    obtain ⟨x0, x1, x2, x3, x4⟩ := row5q hr0
    obtain ⟨u0, u1, u2, u3, u4, d0, d1, d2, d3, d4⟩ := row5 r1
    obtain ⟨v0, v1, v2, v3, v4, v5⟩ := row6' r2
    have hfz : ∀ q, w1.frozen? ⟨w.heap.size + 1 + 1, q, none⟩ = false := fun q => by simp [World.frozen?, r2]
    clear hr0 r1 r2 hb0
    go_wp2_with fail
    have hend := set6_below (set5_belowM B1.out (show w.heap.size ≤ w.heap.size + 1 by omega) (.int .i64 v.k) (.float .f64 v.f) (.string v.s) (.slice a1 n1 c1) (.slice a2 n2 c2)) (show w.heap.size ≤ w.heap.size + 1 + 1 by omega) (.bool false) (.int .i64 0) (.float .f64 0) (.string ⟨#[]⟩) (.slice none 0 0) (.slice none 0 0)
    refine bodyPost_ret_by (results_two_rows rfl _ _ (w.heap.size + 1) (w.heap.size + 1 + 1) 27 31 _ _ (0, 0) (0, 0) _ _ rfl rfl ((set6_other (show w.heap.size + 1 ≠ w.heap.size + 1 + 1 by omega) ..).trans (set5_row R1.out (.int .i64 v.k) (.float .f64 v.f) (.string v.s) (.slice a1 n1 c1) (.slice a2 n2 c2))) (set6_row ((set5_other (show w.heap.size + 1 + 1 ≠ w.heap.size + 1 by omega) ..).trans R2.out) (.bool false) (.int .i64 0) (.float .f64 0) (.string ⟨#[]⟩) (.slice none 0 0) (.slice none 0 0)) Tryz.underlying27 rfl sizeVal Tryz.underlying31 rfl infoErr) rfl ?_
    exact ⟨⟨v, _, _, false, 0, ⟨#[]⟩, rfl, HK.out _ hend.size (fun b hb => hend.block b hb), Or.inl ⟨rfl, rfl, rfl, rfl⟩⟩, hend⟩
  · go_wp2_with fail
    refine (HT.out w1).mono ?_
    rintro e w2 ⟨rfl, hb2⟩
    have r1 := (hb2.block _ (by omega)).trans r1
    have r2 := (hb2.block _ (by omega)).trans r2
    have R1 := Lib.hid r1
    have R2 := Lib.hid r2
    have B1 := Lib.hid (hb0.trans (hb2.mono hb0.size))
    obtain ⟨u0, u1, u2, u3, u4, d0, d1, d2, d3, d4⟩ := row5 r1
    obtain ⟨v0, v1, v2, v3, v4, v5⟩ := row6' r2
    have hfz : ∀ q, w2.frozen? ⟨w.heap.size + 1 + 1, q, none⟩ = false := fun q => by simp [World.frozen?, r2]
    clear hr0 r1 r2 hb0 hb2
    go_wp2_with fail
    have hend := set6_below (set5_belowM B1.out (show w.heap.size ≤ w.heap.size + 1 by omega) (.int .i64 0) (.float .f64 0) (.string ⟨#[]⟩) (.slice none 0 0) (.slice none 0 0)) (show w.heap.size ≤ w.heap.size + 1 + 1 by omega) (.bool true) (.int .i64 4) (.float .f64 0) (.string largeT) (.slice none 0 0) (.slice none 0 0)
    refine bodyPost_ret_by (results_two_rows rfl _ _ (w.heap.size + 1) (w.heap.size + 1 + 1) 27 31 _ _ (0, 0) (0, 0) _ _ rfl rfl ((set6_other (show w.heap.size + 1 ≠ w.heap.size + 1 + 1 by omega) ..).trans (set5_row R1.out (.int .i64 0) (.float .f64 0) (.string ⟨#[]⟩) (.slice none 0 0) (.slice none 0 0))) (set6_row ((set5_other (show w.heap.size + 1 + 1 ≠ w.heap.size + 1 by omega) ..).trans R2.out) (.bool true) (.int .i64 4) (.float .f64 0) (.string largeT) (.slice none 0 0) (.slice none 0 0)) Tryz.underlying27 rfl sizeVal Tryz.underlying31 rfl infoErr) rfl ?_
    exact ⟨⟨noV, _, _, true, 4, largeT, rfl, noV_at _ _ m, Or.inr ⟨rfl, rfl, rfl, rfl, rfl⟩⟩, hend⟩
theorem ends_size (W : World) (n : Nat) (x0 x1 x2 x3 x4 y0 y1 y2 y3 y4 y5 : Value) : W.heap.size ≤ (set6 (set5 W (n + 2) x0 x1 x2 x3 x4) (n + 3) y0 y1 y2 y3 y4 y5).heap.size := by
  unfold set6
  simp [set5_size, World.setCell]
theorem ends_other {W : World} {n k : Nat} (h1 : k ≠ n + 2) (h2 : k ≠ n + 3) (x0 x1 x2 x3 x4 y0 y1 y2 y3 y4 y5 : Value) : (set6 (set5 W (n + 2) x0 x1 x2 x3 x4) (n + 3) y0 y1 y2 y3 y4 y5).heap[k]? = W.heap[k]? := (set6_other h2 ..).trans (set5_other h1 ..)
theorem ends2_size (W : World) (n : Nat) (x0 x1 x2 x3 x4 y0 y1 y2 y3 y4 y5 : Value) : W.heap.size ≤ (set5 (set6 W (n + 3) y0 y1 y2 y3 y4 y5) (n + 2) x0 x1 x2 x3 x4).heap.size := by
  rw [set5_size]
  unfold set6
  simp [set5_size, World.setCell]
theorem ends2_other {W : World} {n k : Nat} (h1 : k ≠ n + 2) (h2 : k ≠ n + 3) (x0 x1 x2 x3 x4 y0 y1 y2 y3 y4 y5 : Value) : (set5 (set6 W (n + 3) y0 y1 y2 y3 y4 y5) (n + 2) x0 x1 x2 x3 x4).heap[k]? = W.heap[k]? := (set5_other h1 ..).trans (set6_other h2 ..)
set_option maxRecDepth 100000 in
set_option maxHeartbeats 4000000 in
theorem multiply_obj (f1 f2 : Nat) (s1 s2 : ByteArray) (a1 a2 a3 a4 : Option Addr) (n1 n2 n3 n4 c1 c2 c3 c4 : Nat) (m B0 : Nat) (r : V) (w : World) (hB0 : B0 ≤ w.heap.size)
    (hp : ∀ W, Below w.heap.size w W → Calls Tryz.prog 91 #[.agg #[.int .i64 6, .float .f64 f1, .string s1, .slice a1 n1 c1, .slice a2 n2 c2], .agg #[.int .i64 6, .float .f64 f2, .string s2, .slice a3 n3 c3, .slice a4 n4 c4]] W fun e w' => ∃ lv kv, e = .returned (.agg (cellsV r lv kv)) ∧ AtN w' B0 W.heap.size (m + 1) r lv kv ∧ Below W.heap.size W w') :
    Calls Tryz.prog 52 #[.agg #[.int .i64 6, .float .f64 f1, .string s1, .slice a1 n1 c1, .slice a2 n2 c2], .agg #[.int .i64 6, .float .f64 f2, .string s2, .slice a3 n3 c3, .slice a4 n4 c4]] w fun e w' => OutP B0 w.heap.size (m + 1) (if largeV (m + 1) r then none else some r) largeT e w' ∧ Below w.heap.size w w' := by
  have hsf := run_store_float Tryz.prog
  have HP := Lib.hid hp
  clear hp
  obtain ⟨o, ho⟩ : ∃ o, (if largeV (m + 1) r then none else some r) = o := ⟨_, rfl⟩
  have hu := fun (W : World) (N : Nat) lv kv (hW : B0 ≤ W.heap.size) (h : AtN W B0 N (m + 1) r lv kv) => unlessLarge_any r m B0 N lv kv W hW h
  simp only [ho] at hu
  rw [ho]
  have HU := Lib.hid hu
  clear hu ho
  go_enter Tryz.func52, Tryz.ntmps52
  go_wp2_with fail
  have hr := R4.new w #[.int .i64 6, .float .f64 f1, .string s1, .slice a1 n1 c1, .slice a2 n2 c2] #[.int .i64 6, .float .f64 f2, .string s2, .slice a3 n3 c3, .slice a4 n4 c4] zeroA okA
  have hb := four_below w (.cells #[.int .i64 6, .float .f64 f1, .string s1, .slice a1 n1 c1, .slice a2 n2 c2] 27) (.cells #[.int .i64 6, .float .f64 f2, .string s2, .slice a3 n3 c3, .slice a4 n4 c4] 27) (.cells zeroA 27) (.cells okA 31)
  have he : ((((w.alloc (.cells #[.int .i64 6, .float .f64 f1, .string s1, .slice a1 n1 c1, .slice a2 n2 c2] 27)).alloc (.cells #[.int .i64 6, .float .f64 f2, .string s2, .slice a3 n3 c3, .slice a4 n4 c4] 27)).alloc (.cells zeroA 27)).alloc (.cells okA 31)) = ((((w.alloc (.cells #[.int .i64 6, .float .f64 f1, .string s1, .slice a1 n1 c1, .slice a2 n2 c2] 27)).alloc (.cells #[.int .i64 6, .float .f64 f2, .string s2, .slice a3 n3 c3, .slice a4 n4 c4] 27)).alloc (.cells #[.int .i64 0, .float .f64 0, .string ⟨#[]⟩, .slice none 0 0, .slice none 0 0] 27)).alloc (.cells #[.bool false, .int .i64 0, .float .f64 0, .string ⟨#[]⟩, .slice none 0 0, .slice none 0 0] 31)) := rfl
  rw [he] at hr hb
  clear he
  generalize ((((w.alloc (.cells #[.int .i64 6, .float .f64 f1, .string s1, .slice a1 n1 c1, .slice a2 n2 c2] 27)).alloc (.cells #[.int .i64 6, .float .f64 f2, .string s2, .slice a3 n3 c3, .slice a4 n4 c4] 27)).alloc (.cells #[.int .i64 0, .float .f64 0, .string ⟨#[]⟩, .slice none 0 0, .slice none 0 0] 27)).alloc (.cells #[.bool false, .int .i64 0, .float .f64 0, .string ⟨#[]⟩, .slice none 0 0, .slice none 0 0] 31)) = W0 at hr hb ⊢
  obtain ⟨x0, x1, x2, x3, x4, _⟩ := row5' hr.r0
  obtain ⟨y0, y1, y2, y3, y4, _⟩ := row5' hr.r1
  have HR := Lib.hid hr
  have HB := Lib.hid hb
  clear hr hb
  refine (both_any 3 6 6 f1 f2 s1 s2 a1 a2 a3 a4 n1 n2 n3 n4 c1 c2 c3 c4 W0).mono ?_
  rintro e w2 ⟨rfl, hb2⟩
  have R2 := Lib.hid (HR.out.below hb2)
  have B2 := Lib.hid (HB.out.trans (hb2.mono HB.out.size))
  clear hb2 x0 x1 x2 x3 x4 y0 y1 y2 y3 y4
  obtain ⟨x0, x1, x2, x3, x4, _⟩ := row5' R2.out.r0
  obtain ⟨y0, y1, y2, y3, y4, _⟩ := row5' R2.out.r1
  go_wp2_with fail
  refine (both_any 6 6 6 f1 f2 s1 s2 a1 a2 a3 a4 n1 n2 n3 n4 c1 c2 c3 c4 w2).mono ?_
  rintro e w3 ⟨rfl, hb3⟩
  have R3 := Lib.hid (R2.out.below hb3)
  have B3 := Lib.hid (B2.out.trans (hb3.mono B2.out.size))
  clear hb3 x0 x1 x2 x3 x4 y0 y1 y2 y3 y4
  obtain ⟨x0, x1, x2, x3, x4, _⟩ := row5' R3.out.r0
  obtain ⟨y0, y1, y2, y3, y4, _⟩ := row5' R3.out.r1
  go_wp2_with fail
  refine (HP.out w3 B3.out).mono ?_
  rintro e w4 ⟨lv, kv, rfl, hat4, hb4⟩
  have hz3 := B3.out.size
  have hq4 := hb4.size
  have hcu := HU.out w4 w3.heap.size lv kv (by omega) hat4
  obtain ⟨p1, p2, p3, p4, p5, p6, rfl, rfl⟩ := AtP.slices hat4
  unfold cellsV at hcu ⊢
  have HCU := Lib.hid hcu
  clear hcu hat4
  have R4F := Lib.hid (R3.out.below hb4)
  have B4 := Lib.hid (B3.out.trans (hb4.mono B3.out.size))
  clear hb4 x0 x1 x2 x3 x4 y0 y1 y2 y3 y4
  obtain ⟨x0, x1, x2, x3, x4, _⟩ := row5' R4F.out.r0
  obtain ⟨y0, y1, y2, y3, y4, _⟩ := row5' R4F.out.r1
  go_wp2_with fail
  refine HCU.out.mono ?_
  rintro e w5 ⟨⟨v, lv, kv, bb, k', s', rfl, hat5, hor⟩, hb5⟩
  obtain ⟨p1, p2, p3, p4, p5, p6, rfl, rfl⟩ := AtP.slices hat5
  unfold cellsV
  have HAT := Lib.hid hat5
  have HOR := Lib.hid hor
  have hq5 := hb5.size
  clear hat5 hor
  have R5 := Lib.hid (R4F.out.below hb5)
  have B5 := Lib.hid (B4.out.trans (hb5.mono B4.out.size))
  clear hb5 x0 x1 x2 x3 x4 y0 y1 y2 y3 y4
  obtain ⟨x0, x1, x2, x3, x4, _⟩ := row5' R5.out.r0
  obtain ⟨y0, y1, y2, y3, y4, _⟩ := row5' R5.out.r1
  obtain ⟨⟨u0, u1, u2, u3, u4⟩, ⟨v0, v1, v2, v3, v4, v5⟩, g1, g2⟩ := R5.out.outs
  have HLT := R5.out.lt
  go_wp2_with fail
  obtain ⟨q1, q2, q3⟩ := R5.out.ends B5.out (.int .i64 v.k) (.float .f64 v.f) (.string v.s) (.slice p1 p2 p3) (.slice p4 p5 p6) (.bool bb) (.int .i64 k') (.float .f64 0) (.string s') (.slice none 0 0) (.slice none 0 0)
  refine bodyPost_ret_by (results_two_rows rfl _ _ (w.heap.size + 2) (w.heap.size + 3) 27 31 _ _ (0, 0) (0, 0) _ _ rfl rfl q1 q2 Tryz.underlying27 rfl sizeVal Tryz.underlying31 rfl infoErr) rfl ?_
  have hz4 := R3.out.lt
  exact ⟨⟨v, _, _, bb, k', s', rfl, (AtN.keep HAT.out (ends_size ..) (fun b q => ends_other (by rcases q with q | q <;> omega) (by rcases q with q | q <;> omega) ..)).later (by omega), HOR.out⟩, q3⟩
set_option maxRecDepth 100000 in
set_option maxHeartbeats 4000000 in
theorem operate_times (k1 k2 : Int) (f1 f2 : Nat) (s1 s2 : ByteArray) (a1 a2 a3 a4 : Option Addr) (n1 n2 n3 n4 c1 c2 c3 c4 : Nat) (m B0 : Nat) (o : Option V) (txt : ByteArray) (w : World) (_hB0 : B0 ≤ w.heap.size)
    (hc : ∀ W, Below w.heap.size w W → Calls Tryz.prog 52 #[.agg #[.int .i64 k1, .float .f64 f1, .string s1, .slice a1 n1 c1, .slice a2 n2 c2], .agg #[.int .i64 k2, .float .f64 f2, .string s2, .slice a3 n3 c3, .slice a4 n4 c4]] W fun e w' => OutP B0 W.heap.size (m + 1) o txt e w' ∧ Below W.heap.size W w') :
    Calls Tryz.prog 25 #[.string ⟨#[42]⟩, .agg #[.int .i64 k1, .float .f64 f1, .string s1, .slice a1 n1 c1, .slice a2 n2 c2], .agg #[.int .i64 k2, .float .f64 f2, .string s2, .slice a3 n3 c3, .slice a4 n4 c4]] w fun e w' => OutP B0 w.heap.size (m + 1) o txt e w' ∧ Below w.heap.size w w' := by
  have hsf := run_store_float Tryz.prog
  have HC := Lib.hid hc
  have n43 : ((⟨#[42]⟩ : ByteArray).toList == (⟨#[43]⟩ : ByteArray).toList) = false := by rw [Lib.toList_data, Lib.toList_data]; rfl
  have n45 : ((⟨#[42]⟩ : ByteArray).toList == (⟨#[45]⟩ : ByteArray).toList) = false := by rw [Lib.toList_data, Lib.toList_data]; rfl
  have n42 : ((⟨#[42]⟩ : ByteArray).toList == (⟨#[42]⟩ : ByteArray).toList) = true := by rw [Lib.toList_data]; rfl
  clear hc
  go_enter Tryz.func25, Tryz.ntmps25
  go_wp2_with fail
  have hr := R4.new w #[.int .i64 k1, .float .f64 f1, .string s1, .slice a1 n1 c1, .slice a2 n2 c2] #[.int .i64 k2, .float .f64 f2, .string s2, .slice a3 n3 c3, .slice a4 n4 c4] zeroA okA
  have hb := four_below w (.cells #[.int .i64 k1, .float .f64 f1, .string s1, .slice a1 n1 c1, .slice a2 n2 c2] 27) (.cells #[.int .i64 k2, .float .f64 f2, .string s2, .slice a3 n3 c3, .slice a4 n4 c4] 27) (.cells zeroA 27) (.cells okA 31)
  have he : ((((w.alloc (.cells #[.int .i64 k1, .float .f64 f1, .string s1, .slice a1 n1 c1, .slice a2 n2 c2] 27)).alloc (.cells #[.int .i64 k2, .float .f64 f2, .string s2, .slice a3 n3 c3, .slice a4 n4 c4] 27)).alloc (.cells zeroA 27)).alloc (.cells okA 31)) = ((((w.alloc (.cells #[.int .i64 k1, .float .f64 f1, .string s1, .slice a1 n1 c1, .slice a2 n2 c2] 27)).alloc (.cells #[.int .i64 k2, .float .f64 f2, .string s2, .slice a3 n3 c3, .slice a4 n4 c4] 27)).alloc (.cells #[.int .i64 0, .float .f64 0, .string ⟨#[]⟩, .slice none 0 0, .slice none 0 0] 27)).alloc (.cells #[.bool false, .int .i64 0, .float .f64 0, .string ⟨#[]⟩, .slice none 0 0, .slice none 0 0] 31)) := rfl
  rw [he] at hr hb
  clear he
  generalize ((((w.alloc (.cells #[.int .i64 k1, .float .f64 f1, .string s1, .slice a1 n1 c1, .slice a2 n2 c2] 27)).alloc (.cells #[.int .i64 k2, .float .f64 f2, .string s2, .slice a3 n3 c3, .slice a4 n4 c4] 27)).alloc (.cells #[.int .i64 0, .float .f64 0, .string ⟨#[]⟩, .slice none 0 0, .slice none 0 0] 27)).alloc (.cells #[.bool false, .int .i64 0, .float .f64 0, .string ⟨#[]⟩, .slice none 0 0, .slice none 0 0] 31)) = W0 at hr hb ⊢
  obtain ⟨x0, x1, x2, x3, x4, _⟩ := row5' hr.r0
  obtain ⟨y0, y1, y2, y3, y4, _⟩ := row5' hr.r1
  have HR := Lib.hid hr
  have HB := Lib.hid hb
  clear hr hb
  refine (HC.out _ HB.out).mono ?_
  rintro e w2 ⟨⟨v, lv, kv, bb, k', s', rfl, hat2, hor⟩, hb2⟩
  obtain ⟨p1, p2, p3, p4, p5, p6, rfl, rfl⟩ := AtP.slices hat2
  unfold cellsV
  have HAT := Lib.hid hat2
  have HOR := Lib.hid hor
  have hq2 := hb2.size
  clear hat2 hor
  have R2 := Lib.hid (HR.out.below hb2)
  have B2 := Lib.hid (HB.out.trans (hb2.mono HB.out.size))
  clear hb2 x0 x1 x2 x3 x4 y0 y1 y2 y3 y4
  obtain ⟨x0, x1, x2, x3, x4, _⟩ := row5' R2.out.r0
  obtain ⟨y0, y1, y2, y3, y4, _⟩ := row5' R2.out.r1
  obtain ⟨⟨u0, u1, u2, u3, u4⟩, ⟨v0, v1, v2, v3, v4, v5⟩, g1, g2⟩ := R2.out.outs
  have HLT := HR.out.lt
  go_wp2_with fail
  obtain ⟨q1, q2, q3⟩ := R2.out.ends B2.out (.int .i64 v.k) (.float .f64 v.f) (.string v.s) (.slice p1 p2 p3) (.slice p4 p5 p6) (.bool bb) (.int .i64 k') (.float .f64 0) (.string s') (.slice none 0 0) (.slice none 0 0)
  refine bodyPost_ret_by (results_two_rows rfl _ _ (w.heap.size + 2) (w.heap.size + 3) 27 31 _ _ (0, 0) (0, 0) _ _ rfl rfl q1 q2 Tryz.underlying27 rfl sizeVal Tryz.underlying31 rfl infoErr) rfl ?_
  exact ⟨⟨v, _, _, bb, k', s', rfl, (AtN.keep HAT.out (ends_size ..) (fun b q => ends_other (by rcases q with q | q <;> omega) (by rcases q with q | q <;> omega) ..)).later (by omega), HOR.out⟩, q3⟩
set_option maxRecDepth 100000 in
set_option maxHeartbeats 4000000 in
theorem Operate_any (op : ByteArray) (k1 k2 : Int) (f1 f2 : Nat) (s1 s2 : ByteArray) (a1 a2 a3 a4 : Option Addr) (n1 n2 n3 n4 c1 c2 c3 c4 : Nat) (m B0 : Nat) (o : Option V) (txt : ByteArray) (w : World) (hB0 : B0 ≤ w.heap.size)
    (hc : ∀ W, Below w.heap.size w W → Calls Tryz.prog 25 #[.string op, .agg #[.int .i64 k1, .float .f64 f1, .string s1, .slice a1 n1 c1, .slice a2 n2 c2], .agg #[.int .i64 k2, .float .f64 f2, .string s2, .slice a3 n3 c3, .slice a4 n4 c4]] W fun e w' => OutP B0 W.heap.size (m + 1) o txt e w' ∧ Below W.heap.size W w') :
    Calls Tryz.prog 7 #[.string op, .agg #[.int .i64 k1, .float .f64 f1, .string s1, .slice a1 n1 c1, .slice a2 n2 c2], .agg #[.int .i64 k2, .float .f64 f2, .string s2, .slice a3 n3 c3, .slice a4 n4 c4]] w fun e w' => OutP 0 w.heap.size (m + 1) o txt e w' ∧ Below w.heap.size w w' := by
  have hsf := run_store_float Tryz.prog
  have HC := Lib.hid hc
  clear hc
  go_enter Tryz.func7, Tryz.ntmps7
  go_wp2_with fail
  have hr := R4.new w #[.int .i64 k1, .float .f64 f1, .string s1, .slice a1 n1 c1, .slice a2 n2 c2] #[.int .i64 k2, .float .f64 f2, .string s2, .slice a3 n3 c3, .slice a4 n4 c4] zeroA okA
  have hb := four_below w (.cells #[.int .i64 k1, .float .f64 f1, .string s1, .slice a1 n1 c1, .slice a2 n2 c2] 27) (.cells #[.int .i64 k2, .float .f64 f2, .string s2, .slice a3 n3 c3, .slice a4 n4 c4] 27) (.cells zeroA 27) (.cells okA 31)
  have he : ((((w.alloc (.cells #[.int .i64 k1, .float .f64 f1, .string s1, .slice a1 n1 c1, .slice a2 n2 c2] 27)).alloc (.cells #[.int .i64 k2, .float .f64 f2, .string s2, .slice a3 n3 c3, .slice a4 n4 c4] 27)).alloc (.cells zeroA 27)).alloc (.cells okA 31)) = ((((w.alloc (.cells #[.int .i64 k1, .float .f64 f1, .string s1, .slice a1 n1 c1, .slice a2 n2 c2] 27)).alloc (.cells #[.int .i64 k2, .float .f64 f2, .string s2, .slice a3 n3 c3, .slice a4 n4 c4] 27)).alloc (.cells #[.int .i64 0, .float .f64 0, .string ⟨#[]⟩, .slice none 0 0, .slice none 0 0] 27)).alloc (.cells #[.bool false, .int .i64 0, .float .f64 0, .string ⟨#[]⟩, .slice none 0 0, .slice none 0 0] 31)) := rfl
  rw [he] at hr hb
  clear he
  generalize ((((w.alloc (.cells #[.int .i64 k1, .float .f64 f1, .string s1, .slice a1 n1 c1, .slice a2 n2 c2] 27)).alloc (.cells #[.int .i64 k2, .float .f64 f2, .string s2, .slice a3 n3 c3, .slice a4 n4 c4] 27)).alloc (.cells #[.int .i64 0, .float .f64 0, .string ⟨#[]⟩, .slice none 0 0, .slice none 0 0] 27)).alloc (.cells #[.bool false, .int .i64 0, .float .f64 0, .string ⟨#[]⟩, .slice none 0 0, .slice none 0 0] 31)) = W0 at hr hb ⊢
  obtain ⟨x0, x1, x2, x3, x4, _⟩ := row5' hr.r0
  obtain ⟨y0, y1, y2, y3, y4, _⟩ := row5' hr.r1
  have HR := Lib.hid hr
  have HB := Lib.hid hb
  clear hr hb
  refine (HC.out _ HB.out).mono ?_
  rintro e w2 ⟨⟨v, lv, kv, bb, k', s', rfl, hat2, hor⟩, hb2⟩
  have hq2 := hb2.size
  have hq0 := HB.out.size
  have hcp := fun W (hW : Below w2.heap.size w2 W) => copyOf_any (m + 1) v lv kv W (AtN.to_at (hat2.below (by omega) hW) (by have := hW.size; omega))
  obtain ⟨p1, p2, p3, p4, p5, p6, rfl, rfl⟩ := AtP.slices hat2
  unfold cellsV at hcp ⊢
  have HCP := Lib.hid hcp
  have HOR := Lib.hid hor
  clear hat2 hor hcp
  have R2 := Lib.hid (HR.out.below hb2)
  have B2 := Lib.hid (HB.out.trans (hb2.mono HB.out.size))
  clear hb2 x0 x1 x2 x3 x4 y0 y1 y2 y3 y4
  obtain ⟨x0, x1, x2, x3, x4, _⟩ := row5' R2.out.r0
  obtain ⟨y0, y1, y2, y3, y4, _⟩ := row5' R2.out.r1
  go_wp2_with fail
  obtain ⟨q1, q2⟩ := two_new w2 (.cells #[.int .i64 v.k, .float .f64 v.f, .string v.s, .slice p1 p2 p3, .slice p4 p5 p6] 27) (.cells #[.bool bb, .int .i64 k', .float .f64 0, .string s', .slice none 0 0, .slice none 0 0] 31)
  have hb2 := (B2.out.alloc B2.out.size (.cells #[.int .i64 v.k, .float .f64 v.f, .string v.s, .slice p1 p2 p3, .slice p4 p5 p6] 27)).alloc (by have := B2.out.size; simp; omega) (.cells #[.bool bb, .int .i64 k', .float .f64 0, .string s', .slice none 0 0, .slice none 0 0] 31)
  have hbw := ((Below.refl w2.heap.size w2).alloc (Nat.le_refl _) (.cells #[.int .i64 v.k, .float .f64 v.f, .string v.s, .slice p1 p2 p3, .slice p4 p5 p6] 27)).alloc (by simp) (.cells #[.bool bb, .int .i64 k', .float .f64 0, .string s', .slice none 0 0, .slice none 0 0] 31)
  have hr2 := R2.out.below hbw
  have hz : w2.heap.size + 2 = ((w2.alloc (.cells #[.int .i64 v.k, .float .f64 v.f, .string v.s, .slice p1 p2 p3, .slice p4 p5 p6] 27)).alloc (.cells #[.bool bb, .int .i64 k', .float .f64 0, .string s', .slice none 0 0, .slice none 0 0] 31)).heap.size := by simp
  have hlt := R2.out.lt
  generalize (w2.alloc (.cells #[.int .i64 v.k, .float .f64 v.f, .string v.s, .slice p1 p2 p3, .slice p4 p5 p6] 27)).alloc (.cells #[.bool bb, .int .i64 k', .float .f64 0, .string s', .slice none 0 0, .slice none 0 0] 31) = W1 at q1 q2 hb2 hr2 hz hbw ⊢
  clear x0 x1 x2 x3 x4 y0 y1 y2 y3 y4
  obtain ⟨x0, x1, x2, x3, x4, _⟩ := row5' q1
  obtain ⟨y0, y1, y2, y3, y4, y5⟩ := row6' q2
  have ne1 : ¬ (w2.heap.size + 1 = w.heap.size + 2) := by omega
  have ne2 : ¬ (w2.heap.size + 1 = w.heap.size + 3) := by omega
  have Q2 := Lib.hid q2
  have R3 := Lib.hid hr2.drewR
  have B3 := Lib.hid hb2.drew
  have BW := Lib.hid hbw.drew
  have HZ := Lib.hid hz
  clear q1 q2 hb2 hr2 hz hbw R2 B2 HR HB
  go_region_with (go_at_call 26; (with_reducible refine (HCP.out _ BW.out).mono ?_); rintro e w3 ⟨lv3, kv3, rfl, hat3, hb3⟩; obtain ⟨p1, m1, r1, p2, m2, r2, rfl, rfl⟩ := AtP.slices hat3; have R4F := Lib.hid (R3.out.below hb3); have B4 := Lib.hid (B3.out.trans (hb3.mono B3.out.size)); have hz1 : w2.heap.size + 2 = W1.drew.heap.size := HZ.out; obtain ⟨z0, z1, z2, z3, z4, z5⟩ := row6' ((hb3.block _ (show w2.heap.size + 1 < W1.heap.size by have := HZ.out; omega)).trans Q2.out); clear hb3; obtain ⟨⟨u0, u1, u2, u3, u4⟩, ⟨v0, v1, v2, v3, v4, v5⟩, g1, g2⟩ := R4F.out.outs)
  all_goals
    have HAT := Lib.hid (AtP.more (q := fun b => b < 0 ∨ (W1.drew.heap.size ≤ b ∧ b < w3.heap.size)) (fun b hb => Or.inr hb) _ _ _ _ hat3)
    clear hat3
    go_wp2_with fail
    first
      | (obtain ⟨q1, q2, q3⟩ := R4F.out.ends B4.out (.int .i64 v.k) (.float .f64 v.f) (.string v.s) (.slice p1 m1 r1) (.slice p2 m2 r2) (.bool bb) (.int .i64 k') (.float .f64 0) (.string s') (.slice none 0 0) (.slice none 0 0)
         refine bodyPost_ret_by (results_two_rows rfl _ _ (w.heap.size + 2) (w.heap.size + 3) 27 31 _ _ (0, 0) (0, 0) _ _ rfl rfl q1 q2 Tryz.underlying27 rfl sizeVal Tryz.underlying31 rfl infoErr) rfl ?_
         exact ⟨⟨v, _, _, bb, k', s', rfl, (AtN.keep HAT.out (ends_size ..) (fun b q => ends_other (by rcases q with q | q <;> omega) (by rcases q with q | q <;> omega) ..)).later (by omega), HOR.out⟩, q3⟩)
      | (obtain ⟨q1, q2, q3⟩ := R4F.out.ends2 B4.out (.int .i64 v.k) (.float .f64 v.f) (.string v.s) (.slice p1 m1 r1) (.slice p2 m2 r2) (.bool bb) (.int .i64 k') (.float .f64 0) (.string s') (.slice none 0 0) (.slice none 0 0)
         refine bodyPost_ret_by (results_two_rows rfl _ _ (w.heap.size + 2) (w.heap.size + 3) 27 31 _ _ (0, 0) (0, 0) _ _ rfl rfl q1 q2 Tryz.underlying27 rfl sizeVal Tryz.underlying31 rfl infoErr) rfl ?_
         exact ⟨⟨v, _, _, bb, k', s', rfl, (AtN.keep HAT.out (ends2_size ..) (fun b q => ends2_other (by rcases q with q | q <;> omega) (by rcases q with q | q <;> omega) ..)).later (by omega), HOR.out⟩, q3⟩)
end Go.Proofs.YtdlighmnlcklnaaGreatDoor
