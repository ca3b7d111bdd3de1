/- ValueSorted where something is not right. -/
import Derived.Test.YtkklfdfmfdnjoaaGreatDoorQCompare
import Derived.Test.YtkklfdfmfdnjoaaGreatDoorQKeeps
import Derived.Test.YtkklfdfmfdnjoaaGreatDoorQRightW
import Derived.Deep.RegionHeld3
namespace Go.Proofs.YtkklfdfmfdnjoaaGreatDoor
open Go Go.RowKit

theorem HW.three {w W : World} {l : List (Nat × Array Value × TypeId)} (h : HW w W l) (c d e : Array Value) (t u v : TypeId) : HW w (((W.alloc (.cells c t)).alloc (.cells d u)).alloc (.cells e v)) ((W.heap.size + 1 + 1, e, v) :: (W.heap.size + 1, d, u) :: (W.heap.size, c, t) :: l) := by
  have := (h.two c d t u).one e v
  rw [World.size_alloc, World.size_alloc] at this
  exact this
set_option maxRecDepth 100000 in
set_option maxHeartbeats 8000000 in
theorem sorted_bad (a : V) (a1 : Option Addr) (n1 c1 : Nat) (a2 : Option Addr) (n2 c2 : Nat) (b : V) (a3 : Option Addr) (n3 c3 : Nat) (a4 : Option Addr) (n4 c4 : Nat) (c : V) (a5 : Option Addr) (n5 c5 : Nat) (a6 : Option Addr) (n6 c6 : Nat) (m : Nat) (w : World) (hN : NumW w) (ha : At w w.heap.size m a (.slice a1 n1 c1) (.slice a2 n2 c2)) (hb : At w w.heap.size m b (.slice a3 n3 c3) (.slice a4 n4 c4)) (hc : At w w.heap.size m c (.slice a5 n5 c5) (.slice a6 n6 c6))
    (hbad : ¬ (rightV 10000 a = true ∧ rightV 10000 b = true ∧ rightV 10000 c = true ∧ plainV m a = true ∧ plainV m b = true ∧ plainV m c = true)) :
    Calls Tryz.prog 8 #[.agg (cellsV a (.slice a1 n1 c1) (.slice a2 n2 c2)), .agg (cellsV b (.slice a3 n3 c3) (.slice a4 n4 c4)), .agg (cellsV c (.slice a5 n5 c5) (.slice a6 n6 c6))] w fun e w' => e = .returned (.bool true) ∧ Below w.heap.size w w' := by
  have hsf := run_store_float Tryz.prog
  obtain ⟨i0, hi0, hz0, hz1, hz2⟩ := info_parts infoVal
  have HN := Lib.hid (fun W (hW : Below w.heap.size w W) => hN.below hW)
  have hra := fun W (hW : Below w.heap.size w W) => refRightT_any m a _ _ W ((ha.below hW).more hW.size)
  have hpa := fun W (hW : Below w.heap.size w W) => plain_any m a _ _ W ((ha.below hW).more hW.size)
  have hrb := fun W (hW : Below w.heap.size w W) => refRightT_any m b _ _ W ((hb.below hW).more hW.size)
  have hpb := fun W (hW : Below w.heap.size w W) => plain_any m b _ _ W ((hb.below hW).more hW.size)
  have hrc := fun W (hW : Below w.heap.size w W) => refRightT_any m c _ _ W ((hc.below hW).more hW.size)
  have hpc := fun W (hW : Below w.heap.size w W) => plain_any m c _ _ W ((hc.below hW).more hW.size)
  obtain ⟨r1, g1⟩ : ∃ bb, rightV 10000 a = bb := ⟨_, rfl⟩
  simp only [g1] at hra
  obtain ⟨r2, g2⟩ : ∃ bb, rightV 10000 b = bb := ⟨_, rfl⟩
  simp only [g2] at hrb
  obtain ⟨r3, g3⟩ : ∃ bb, rightV 10000 c = bb := ⟨_, rfl⟩
  simp only [g3] at hrc
  obtain ⟨r4, g4⟩ : ∃ bb, plainV m a = bb := ⟨_, rfl⟩
  simp only [g4] at hpa
  obtain ⟨r5, g5⟩ : ∃ bb, plainV m b = bb := ⟨_, rfl⟩
  simp only [g5] at hpb
  obtain ⟨r6, g6⟩ : ∃ bb, plainV m c = bb := ⟨_, rfl⟩
  simp only [g6] at hpc
  rw [g1, g2, g3, g4, g5, g6] at hbad
  unfold cellsV at hra hrb hrc hpa hpb hpc ⊢
  have HRA := Lib.hid hra
  have HRB := Lib.hid hrb
  have HRC := Lib.hid hrc
  have HPA := Lib.hid hpa
  have HPB := Lib.hid hpb
  have HPC := Lib.hid hpc
  have HBAD := Lib.hid hbad
  clear hra hrb hrc hpa hpb hpc hbad g1 g2 g3 g4 g5 g6 hN ha hb hc
  go_enter Tryz.func8, Tryz.ntmps8
  go_wp2_with fail
  have H0 := Lib.hid ((HW.start w).three #[.int .i64 a.k, .float .f64 a.f, .string a.s, .slice a1 n1 c1, .slice a2 n2 c2] #[.int .i64 b.k, .float .f64 b.f, .string b.s, .slice a3 n3 c3, .slice a4 n4 c4] #[.int .i64 c.k, .float .f64 c.f, .string c.s, .slice a5 n5 c5, .slice a6 n6 c6] 27 27 27)
  refine (HRA.out _ H0.out.bel).mono ?_
  rintro e w1 ⟨rfl, hb⟩
  have H1 := Lib.hid (H0.out.below hb)
  clear hb H0
  obtain ⟨bc0, bc1, bc2, bc3, bc4⟩ := row5p (H1.out.rows _ (.tail _ (.head _)))
  cases r1
  · go_wp2_with fail
    refine (heads_true _ (HN.out _ H1.out.bel)).mono ?_
    rintro e w9 ⟨rfl, hb⟩
    go_wp2_with fail
    go_ret
    exact ⟨rfl, trk0 H1.out.bel hb⟩
  go_wp2_with fail
  refine (HRB.out _ H1.out.bel).mono ?_
  rintro e w2 ⟨rfl, hb⟩
  have H2 := Lib.hid (H1.out.below hb)
  clear hb H1 bc0 bc1 bc2 bc3 bc4
  obtain ⟨cc0, cc1, cc2, cc3, cc4⟩ := row5p (H2.out.rows _ (.head _))
  cases r2
  · go_wp2_with fail
    refine (heads_true _ (HN.out _ H2.out.bel)).mono ?_
    rintro e w9 ⟨rfl, hb⟩
    go_wp2_with fail
    go_ret
    exact ⟨rfl, trk0 H2.out.bel hb⟩
  go_wp2_with fail
  refine (HRC.out _ H2.out.bel).mono ?_
  rintro e w3 ⟨rfl, hb⟩
  have H3 := Lib.hid (H2.out.below hb)
  clear hb H2 cc0 cc1 cc2 cc3 cc4
  obtain ⟨ac0, ac1, ac2, ac3, ac4⟩ := row5p (H3.out.rows _ (.tail _ (.tail _ (.head _))))
  cases r3
  · go_wp2_with fail
    refine (heads_true _ (HN.out _ H3.out.bel)).mono ?_
    rintro e w9 ⟨rfl, hb⟩
    go_wp2_with fail
    go_ret
    exact ⟨rfl, trk0 H3.out.bel hb⟩
  go_wp2_with fail
  refine (HPA.out _ H3.out.bel).mono ?_
  rintro e w4 ⟨rfl, hb⟩
  have H4 := Lib.hid (H3.out.below hb)
  clear hb H3 ac0 ac1 ac2 ac3 ac4
  obtain ⟨bc0, bc1, bc2, bc3, bc4⟩ := row5p (H4.out.rows _ (.tail _ (.head _)))
  cases r4
  · go_wp2_with fail
    refine (heads_true _ (HN.out _ H4.out.bel)).mono ?_
    rintro e w9 ⟨rfl, hb⟩
    go_wp2_with fail
    go_ret
    exact ⟨rfl, trk0 H4.out.bel hb⟩
  go_wp2_with fail
  refine (HPB.out _ H4.out.bel).mono ?_
  rintro e w5 ⟨rfl, hb⟩
  have H5 := Lib.hid (H4.out.below hb)
  clear hb H4 bc0 bc1 bc2 bc3 bc4
  obtain ⟨cc0, cc1, cc2, cc3, cc4⟩ := row5p (H5.out.rows _ (.head _))
  cases r5
  · go_wp2_with fail
    refine (heads_true _ (HN.out _ H5.out.bel)).mono ?_
    rintro e w9 ⟨rfl, hb⟩
    go_wp2_with fail
    go_ret
    exact ⟨rfl, trk0 H5.out.bel hb⟩
  go_wp2_with fail
  refine (HPC.out _ H5.out.bel).mono ?_
  rintro e w6 ⟨rfl, hb⟩
  have H6 := Lib.hid (H5.out.below hb)
  clear hb H5 cc0 cc1 cc2 cc3 cc4
  cases r6
  · go_wp2_with fail
    refine (heads_true _ (HN.out _ H6.out.bel)).mono ?_
    rintro e w9 ⟨rfl, hb⟩
    go_wp2_with fail
    go_ret
    exact ⟨rfl, trk0 H6.out.bel hb⟩
  exact absurd (by simp) HBAD.out
end Go.Proofs.YtkklfdfmfdnjoaaGreatDoor
/- ValueSorted where all is right. -/
namespace Go.Proofs.YtkklfdfmfdnjoaaGreatDoor
open Go Go.RowKit

theorem sorted_combos {m : Nat} {a b c : V} (pa : plainV m a = true) (pb : plainV m b = true) (pc : plainV m c = true) {x nx y z : Int} (hx : cmpV m a b = x) (hnx : cmpV m b a = nx) (hy : cmpV m b c = y) (hz : cmpV m a c = z) :
    (x = -1 ∧ nx = 1 ∧ y = -1 ∧ z = -1) ∨ (x = -1 ∧ nx = 1 ∧ y = 0 ∧ z = -1) ∨ (x = -1 ∧ nx = 1 ∧ y = 1 ∧ z = -1) ∨ (x = -1 ∧ nx = 1 ∧ y = 1 ∧ z = 0) ∨ (x = -1 ∧ nx = 1 ∧ y = 1 ∧ z = 1) ∨ (x = 0 ∧ nx = 0 ∧ y = -1 ∧ z = -1) ∨ (x = 0 ∧ nx = 0 ∧ y = 0 ∧ z = 0) ∨ (x = 0 ∧ nx = 0 ∧ y = 1 ∧ z = 1) ∨ (x = 1 ∧ nx = -1 ∧ y = -1 ∧ z = -1) ∨ (x = 1 ∧ nx = -1 ∧ y = -1 ∧ z = 0) ∨ (x = 1 ∧ nx = -1 ∧ y = -1 ∧ z = 1) ∨ (x = 1 ∧ nx = -1 ∧ y = 0 ∧ z = 1) ∨ (x = 1 ∧ nx = -1 ∧ y = 1 ∧ z = 1) := by
  have o := ord_val m
  have ax := o.anti a b pa pb
  have ay := o.anti b c pb pc
  have az := o.anti a c pa pc
  have s1 := o.strict (x := a) (y := b) (z := c) pa pb pc
  have s2 := o.strict2 (x := a) (y := b) (z := c) pa pb pc
  have s3 := o.strict (x := c) (y := b) (z := a) pc pb pa
  have s4 := o.strict2 (x := c) (y := b) (z := a) pc pb pa
  have t1 := o.trans a b c pa pb pc
  have t2 := o.trans c b a pc pb pa
  have lx := o.low a b
  have ux := o.high a b
  have ly := o.low b c
  have uy := o.high b c
  have lz := o.low a c
  have uz := o.high a c
  rw [hx, hnx] at ax
  rw [hy] at ay
  rw [hz] at az
  rw [ay, az, hnx] at s3 s4 t2
  rw [hx, hy, hz] at s1 s2 t1
  rw [hx] at lx ux
  rw [hy] at ly uy
  rw [hz] at lz uz
  clear hx hnx hy hz ay az
  subst ax
  have cx : x = -1 ∨ x = 0 ∨ x = 1 := by omega
  have cy : y = -1 ∨ y = 0 ∨ y = 1 := by omega
  have cz : z = -1 ∨ z = 0 ∨ z = 1 := by omega
  rcases cx with rfl | rfl | rfl <;> rcases cy with rfl | rfl | rfl <;> rcases cz with rfl | rfl | rfl <;> first | (exfalso; omega) | (simp; done)
set_option maxRecDepth 100000 in
set_option maxHeartbeats 16000000 in
theorem sorted_good (a : V) (a1 : Option Addr) (n1 c1 : Nat) (a2 : Option Addr) (n2 c2 : Nat) (b : V) (a3 : Option Addr) (n3 c3 : Nat) (a4 : Option Addr) (n4 c4 : Nat) (c : V) (a5 : Option Addr) (n5 c5 : Nat) (a6 : Option Addr) (n6 c6 : Nat) (m : Nat) (w : World) (hN : NumW w) (ha : At w w.heap.size m a (.slice a1 n1 c1) (.slice a2 n2 c2)) (hb : At w w.heap.size m b (.slice a3 n3 c3) (.slice a4 n4 c4)) (hc : At w w.heap.size m c (.slice a5 n5 c5) (.slice a6 n6 c6))
    (ga : rightV 10000 a = true) (gb : rightV 10000 b = true) (gc : rightV 10000 c = true) (pa : plainV m a = true) (pb : plainV m b = true) (pc : plainV m c = true) :
    Calls Tryz.prog 8 #[.agg (cellsV a (.slice a1 n1 c1) (.slice a2 n2 c2)), .agg (cellsV b (.slice a3 n3 c3) (.slice a4 n4 c4)), .agg (cellsV c (.slice a5 n5 c5) (.slice a6 n6 c6))] w fun e w' => e = .returned (.bool true) ∧ Below w.heap.size w w' := by
  have hsf := run_store_float Tryz.prog
  obtain ⟨i0, hi0, hz0, hz1, hz2⟩ := info_parts infoVal
  have HN := Lib.hid (fun W (hW : Below w.heap.size w W) => hN.below hW)
  have hra := fun W (hW : Below w.heap.size w W) => refRightT_any m a _ _ W ((ha.below hW).more hW.size)
  have hpa := fun W (hW : Below w.heap.size w W) => plain_any m a _ _ W ((ha.below hW).more hW.size)
  have hrb := fun W (hW : Below w.heap.size w W) => refRightT_any m b _ _ W ((hb.below hW).more hW.size)
  have hpb := fun W (hW : Below w.heap.size w W) => plain_any m b _ _ W ((hb.below hW).more hW.size)
  have hrc := fun W (hW : Below w.heap.size w W) => refRightT_any m c _ _ W ((hc.below hW).more hW.size)
  have hpc := fun W (hW : Below w.heap.size w W) => plain_any m c _ _ W ((hc.below hW).more hW.size)
  simp only [ga] at hra
  simp only [pa] at hpa
  simp only [gb] at hrb
  simp only [pb] at hpb
  simp only [gc] at hrc
  simp only [pc] at hpc
  have hc1 := fun W (hW : Below w.heap.size w W) => Compare_any m a b 10000 10000 _ _ _ _ W ga gb ((ha.below hW).more hW.size) ((hb.below hW).more hW.size)
  have hc2 := fun W (hW : Below w.heap.size w W) => Compare_any m b c 10000 10000 _ _ _ _ W gb gc ((hb.below hW).more hW.size) ((hc.below hW).more hW.size)
  have hc3 := fun W (hW : Below w.heap.size w W) => Compare_any m a c 10000 10000 _ _ _ _ W ga gc ((ha.below hW).more hW.size) ((hc.below hW).more hW.size)
  have hc4 := fun W (hW : Below w.heap.size w W) => Compare_any m b a 10000 10000 _ _ _ _ W gb ga ((hb.below hW).more hW.size) ((ha.below hW).more hW.size)
  have hc5 := fun W (hW : Below w.heap.size w W) => Compare_any m a a 10000 10000 _ _ _ _ W ga ga ((ha.below hW).more hW.size) ((ha.below hW).more hW.size)
  have he := fun W (hW : Below w.heap.size w W) => Equal_any m a b 10000 10000 _ _ _ _ W ga gb ((ha.below hW).more hW.size) ((hb.below hW).more hW.size)
  have hco := fun x nx y z (hx : cmpV m a b = x) (hnx : cmpV m b a = nx) (hy : cmpV m b c = y) (hz : cmpV m a c = z) => sorted_combos pa pb pc hx hnx hy hz
  have haa := (ord_val m).same pa
  obtain ⟨x, hx⟩ : ∃ x, cmpV m a b = x := ⟨_, rfl⟩
  obtain ⟨nx, hnx⟩ : ∃ x, cmpV m b a = x := ⟨_, rfl⟩
  obtain ⟨y, hy⟩ : ∃ x, cmpV m b c = x := ⟨_, rfl⟩
  obtain ⟨z, hz⟩ : ∃ x, cmpV m a c = x := ⟨_, rfl⟩
  have HCO := Lib.hid (hco x nx y z hx hnx hy hz)
  simp only [hx] at hc1 he
  simp only [hy] at hc2
  simp only [hz] at hc3
  simp only [hnx] at hc4
  simp only [haa] at hc5
  unfold cellsV at hra hrb hrc hpa hpb hpc hc1 hc2 hc3 hc4 hc5 he ⊢
  have HRA := Lib.hid hra
  have HRB := Lib.hid hrb
  have HRC := Lib.hid hrc
  have HPA := Lib.hid hpa
  have HPB := Lib.hid hpb
  have HPC := Lib.hid hpc
  have HC1 := Lib.hid hc1
  have HC2 := Lib.hid hc2
  have HC3 := Lib.hid hc3
  have HC4 := Lib.hid hc4
  have HC5 := Lib.hid hc5
  have HE := Lib.hid he
  clear hra hrb hrc hpa hpb hpc hc1 hc2 hc3 hc4 hc5 he hco haa hx hnx hy hz ga gb gc pa pb pc hN ha hb hc
  go_enter Tryz.func8, Tryz.ntmps8
  go_wp2_with fail
  have H0 := Lib.hid ((HW.start w).three #[.int .i64 a.k, .float .f64 a.f, .string a.s, .slice a1 n1 c1, .slice a2 n2 c2] #[.int .i64 b.k, .float .f64 b.f, .string b.s, .slice a3 n3 c3, .slice a4 n4 c4] #[.int .i64 c.k, .float .f64 c.f, .string c.s, .slice a5 n5 c5, .slice a6 n6 c6] 27 27 27)
  refine (HRA.out _ H0.out.bel).mono ?_
  rintro e w1 ⟨rfl, hb⟩
  have H1 := Lib.hid (H0.out.below hb)
  clear hb H0
  obtain ⟨bc0, bc1, bc2, bc3, bc4⟩ := row5p (H1.out.rows _ (.tail _ (.head _)))
  go_wp2_with fail
  refine (HRB.out _ H1.out.bel).mono ?_
  rintro e w2 ⟨rfl, hb⟩
  have H2 := Lib.hid (H1.out.below hb)
  clear hb H1 bc0 bc1 bc2 bc3 bc4
  obtain ⟨cc0, cc1, cc2, cc3, cc4⟩ := row5p (H2.out.rows _ (.head _))
  go_wp2_with fail
  refine (HRC.out _ H2.out.bel).mono ?_
  rintro e w3 ⟨rfl, hb⟩
  have H3 := Lib.hid (H2.out.below hb)
  clear hb H2 cc0 cc1 cc2 cc3 cc4
  obtain ⟨ac0, ac1, ac2, ac3, ac4⟩ := row5p (H3.out.rows _ (.tail _ (.tail _ (.head _))))
  go_wp2_with fail
  refine (HPA.out _ H3.out.bel).mono ?_
  rintro e w4 ⟨rfl, hb⟩
  have H4 := Lib.hid (H3.out.below hb)
  clear hb H3 ac0 ac1 ac2 ac3 ac4
  obtain ⟨bc0, bc1, bc2, bc3, bc4⟩ := row5p (H4.out.rows _ (.tail _ (.head _)))
  go_wp2_with fail
  refine (HPB.out _ H4.out.bel).mono ?_
  rintro e w5 ⟨rfl, hb⟩
  have H5 := Lib.hid (H4.out.below hb)
  clear hb H4 bc0 bc1 bc2 bc3 bc4
  obtain ⟨cc0, cc1, cc2, cc3, cc4⟩ := row5p (H5.out.rows _ (.head _))
  go_wp2_with fail
  refine (HPC.out _ H5.out.bel).mono ?_
  rintro e w6 ⟨rfl, hb⟩
  have H6 := Lib.hid (H5.out.below hb)
  clear hb H5 cc0 cc1 cc2 cc3 cc4
  go_wp2_with fail
  have hh := H6.out.below ((Below.refl _ _).drew)
  clear H6
  have H := Lib.hid hh
  clear hh
  have HSS := Lib.hid (fun W (h : HW w W [(w.heap.size + 1 + 1, #[.int .i64 c.k, .float .f64 c.f, .string c.s, .slice a5 n5 c5, .slice a6 n6 c6], 27), (w.heap.size + 1, #[.int .i64 b.k, .float .f64 b.f, .string b.s, .slice a3 n3 c3, .slice a4 n4 c4], 27), (w.heap.size, #[.int .i64 a.k, .float .f64 a.f, .string a.s, .slice a1 n1 c1, .slice a2 n2 c2], 27)]) => (show (W.cell? ⟨w.heap.size, 0, none⟩ = some (.int .i64 a.k) ∧ W.cell? ⟨w.heap.size, 1, none⟩ = some (.float .f64 a.f) ∧ W.cell? ⟨w.heap.size, 2, none⟩ = some (.string a.s) ∧ W.cell? ⟨w.heap.size, 3, none⟩ = some (.slice a1 n1 c1) ∧ W.cell? ⟨w.heap.size, 4, none⟩ = some (.slice a2 n2 c2)) ∧ (W.cell? ⟨w.heap.size + 1, 0, none⟩ = some (.int .i64 b.k) ∧ W.cell? ⟨w.heap.size + 1, 1, none⟩ = some (.float .f64 b.f) ∧ W.cell? ⟨w.heap.size + 1, 2, none⟩ = some (.string b.s) ∧ W.cell? ⟨w.heap.size + 1, 3, none⟩ = some (.slice a3 n3 c3) ∧ W.cell? ⟨w.heap.size + 1, 4, none⟩ = some (.slice a4 n4 c4)) ∧ (W.cell? ⟨w.heap.size + 1 + 1, 0, none⟩ = some (.int .i64 c.k) ∧ W.cell? ⟨w.heap.size + 1 + 1, 1, none⟩ = some (.float .f64 c.f) ∧ W.cell? ⟨w.heap.size + 1 + 1, 2, none⟩ = some (.string c.s) ∧ W.cell? ⟨w.heap.size + 1 + 1, 3, none⟩ = some (.slice a5 n5 c5) ∧ W.cell? ⟨w.heap.size + 1 + 1, 4, none⟩ = some (.slice a6 n6 c6)) from ⟨row5p (h.get _ _ _ (.tail _ (.tail _ (.head _)))), row5p (h.get _ _ _ (.tail _ (.head _))), row5p (h.get _ _ _ (.head _))⟩))
  go_region_held3 (fun W => (W.cell? ⟨w.heap.size, 0, none⟩ = some (.int .i64 a.k) ∧ W.cell? ⟨w.heap.size, 1, none⟩ = some (.float .f64 a.f) ∧ W.cell? ⟨w.heap.size, 2, none⟩ = some (.string a.s) ∧ W.cell? ⟨w.heap.size, 3, none⟩ = some (.slice a1 n1 c1) ∧ W.cell? ⟨w.heap.size, 4, none⟩ = some (.slice a2 n2 c2)) ∧ (W.cell? ⟨w.heap.size + 1, 0, none⟩ = some (.int .i64 b.k) ∧ W.cell? ⟨w.heap.size + 1, 1, none⟩ = some (.float .f64 b.f) ∧ W.cell? ⟨w.heap.size + 1, 2, none⟩ = some (.string b.s) ∧ W.cell? ⟨w.heap.size + 1, 3, none⟩ = some (.slice a3 n3 c3) ∧ W.cell? ⟨w.heap.size + 1, 4, none⟩ = some (.slice a4 n4 c4)) ∧ (W.cell? ⟨w.heap.size + 1 + 1, 0, none⟩ = some (.int .i64 c.k) ∧ W.cell? ⟨w.heap.size + 1 + 1, 1, none⟩ = some (.float .f64 c.f) ∧ W.cell? ⟨w.heap.size + 1 + 1, 2, none⟩ = some (.string c.s) ∧ W.cell? ⟨w.heap.size + 1 + 1, 3, none⟩ = some (.slice a5 n5 c5) ∧ W.cell? ⟨w.heap.size + 1 + 1, 4, none⟩ = some (.slice a6 n6 c6))) (exact HSS.out _ H.out)
    (first
    | (go_at_call 20; have hc := HC1.out _ H.out.bel; (with_reducible refine hc.mono ?_); clear hc; rintro e wn ⟨rfl, hb⟩; have hh := H.out.below hb; clear H; have H := Lib.hid hh; clear hh hb)
    | (go_at_call 20; have hc := HC2.out _ H.out.bel; (with_reducible refine hc.mono ?_); clear hc; rintro e wn ⟨rfl, hb⟩; have hh := H.out.below hb; clear H; have H := Lib.hid hh; clear hh hb)
    | (go_at_call 20; have hc := HC3.out _ H.out.bel; (with_reducible refine hc.mono ?_); clear hc; rintro e wn ⟨rfl, hb⟩; have hh := H.out.below hb; clear H; have H := Lib.hid hh; clear hh hb))
  all_goals
    rcases HCO.out with ⟨rfl, rfl, rfl, rfl⟩ | ⟨rfl, rfl, rfl, rfl⟩ | ⟨rfl, rfl, rfl, rfl⟩ | ⟨rfl, rfl, rfl, rfl⟩ | ⟨rfl, rfl, rfl, rfl⟩ | ⟨rfl, rfl, rfl, rfl⟩ | ⟨rfl, rfl, rfl, rfl⟩ | ⟨rfl, rfl, rfl, rfl⟩ | ⟨rfl, rfl, rfl, rfl⟩ | ⟨rfl, rfl, rfl, rfl⟩ | ⟨rfl, rfl, rfl, rfl⟩ | ⟨rfl, rfl, rfl, rfl⟩ | ⟨rfl, rfl, rfl, rfl⟩
  all_goals
    clear HCO
    obtain ⟨ac0, ac1, ac2, ac3, ac4⟩ := row5p (H.out.rows _ (.tail _ (.tail _ (.head _))))
    obtain ⟨bc0, bc1, bc2, bc3, bc4⟩ := row5p (H.out.rows _ (.tail _ (.head _)))
    go_wp2_with fail
    refine (HC4.out _ H.out.bel).mono ?_
    rintro e wm ⟨rfl, hb⟩
    have H2 := Lib.hid (H.out.below hb)
    clear hb H ac0 ac1 ac2 ac3 ac4 bc0 bc1 bc2 bc3 bc4
    obtain ⟨ac0, ac1, ac2, ac3, ac4⟩ := row5p (H2.out.rows _ (.tail _ (.tail _ (.head _))))
    go_wp2_with fail
    refine (HC5.out _ H2.out.bel).mono ?_
    rintro e wk ⟨rfl, hb⟩
    have H3 := Lib.hid (H2.out.below hb)
    clear hb H2 ac0 ac1 ac2 ac3 ac4
    obtain ⟨ac0, ac1, ac2, ac3, ac4⟩ := row5p (H3.out.rows _ (.tail _ (.tail _ (.head _))))
    obtain ⟨bc0, bc1, bc2, bc3, bc4⟩ := row5p (H3.out.rows _ (.tail _ (.head _)))
    go_wp2_with fail
    refine (HE.out _ H3.out.bel).mono ?_
    rintro e wl ⟨rfl, hb⟩
    have H4 := Lib.hid (H3.out.below hb)
    clear hb H3 ac0 ac1 ac2 ac3 ac4 bc0 bc1 bc2 bc3 bc4
    go_wp2_with fail
    refine (heads_true _ (HN.out _ H4.out.bel)).mono ?_
    rintro e w9 ⟨rfl, hb⟩
    go_wp2_with fail
    go_ret
    exact ⟨rfl, trk0 H4.out.bel hb⟩
end Go.Proofs.YtkklfdfmfdnjoaaGreatDoor
/- ValueSorted: every three values. -/
namespace Go.Proofs.YtkklfdfmfdnjoaaGreatDoor
open Go Go.RowKit

theorem valueSorted_true (a : V) (m1 : Nat) (la ka : Value) (b : V) (m2 : Nat) (lb kb : Value) (c : V) (m3 : Nat) (lc kc : Value) (w : World) (hN : NumW w) (ha : At w w.heap.size m1 a la ka) (hb : At w w.heap.size m2 b lb kb) (hc : At w w.heap.size m3 c lc kc) :
    Calls Tryz.prog 8 #[.agg (cellsV a la ka), .agg (cellsV b lb kb), .agg (cellsV c lc kc)] w fun e w' => e = .returned (.bool true) ∧ Below w.heap.size w w' := by
  have ha' : At w w.heap.size (m1 + m2 + m3) a la ka := atP_lev m1 _ _ _ _ (by omega) ha
  have hb' : At w w.heap.size (m1 + m2 + m3) b lb kb := atP_lev m2 _ _ _ _ (by omega) hb
  have hc' : At w w.heap.size (m1 + m2 + m3) c lc kc := atP_lev m3 _ _ _ _ (by omega) hc
  obtain ⟨a1, n1, c1, a2, n2, c2, rfl, rfl⟩ := ha.slices
  obtain ⟨a3, n3, c3, a4, n4, c4, rfl, rfl⟩ := hb.slices
  obtain ⟨a5, n5, c5, a6, n6, c6, rfl, rfl⟩ := hc.slices
  by_cases hg : rightV 10000 a = true ∧ rightV 10000 b = true ∧ rightV 10000 c = true ∧ plainV (m1 + m2 + m3) a = true ∧ plainV (m1 + m2 + m3) b = true ∧ plainV (m1 + m2 + m3) c = true
  · exact sorted_good a a1 n1 c1 a2 n2 c2 b a3 n3 c3 a4 n4 c4 c a5 n5 c5 a6 n6 c6 (m1 + m2 + m3) w hN ha' hb' hc' hg.1 hg.2.1 hg.2.2.1 hg.2.2.2.1 hg.2.2.2.2.1 hg.2.2.2.2.2
  · exact sorted_bad a a1 n1 c1 a2 n2 c2 b a3 n3 c3 a4 n4 c4 c a5 n5 c5 a6 n6 c6 (m1 + m2 + m3) w hN ha' hb' hc' hg
end Go.Proofs.YtkklfdfmfdnjoaaGreatDoor
