/- The program's Compare: its two closures. -/
import Derived.Test.YtkklfdfmfdnjoaaGreatDoorQOrder
import Derived.Test.YtkklfdfmfdnjoaaGreatDoorQSortV
namespace Go.Proofs.YtkklfdfmfdnjoaaGreatDoor
open Go Go.RowKit

/-- Values, one behind the other, as a slice's elements. -/
def RowAt (w : World) (B m : Nat) (a : Option Addr) (l : List V) : Prop :=
  ∃ b o, (0 < l.length → a = some ⟨b, o, none⟩ ∧ b < B) ∧ ∀ i (h : i < l.length), ∃ lv' kv', FiveAt w b (o + i * 5) (l[i]) lv' kv' ∧ At w B m (l[i]) lv' kv'
theorem RowAt.below {w w' : World} {B m : Nat} {a : Option Addr} {l : List V} (h : RowAt w B m a l) (hb : Below B w w') : RowAt w' B m a l := by
  obtain ⟨b, o, h1, h2⟩ := h
  refine ⟨b, o, h1, fun i hi => ?_⟩
  obtain ⟨lv', kv', h5, h6⟩ := h2 i hi
  exact ⟨lv', kv', h5.keep (h1 (by omega)).2 (fun p hp => hb.cell hp), h6.below hb⟩
theorem RowAt.more {w : World} {B B' m : Nat} {a : Option Addr} {l : List V} (h : RowAt w B m a l) (hb : B ≤ B') : RowAt w B' m a l := by
  obtain ⟨b, o, h1, h2⟩ := h
  refine ⟨b, o, fun h0 => ⟨(h1 h0).1, by have := (h1 h0).2; omega⟩, fun i hi => ?_⟩
  obtain ⟨lv', kv', h5, h6⟩ := h2 i hi
  exact ⟨lv', kv', h5, h6.more hb⟩
theorem At.row {w : World} {B m : Nat} {v : V} {lv kv : Value} (h : At w B (m + 1) v lv kv) : ∃ a c, lv = .slice a v.l.length c ∧ RowAt w B m a v.l := by
  obtain ⟨_, _, _, a, c, b, o, e, hab, hi⟩ := h.opened
  exact ⟨a, c, e, b, o, hab, hi⟩
/-- What the program's Compare does to values of at most m levels. -/
def CmpC (m : Nat) : Prop := ∀ (a b : V) (da db : Nat) (la ka lb kb : Value) (w : World), rightV da a = true → rightV db b = true → At w w.heap.size m a la ka → At w w.heap.size m b lb kb →
  Calls Tryz.prog 20 #[.agg (cellsV a la ka), .agg (cellsV b lb kb)] w fun e w' => e = .returned (.int .i64 (cmpV m a b)) ∧ Below w.heap.size w w'
set_option maxRecDepth 100000 in
set_option maxHeartbeats 2000000 in
theorem cmpFn1_any (x y : List ByteArray) (kx ky : Value) (k1 k2 : Int) (f1 f2 : Nat) (s1 s2 : ByteArray) (l1 l2 : Value) (b1 b2 : Nat) (W : World) (h1 : W.heap[b1]? = some (.cells #[.int .i64 k1, .float .f64 f1, .string s1, l1, kx] 27 (0, 0)))
    (h2 : W.heap[b2]? = some (.cells #[.int .i64 k2, .float .f64 f2, .string s2, l2, ky] 27 (0, 0))) (hx : Arr W W.heap.size kx (x.map Value.string)) (hy : Arr W W.heap.size ky (y.map Value.string)) (hxl : x.length ≤ 1048576) (hyl : y.length ≤ 1048576) (i : Nat) (hi : i < x.length) (hj : i < y.length) :
    Calls Tryz.prog 64 #[.int .i64 i, .pointer (some ⟨b1, 0, none⟩), .pointer (some ⟨b2, 0, none⟩)] W fun e w' => e = .returned (.int .i64 (cmpS x[i] y[i])) ∧ Below W.heap.size W w' := by
  obtain ⟨A, ad, c, rfl, hA, hac⟩ := hx.dest
  obtain ⟨A', ad', c', rfl, hA', hac'⟩ := hy.dest
  rw [List.length_map] at hA hA' h1 h2
  obtain ⟨rfl, hadb⟩ := hA (by omega)
  obtain ⟨rfl, hadb'⟩ := hA' (by omega)
  have ci : W.cell? (ad.add i) = some (.string x[i]) := hac i _ (by simp [hi])
  have cj : W.cell? (ad'.add i) = some (.string y[i]) := hac' i _ (by simp [hj])
  obtain ⟨_, _, _, _, p4, _, _, _, _, _⟩ := row5 h1
  obtain ⟨_, _, _, _, q4, _, _, _, _, _⟩ := row5 h2
  have hcmp := fun W => Tryz.strings_Compare x[i] y[i] W
  have hr : cmpS x[i] y[i] = Lib.compareBytes x[i].data.toList y[i].data.toList := rfl
  rw [hr]
  generalize Lib.compareBytes x[i].data.toList y[i].data.toList = r at hcmp ⊢
  have HCMP := Lib.hid hcmp
  clear hcmp hr hac hA hx h1 hac' hA' hy h2
  go_enter Tryz.func64, Tryz.ntmps64
  go_wp2_with fail
  go_quiet ((go_at_call 61; exact Calls.quiet_of_same (HCMP.out _)))
  go_wp2_with fail
  go_ret
  exact ⟨rfl, below_drewN (Below.refl _ _) _⟩
set_option maxRecDepth 100000 in
set_option maxHeartbeats 2000000 in
theorem cmpFn2_any (m : Nat) (ih : CmpC m) (x y : List V) (d1 d2 : Nat) (hr1 : ∀ i (h : i < x.length), rightV d1 x[i] = true) (hr2 : ∀ i (h : i < y.length), rightV d2 y[i] = true) (a1 a2 : Option Addr) (c1 c2 : Nat) (k1 k2 : Int) (f1 f2 : Nat) (s1 s2 : ByteArray) (kx ky : Value) (b1 b2 : Nat) (W : World)
    (h1 : W.heap[b1]? = some (.cells #[.int .i64 k1, .float .f64 f1, .string s1, .slice a1 x.length c1, kx] 27 (0, 0)))
    (h2 : W.heap[b2]? = some (.cells #[.int .i64 k2, .float .f64 f2, .string s2, .slice a2 y.length c2, ky] 27 (0, 0))) (hx : RowAt W W.heap.size m a1 x) (hy : RowAt W W.heap.size m a2 y) (hxl : x.length ≤ 1048576) (hyl : y.length ≤ 1048576) (i : Nat) (hi : i < x.length) (hj : i < y.length) :
    Calls Tryz.prog 65 #[.int .i64 i, .pointer (some ⟨b1, 0, none⟩), .pointer (some ⟨b2, 0, none⟩)] W fun e w' => e = .returned (.int .i64 (cmpV m x[i] y[i])) ∧ Below W.heap.size W w' := by
  obtain ⟨B1, o1, hab1, hx1⟩ := hx
  obtain ⟨rfl, hB1⟩ := hab1 (by omega)
  obtain ⟨B2, o2, hab2, hx2⟩ := hy
  obtain ⟨rfl, hB2⟩ := hab2 (by omega)
  obtain ⟨lv1, kv1, h51, hA1⟩ := hx1 i hi
  obtain ⟨lv2, kv2, h52, hA2⟩ := hx2 i hj
  obtain ⟨f0, f1', f2', f3, f4⟩ := h51
  obtain ⟨g0, g1, g2, g3, g4⟩ := h52
  obtain ⟨A1, n1, m1, A2, n2, m2, rfl, rfl⟩ := hA1.slices
  obtain ⟨A3, n3, m3, A4, n4, m4, rfl, rfl⟩ := hA2.slices
  have hcall := ih x[i] y[i] d1 d2 _ _ _ _ W.drew (hr1 i hi) (hr2 i hj) (hA1.below (Below.refl _ _).drew) (hA2.below (Below.refl _ _).drew)
  unfold cellsV at hcall
  have HC := Lib.hid hcall
  obtain ⟨_, _, _, p3, _, _, _, _, _, _⟩ := row5 h1
  obtain ⟨_, _, _, q3, _, _, _, _, _, _⟩ := row5 h2
  generalize cmpV m x[i] y[i] = r at HC ⊢
  clear hcall ih h1 h2 hx1 hx2 hab1 hab2 hA1 hA2 hr1 hr2
  go_enter Tryz.func65, Tryz.ntmps65
  go_wp2_with fail
  go_region_with (go_at_call 20; refine HC.out.mono ?_; rintro e w2 ⟨rfl, hb2⟩)
  all_goals
    have HB2 := Lib.hid hb2
    clear hb2
    go_wp2_with fail
    go_ret
    exact ⟨rfl, ((Below.refl _ _).drew).trans HB2.out⟩
end Go.Proofs.YtkklfdfmfdnjoaaGreatDoor
/- The program's Compare. -/
namespace Go.Proofs.YtkklfdfmfdnjoaaGreatDoor
open Go Go.RowKit

/-- What is known of a right value. -/
theorem right_head {d : Nat} {v : V} (h : rightV d v = true) : (0 ≤ v.k ∧ v.k ≤ 6) ∧ (∀ i (h : i < v.l.length), rightV (d - 1) v.l[i] = true) ∧ (v.k = 6 → v.f = 0 ∧ v.s = ⟨#[]⟩ ∧ v.ks.length = v.l.length ∧ v.ks.Nodup) := by
  have hh : headOK v = true := by
    cases d with
    | zero => cases h
    | succ d => have h : (headOK v && v.l.all (fun x => rightV d x)) = true := h
                rw [Bool.and_eq_true] at h; exact h.1
  rw [headOK_iff] at hh
  refine ⟨hh.1, fun i hi => right_sub h hi, fun e => ⟨?_, ?_, hh.2.2.2.2.1.resolve_left (fun q => q e), okK_nodup hh.2.2.2.2.2.2.2⟩⟩
  · have := hh.2.1.resolve_left (by omega)
    unfold zeroV at this
    simpa using this
  · have := hh.2.2.1.resolve_left (by omega)
    exact toList_inj (by rw [← Lib.toList_data, this])
theorem byK_right {d : Nat} {v : V} (h : ∀ i (h : i < v.l.length), rightV d v.l[i] = true) (hlen : v.ks.length = v.l.length) : ∀ i (h : i < (byK v).length), rightV d (byK v)[i] = true := by
  intro i hi
  have hi' : i < (sortK v.ks).length := by rw [byK_len] at hi; rw [sortK_len]; exact hi
  have hm : (sortK v.ks)[i] ∈ v.ks := (sortK_perm v.ks).subset (List.getElem_mem hi')
  have e : (byK v)[i] = v.l.getD (Lib.idxOfS v.ks (sortK v.ks)[i]).toNat default := by simp [byK]
  rcases idx_cases v.ks (sortK v.ks)[i] with ⟨_, hn⟩ | ⟨j, h1, h2, _, _⟩
  · exact absurd hm hn
  · rw [e, h2, Int.toNat_natCast]
    have e2 : v.l.getD j default = v.l[j]'(by omega) := by simp [List.getD, show j < v.l.length by omega]
    rw [e2]
    exact h j (by omega)
theorem At.shape {w : World} {B m : Nat} {v : V} {lv kv : Value} (h : At w B (m + 1) v lv kv) : ∃ A1 C1 A2 C2, lv = .slice A1 v.l.length C1 ∧ kv = .slice A2 v.ks.length C2 ∧ RowAt w B m A1 v.l ∧ Arr w B (.slice A2 v.ks.length C2) (v.ks.map Value.string) := by
  obtain ⟨_, hk, _, a, c, b, o, e, hab, hi⟩ := h.opened
  obtain ⟨A, ad, ck, e2, _, _⟩ := hk.1.dest
  rw [List.length_map] at e2
  exact ⟨a, c, A, ck, e, e2, ⟨b, o, hab, hi⟩, e2 ▸ hk.1⟩
theorem Compare_low (k : Int) (hk : k = 0 ∨ k = 1 ∨ k = 2) (f1 f2 : Nat) (s1 s2 : ByteArray) (a1 a2 a3 a4 : Option Addr) (n1 n2 n3 n4 c1 c2 c3 c4 : Nat) (w : World) :
    Calls Tryz.prog 20 #[.agg #[.int .i64 k, .float .f64 f1, .string s1, .slice a1 n1 c1, .slice a2 n2 c2], .agg #[.int .i64 k, .float .f64 f2, .string s2, .slice a3 n3 c3, .slice a4 n4 c4]] w fun e w' => e = .returned (.int .i64 0) ∧ Below w.heap.size w w' := by
  have hsf := run_store_float Tryz.prog
  obtain ⟨i0, hi0, hz0, hz1, hz2⟩ := info_parts infoVal
  rcases hk with rfl | rfl | rfl
  all_goals
    go_enter Tryz.func20, Tryz.ntmps20
    go_wp2_with fail
    go_ret
    exact ⟨rfl, ((Below.refl w.heap.size w).alloc (Nat.le_refl _) _).alloc (by simp) _⟩
theorem Compare_num (f1 f2 : Nat) (s1 s2 : ByteArray) (a1 a2 a3 a4 : Option Addr) (n1 n2 n3 n4 c1 c2 c3 c4 : Nat) (w : World) :
    Calls Tryz.prog 20 #[.agg #[.int .i64 3, .float .f64 f1, .string s1, .slice a1 n1 c1, .slice a2 n2 c2], .agg #[.int .i64 3, .float .f64 f2, .string s2, .slice a3 n3 c3, .slice a4 n4 c4]] w fun e w' => e = .returned (.int .i64 (cmpB f1 f2)) ∧ Below w.heap.size w w' := by
  have hsf := run_store_float Tryz.prog
  obtain ⟨i0, hi0, hz0, hz1, hz2⟩ := info_parts infoVal
  have hc := cmpNum_any f1 f2
  generalize cmpB f1 f2 = r at hc ⊢
  have HC := Lib.hid hc
  clear hc
  go_enter Tryz.func20, Tryz.ntmps20
  go_wp2_with fail
  refine (HC.out _).mono ?_
  rintro e w1 ⟨rfl, rfl⟩
  go_wp2_with fail
  go_ret
  exact ⟨rfl, ((Below.refl w.heap.size w).alloc (Nat.le_refl _) _).alloc (by simp) _⟩
theorem Compare_str (f1 f2 : Nat) (s1 s2 : ByteArray) (a1 a2 a3 a4 : Option Addr) (n1 n2 n3 n4 c1 c2 c3 c4 : Nat) (w : World) :
    Calls Tryz.prog 20 #[.agg #[.int .i64 4, .float .f64 f1, .string s1, .slice a1 n1 c1, .slice a2 n2 c2], .agg #[.int .i64 4, .float .f64 f2, .string s2, .slice a3 n3 c3, .slice a4 n4 c4]] w fun e w' => e = .returned (.int .i64 (cmpS s1 s2)) ∧ Below w.heap.size w w' := by
  have hsf := run_store_float Tryz.prog
  obtain ⟨i0, hi0, hz0, hz1, hz2⟩ := info_parts infoVal
  have hc : ∀ W, Calls Tryz.prog 61 #[.string s1, .string s2] W fun e w' => e = .returned (.int .i64 (cmpS s1 s2)) ∧ w' = W := fun W => Tryz.strings_Compare s1 s2 W
  generalize cmpS s1 s2 = r at hc ⊢
  have HC := Lib.hid hc
  clear hc
  go_enter Tryz.func20, Tryz.ntmps20
  go_wp2_with fail
  refine (HC.out _).mono ?_
  rintro e w1 ⟨rfl, rfl⟩
  go_wp2_with fail
  go_ret
  exact ⟨rfl, ((Below.refl w.heap.size w).alloc (Nat.le_refl _) _).alloc (by simp) _⟩
set_option maxRecDepth 100000 in
set_option maxHeartbeats 2000000 in
theorem Compare_arr (m : Nat) (ih : CmpC m) (x y : List V) (d1 d2 : Nat) (hr1 : ∀ i (h : i < x.length), rightV d1 x[i] = true) (hr2 : ∀ i (h : i < y.length), rightV d2 y[i] = true) (a1 a2 : Option Addr) (c1 c2 : Nat) (f1 f2 : Nat) (s1 s2 : ByteArray) (a3 a4 : Option Addr) (n3 n4 c3 c4 : Nat) (w : World)
    (hx : RowAt w w.heap.size m a1 x) (hy : RowAt w w.heap.size m a2 y) (hxl : x.length ≤ 1048576) (hyl : y.length ≤ 1048576) :
    Calls Tryz.prog 20 #[.agg #[.int .i64 5, .float .f64 f1, .string s1, .slice a1 x.length c1, .slice a3 n3 c3], .agg #[.int .i64 5, .float .f64 f2, .string s2, .slice a2 y.length c2, .slice a4 n4 c4]] w fun e w' => e = .returned (.int .i64 (cmpRow (cmpV m) x y)) ∧ Below w.heap.size w w' := by
  have hsf := run_store_float Tryz.prog
  obtain ⟨i0, hi0, hz0, hz1, hz2⟩ := info_parts infoVal
  have r1 := heap_alloc_new w (.cells #[.int .i64 5, .float .f64 f1, .string s1, .slice a1 x.length c1, .slice a3 n3 c3] 27)
  have r1' := row_alloc3 r1 (.cells #[.int .i64 5, .float .f64 f2, .string s2, .slice a2 y.length c2, .slice a4 n4 c4] 27)
  have r2 := heap_alloc_new (w.alloc (.cells #[.int .i64 5, .float .f64 f1, .string s1, .slice a1 x.length c1, .slice a3 n3 c3] 27)) (.cells #[.int .i64 5, .float .f64 f2, .string s2, .slice a2 y.length c2, .slice a4 n4 c4] 27)
  rw [World.size_alloc] at r2
  have hbl : Below w.heap.size w ((w.alloc (.cells #[.int .i64 5, .float .f64 f1, .string s1, .slice a1 x.length c1, .slice a3 n3 c3] 27)).alloc (.cells #[.int .i64 5, .float .f64 f2, .string s2, .slice a2 y.length c2, .slice a4 n4 c4] 27)) := ((Below.refl w.heap.size w).alloc (Nat.le_refl _) _).alloc (by simp) _
  have hrows : ∀ W0, ((w.alloc (.cells #[.int .i64 5, .float .f64 f1, .string s1, .slice a1 x.length c1, .slice a3 n3 c3] 27)).alloc (.cells #[.int .i64 5, .float .f64 f2, .string s2, .slice a2 y.length c2, .slice a4 n4 c4] 27)) = W0 →
      Calls Tryz.prog 63 #[.int .i64 x.length, .int .i64 y.length, .func (.func 65) #[] #[.pointer (some ⟨w.heap.size, 0, none⟩), .pointer (some ⟨w.heap.size + 1, 0, none⟩)]] W0 fun e w' => e = .returned (.int .i64 (cmpRow (cmpV m) x y)) ∧ Below W0.heap.size W0 w' := by
    intro W0 hW
    rw [hW] at r1' r2 hbl
    have hlt := (Array.getElem?_eq_some_iff.1 r2).1
    refine rows2_any x y (cmpV m) hxl hyl _ _ (fun W => Below W0.heap.size W0 W) (fun W W' h1 h2 => h1.trans (h2.mono h1.size)) (fun i h1 h2 W hI => ?_) W0 (Below.refl _ _)
    have hb := hbl.trans (hI.mono hbl.size)
    exact cmpFn2_any m ih x y d1 d2 hr1 hr2 a1 a2 c1 c2 5 5 f1 f2 s1 s2 _ _ w.heap.size (w.heap.size + 1) W ((hI.block _ (by omega)).trans r1') ((hI.block _ hlt).trans r2) ((hx.below hb).more hb.size) ((hy.below hb).more hb.size) hxl hyl i h1 h2
  have HRO := Lib.hid hrows
  have HBL := Lib.hid hbl
  generalize cmpRow (cmpV m) x y = r at HRO ⊢
  clear hrows hbl r1 r1' r2 ih hr1 hr2 hx hy
  go_enter Tryz.func20, Tryz.ntmps20
  go_wp2_with fail
  refine (HRO.out _ rfl).mono ?_
  rintro e w1 ⟨rfl, hb1⟩
  have HB1 := Lib.hid (HBL.out.trans (hb1.mono HBL.out.size))
  clear hb1
  go_wp2_with fail
  go_ret
  exact ⟨rfl, HB1.out⟩
end Go.Proofs.YtkklfdfmfdnjoaaGreatDoor
/- The program's Compare: two objects; every two values. -/
namespace Go.Proofs.YtkklfdfmfdnjoaaGreatDoor
open Go Go.RowKit

theorem sorted_shape (v : V) (m B0 : Nat) (lv kv : Value) (w : World) (hB0 : B0 ≤ w.heap.size) (h : At w B0 (m + 1) v lv kv) (hk6 : v.k = 6) (hf : v.f = 0) (hs : v.s = ⟨#[]⟩) (hlen : v.ks.length = v.l.length) (hnd : v.ks.Nodup) :
    Calls Tryz.prog 62 #[.agg (cellsV v lv kv)] w fun e w' => ∃ A1 C1 A2 C2, e = .returned (.agg #[.int .i64 6, .float .f64 0, .string ⟨#[]⟩, .slice A1 (byK v).length C1, .slice A2 (sortK v.ks).length C2]) ∧
      AtN w' B0 w.heap.size (m + 1) (sortedV v) (.slice A1 (byK v).length C1) (.slice A2 (sortK v.ks).length C2) ∧ Below w.heap.size w w' := by
  refine (sorted_any v m B0 lv kv w hB0 h hk6 hf hs hlen hnd).mono ?_
  rintro e w' ⟨lv', kv', rfl, hat, hb⟩
  obtain ⟨A1, C1, A2, C2, rfl, rfl, _, _⟩ := (hat.to_at (Nat.le_trans hB0 hb.size)).shape
  refine ⟨A1, C1, A2, C2, ?_, hat, hb⟩
  unfold cellsV sortedV
  rw [hk6, hf, hs]
  rfl
/-- Behind the two stores of sorted objects. -/
structure Two (w4 : World) (p q : Nat) (ra rb : Array Value) (W : World) : Prop where
  hp : W.heap[p]? = some (.cells ra 27 (0, 0))
  hq : W.heap[q]? = some (.cells rb 27 (0, 0))
  rest : ∀ k, k ≠ p → k ≠ q → W.heap[k]? = w4.heap[k]?
  size : W.heap.size = w4.heap.size
  bel : ∀ (B : Nat) (w : World), B ≤ p → B ≤ q → Below B w w4 → Below B w W
theorem two_a {w4 : World} {p q : Nat} {u0 u1 u2 u3 u4 v0 v1 v2 v3 v4 : Value} (h1 : w4.heap[p]? = some (.cells #[u0, u1, u2, u3, u4] 27 (0, 0))) (h2 : w4.heap[q]? = some (.cells #[v0, v1, v2, v3, v4] 27 (0, 0))) (hpq : p ≠ q) (x0 x1 x2 x3 x4 y0 y1 y2 y3 y4 : Value) :
    Two w4 p q #[x0, x1, x2, x3, x4] #[y0, y1, y2, y3, y4] (set5 (set5 w4 p x0 x1 x2 x3 x4) q y0 y1 y2 y3 y4) :=
  ⟨(set5_other hpq ..).trans (set5_row h1 ..), set5_row ((set5_other (fun e => hpq e.symm) ..).trans h2) .., fun k hk hk2 => (set5_other hk2 ..).trans (set5_other hk ..), by rw [set5_size, set5_size], fun B w hB hB2 hb => set5_below0 (set5_below0 hb hB ..) hB2 ..⟩
theorem two_b {w4 : World} {p q : Nat} {u0 u1 u2 u3 u4 v0 v1 v2 v3 v4 : Value} (h1 : w4.heap[p]? = some (.cells #[u0, u1, u2, u3, u4] 27 (0, 0))) (h2 : w4.heap[q]? = some (.cells #[v0, v1, v2, v3, v4] 27 (0, 0))) (hpq : p ≠ q) (x0 x1 x2 x3 x4 y0 y1 y2 y3 y4 : Value) :
    Two w4 p q #[x0, x1, x2, x3, x4] #[y0, y1, y2, y3, y4] (set5 (set5 w4 q y0 y1 y2 y3 y4) p x0 x1 x2 x3 x4) :=
  ⟨set5_row ((set5_other hpq ..).trans h1) .., (set5_other (fun e => hpq e.symm) ..).trans (set5_row h2 ..), fun k hk hk2 => (set5_other hk ..).trans (set5_other hk2 ..), by rw [set5_size, set5_size], fun B w hB hB2 hb => set5_below0 (set5_below0 hb hB2 ..) hB ..⟩
theorem At.rows {w : World} {B m n1 n2 c1 c2 : Nat} {v : V} {A1 A2 : Option Addr} (h : At w B (m + 1) v (.slice A1 n1 c1) (.slice A2 n2 c2)) : RowAt w B m A1 v.l ∧ Arr w B (.slice A2 n2 c2) (v.ks.map Value.string) := by
  obtain ⟨a, c, a', c', e1, e2, h1, h2⟩ := h.shape
  cases e1
  cases e2
  exact ⟨h1, h2⟩
set_option maxRecDepth 100000 in
set_option maxHeartbeats 3000000 in
theorem Compare_obj (m : Nat) (ih : CmpC m) (a b : V) (d1 d2 : Nat) (hra : rightV d1 a = true) (hrb : rightV d2 b = true) (la ka lb kb : Value) (w : World) (ha : At w w.heap.size (m + 1) a la ka) (hb : At w w.heap.size (m + 1) b lb kb) (h6a : a.k = 6) (h6b : b.k = 6) :
    Calls Tryz.prog 20 #[.agg (cellsV a la ka), .agg (cellsV b lb kb)] w fun e w' => e = .returned (.int .i64 (if cmpRow cmpS (sortK a.ks) (sortK b.ks) = 0 then cmpRow (cmpV m) (byK a) (byK b) else cmpRow cmpS (sortK a.ks) (sortK b.ks))) ∧ Below w.heap.size w w' := by
  have hsf := run_store_float Tryz.prog
  obtain ⟨i0, hi0, hz0, hz1, hz2⟩ := info_parts infoVal
  obtain ⟨_, hsuba, hobja⟩ := right_head hra
  obtain ⟨fa, sa, lena, nda⟩ := hobja h6a
  obtain ⟨_, hsubb, hobjb⟩ := right_head hrb
  obtain ⟨fb, sb, lenb, ndb⟩ := hobjb h6b
  have hrka := byK_right hsuba lena
  have hrkb := byK_right hsubb lenb
  have hsa := fun W (hbl : Below w.heap.size w W) => sorted_shape a m w.heap.size la ka W hbl.size (At.keep (fun p hp => hbl.cell hp) _ _ _ _ ha) h6a fa sa lena nda
  have hsb := fun W (hbl : Below w.heap.size w W) => sorted_shape b m w.heap.size lb kb W hbl.size (At.keep (fun p hp => hbl.cell hp) _ _ _ _ hb) h6b fb sb lenb ndb
  have hla : (byK a).length ≤ 1048576 := by rw [byK_len]; exact ha.opened.1.2.2.2.2.2.1
  have hlb : (byK b).length ≤ 1048576 := by rw [byK_len]; exact hb.opened.1.2.2.2.2.2.1
  have hka : (sortK a.ks).length ≤ 1048576 := by rw [sortK_len]; exact ha.opened.1.2.2.2.2.2.1
  have hkb : (sortK b.ks).length ≤ 1048576 := by rw [sortK_len]; exact hb.opened.1.2.2.2.2.2.1
  obtain ⟨A1, C1, A2, C2, rfl, rfl, _, _⟩ := ha.shape
  obtain ⟨A3, C3, A4, C4, rfl, rfl, _, _⟩ := hb.shape
  unfold cellsV at hsa hsb ⊢
  rw [h6a, fa, sa] at hsa ⊢
  rw [h6b, fb, sb] at hsb ⊢
  have r1 := row_alloc3 (heap_alloc_new w (.cells #[.int .i64 6, .float .f64 0, .string ⟨#[]⟩, .slice A1 a.l.length C1, .slice A2 a.ks.length C2] 27)) (.cells #[.int .i64 6, .float .f64 0, .string ⟨#[]⟩, .slice A3 b.l.length C3, .slice A4 b.ks.length C4] 27)
  have r2 := heap_alloc_new (w.alloc (.cells #[.int .i64 6, .float .f64 0, .string ⟨#[]⟩, .slice A1 a.l.length C1, .slice A2 a.ks.length C2] 27)) (.cells #[.int .i64 6, .float .f64 0, .string ⟨#[]⟩, .slice A3 b.l.length C3, .slice A4 b.ks.length C4] 27)
  rw [World.size_alloc] at r2
  have hbl : Below w.heap.size w ((w.alloc (.cells #[.int .i64 6, .float .f64 0, .string ⟨#[]⟩, .slice A1 a.l.length C1, .slice A2 a.ks.length C2] 27)).alloc (.cells #[.int .i64 6, .float .f64 0, .string ⟨#[]⟩, .slice A3 b.l.length C3, .slice A4 b.ks.length C4] 27)) := ((Below.refl w.heap.size w).alloc (Nat.le_refl _) _).alloc (by simp) _
  have hsz : ((w.alloc (.cells #[.int .i64 6, .float .f64 0, .string ⟨#[]⟩, .slice A1 a.l.length C1, .slice A2 a.ks.length C2] 27)).alloc (.cells #[.int .i64 6, .float .f64 0, .string ⟨#[]⟩, .slice A3 b.l.length C3, .slice A4 b.ks.length C4] 27)).heap.size = w.heap.size + 2 := by simp
  have HSA := Lib.hid hsa
  have HSB := Lib.hid hsb
  have HRKA := Lib.hid hrka
  have HRKB := Lib.hid hrkb
  have HIH := Lib.hid ih
  clear hsa hsb hrka hrkb ih ha hb hra hrb hsuba hsubb hobja hobjb fa sa lena nda fb sb lenb ndb h6a h6b
  obtain ⟨r, hr⟩ : ∃ r, (if cmpRow cmpS (sortK a.ks) (sortK b.ks) = 0 then cmpRow (cmpV m) (byK a) (byK b) else cmpRow cmpS (sortK a.ks) (sortK b.ks)) = r := ⟨_, rfl⟩
  rw [hr]
  have HZ := Lib.hid hr
  clear hr
  go_enter Tryz.func20, Tryz.ntmps20
  go_wp2_with fail
  obtain ⟨W0, hW0⟩ : ∃ W0, ((w.alloc (.cells #[.int .i64 6, .float .f64 0, .string ⟨#[]⟩, .slice A1 a.l.length C1, .slice A2 a.ks.length C2] 27)).alloc (.cells #[.int .i64 6, .float .f64 0, .string ⟨#[]⟩, .slice A3 b.l.length C3, .slice A4 b.ks.length C4] 27)) = W0 := ⟨_, rfl⟩
  rw [hW0] at r1 r2 hbl hsz ⊢
  clear hW0
  have HR1 := Lib.hid r1
  have HR2 := Lib.hid r2
  have HBL := Lib.hid hbl
  have HSZ := Lib.hid hsz
  obtain ⟨x0, x1, x2, x3, x4⟩ := row5p r1
  obtain ⟨y0, y1, y2, y3, y4⟩ := row5p r2
  have H1 : Hid (w.heap.size < W0.heap.size) := Lib.hid (by omega)
  have H2 : Hid (w.heap.size + 1 < W0.heap.size) := Lib.hid (by omega)
  clear r1 r2 hbl hsz
  go_region_with (first
    | (go_at_call 62; refine (HSB.out w3 (HBL.out.drew.trans (hb3.mono HBL.out.size))).mono ?_; rintro e w4 ⟨X3, Y3, X4, Y4, rfl, hat4, hb4⟩; have e1 := (hb4.block _ (Nat.lt_of_lt_of_le H1.out hb3.size)).trans ((hb3.block _ H1.out).trans HR1.out); have e2 := (hb4.block _ (Nat.lt_of_lt_of_le H2.out hb3.size)).trans ((hb3.block _ H2.out).trans HR2.out); obtain ⟨m0, m1, m2, m3, m4, n0, n1, n2, n3, n4⟩ := row5 e1; obtain ⟨o0, o1, o2, o3, o4, p0, p1, p2, p3, p4⟩ := row5 e2)
    | (go_at_call 62; refine (HSA.out _ HBL.out.drew).mono ?_; rintro e w3 ⟨X1, Y1, X2, Y2, rfl, hat3, hb3⟩; have q0 := (hb3.cell (p := ⟨w.heap.size + 1, 0, none⟩) H2.out).trans y0; have q1 := (hb3.cell (p := ⟨w.heap.size + 1, 1, none⟩) H2.out).trans y1; have q2 := (hb3.cell (p := ⟨w.heap.size + 1, 2, none⟩) H2.out).trans y2; have q3 := (hb3.cell (p := ⟨w.heap.size + 1, 3, none⟩) H2.out).trans y3; have q4 := (hb3.cell (p := ⟨w.heap.size + 1, 4, none⟩) H2.out).trans y4))
  all_goals
    have htwo := two_a e1 e2 (by omega) (.int .i64 6) (.float .f64 0) (.string ⟨#[]⟩) (.slice X1 (byK a).length Y1) (.slice X2 (sortK a.ks).length Y2) (.int .i64 6) (.float .f64 0) (.string ⟨#[]⟩) (.slice X3 (byK b).length Y3) (.slice X4 (sortK b.ks).length Y4)
    obtain ⟨W5, hW5⟩ : ∃ W5, set5 (set5 w4 w.heap.size (.int .i64 6) (.float .f64 0) (.string ⟨#[]⟩) (.slice X1 (byK a).length Y1) (.slice X2 (sortK a.ks).length Y2)) (w.heap.size + 1) (.int .i64 6) (.float .f64 0) (.string ⟨#[]⟩) (.slice X3 (byK b).length Y3) (.slice X4 (sortK b.ks).length Y4) = W5 := ⟨_, rfl⟩
    rw [hW5] at htwo
    unfold set5 at hW5
    rw [hW5]
    have hz : W0.drew.heap.size = w.heap.size + 2 := HSZ.out
    have hz3 : w.heap.size + 2 ≤ w3.heap.size := by have := hb3.size; omega
    have hA5 := (hat3.below (by omega) hb4).keep (w' := W5) (by rw [htwo.size]; exact Nat.le_refl _) (fun k hk => htwo.rest k (by omega) (by omega))
    have hB5 := hat4.keep (w' := W5) (by rw [htwo.size]; exact Nat.le_refl _) (fun k hk => htwo.rest k (by omega) (by omega))
    have hb5 : Below w.heap.size w W5 := htwo.bel _ _ (by omega) (by omega) ((HBL.out.drew.trans (hb3.mono HBL.out.size)).trans (hb4.mono (by omega)))
    obtain ⟨hrowa, harra⟩ := (hA5.to_at hb5.size).rows
    obtain ⟨hrowb, harrb⟩ := (hB5.to_at hb5.size).rows
    have hp5 := (Array.getElem?_eq_some_iff.1 htwo.hp).1
    have hq5 := (Array.getElem?_eq_some_iff.1 htwo.hq).1
    have hc1 := fun W hW => rows1_any (sortK a.ks) (sortK b.ks) cmpS hka hkb (.pointer (some ⟨w.heap.size, 0, none⟩)) (.pointer (some ⟨w.heap.size + 1, 0, none⟩)) (fun W' => Below W5.heap.size W5 W') (fun W1 W2 h1 h2 => h1.trans (h2.mono h1.size))
      (fun i h1 h2 W1 hI => cmpFn1_any (sortK a.ks) (sortK b.ks) _ _ 6 6 0 0 _ _ _ _ w.heap.size (w.heap.size + 1) W1 ((hI.block _ hp5).trans htwo.hp) ((hI.block _ hq5).trans htwo.hq) ((harra.below hI).more hI.size) ((harrb.below hI).more hI.size) hka hkb i h1 h2) W hW
    have hc2 := fun W hW => rows2_any (byK a) (byK b) (cmpV m) hla hlb (.pointer (some ⟨w.heap.size, 0, none⟩)) (.pointer (some ⟨w.heap.size + 1, 0, none⟩)) (fun W' => Below W5.heap.size W5 W') (fun W1 W2 h1 h2 => h1.trans (h2.mono h1.size))
      (fun i h1 h2 W1 hI => cmpFn2_any m HIH.out (byK a) (byK b) (d1 - 1) (d2 - 1) HRKA.out HRKB.out X1 X3 Y1 Y3 6 6 0 0 _ _ _ _ w.heap.size (w.heap.size + 1) W1 ((hI.block _ hp5).trans htwo.hp) ((hI.block _ hq5).trans htwo.hq) ((hrowa.below hI).more hI.size) ((hrowb.below hI).more hI.size) hla hlb i h1 h2) W hW
    have HTWO := Lib.hid htwo
    have HC1 := Lib.hid hc1
    have HC2 := Lib.hid hc2
    have HB5 := Lib.hid hb5
    obtain ⟨g0, g1, g2, g3, g4⟩ := row5p htwo.hp
    obtain ⟨j0, j1, j2, j3, j4⟩ := row5p htwo.hq
    generalize cmpRow cmpS (sortK a.ks) (sortK b.ks) = z1 at HC1 HZ
    generalize cmpRow (cmpV m) (byK a) (byK b) = z2 at HC2 HZ
    clear htwo hW5 hA5 hB5 hb5 hrowa harra hrowb harrb hc1 hc2 hat3 hat4 hb3 hb4 e1 e2 m0 m1 m2 m3 m4 n0 n1 n2 n3 n4 o0 o1 o2 o3 o4 p0 p1 p2 p3 p4 q0 q1 q2 q3 q4 x0 x1 x2 x3 x4 y0 y1 y2 y3 y4 HSA HSB HRKA HRKB HIH HR1 HR2 HBL HSZ H1 H2
    by_cases hz1 : z1 = 0
    · subst hz1
      have HZ2 := Lib.hid (HZ.out.symm.trans (if_pos rfl))
      clear HZ
      go_wp2_with fail
      refine (HC1.out _ (Below.refl _ _)).mono ?_
      rintro e w6 ⟨rfl, hb6⟩
      obtain ⟨g0', g1', g2', g3', g4'⟩ := row5p ((hb6.block _ hp5).trans HTWO.out.hp)
      obtain ⟨j0', j1', j2', j3', j4'⟩ := row5p ((hb6.block _ hq5).trans HTWO.out.hq)
      have HB6 := Lib.hid hb6
      clear hb6 HTWO
      go_wp2_with fail
      refine (HC2.out _ HB6.out).mono ?_
      rintro e w7 ⟨rfl, hb7⟩
      have HB7 := Lib.hid hb7
      clear hb7
      go_wp2_with fail
      go_ret
      exact ⟨by rw [HZ2.out]; rfl, HB5.out.trans ((HB6.out.trans (HB7.out.mono HB6.out.size)).mono HB5.out.size)⟩
    · have HZ2 := Lib.hid (HZ.out.symm.trans (if_neg hz1))
      clear HZ
      have hqb : (z1 != 0) = true := by simpa using hz1
      go_wp2_with fail
      refine (HC1.out _ (Below.refl _ _)).mono ?_
      rintro e w6 ⟨rfl, hb6⟩
      have HB6 := Lib.hid hb6
      clear hb6 HTWO
      go_wp2_with fail
      go_ret
      exact ⟨by rw [HZ2.out]; rfl, HB5.out.trans (HB6.out.mono HB5.out.size)⟩
/-- The program's Compare of every two right values. -/
theorem Compare_any : ∀ m : Nat, CmpC m
  | 0 => fun _ _ _ _ _ _ _ _ _ _ _ h _ => h.elim
  | m + 1 => fun a b da db la ka lb kb w hra hrb ha hb => by
    have ih := Compare_any m
    obtain ⟨⟨ha0, ha6⟩, hsuba, _⟩ := right_head hra
    obtain ⟨_, hsubb, _⟩ := right_head hrb
    rw [cmpV_succ]
    by_cases hk : a.k = b.k
    · rw [if_pos hk]
      by_cases h3 : a.k = 3
      · obtain ⟨A1, C1, A2, C2, rfl, rfl, _, _⟩ := ha.shape
        obtain ⟨A3, C3, A4, C4, rfl, rfl, _, _⟩ := hb.shape
        unfold cellsV
        rw [if_pos h3, ← hk, h3]
        exact Compare_num a.f b.f a.s b.s A1 A2 A3 A4 _ _ _ _ C1 C2 C3 C4 w
      · rw [if_neg h3]
        by_cases h4 : a.k = 4
        · obtain ⟨A1, C1, A2, C2, rfl, rfl, _, _⟩ := ha.shape
          obtain ⟨A3, C3, A4, C4, rfl, rfl, _, _⟩ := hb.shape
          unfold cellsV
          rw [if_pos h4, ← hk, h4]
          exact Compare_str a.f b.f a.s b.s A1 A2 A3 A4 _ _ _ _ C1 C2 C3 C4 w
        · rw [if_neg h4]
          by_cases h5 : a.k = 5
          · have hl1 := ha.opened.1.2.2.2.2.1
            have hl2 := hb.opened.1.2.2.2.2.1
            obtain ⟨A1, C1, A2, C2, rfl, rfl, hr1, _⟩ := ha.shape
            obtain ⟨A3, C3, A4, C4, rfl, rfl, hr2, _⟩ := hb.shape
            unfold cellsV
            rw [if_pos h5, ← hk, h5]
            exact Compare_arr m ih a.l b.l (da - 1) (db - 1) hsuba hsubb A1 A3 C1 C3 a.f b.f a.s b.s A2 A4 _ _ C2 C4 w hr1 hr2 hl1 hl2
          · rw [if_neg h5]
            by_cases h6 : a.k = 6
            · rw [if_pos h6]
              exact Compare_obj m ih a b da db hra hrb la ka lb kb w ha hb h6 (hk ▸ h6)
            · rw [if_neg h6]
              obtain ⟨A1, C1, A2, C2, rfl, rfl, _, _⟩ := ha.shape
              obtain ⟨A3, C3, A4, C4, rfl, rfl, _, _⟩ := hb.shape
              unfold cellsV
              rw [← hk]
              exact Compare_low a.k (by omega) a.f b.f a.s b.s A1 A2 A3 A4 _ _ _ _ C1 C2 C3 C4 w
    · rw [if_neg hk]
      obtain ⟨A1, C1, A2, C2, rfl, rfl, _, _⟩ := ha.shape
      obtain ⟨A3, C3, A4, C4, rfl, rfl, _, _⟩ := hb.shape
      unfold cellsV
      exact Compare_kinds a.k b.k a.f b.f a.s b.s A1 A2 A3 A4 _ _ _ _ C1 C2 C3 C4 hk w
end Go.Proofs.YtkklfdfmfdnjoaaGreatDoor
/- Is there no NaN in a value? Equal. -/
namespace Go.Proofs.YtkklfdfmfdnjoaaGreatDoor
open Go Go.RowKit

theorem plainV_succ (m : Nat) (v : V) : plainV (m + 1) v = (!decide (9218868437227405312 < szB v.f) && v.l.all (fun x => plainV m x)) := rfl
set_option maxRecDepth 100000 in
set_option maxHeartbeats 2000000 in
theorem plain_any : ∀ (m : Nat) (v : V) (lv kv : Value) (w : World), At w w.heap.size m v lv kv →
    Calls Tryz.prog 41 #[.agg (cellsV v lv kv)] w fun e w' => e = .returned (.bool (plainV m v)) ∧ Below w.heap.size w w' := by
  intro m
  induction m with
  | zero => intro v lv kv w h; exact h.elim
  | succ m ih =>
    intro v lv kv w h
    have hsf := run_store_float Tryz.prog
    have hll := h.opened.1.2.2.2.2.1
    obtain ⟨a1, c1, a2, c2, rfl, rfl, hrow, _⟩ := h.shape
    have hn := eq_self v.f
    rw [plainV_succ]
    have hbox := heap_alloc_new w (.cells #[.int .i64 v.k, .float .f64 v.f, .string v.s, .slice a1 v.l.length c1, .slice a2 v.ks.length c2] 27)
    have hb0 : Below w.heap.size w (w.alloc (.cells #[.int .i64 v.k, .float .f64 v.f, .string v.s, .slice a1 v.l.length c1, .slice a2 v.ks.length c2] 27)) := (Below.refl w.heap.size w).alloc (Nat.le_refl _) _
    have HIH := Lib.hid ih
    have HROW := Lib.hid hrow
    have HBOX := Lib.hid hbox
    have HB0 := Lib.hid hb0
    unfold cellsV
    clear h ih hrow hbox hb0
    by_cases hnan : 9218868437227405312 < szB v.f
    · rw [decide_eq_true hnan] at hn ⊢
      clear hnan
      go_enter Tryz.func41, Tryz.ntmps41
      go_wp2_with fail
      go_ret
      exact ⟨rfl, HB0.out⟩
    · rw [decide_eq_false hnan] at hn ⊢
      clear hnan
      obtain ⟨r, hr⟩ : ∃ r, (!false && v.l.all (fun x => plainV m x)) = r := ⟨_, rfl⟩
      rw [hr]
      have HR := Lib.hid hr
      clear hr
      go_enter Tryz.func41, Tryz.ntmps41
      go_wp2_with fail
      go_loopw [3] (fun k W => ∃ x : Nat, x ≤ v.l.length ∧ k = .int .i64 x ∧ (∀ j (h : j < v.l.length), j < x → plainV m v.l[j] = true) ∧ W.heap[w.heap.size]? = some (.cells #[.int .i64 v.k, .float .f64 v.f, .string v.s, .slice a1 v.l.length c1, .slice a2 v.ks.length c2] 27 (0, 0)) ∧ Below w.heap.size w W) (fun k _ => v.l.length - (intOf k).toNat)
      case atStart => exact ⟨0, Nat.zero_le _, rfl, fun j h hj => by omega, HBOX.out, HB0.out⟩
      case round =>
        obtain ⟨x, hx, rfl, hall, hbx, hbel⟩ := hrel
        have HBX := Lib.hid hbx
        have hsz := (Array.getElem?_eq_some_iff.1 hbx).1
        have HALL := Lib.hid hall
        have HBEL := Lib.hid hbel
        obtain ⟨x0, x1, x2, x3, x4⟩ := row5p hbx
        clear hall hbel hbx
        by_cases hlt : x < v.l.length
        · obtain ⟨B1, o1, hab, hi⟩ := HROW.out
          obtain ⟨rfl, hB1⟩ := hab (by omega)
          obtain ⟨lv1, kv1, h5, hA1⟩ := hi x hlt
          have hbw : Below w.heap.size w wr := HBEL.out
          obtain ⟨f0, f1, f2, f3, f4⟩ := h5.keep hB1 (fun p hp => hbw.cell hp)
          obtain ⟨A1, n1, m1, A2, n2, m2, rfl, rfl⟩ := hA1.slices
          have hc := HIH.out v.l[x] _ _ wr ((hA1.below hbw).more hbw.size)
          unfold cellsV at hc
          cases hp : plainV m v.l[x]
          · rw [hp] at hc
            have hfin : false = r := by
              rw [← HR.out]
              simp only [Bool.not_false, Bool.true_and]
              symm
              rw [List.all_eq_false]
              exact ⟨v.l[x], List.getElem_mem hlt, by simp [hp]⟩
            have HC := Lib.hid hc
            have HF := Lib.hid hfin
            clear hc hp hfin hi h5 hA1 hab hbw
            go_wp2_with fail
            refine HC.out.mono ?_
            rintro e w3 ⟨rfl, hb3⟩
            have HB3 := Lib.hid hb3
            clear hb3
            go_wp2_with fail
            go_ret
            exact ⟨by rw [← HF.out]; rfl, HBEL.out.trans (HB3.out.mono HBEL.out.size)⟩
          · rw [hp] at hc
            have HC := Lib.hid hc
            have HP := Lib.hid hp
            clear hc hp hi h5 hA1 hab hbw
            go_wp2_with fail
            refine HC.out.mono ?_
            rintro e w3 ⟨rfl, hb3⟩
            have HB3 := Lib.hid hb3
            clear hb3
            go_wp2_with fail
            go_roundw
            case rel =>
              refine ⟨x + 1, by omega, by go_num, fun j h hj => ?_, (HB3.out.block _ hsz).trans HBX.out, HBEL.out.trans (HB3.out.mono HBEL.out.size)⟩
              by_cases e : j = x
              · subst e; exact HP.out
              · exact HALL.out j h (by omega)
            case measure => simp [intOf]; omega
        · have hfin : true = r := by
            rw [← HR.out]
            simp only [Bool.not_false, Bool.true_and]
            symm
            rw [List.all_eq_true]
            intro y hy
            obtain ⟨j, hj, rfl⟩ := List.getElem_of_mem hy
            exact HALL.out j hj (by omega)
          have HF := Lib.hid hfin
          clear hfin
          go_wp2_with fail
          go_ret
          exact ⟨by rw [← HF.out]; rfl, HBEL.out⟩
set_option maxRecDepth 100000 in
set_option maxHeartbeats 1000000 in
theorem Equal_any (m : Nat) (a b : V) (da db : Nat) (la ka lb kb : Value) (w : World) (hra : rightV da a = true) (hrb : rightV db b = true) (ha : At w w.heap.size m a la ka) (hb : At w w.heap.size m b lb kb) :
    Calls Tryz.prog 22 #[.agg (cellsV a la ka), .agg (cellsV b lb kb)] w fun e w' => e = .returned (.bool (cmpV m a b == 0)) ∧ Below w.heap.size w w' := by
  have hsf := run_store_float Tryz.prog
  have hc := fun W (h : Below w.heap.size w W) => Compare_any m a b da db la ka lb kb W hra hrb ((ha.below h).more h.size) ((hb.below h).more h.size)
  obtain ⟨A1, n1, m1, A2, n2, m2, rfl, rfl⟩ := ha.slices
  obtain ⟨A3, n3, m3, A4, n4, m4, rfl, rfl⟩ := hb.slices
  unfold cellsV at hc ⊢
  generalize cmpV m a b = r at hc ⊢
  have HC := Lib.hid hc
  clear hc ha hb hra hrb
  go_enter Tryz.func22, Tryz.ntmps22
  go_wp2_with fail
  have hb0 := ((Below.refl w.heap.size w).alloc (Nat.le_refl _) (Obj.cells #[.int .i64 a.k, .float .f64 a.f, .string a.s, .slice A1 n1 m1, .slice A2 n2 m2] 27)).alloc (by simp) (Obj.cells #[.int .i64 b.k, .float .f64 b.f, .string b.s, .slice A3 n3 m3, .slice A4 n4 m4] 27)
  refine (HC.out _ hb0).mono ?_
  rintro e w1 ⟨rfl, hb1⟩
  have HB1 := Lib.hid (hb0.trans (hb1.mono hb0.size))
  clear hb0 hb1
  go_wp2_with fail
  go_ret
  exact ⟨rfl, HB1.out⟩
end Go.Proofs.YtkklfdfmfdnjoaaGreatDoor
