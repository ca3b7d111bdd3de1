/- The program's Get: keys, their places, what stands there. -/
import Derived.Test.YtdlighmnlcklnaaGreatDoorUHeadsD
import Derived.Test.YtdlighmnlcklnaaGreatDoorURunes
import Derived.Test.YtdlighmnlcklnaaGreatDoorUHeadsA
import Derived.Test.YtdlighmnlcklnaaGreatDoorUText
namespace Go.Proofs.YtdlighmnlcklnaaGreatDoor
open Go Go.RowKit

theorem BRow.arrV {w : World} {e : TypeId} {b n cap : Nat} {l : List UInt8} (h : BRow w e b l) (hn : n = l.length) : Arr w (b + 1) (.slice (some ⟨b, 0, none⟩) n cap) (Lib.byteCells l) := by
  subst hn
  refine ⟨some ⟨b, 0, none⟩, cap, by rw [Lib.byteCells_length], fun _ => ⟨_, rfl, by simp, fun j u hu => ?_⟩⟩
  have hj : j < l.length := by
    have := (List.getElem?_eq_some_iff.1 hu).1
    rw [Lib.byteCells_length] at this
    exact this
  rw [Addr.add_lit, Nat.zero_add, h.cell j hj, ← hu]
  unfold Lib.byteCells
  rw [List.getElem?_map, List.getElem?_eq_getElem hj]
  rfl
theorem back_bytesV (c : ByteArray) : (⟨c.data.toList.toArray⟩ : ByteArray) = c := by cases c; simp
set_option maxRecDepth 100000 in
set_option maxHeartbeats 1000000 in
theorem keyOf_any (s : ByteArray) (hs : s.size ≤ 1000000000) (w : World) : Calls Tryz.prog 28 #[.string s] w fun e w' => e = .returned (.string (cleanS s)) ∧ Below w.heap.size w w' := by
  have hcv := Lib.run_convert_string_bytes (P := Tryz.prog) w 9 65 5 s Tryz.underlying9 Tryz.underlying65 Tryz.underlying5
  go_enter Tryz.func28, Tryz.ntmps28
  go_wp2_with fail
  clear hcv
  have r4 := BRow.made w 5 s
  have b4 := below_bytes w 5 s
  obtain ⟨W, hW⟩ : ∃ W, Lib.bytesWorld w 5 s = W := ⟨_, rfl⟩
  rw [hW] at r4 b4 ⊢
  clear hW
  have hz := r4.lt
  refine (Clean_any s.data.toList (w.heap.size + 1) _ (by rw [Array.length_toList]; exact hs) _ (r4.arrV (by rw [Array.length_toList]; rfl)) (by omega)).mono ?_
  rintro e w5 ⟨rfl, b5⟩
  rw [back_bytesV]
  go_wp2_with fail
  go_ret
  exact ⟨rfl, b4.trans (b5.mono b4.size)⟩
theorem first_at (x : ByteArray) : ∀ zs : List ByteArray, x ∈ zs → ∃ i : Nat, ∃ h : i < zs.length, zs[i] = x ∧ ∀ j (hj : j < i), zs[j]'(by omega) ≠ x
  | [], h => by cases h
  | z :: zs, h => by
    by_cases e : z = x
    · exact ⟨0, by simp, e, fun j hj => absurd hj (by omega)⟩
    · obtain ⟨i, hi, he, hn⟩ := first_at x zs ((List.mem_cons.1 h).resolve_left fun q => e q.symm)
      refine ⟨i + 1, by simp; omega, he, fun j hj => ?_⟩
      cases j with
      | zero => exact e
      | succ j => exact hn j (by omega)
theorem idx_cases (zs : List ByteArray) (x : ByteArray) : (Lib.idxOfS zs x = -1 ∧ x ∉ zs) ∨ ∃ i : Nat, ∃ h : i < zs.length, Lib.idxOfS zs x = (i : Int) ∧ zs[i] = x ∧ ∀ j (hj : j < i), zs[j]'(by omega) ≠ x := by
  by_cases hm : x ∈ zs
  · right
    obtain ⟨i, hi, he, hn⟩ := first_at x zs hm
    refine ⟨i, hi, ?_, he, hn⟩
    have := Lib.idxOfS_hit zs zs.length i x hi (Nat.le_refl _) (by rw [List.getD, List.getElem?_eq_getElem hi]; exact he) (fun j hj e => hn j hj (by rw [List.getD, List.getElem?_eq_getElem (by omega)] at e; exact e))
    rw [List.take_length] at this
    exact this
  · left
    refine ⟨?_, hm⟩
    have := Lib.idxOfS_miss zs zs.length x (fun j hj e => hm (by rw [List.getD, List.getElem?_eq_getElem hj] at e; rw [← e]; exact List.getElem_mem _))
    rw [List.take_length] at this
    exact this
theorem Index_any (ks : List ByteArray) (kv : Value) (x : ByteArray) (w : World) (hmax : ks.length ≤ 1048576) (hk : KeysAt w w.heap.size kv ks) :
    Calls Tryz.prog 59 #[kv, .string x] w fun e w' => e = .returned (.int .i64 (Lib.idxOfS ks x)) ∧ w' = w := by
  obtain ⟨A, ad, c, rfl, hA, hac⟩ := hk.1.dest
  rw [List.length_map] at hA ⊢
  rcases Nat.eq_zero_or_pos ks.length with h0 | h0
  · have e0 : ks = [] := List.eq_nil_of_length_eq_zero h0
    subst e0
    exact Tryz.slices_Index_string_empty A c x w
  · obtain ⟨rfl, hb⟩ := hA h0
    have hc0 := hac 0 (.string ks[0]) (by simp [h0])
    have e := spot_none hc0
    have e1 : ad = ⟨ad.block, ad.off, none⟩ := by
      have : ad.add 0 = ad := by unfold Addr.add; simp
      rw [this] at e
      exact e
    obtain ⟨b, o, s⟩ := ad
    have e2 : s = none := by injection e1
    subst e2
    have := Tryz.slices_Index_string b o ks.length c ks x w (Nat.le_refl _) (by omega) (fun j hj => by
      have := hac j (.string ks[j]) (by simp [hj])
      rw [Addr.add_lit] at this
      rw [this, List.getD, List.getElem?_eq_getElem hj]
      rfl)
    rw [List.take_length] at this
    exact this
set_option maxRecDepth 100000 in
set_option maxHeartbeats 1000000 in
theorem place_any (v : V) (m : Nat) (lv kv : Value) (x : ByteArray) (w : World) (h : At w w.heap.size m v lv kv) :
    Calls Tryz.prog 27 #[.agg (cellsV v lv kv), .string x] w fun e w' => e = .returned (.int .i64 (Lib.idxOfS v.ks x)) ∧ Below w.heap.size w w' := by
  have hsf := run_store_float Tryz.prog
  have hix : ∀ W, Below w.heap.size w W → Calls Tryz.prog 59 #[kv, .string x] W fun e w' => e = .returned (.int .i64 (Lib.idxOfS v.ks x)) ∧ w' = W := fun W hb => by
    cases m with
    | zero => exact h.elim
    | succ m =>
      obtain ⟨hsm, ha, _⟩ := ((h.below hb).more hb.size).opened
      exact Index_any v.ks kv x W hsm.2.2.2.2.2.1 ha
  obtain ⟨a1, n1, k1, a2, n2, k2, rfl, rfl⟩ := h.slices
  have HIX := Lib.hid hix
  clear hix h
  unfold cellsV
  go_enter Tryz.func27, Tryz.ntmps27
  go_wp2_with fail
  have hb := (Below.refl w.heap.size w).alloc (Nat.le_refl _) (Obj.cells #[.int .i64 v.k, .float .f64 v.f, .string v.s, .slice a1 n1 k1, .slice a2 n2 k2] 27)
  refine (HIX.out _ hb).mono ?_
  rintro e w1 ⟨rfl, rfl⟩
  go_wp2_with fail
  go_ret
  exact ⟨rfl, hb⟩
/-- What Get answers where the key's place is x. -/
def GetP (v : V) (m : Nat) (w : World) (x : Int) (e : Ending) (w' : World) : Prop :=
  (x = -1 ∧ e = .returned (.tuple #[.agg zeroA, .bool false])) ∨ ∃ (i : Nat) (hi : i < v.l.length) (lv' kv' : Value), x = (i : Int) ∧ e = .returned (.tuple #[.agg (cellsV v.l[i] lv' kv'), .bool true]) ∧ AtP w' (fun b => w.heap.size ≤ b ∧ b < w'.heap.size) m v.l[i] lv' kv'
set_option maxRecDepth 100000 in
set_option maxHeartbeats 8000000 in
theorem Get_any (v : V) (m : Nat) (lv kv : Value) (key : ByteArray) (hkey : key.size ≤ 1000000000) (w : World) (h : At w w.heap.size (m + 1) v lv kv) (hlen : v.ks.length ≤ v.l.length) :
    Calls Tryz.prog 8 #[.agg (cellsV v lv kv), .string key] w fun e w' =>
      GetP v m w (Lib.idxOfS v.ks (cleanS key)) e w' ∧ Below w.heap.size w w' := by
  have hsf := run_store_float Tryz.prog
  have HKO := Lib.hid (fun W => keyOf_any key hkey W)
  have hpl := fun W (hb : Below w.heap.size w W) => place_any v (m + 1) lv kv (cleanS key) W ((h.below hb).more hb.size)
  have HPL := Lib.hid hpl
  obtain ⟨hsm, ha, hcp, a, c, B, o, rfl, hab, hi⟩ := h.opened
  obtain ⟨A, ad, ck, rfl, _, _⟩ := ha.1.dest
  rw [List.length_map] at *
  unfold cellsV at HPL ⊢
  obtain ⟨K, hK⟩ : ∃ K, cleanS key = K := ⟨_, rfl⟩
  rw [hK] at HPL HKO ⊢
  have HAB := Lib.hid hab
  have HI := Lib.hid hi
  have hls := hsm.2.2.2.2.1
  have hix := idx_cases v.ks K
  obtain ⟨x, hx⟩ : ∃ x, Lib.idxOfS v.ks K = x := ⟨_, rfl⟩
  rw [hx] at HPL hix ⊢
  have HX := Lib.hid (show x = -1 ∨ ∃ i : Nat, i < v.l.length ∧ x = (i : Int) from by
    rcases hix with ⟨q, _⟩ | ⟨i, h1, h2, _⟩
    · exact Or.inl q
    · exact Or.inr ⟨i, by omega, h2⟩)
  clear hpl h ha hcp hab hi hK hkey hix hx hlen hsm
  go_enter Tryz.func8, Tryz.ntmps8
  go_wp2_with fail
  have hr0 := row_alloc3 (heap_alloc_new w (Obj.cells #[.int .i64 v.k, .float .f64 v.f, .string v.s, .slice a v.l.length c, .slice A v.ks.length ck] 27)) (Obj.cells #[.int .i64 0, .float .f64 0, .string ⟨#[]⟩, .slice none 0 0, .slice none 0 0] 27)
  have hr1 := heap_alloc_new (w.alloc (Obj.cells #[.int .i64 v.k, .float .f64 v.f, .string v.s, .slice a v.l.length c, .slice A v.ks.length ck] 27)) (Obj.cells #[.int .i64 0, .float .f64 0, .string ⟨#[]⟩, .slice none 0 0, .slice none 0 0] 27)
  rw [World.size_alloc] at hr1
  have hb0 : Below w.heap.size w ((w.alloc (Obj.cells #[.int .i64 v.k, .float .f64 v.f, .string v.s, .slice a v.l.length c, .slice A v.ks.length ck] 27)).alloc (Obj.cells #[.int .i64 0, .float .f64 0, .string ⟨#[]⟩, .slice none 0 0, .slice none 0 0] 27)) := ((Below.refl w.heap.size w).alloc (Nat.le_refl _) _).alloc (by simp) _
  have hz0 : w.heap.size + 2 = ((w.alloc (Obj.cells #[.int .i64 v.k, .float .f64 v.f, .string v.s, .slice a v.l.length c, .slice A v.ks.length ck] 27)).alloc (Obj.cells #[.int .i64 0, .float .f64 0, .string ⟨#[]⟩, .slice none 0 0, .slice none 0 0] 27)).heap.size := by simp
  generalize ((w.alloc (Obj.cells #[.int .i64 v.k, .float .f64 v.f, .string v.s, .slice a v.l.length c, .slice A v.ks.length ck] 27)).alloc (Obj.cells #[.int .i64 0, .float .f64 0, .string ⟨#[]⟩, .slice none 0 0, .slice none 0 0] 27)) = W0 at hr0 hr1 hb0 hz0 ⊢
  obtain ⟨x0, x1, x2, x3, x4, _⟩ := row5' hr0
  have R0 := Lib.hid hr0
  have R1 := Lib.hid hr1
  have B0 := Lib.hid hb0.drew
  have HZ := Lib.hid hz0
  clear hr0 hr1 hb0 hz0
  go_region_with (first
    | (go_at_call 28; (with_reducible refine (HKO.out _).mono ?_); rintro e w2 ⟨rfl, hb2⟩; have B2 := Lib.hid (B0.out.trans (hb2.mono B0.out.size)); have q0 := (hb2.block w.heap.size (by show w.heap.size < W0.heap.size; have := HZ.out; omega)).trans R0.out; have q1 := (hb2.block (w.heap.size + 1) (by show w.heap.size + 1 < W0.heap.size; have := HZ.out; omega)).trans R1.out; have Q0 := Lib.hid q0; have Q1 := Lib.hid q1; clear q0 q1 hb2; obtain ⟨y0, y1, y2, y3, y4, _⟩ := row5' Q0.out)
    | (go_at_call 27; (with_reducible refine (HPL.out w2 B2.out).mono ?_); rintro e w3 ⟨rfl, hb3⟩; have B3 := Lib.hid (B2.out.trans (hb3.mono B2.out.size)); have q0 := (hb3.block w.heap.size (Array.getElem?_eq_some_iff.1 Q0.out).1).trans Q0.out; have q1 := (hb3.block (w.heap.size + 1) (Array.getElem?_eq_some_iff.1 Q1.out).1).trans Q1.out; have S0 := Lib.hid q0; have S1 := Lib.hid q1; clear q0 q1 hb3; obtain ⟨z0, z1, z2, z3, z4, _⟩ := row5' S0.out))
  all_goals
    rcases HX.out with rfl | ⟨i, hlt, rfl⟩
    · obtain ⟨u0, u1, u2, u3, u4, v0, v1, v2, v3, v4⟩ := row5 S1.out
      go_wp2_with fail
      refine bodyPost_ret_by (results_row_tmp rfl _ _ (w.heap.size + 1) 27 _ (0, 0) _ (.bool false) rfl rfl (set5_row S1.out (.int .i64 0) (.float .f64 0) (.string ⟨#[]⟩) (.slice none 0 0) (.slice none 0 0)) Tryz.underlying27 rfl sizeVal) rfl ?_
      exact ⟨Or.inl ⟨rfl, rfl⟩, set5_below0 B3.out (by omega) ..⟩
    · obtain ⟨u0, u1, u2, u3, u4, v0, v1, v2, v3, v4⟩ := row5 S1.out
      obtain ⟨lv', kv', h5, hAt⟩ := HI.out i hlt
      obtain ⟨rfl, hBw⟩ := HAB.out (by omega)
      obtain ⟨f0, f1, f2, f3, f4⟩ := h5.keep hBw (fun p hp => B3.out.cell hp)
      obtain ⟨a1, n1, k1, a2, n2, k2, rfl, rfl⟩ := hAt.slices
      have hco := copyOf_any m v.l[i] _ _ w3 ((hAt.below B3.out).more B3.out.size)
      unfold cellsV at hco
      have HCO := Lib.hid hco
      clear hco hAt h5
      go_wp2_with fail
      refine HCO.out.mono ?_
      rintro e w4 ⟨lv2, kv2, rfl, hat4, hb4⟩
      obtain ⟨p1, p2, p3, p4, p5, p6, rfl, rfl⟩ := AtP.slices hat4
      have r1 := (hb4.block (w.heap.size + 1) (Array.getElem?_eq_some_iff.1 S1.out).1).trans S1.out
      have T1 := Lib.hid r1
      have B4 := Lib.hid (B3.out.trans (hb4.mono B3.out.size))
      have A4 := Lib.hid hat4
      have Z4 := Lib.hid (show w.heap.size + 2 ≤ w3.heap.size by have := (Array.getElem?_eq_some_iff.1 S1.out).1; omega)
      clear r1 hat4 hb4 u0 u1 u2 u3 u4 v0 v1 v2 v3 v4
      obtain ⟨u0, u1, u2, u3, u4, v0, v1, v2, v3, v4⟩ := row5 T1.out
      go_wp2_with fail
      refine bodyPost_ret_by (results_row_tmp rfl _ _ (w.heap.size + 1) 27 _ (0, 0) _ (.bool true) rfl rfl (set5_row T1.out (.int .i64 v.l[i].k) (.float .f64 v.l[i].f) (.string v.l[i].s) (.slice p1 p2 p3) (.slice p4 p5 p6)) Tryz.underlying27 rfl sizeVal) rfl ?_
      refine ⟨Or.inr ⟨i, hlt, _, _, rfl, rfl, AtP.more (fun b hb => ⟨by have := hb.1; have := Z4.out; omega, ?_⟩) _ _ _ _ (AtP.keep (fun a ha => cell_of_block (set5_other (by have := ha.1; have := Z4.out; omega) ..)) _ _ _ _ A4.out)⟩, set5_below0 B4.out (by omega) ..⟩
      have := hb.2
      simpa using this
end Go.Proofs.YtdlighmnlcklnaaGreatDoor
namespace Go.Proofs.YtdlighmnlcklnaaGreatDoor
open Go Go.RowKit

/-- An owned value whose blocks all lie below H. -/
structure OwnH (W : World) (n0 H m : Nat) (v : V) (lv kv : Value) (ps : List (Value × Value)) : Prop where
  len : ps.length = v.l.length
  lown : W.ownsRow n0 27 5 lv v.l.length (flat5 v.l ps)
  kown : W.ownsRow n0 9 1 kv v.ks.length (v.ks.map Value.string)
  apart : ∀ g, kv.ownBlock = some g → some g ≠ lv.ownBlock
  lH : ∀ g, lv.ownBlock = some g → g < H
  kH : ∀ g, kv.ownBlock = some g → g < H
  each : ∀ i (h : i < v.l.length) (h2 : i < ps.length), AtP W (fun b => n0 ≤ b ∧ b < H ∧ some b ≠ lv.ownBlock ∧ some b ≠ kv.ownBlock) m v.l[i] ps[i].1 ps[i].2
theorem OwnV.toH {W : World} {n0 m : Nat} {v : V} {lv kv : Value} {ps : List (Value × Value)} (h : OwnV W n0 m v lv kv ps) : OwnH W n0 W.heap.size m v lv kv ps :=
  ⟨h.len, h.lown, h.kown, h.apart, fun g hg => (h.lown.lt g hg).2, fun g hg => (h.kown.lt g hg).2, h.each⟩
theorem own_keepB {W W' : World} {n0 H : Nat} (hk : ∀ k, n0 ≤ k → k < H → W'.heap[k]? = W.heap[k]?) {e : TypeId} {size n : Nat} {u : Value} {xs : List Value} (h : W.ownsRow n0 e size u n xs) (hH : ∀ g, u.ownBlock = some g → g < H) : W'.ownsRow n0 e size u n xs := by
  refine ⟨h.1, ?_⟩
  rcases h.2 with h1 | ⟨g, cap, cur, h1, h2, h3, h4⟩
  · exact Or.inl h1
  · exact Or.inr ⟨g, cap, cur, h1, h2, (hk g h2 (hH g (by rw [h1]; rfl))).trans h3, h4⟩
theorem OwnH.keep {W W' : World} {n0 H m : Nat} {v : V} {lv kv : Value} {ps : List (Value × Value)} (h : OwnH W n0 H m v lv kv ps) (hk : ∀ k, n0 ≤ k → k < H → W'.heap[k]? = W.heap[k]?) : OwnH W' n0 H m v lv kv ps :=
  ⟨h.len, own_keepB hk h.lown h.lH, own_keepB hk h.kown h.kH, h.apart, h.lH, h.kH, fun i h1 h2 => AtP.keep (fun _p hp => cell_of_block (hk _ hp.1 hp.2.1)) _ _ _ _ (h.each i h1 h2)⟩
theorem own_keepN {W W' : World} {n0 : Nat} {e : TypeId} {size n : Nat} {u : Value} {xs : List Value} (h : W.ownsRow n0 e size u n xs) (hk : ∀ g, u.ownBlock = some g → W'.heap[g]? = W.heap[g]?) : W'.ownsRow n0 e size u n xs := by
  refine ⟨h.1, ?_⟩
  rcases h.2 with h1 | ⟨g, cap, cur, h1, h2, h3, h4⟩
  · exact Or.inl h1
  · exact Or.inr ⟨g, cap, cur, h1, h2, (hk g (by rw [h1]; rfl)).trans h3, h4⟩
theorem own_put {w : World} {B g n cap j : Nat} {e : TypeId} {l : List V} {qs : List (Value × Value)} {x : V} (h : w.ownsRow B e 5 (.slice (some ⟨g, 0, none⟩) n cap) n (flat5 l qs)) (hq : qs.length = l.length) (hj : j < l.length) (aa bb : Value) :
    (set5at w g (j * 5) (.int .i64 x.k) (.float .f64 x.f) (.string x.s) aa bb).ownsRow B e 5 (.slice (some ⟨g, 0, none⟩) n cap) n (flat5 (l.set j x) (qs.set j (aa, bb))) := by
  have h1 : l.length * 5 = n * 5 := by rw [← flat5_len l qs hq.symm]; exact h.1
  refine ⟨by rw [flat5_len _ _ (by simp [hq])]; simpa using h1, ?_⟩
  rcases h.2 with ⟨e0, _⟩ | ⟨g', cap', cur, e0, hb, hg, hc1, hc2, hcs, htk⟩
  · cases e0
  · cases e0
    refine Or.inr ⟨g, cap, _, rfl, hb, set5at_row hg .., hc1, hc2, by simp [hcs], ?_⟩
    apply List.ext_getElem?
    intro k
    by_cases hk : k < n * 5
    · rw [List.getElem?_take, if_pos hk, Array.getElem?_toList, set_get _ _ _ _ _ _ _ _ (by rw [hcs]; omega)]
      have hi : k / 5 < l.length := by omega
      have hm : k % 5 < 5 := Nat.mod_lt _ (by omega)
      have ek : k = k / 5 * 5 + k % 5 := by omega
      have hr := flat5_at (l.set j x) (qs.set j (aa, bb)) (by simp [hq]) (k / 5) (by simpa using hi) (by simpa [hq] using hi) (k % 5) hm
      rw [← ek] at hr
      rw [hr, List.getElem_set, List.getElem_set]
      by_cases hkj : j = k / 5
      · rw [if_pos (by omega), if_pos hkj, if_pos hkj]
        have e1 : k - j * 5 = k % 5 := by omega
        rw [e1]
        rfl
      · rw [if_neg (by omega), if_neg hkj, if_neg hkj]
        have h0 := flat5_at l qs (by omega) (k / 5) hi (by omega) (k % 5) hm
        rw [← ek] at h0
        rw [← h0, ← htk, List.getElem?_take, if_pos hk, Array.getElem?_toList]
    · rw [List.getElem?_take, if_neg hk, List.getElem?_eq_none (by rw [flat5_len _ _ (by simp [hq])]; simp; omega)]
/-- Behind the copy of the object. -/
structure PutA (w : World) (P m : Nat) (bv bx : Array Value) (v : V) (lv kv : Value) (ps : List (Value × Value)) (W : World) : Prop where
  h0 : W.heap[w.heap.size]? = some (.cells bv 27 (0, 0))
  h1 : W.heap[w.heap.size + 1]? = some (.cells bx 27 (0, 0))
  h2 : W.heap[w.heap.size + 2]? = some (.cells #[.int .i64 0, .float .f64 0, .string ⟨#[]⟩, .slice none 0 0, .slice none 0 0] 27 (0, 0))
  hP : W.heap[P]? = some (.cells (cellsV v lv kv) 27 (0, 0))
  nP : w.heap.size + 3 ≤ P
  own : OwnH W (w.heap.size + 3) P m v lv kv ps
  bel : Below w.heap.size w W
theorem PutA.lt {w : World} {P m : Nat} {bv bx : Array Value} {v : V} {lv kv : Value} {ps : List (Value × Value)} {W : World} (h : PutA w P m bv bx v lv kv ps W) : P < W.heap.size := (Array.getElem?_eq_some_iff.1 h.hP).1
theorem PutA.below {w : World} {P m : Nat} {bv bx : Array Value} {v : V} {lv kv : Value} {ps : List (Value × Value)} {W W' : World} (h : PutA w P m bv bx v lv kv ps W) (hb : Below W.heap.size W W') : PutA w P m bv bx v lv kv ps W' := by
  have := h.lt
  have := h.nP
  exact ⟨(hb.block _ (by omega)).trans h.h0, (hb.block _ (by omega)).trans h.h1, (hb.block _ (by omega)).trans h.h2, (hb.block _ (by omega)).trans h.hP, h.nP, h.own.keep (fun k _ hk => hb.block k (by omega)), h.bel.trans (hb.mono h.bel.size)⟩
/-- Behind the key that has been put. -/
structure PutB (w : World) (P m : Nat) (bx : Array Value) (v : V) (K : ByteArray) (lv kv : Value) (ps : List (Value × Value)) (W : World) : Prop where
  h1 : W.heap[w.heap.size + 1]? = some (.cells bx 27 (0, 0))
  h2 : W.heap[w.heap.size + 2]? = some (.cells #[.int .i64 0, .float .f64 0, .string ⟨#[]⟩, .slice none 0 0, .slice none 0 0] 27 (0, 0))
  hP : W.heap[P]? = some (.cells (cellsV v lv kv) 27 (0, 0))
  nP : w.heap.size + 3 ≤ P
  len : ps.length = v.l.length
  lown : W.ownsRow (w.heap.size + 3) 27 5 lv v.l.length (flat5 v.l ps)
  kown : W.ownsRow (w.heap.size + 3) 9 1 kv (v.ks.length + 1) ((v.ks ++ [K]).map Value.string)
  apart : ∀ g, kv.ownBlock = some g → some g ≠ lv.ownBlock ∧ g ≠ P
  lH : ∀ g, lv.ownBlock = some g → g < P
  each : ∀ i (h : i < v.l.length) (h2 : i < ps.length), AtP W (fun b => w.heap.size + 3 ≤ b ∧ b < P ∧ some b ≠ lv.ownBlock) m v.l[i] ps[i].1 ps[i].2
  bel : Below w.heap.size w W
theorem PutB.lt {w : World} {P m : Nat} {bx : Array Value} {v : V} {K : ByteArray} {lv kv : Value} {ps : List (Value × Value)} {W : World} (h : PutB w P m bx v K lv kv ps W) : P < W.heap.size := (Array.getElem?_eq_some_iff.1 h.hP).1
theorem PutB.below {w : World} {P m : Nat} {bx : Array Value} {v : V} {K : ByteArray} {lv kv : Value} {ps : List (Value × Value)} {W W' : World} (h : PutB w P m bx v K lv kv ps W) (hb : Below W.heap.size W W') : PutB w P m bx v K lv kv ps W' := by
  have := h.lt
  have := h.nP
  exact ⟨(hb.block _ (by omega)).trans h.h1, (hb.block _ (by omega)).trans h.h2, (hb.block _ (by omega)).trans h.hP, h.nP, h.len, own_heap h.lown (fun k hk => hb.block k hk), own_heap h.kown (fun k hk => hb.block k hk), h.apart, h.lH, fun i h1 h2 => AtP.keep (fun p hp => cell_of_block (hb.block _ (by have := hp.2.1; omega))) _ _ _ _ (h.each i h1 h2), h.bel.trans (hb.mono h.bel.size)⟩
theorem putB_of {w : World} {P m : Nat} {bv bx : Array Value} {v : V} {K : ByteArray} {lv kv kv' : Value} {ps : List (Value × Value)} {W w' : World} (h : PutA w P m bv bx v lv kv ps W)
    (hown : w'.ownsRow (w.heap.size + 3) 9 1 kv' (v.ks.length + 1) ((v.ks ++ [K]).map Value.string)) (hgrow : (W.alloc (.cells #[.string K] 9)).grownBy w' kv.ownBlock) (hblk : kv'.ownBlock = kv.ownBlock ∨ kv'.ownBlock = some (W.alloc (.cells #[.string K] 9)).heap.size) :
    PutB w P m bx v K lv kv' ps (w'.setCell ⟨P, 4, none⟩ kv') := by
  have hlt := h.lt
  have hnP := h.nP
  have hkP : ∀ g, kv.ownBlock = some g → w.heap.size + 3 ≤ g ∧ g < P := fun g hg => ⟨(h.own.kown.lt g hg).1, h.own.kH g hg⟩
  have hk : ∀ k, k < W.heap.size → some k ≠ kv.ownBlock → w'.heap[k]? = W.heap[k]? := fun k hk hn =>
    (hgrow.block _ (by simp; omega) hn).trans (((Below.refl W.heap.size W).alloc (Nat.le_refl _) _).block k hk)
  have hk' : ∀ k, k < W.heap.size → some k ≠ kv.ownBlock → k ≠ P → (w'.setCell ⟨P, 4, none⟩ kv').heap[k]? = W.heap[k]? := fun k h1 h2 h3 => (setCell_other_block _ h3).trans (hk k h1 h2)
  have hnk : ∀ k, k < w.heap.size + 3 ∨ P ≤ k → some k ≠ kv.ownBlock := fun k hk e => by have := hkP k e.symm; omega
  have hk'P : ∀ g, kv'.ownBlock = some g → g ≠ P := fun g hg e => by
    rcases hblk with q | q
    · exact absurd (hkP g (q ▸ hg)) (by omega)
    · rw [q] at hg; injection hg with hg; simp at hg; omega
  refine ⟨(hk' _ (by omega) (hnk _ (by omega)) (by omega)).trans h.h1, (hk' _ (by omega) (hnk _ (by omega)) (by omega)).trans h.h2, row_setAt ((hk _ hlt (hnk _ (by omega))).trans h.hP) 4 kv', hnP, h.own.len, ?_, ?_, ?_, h.own.lH, ?_, ?_⟩
  · exact own_keepN h.own.lown (fun g hg => hk' g (by have := h.own.lH g hg; omega) (fun e => h.own.apart g e.symm (by rw [hg])) (by have := h.own.lH g hg; omega))
  · exact own_keepN hown (fun g hg => setCell_other_block _ (hk'P g hg))
  · refine fun g hg => ⟨fun e => ?_, hk'P g hg⟩
    have hl := h.own.lH g e.symm
    rcases hblk with q | q
    · exact h.own.apart g (q ▸ hg) e
    · rw [q] at hg; injection hg with hg; simp at hg; omega
  · intro i h1 h2
    exact AtP.more (fun b hb => ⟨hb.1, hb.2.1, hb.2.2.1⟩) _ _ _ _ (AtP.keep (fun p hp => cell_of_block (hk' _ (by have := hp.2.1; omega) hp.2.2.2 (by have := hp.2.1; omega))) _ _ _ _ (h.own.each i h1 h2))
  · have hb1 : Below w.heap.size w w' := (h.bel.alloc h.bel.size _).grown hgrow (by have := h.bel.size; simp; omega) (fun k hk => by have := hkP k hk; omega)
    exact hb1.setCell (p := ⟨P, 4, none⟩) (by show w.heap.size ≤ P; omega) _
/-- What Put makes of an object. -/
def putV (v : V) (K : ByteArray) (x : V) : V := if Lib.idxOfS v.ks K < 0 then .mk v.k v.f v.s (v.l ++ [x]) (v.ks ++ [K]) else .mk v.k v.f v.s (v.l.set (Lib.idxOfS v.ks K).toNat x) v.ks
/-- Behind the value that has been put. -/
structure PutC (w : World) (P m : Nat) (r : V) (lv kv : Value) (W : World) : Prop where
  h2 : W.heap[w.heap.size + 2]? = some (.cells #[.int .i64 0, .float .f64 0, .string ⟨#[]⟩, .slice none 0 0, .slice none 0 0] 27 (0, 0))
  hP : W.heap[P]? = some (.cells (cellsV r lv kv) 27 (0, 0))
  nP : w.heap.size + 3 ≤ P
  at_ : AtP W (fun b => w.heap.size + 3 ≤ b ∧ b < W.heap.size) (m + 1) r lv kv
  bel : Below w.heap.size w W
theorem putC_add {w : World} {P m H : Nat} {bx : Array Value} {v x : V} {K : ByteArray} {lv kv lv' aa bb : Value} {ps : List (Value × Value)} {W w4 : World} (h : PutB w P m bx v K lv kv ps W)
    (hS : Small (.mk v.k v.f v.s (v.l ++ [x]) (v.ks ++ [K]))) (hx : AtP W (fun b => H ≤ b ∧ b < W.heap.size) m x aa bb) (hH : P < H)
    (hown : w4.ownsRow (w.heap.size + 3) 27 5 lv' (v.l.length + 1) (flat5 v.l ps ++ (cellsV x aa bb).toList)) (hgrow : (W.alloc (.cells (cellsV x aa bb) 27)).grownBy w4 lv.ownBlock) (hblk : lv'.ownBlock = lv.ownBlock ∨ lv'.ownBlock = some (W.heap.size + 1)) :
    PutC w P m (.mk v.k v.f v.s (v.l ++ [x]) (v.ks ++ [K])) lv' kv (w4.setCell ⟨P, 3, none⟩ lv') := by
  have hlt := h.lt
  have hnP := h.nP
  have hlP : ∀ g, lv.ownBlock = some g → w.heap.size + 3 ≤ g ∧ g < P := fun g hg => ⟨(h.lown.lt g hg).1, h.lH g hg⟩
  have hk : ∀ k, k < W.heap.size → some k ≠ lv.ownBlock → w4.heap[k]? = W.heap[k]? := fun k hk hn =>
    (hgrow.block _ (by simp; omega) hn).trans (((Below.refl W.heap.size W).alloc (Nat.le_refl _) _).block k hk)
  have hk' : ∀ k, k < W.heap.size → some k ≠ lv.ownBlock → k ≠ P → (w4.setCell ⟨P, 3, none⟩ lv').heap[k]? = W.heap[k]? := fun k h1 h2 h3 => (setCell_other_block _ h3).trans (hk k h1 h2)
  have hnk : ∀ k, k < w.heap.size + 3 ∨ P ≤ k → some k ≠ lv.ownBlock := fun k hk e => by have := hlP k e.symm; omega
  have hl'P : ∀ g, lv'.ownBlock = some g → g ≠ P := fun g hg e => by
    rcases hblk with q | q
    · exact absurd (hlP g (q ▸ hg)) (by omega)
    · rw [q] at hg; injection hg with hg; omega
  have hz : W.heap.size ≤ (w4.setCell ⟨P, 3, none⟩ lv').heap.size := by have := hgrow.size; simp at this ⊢; omega
  refine ⟨(hk' _ (by omega) (hnk _ (by omega)) (by omega)).trans h.h2, row_setAt ((hk _ hlt (hnk _ (by omega))).trans h.hP) 3 lv', hnP, ?_, ?_⟩
  · have hown' : (w4.setCell ⟨P, 3, none⟩ lv').ownsRow (w.heap.size + 3) 27 5 lv' (v.l.length + 1) (flat5 (v.l ++ [x]) (ps ++ [(aa, bb)])) := by
      rw [flat5_snoc x (aa, bb) v.l ps h.len.symm]
      exact own_keepN hown (fun g hg => setCell_other_block _ (hl'P g hg))
    have hkey : (w4.setCell ⟨P, 3, none⟩ lv').ownsRow (w.heap.size + 3) 9 1 kv (v.ks.length + 1) ((v.ks ++ [K]).map Value.string) := own_keepN h.kown (fun g hg => hk' g (h.kown.lt g hg).2 (h.apart g hg).1 (h.apart g hg).2)
    have hl : (v.l ++ [x]).length = (ps ++ [(aa, bb)]).length := by simp [h.len]
    obtain ⟨a, c, b, o, e, hab, h5⟩ := own_five hown' hl (by simp)
    refine ⟨hS, own_keysP hkey, Caps.of_own hown', a, c, b, o, e, hab, fun i hi => ?_⟩
    have hi : i < (v.l ++ [x]).length := hi
    have hi2 : i < (ps ++ [(aa, bb)]).length := by omega
    refine ⟨_, _, h5 i hi hi2, ?_⟩
    show AtP _ _ m (v.l ++ [x])[i] _ _
    by_cases hlt2 : i < v.l.length
    · have e1 : (v.l ++ [x])[i] = v.l[i] := List.getElem_append_left hlt2
      have e2 : (ps ++ [(aa, bb)])[i] = ps[i]'(by rw [h.len]; exact hlt2) := List.getElem_append_left (by rw [h.len]; exact hlt2)
      rw [e1, e2]
      exact AtP.more (fun b hb => ⟨hb.1, by have := hb.2.1; omega⟩) _ _ _ _ (AtP.keep (fun p hp => cell_of_block (hk' _ (by have := hp.2.1; omega) hp.2.2 (by have := hp.2.1; omega))) _ _ _ _ (h.each i hlt2 (by rw [h.len]; exact hlt2)))
    · have hie : i = v.l.length := by simp at hi; omega
      subst hie
      have e1 : (v.l ++ [x])[v.l.length] = x := by simp
      have e2 : (ps ++ [(aa, bb)])[v.l.length]'hi2 = (aa, bb) := by
        rw [List.getElem_append_right (by rw [h.len]; exact Nat.le_refl _)]
        simp
      rw [e1, e2]
      exact AtP.more (fun b hb => ⟨by have := hb.1; omega, by have := hb.2; omega⟩) _ _ _ _ (AtP.keep (fun p hp => cell_of_block (hk' _ hp.2 (hnk _ (by have := hp.1; omega)) (by have := hp.1; omega))) _ _ _ _ hx)
  · have hb1 : Below w.heap.size w w4 := (h.bel.alloc h.bel.size _).grown hgrow (by have := h.bel.size; simp; omega) (fun k hk => by have := hlP k hk; omega)
    exact hb1.setCell (p := ⟨P, 3, none⟩) (by show w.heap.size ≤ P; omega) _
theorem putC_hit {w : World} {P m H g cap i : Nat} {bv bx : Array Value} {v x : V} {kv aa bb : Value} {ps : List (Value × Value)} {W : World} (h : PutA w P m bv bx v (.slice (some ⟨g, 0, none⟩) v.l.length cap) kv ps W)
    (hi : i < v.l.length) (hS : Small (.mk v.k v.f v.s (v.l.set i x) v.ks)) (hx : AtP W (fun b => H ≤ b ∧ b < W.heap.size) m x aa bb) (hH : P < H) :
    PutC w P m (.mk v.k v.f v.s (v.l.set i x) v.ks) (.slice (some ⟨g, 0, none⟩) v.l.length cap) kv (set5at W g (i * 5) (.int .i64 x.k) (.float .f64 x.f) (.string x.s) aa bb) := by
  have hlt := h.lt
  have hnP := h.nP
  have hgP : w.heap.size + 3 ≤ g ∧ g < P := ⟨(h.own.lown.lt g rfl).1, h.own.lH g rfl⟩
  have hk' : ∀ k, k ≠ g → (set5at W g (i * 5) (.int .i64 x.k) (.float .f64 x.f) (.string x.s) aa bb).heap[k]? = W.heap[k]? := fun k hk => set5at_other hk ..
  refine ⟨(hk' _ (by omega)).trans h.h2, (hk' _ (by omega)).trans h.hP, hnP, ?_, set5at_below h.bel (by omega) ..⟩
  have hset : (ps.set i (aa, bb)).length = (v.l.set i x).length := by simp [h.own.len]
  have hown' : (set5at W g (i * 5) (.int .i64 x.k) (.float .f64 x.f) (.string x.s) aa bb).ownsRow (w.heap.size + 3) 27 5 (.slice (some ⟨g, 0, none⟩) v.l.length cap) v.l.length (flat5 (v.l.set i x) (ps.set i (aa, bb))) := own_put h.own.lown h.own.len hi aa bb
  have hkey : (set5at W g (i * 5) (.int .i64 x.k) (.float .f64 x.f) (.string x.s) aa bb).ownsRow (w.heap.size + 3) 9 1 kv v.ks.length (v.ks.map Value.string) := own_set5at h.own.kown (fun e => h.own.apart g e.symm rfl) ..
  obtain ⟨a, c, b, o, e, hab, h5⟩ := own_five hown' hset.symm (by simp)
  refine ⟨hS, own_keysP hkey, Caps.of_own hown', a, c, b, o, e, hab, fun j hj => ?_⟩
  have hj : j < (v.l.set i x).length := hj
  have hj2 : j < (ps.set i (aa, bb)).length := by omega
  refine ⟨_, _, h5 j hj hj2, ?_⟩
  show AtP _ _ m (v.l.set i x)[j] _ _
  rw [List.getElem_set, List.getElem_set]
  by_cases hij : i = j
  · rw [if_pos hij, if_pos hij]
    exact AtP.more (fun b hb => ⟨by have := hb.1; omega, by rw [set5at_size]; exact hb.2⟩) _ _ _ _ (AtP.keep (fun p hp => cell_of_block (hk' _ (by have := hp.1; omega))) _ _ _ _ hx)
  · rw [if_neg hij, if_neg hij]
    have hj3 : j < v.l.length := by simpa using hj
    exact AtP.more (fun b hb => ⟨hb.1, by rw [set5at_size]; have := hb.2.1; omega⟩) _ _ _ _ (AtP.keep (fun p hp => cell_of_block (hk' _ (fun e => hp.2.2.1 (by rw [e]; rfl)))) _ _ _ _ (h.own.each j hj3 (by rw [h.own.len]; exact hj3)))
theorem put_mid {w : World} {P m : Nat} {bx : Array Value} {v : V} {K : ByteArray} {lv kv : Value} {ps : List (Value × Value)} {W w4 : World} {o : Obj} (h : PutB w P m bx v K lv kv ps W) (hgrow : (W.alloc o).grownBy w4 lv.ownBlock) :
    w4.cell? ⟨P, 3, none⟩ = some lv ∧ w4.frozen? ⟨P, 3, none⟩ = false := by
  have hlt := h.lt
  have e : w4.heap[P]? = some (.cells (cellsV v lv kv) 27 (0, 0)) := (hgrow.block _ (by simp; omega) (fun e => by have := h.lH _ e.symm; omega)).trans (row_alloc3 h.hP o)
  obtain ⟨_, _, _, c3, _, _, _, _, z3, _⟩ := row5 e
  exact ⟨c3, z3⟩
theorem arr_one {w : World} {x : Value} {t : TypeId} : Arr (w.alloc (.cells #[x] t)) (w.heap.size + 1) (.slice (some ⟨w.heap.size, 0, none⟩) 1 1) [x] := by
  refine ⟨_, _, rfl, fun _ => ⟨_, rfl, by simp, fun j u hu => ?_⟩⟩
  cases j with
  | zero =>
    simp at hu
    subst hu
    rw [Addr.add_lit]
    exact row1V (heap_alloc_new w _)
  | succ j => simp at hu
end Go.Proofs.YtdlighmnlcklnaaGreatDoor
namespace Go.Proofs.YtdlighmnlcklnaaGreatDoor
open Go Go.RowKit

set_option maxRecDepth 100000 in
set_option maxHeartbeats 8000000 in
theorem Put_miss (v x : V) (m : Nat) (lv kv lx kx : Value) (key : ByteArray) (hkey : key.size ≤ 1000000000) (w : World) (h : At w w.heap.size (m + 1) v lv kv) (hxa : At w w.heap.size m x lx kx) (hk6 : v.k = 6) (_hlen : v.ks.length ≤ v.l.length)
    (hS : Small (putV v (cleanS key) x)) (hin : Lib.idxOfS v.ks (cleanS key) = -1) :
    Calls Tryz.prog 16 #[.agg (cellsV v lv kv), .string key, .agg (cellsV x lx kx)] w fun e w' => ∃ lv' kv', e = .returned (.agg (cellsV (putV v (cleanS key) x) lv' kv')) ∧ AtP w' (fun b => w.heap.size ≤ b ∧ b < w'.heap.size) (m + 1) (putV v (cleanS key) x) lv' kv' ∧ Below w.heap.size w w' := by
  have hsf := run_store_float Tryz.prog
  obtain ⟨i0, hi0, hz0, hz1, hz2⟩ := info_parts infoVal
  have HKO := Lib.hid (fun W => keyOf_any key hkey W)
  have hpl := fun W (hb : Below w.heap.size w W) => place_any v (m + 1) lv kv (cleanS key) W ((h.below hb).more hb.size)
  have hco := fun W (hb : Below w.heap.size w W) => copyOf_own (m + 1) v lv kv W ((h.below hb).more hb.size)
  have hcx := fun W (hb : Below w.heap.size w W) => copyOf_any m x lx kx W ((hxa.below hb).more hb.size)
  obtain ⟨a1, n1, c1, a2, n2, c2, rfl, rfl⟩ := h.slices
  obtain ⟨a3, n3, c3, a4, n4, c4, rfl, rfl⟩ := hxa.slices
  have hsm := h.opened.1
  obtain ⟨K, hK⟩ : ∃ K, cleanS key = K := ⟨_, rfl⟩
  rw [hK] at hpl HKO hS hin ⊢
  have hput' : Lib.idxOfS v.ks K = -1 → putV v K x = .mk v.k v.f v.s (v.l ++ [x]) (v.ks ++ [K]) := fun e => by unfold putV; rw [e, if_pos (by omega)]
  obtain ⟨y, hy⟩ : ∃ y, Lib.idxOfS v.ks K = y := ⟨_, rfl⟩
  obtain ⟨R, hR⟩ : ∃ R, putV v K x = R := ⟨_, rfl⟩
  rw [hy] at hpl hput' hin
  rw [hR] at hS hput' ⊢
  obtain rfl := hin
  have HR := hput' rfl
  have HPL := Lib.hid hpl
  have HCO := Lib.hid hco
  have HCX := Lib.hid hcx
  have HS := Lib.hid hS
  have HSM := Lib.hid hsm
  clear hpl hco hcx hK hkey hput' hy hR hS hsm h hxa
  unfold cellsV at HPL HCO HCX ⊢
  rw [hk6] at HPL HCO ⊢
  go_enter Tryz.func16, Tryz.ntmps16
  go_wp2_with fail
  have hr0 := row_alloc3 (row_alloc3 (heap_alloc_new w (.cells #[.int .i64 6, .float .f64 v.f, .string v.s, .slice a1 n1 c1, .slice a2 n2 c2] 27)) (.cells #[.int .i64 x.k, .float .f64 x.f, .string x.s, .slice a3 n3 c3, .slice a4 n4 c4] 27)) (.cells #[.int .i64 0, .float .f64 0, .string ⟨#[]⟩, .slice none 0 0, .slice none 0 0] 27)
  have hr1 := row_alloc3 (heap_alloc_new (w.alloc (.cells #[.int .i64 6, .float .f64 v.f, .string v.s, .slice a1 n1 c1, .slice a2 n2 c2] 27)) (.cells #[.int .i64 x.k, .float .f64 x.f, .string x.s, .slice a3 n3 c3, .slice a4 n4 c4] 27)) (.cells #[.int .i64 0, .float .f64 0, .string ⟨#[]⟩, .slice none 0 0, .slice none 0 0] 27)
  have hr2 := heap_alloc_new ((w.alloc (.cells #[.int .i64 6, .float .f64 v.f, .string v.s, .slice a1 n1 c1, .slice a2 n2 c2] 27)).alloc (.cells #[.int .i64 x.k, .float .f64 x.f, .string x.s, .slice a3 n3 c3, .slice a4 n4 c4] 27)) (.cells #[.int .i64 0, .float .f64 0, .string ⟨#[]⟩, .slice none 0 0, .slice none 0 0] 27)
  rw [World.size_alloc] at hr1
  rw [World.size_alloc, World.size_alloc] at hr2
  have hb0 : Below w.heap.size w (((w.alloc (.cells #[.int .i64 6, .float .f64 v.f, .string v.s, .slice a1 n1 c1, .slice a2 n2 c2] 27)).alloc (.cells #[.int .i64 x.k, .float .f64 x.f, .string x.s, .slice a3 n3 c3, .slice a4 n4 c4] 27)).alloc (.cells #[.int .i64 0, .float .f64 0, .string ⟨#[]⟩, .slice none 0 0, .slice none 0 0] 27)) := (((Below.refl w.heap.size w).alloc (Nat.le_refl _) _).alloc (by simp) _).alloc (by simp; omega) _
  have hz0 : w.heap.size + 3 = (((w.alloc (.cells #[.int .i64 6, .float .f64 v.f, .string v.s, .slice a1 n1 c1, .slice a2 n2 c2] 27)).alloc (.cells #[.int .i64 x.k, .float .f64 x.f, .string x.s, .slice a3 n3 c3, .slice a4 n4 c4] 27)).alloc (.cells #[.int .i64 0, .float .f64 0, .string ⟨#[]⟩, .slice none 0 0, .slice none 0 0] 27)).heap.size := by simp
  generalize (((w.alloc (.cells #[.int .i64 6, .float .f64 v.f, .string v.s, .slice a1 n1 c1, .slice a2 n2 c2] 27)).alloc (.cells #[.int .i64 x.k, .float .f64 x.f, .string x.s, .slice a3 n3 c3, .slice a4 n4 c4] 27)).alloc (.cells #[.int .i64 0, .float .f64 0, .string ⟨#[]⟩, .slice none 0 0, .slice none 0 0] 27)) = W0 at hr0 hr1 hr2 hb0 hz0 ⊢
  refine (HCO.out W0 hb0).mono ?_
  rintro e w1 ⟨lv1, kv1, ps, rfl, hov, _, hb1⟩
  obtain ⟨Al, cl, hl1⟩ := own_slC hov.lown
  obtain ⟨Ak, ck, hk1⟩ := own_slC hov.kown
  subst hl1
  subst hk1
  have hpa : PutA w w1.heap.size m #[.int .i64 6, .float .f64 v.f, .string v.s, .slice a1 n1 c1, .slice a2 n2 c2] #[.int .i64 x.k, .float .f64 x.f, .string x.s, .slice a3 n3 c3, .slice a4 n4 c4] v (.slice Al v.l.length cl) (.slice Ak v.ks.length ck) ps (w1.alloc (.cells (cellsV v (.slice Al v.l.length cl) (.slice Ak v.ks.length ck)) 27)) := by
    have hz1 := hb1.size
    refine ⟨row_alloc3 ((hb1.block _ (by omega)).trans hr0) _, row_alloc3 ((hb1.block _ (by omega)).trans hr1) _, row_alloc3 ((hb1.block _ (by omega)).trans hr2) _, heap_alloc_new _ _, by omega, ?_, (hb0.trans (hb1.mono hb0.size)).alloc (by omega) _⟩
    have q := hov.toH.keep (W' := w1.alloc (.cells (cellsV v (.slice Al v.l.length cl) (.slice Ak v.ks.length ck)) 27)) (fun k _ hk => ((Below.refl w1.heap.size w1).alloc (Nat.le_refl _) _).block k hk)
    rw [← hz0] at q
    exact q
  unfold cellsV at hpa
  rw [hk6] at hpa
  obtain ⟨x0, x1, x2, x3, x4, _⟩ := row5' hpa.h0
  have HPA := Lib.hid hpa
  clear hpa hov hb1 hr0 hr1 hr2 hb0 hz0 HCO
  go_wp2_with fail
  have hpa := HPA.out
  clear HPA x0 x1 x2 x3 x4
  generalize (w1.alloc (.cells #[.int .i64 6, .float .f64 v.f, .string v.s, .slice Al v.l.length cl, .slice Ak v.ks.length ck] 27)) = W1 at hpa ⊢
  generalize w1.heap.size = P at hpa ⊢
  refine (HKO.out _).mono ?_
  rintro e w2 ⟨rfl, hb2⟩
  have PA2 := Lib.hid (hpa.below hb2)
  clear hpa hb2
  obtain ⟨x0, x1, x2, x3, x4, _⟩ := row5' PA2.out.h0
  go_wp2_with fail
  refine (HPL.out _ PA2.out.bel).mono ?_
  rintro e w3 ⟨rfl, hb3⟩
  have PA3 := Lib.hid (PA2.out.below hb3)
  clear hb3 x0 x1 x2 x3 x4
  obtain ⟨p0, p1, p2, p3, p4, _⟩ := row5' PA3.out.hP
  go_wp2_with (at_builtin; refine app_arr rfl _ _ _ rfl (w.heap.size + 3) 9 (.string ⟨#[]⟩) 16 Tryz.underlying25 infoStr rfl (.slice Ak v.ks.length ck) v.ks.length (v.ks.map Value.string) rfl ?o1 (w3.heap.size + 1) (.slice (some ⟨w3.heap.size, 0, none⟩) 1 1) [.string K] ?o2 ?o3 rfl ?o4 ?o5 ?o6 ?o7 ?_)
  case o1 => exact PA3.out.own.kown.alloc _
  case o2 => exact arr_one
  case o3 => exact fun n c e => by cases e
  case o4 => simp [Value.oneCell']
  case o5 => have := HSM.out.2.2.2.2.2.1; unfold maxLen; simp; omega
  case o6 => have := HSM.out.2.2.2.2.2.1; simp; omega
  case o7 => have := PA3.out.lt; have := PA3.out.nP; simp; omega
  intro v' w4 hown hgrow hblk
  have hpb := putB_of PA3.out (by simpa using hown) hgrow (by simpa using hblk)
  obtain ⟨Ak2, ck2, rfl⟩ := own_slC hown
  obtain ⟨q0, q1, q2, q3, q4, z0, z1, z2, z3, z4⟩ := row5 ((hgrow.block P (by have := PA3.out.lt; simp; omega) (fun e => by have := PA3.out.own.kH _ e.symm; omega)).trans (row_alloc3 PA3.out.hP _))
  have PB := Lib.hid hpb
  clear hpb hown hgrow hblk p0 p1 p2 p3 p4
  go_wp2_with fail
  have hpb := PB.out
  clear PB q0 q1 q2 q3 q4 z0 z1 z2 z3 z4 PA3 PA2
  generalize w4.setCell ⟨P, 4, none⟩ (.slice Ak2 (v.ks.length + 1) ck2) = W5 at hpb ⊢
  obtain ⟨p0, p1, p2, p3, p4, _⟩ := row5' hpb.hP
  obtain ⟨x0, x1, x2, x3, x4, _⟩ := row5' hpb.h1
  have PB := Lib.hid (hpb.below (Below.refl _ _).drew)
  clear hpb
  go_region_law ((first
      | (go_simp; go_at_call 26; (with_reducible refine (HCX.out _ PB.out.bel).mono ?_); rintro e w6 ⟨aa, bb, he, hat6, hb6⟩; obtain ⟨s1, s2, s3, s4, s5, s6, rfl, rfl⟩ := AtP.slices hat6; subst he; have PB6 := Lib.hid (PB.out.below hb6); have HLT := PB.out.lt; clear hb6; obtain ⟨r0, r1, r2, r3, r4, _⟩ := row5' PB6.out.hP; have rs2a := fun o => (row5' (row_alloc3 PB6.out.hP o)).2.2.2.1)
      | (refine step_append_lies _ (by rfl) _ _ _ (by rfl) (w.heap.size + 3) 27 i0 _ 5 80 Tryz.underlying24 hi0 hz0 hz1 hz2 rfl (by omega) (.slice Al v.l.length cl) v.l.length (flat5 v.l ps) (by rfl) (PB6.out.lown.alloc _) ⟨w6.heap.size, 0, none⟩ 1 1 (cellsV x (.slice s1 s2 s3) (.slice s4 s5 s6)).toList (by rfl) (by rfl) (World.news_of_block (cs := cellsV x (.slice s1 s2 s3) (.slice s4 s5 s6)) (t := 27) (fr := (0, 0)) (heap_alloc_new w6 _)) (by simp [Value.oneCell', cellsV]) (by omega) (by have := HSM.out.2.2.2.2.1; unfold maxLen; omega) (by have := HSM.out.2.2.2.2.1; omega) (by have := PB6.out.lt; have := PB6.out.nP; simp; omega) (w6.heap.size + 1) (by simp) ?_; intro gg cap w7 hown7 hgrow7 hat7 hlt7; obtain ⟨c3, z3⟩ := put_mid PB6.out hgrow7)))
  all_goals
    have hpc := putC_add PB6.out (HR ▸ HS.out) hat6 HLT hown7 hgrow7 (by rcases hat7 with e | e; exact Or.inl e.symm; subst e; exact Or.inr rfl)
    rw [← HR] at hpc
    generalize w7.setCell ⟨P, 3, none⟩ (.slice (some ⟨gg, 0, none⟩) (v.l.length + 1) cap) = W8 at hpc ⊢
    clear HR hat7 hlt7 hown7 hgrow7 hat6 PB6 PB c3 z3 p0 p1 p2 p3 p4 x0 x1 x2 x3 x4
    obtain ⟨b0, b1, b2, b3, b4, _⟩ := row5' hpc.hP
    obtain ⟨u0, u1, u2, u3, u4, v0, v1, v2, v3, v4⟩ := row5 hpc.h2
    have PC := Lib.hid hpc
    have HNP := hpc.nP
    clear hpc
    go_wp2_with fail
    refine bodyPost_ret_by (results_cell_row rfl _ _ (w.heap.size + 2) 27 _ (0, 0) _ rfl (set5_row PC.out.h2 (.int .i64 R.k) (.float .f64 R.f) (.string R.s) (.slice (some ⟨gg, 0, none⟩) (v.l.length + 1) cap) (.slice Ak2 (v.ks.length + 1) ck2)) Tryz.underlying27 rfl (by rw [hi0]; simp [hz1])) rfl ?_
    exact ⟨_, _, rfl, AtP.more (fun b hb => ⟨by have := hb.1; omega, by have := hb.2; simpa using this⟩) _ _ _ _ (AtP.keep (fun a ha => cell_of_block (set5_other (by have := ha.1; omega) ..)) _ _ _ _ PC.out.at_), set5_below0 PC.out.bel (by omega) ..⟩
end Go.Proofs.YtdlighmnlcklnaaGreatDoor
namespace Go.Proofs.YtdlighmnlcklnaaGreatDoor
open Go Go.RowKit

/-- The order of two ints. -/
def cmpI (a b : Int) : Int := if a < b then -1 else if b < a then 1 else 0
theorem isNaNK_any (a : Int) (w : World) : Calls Tryz.prog 65 #[.int .i64 a] w fun e w' => e = .returned (.bool false) ∧ w = w' := by
  go_enter Tryz.func65, Tryz.ntmps65
  go_wp2_with fail
  go_ret
  exact ⟨rfl, rfl⟩
set_option maxHeartbeats 1000000 in
theorem cmpK_any (a b : Int) (w : World) : Calls Tryz.prog 39 #[.int .i64 a, .int .i64 b] w fun e w' => e = .returned (.int .i64 (cmpI a b)) ∧ w = w' := by
  go_enter Tryz.func39, Tryz.ntmps39
  go_wp2_with fail
  refine (isNaNK_any a w).mono ?_
  rintro e w1 ⟨rfl, rfl⟩
  go_wp2_with fail
  refine (isNaNK_any b w).mono ?_
  rintro e w1 ⟨rfl, rfl⟩
  go_wp2_with fail
  all_goals go_ret
  all_goals
    refine ⟨?_, rfl⟩
    unfold cmpI
    first
      | (rw [if_pos (by omega)]; rfl)
      | (rw [if_neg (by omega), if_pos (by omega)]; rfl)
      | (rw [if_neg (by omega), if_neg (by omega)]; rfl)
set_option maxRecDepth 100000 in
set_option maxHeartbeats 1000000 in
theorem Compare_kinds (k1 k2 : Int) (f1 f2 : Nat) (s1 s2 : ByteArray) (a1 a2 a3 a4 : Option Addr) (n1 n2 n3 n4 c1 c2 c3 c4 : Nat) (hk : k1 ≠ k2) (w : World) :
    Calls Tryz.prog 18 #[.agg #[.int .i64 k1, .float .f64 f1, .string s1, .slice a1 n1 c1, .slice a2 n2 c2], .agg #[.int .i64 k2, .float .f64 f2, .string s2, .slice a3 n3 c3, .slice a4 n4 c4]] w fun e w' => e = .returned (.int .i64 (cmpI k1 k2)) ∧ Below w.heap.size w w' := by
  have hsf := run_store_float Tryz.prog
  obtain ⟨i0, hi0, hz0, hz1, hz2⟩ := info_parts infoVal
  go_enter Tryz.func18, Tryz.ntmps18
  go_wp2_with fail
  refine (cmpK_any k1 k2 _).mono ?_
  rintro e w1 ⟨rfl, rfl⟩
  go_wp2_with fail
  go_ret
  exact ⟨rfl, ((Below.refl w.heap.size w).alloc (Nat.le_refl _) _).alloc (by simp) _⟩
/-- Two numbers, the first of them none. -/
theorem cmpNum_nan (f1 f2 : Nat) (hn : 9218868437227405312 < szB f1) (w : World) : Calls Tryz.prog 40 #[.float .f64 f1, .float .f64 f2] w fun e w' => e = .returned (.int .i64 (-1)) ∧ w = w' := by
  have hd : decide (9218868437227405312 < szB f1) = true := decide_eq_true hn
  go_enter Tryz.func40, Tryz.ntmps40
  go_wp2_with fail
  refine (IsNaN_any f1 w).mono ?_
  rintro e w1 ⟨rfl, rfl⟩
  rw [hd]
  go_wp2_with fail
  go_ret
  exact ⟨rfl, rfl⟩
set_option maxRecDepth 100000 in
set_option maxHeartbeats 1000000 in
theorem Compare_nan (f1 f2 : Nat) (s1 s2 : ByteArray) (a1 a2 a3 a4 : Option Addr) (n1 n2 n3 n4 c1 c2 c3 c4 : Nat) (hn : 9218868437227405312 < szB f1) (w : World) :
    Calls Tryz.prog 18 #[.agg #[.int .i64 3, .float .f64 f1, .string s1, .slice a1 n1 c1, .slice a2 n2 c2], .agg #[.int .i64 3, .float .f64 f2, .string s2, .slice a3 n3 c3, .slice a4 n4 c4]] w fun e w' => e = .returned (.int .i64 (-1)) ∧ Below w.heap.size w w' := by
  have hsf := run_store_float Tryz.prog
  obtain ⟨i0, hi0, hz0, hz1, hz2⟩ := info_parts infoVal
  go_enter Tryz.func18, Tryz.ntmps18
  go_wp2_with fail
  refine (cmpNum_nan f1 f2 hn _).mono ?_
  rintro e w1 ⟨rfl, rfl⟩
  go_wp2_with fail
  go_ret
  exact ⟨rfl, ((Below.refl w.heap.size w).alloc (Nat.le_refl _) _).alloc (by simp) _⟩
set_option maxHeartbeats 400000 in
theorem Arr_nil (w : World) : Calls Tryz.prog 19 #[.slice none 0 0] w fun e w' => e = .returned (.agg #[.int .i64 5, .float .f64 0, .string ⟨#[]⟩, .slice none 0 0, .slice none 0 0]) ∧ Below w.heap.size w w' := by
  have hsf := run_store_float Tryz.prog
  obtain ⟨i0, hi0, hz0, hz1, hz2⟩ := info_parts infoVal
  go_enter Tryz.func19, Tryz.ntmps19
  go_wp2_with fail
  refine bodyPost_ret_by (results_cell_row rfl _ _ w.heap.size 27 _ (0, 0) _ rfl (heap_alloc_new w _) Tryz.underlying27 rfl (by rw [hi0]; simp [hz1])) rfl ?_
  exact ⟨rfl, (Below.refl w.heap.size w).alloc (Nat.le_refl _) _⟩
theorem NaN_any (w : World) : Calls Tryz.prog 17 #[] w fun e w' => e = .returned (.float .f64 9221120237041090561) ∧ w = w' := by
  have hfm := from_math 9221120237041090561 w
  go_enter Tryz.func17, Tryz.ntmps17
  go_wp2_with fail
  go_ret
  exact ⟨rfl, rfl⟩
end Go.Proofs.YtdlighmnlcklnaaGreatDoor
