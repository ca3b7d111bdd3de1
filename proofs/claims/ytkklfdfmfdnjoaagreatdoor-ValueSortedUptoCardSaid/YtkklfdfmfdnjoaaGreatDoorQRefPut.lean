/- The document's place and Get. -/
import Derived.Test.YtkklfdfmfdnjoaaGreatDoorQKeeps
namespace Go.Proofs.YtkklfdfmfdnjoaaGreatDoor
open Go Go.RowKit

theorem idx_at {ks : List ByteArray} {x : ByteArray} {j : Nat} (hj : j < ks.length) (h1 : ks[j] = x) (h2 : ∀ t (ht : t < j), ks[t]'(by omega) ≠ x) : Lib.idxOfS ks x = (j : Int) := by
  rcases idx_cases ks x with ⟨_, hn⟩ | ⟨i, g1, g2, g3, g4⟩
  · exact absurd (h1 ▸ List.getElem_mem hj) hn
  · rw [g2]
    rcases Nat.lt_trichotomy i j with h | h | h
    · exact absurd g3 (h2 i h)
    · rw [h]
    · exact absurd h1 (g4 j h)
theorem idx_none {ks : List ByteArray} {x : ByteArray} (h : ∀ t (ht : t < ks.length), ks[t] ≠ x) : Lib.idxOfS ks x = -1 := by
  rcases idx_cases ks x with ⟨q, _⟩ | ⟨i, g1, _, g3, _⟩
  · exact q
  · exact absurd g3 (h i g1)
theorem bytes_eq (a b : ByteArray) : (a.toList == b.toList) = decide (a = b) := by
  rw [Lib.toList_data, Lib.toList_data, Bool.eq_iff_iff]
  simp only [beq_iff_eq, decide_eq_true_eq]
  exact ⟨toList_inj, fun e => by rw [e]⟩
set_option maxRecDepth 100000 in
set_option maxHeartbeats 2000000 in
theorem refPlace_any (v : V) (m : Nat) (lv kv : Value) (x : ByteArray) (w : World) (h : At w w.heap.size (m + 1) v lv kv) :
    Calls Tryz.prog 78 #[.agg (cellsV v lv kv), .string x] w fun e w' => e = .returned (.int .i64 (Lib.idxOfS v.ks x)) ∧ Below w.heap.size w w' := by
  have hsf := run_store_float Tryz.prog
  obtain ⟨i0, hi0, hz0, hz1, hz2⟩ := info_parts infoVal
  obtain ⟨hsm, ha, _⟩ := h.opened
  have hks := hsm.2.2.2.2.2.1
  obtain ⟨a1, n1, k1, a2, n2, k2, rfl, e2⟩ := h.slices
  obtain ⟨A, ad, ck, rfl, hA, hac⟩ := ha.1.dest
  cases e2
  rw [List.length_map] at hA
  have hcell : ∀ t (ht : t < v.ks.length), w.cell? (ad.add t) = some (.string v.ks[t]) := fun t ht => hac t _ (by simp [ht])
  have HA := Lib.hid hA
  have HC := Lib.hid hcell
  unfold cellsV
  rw [List.length_map]
  obtain ⟨ks, hk⟩ : ∃ ks, v.ks = ks := ⟨_, rfl⟩
  rw [hk] at HA HC hks ⊢
  clear hA hac hcell ha hsm h hk
  go_enter Tryz.func78, Tryz.ntmps78
  go_wp2_with fail
  have HB := Lib.hid ((HW.start w).one #[.int .i64 v.k, .float .f64 v.f, .string v.s, .slice a1 n1 k1, .slice a2 ks.length k2] 27)
  generalize w.alloc (.cells #[.int .i64 v.k, .float .f64 v.f, .string v.s, .slice a1 n1 k1, .slice a2 ks.length k2] 27) = W0 at HB ⊢
  go_loopw [5] (fun i W => ∃ t : Nat, t ≤ ks.length ∧ i = .int .i64 t ∧ (∀ s (hs : s < ks.length), s < t → ks[s] ≠ x) ∧ Below W0.heap.size W0 W) (fun i _ => ks.length - (intOf i).toNat)
  case atStart => exact ⟨0, Nat.zero_le _, rfl, fun s _ h => absurd h (by omega), Below.refl _ _⟩
  case round =>
    obtain ⟨t, ht, rfl, hne, hbel⟩ := hrel
    have HNE := Lib.hid hne
    have HBL := Lib.hid (HB.out.below hbel)
    have HB0 := Lib.hid hbel
    obtain ⟨x0, x1, x2, x3, x4⟩ := row5p (HBL.out.rows _ (.head _))
    clear hne hbel
    by_cases hlt : t < ks.length
    · obtain ⟨rfl, hB⟩ := HA.out (by omega)
      have hc := (HBL.out.bel.cell (p := ad.add t) (by rw [add_block]; exact hB)).trans (HC.out t hlt)
      have heq := bytes_eq ks[t] x
      by_cases he : ks[t] = x
      · rw [decide_eq_true he] at heq
        have HX := Lib.hid (idx_at hlt he fun s hs => HNE.out s (by omega) hs)
        clear he
        go_wp2_with fail
        go_ret
        exact ⟨by rw [HX.out]; rfl, HBL.out.bel⟩
      · rw [decide_eq_false he] at heq
        have HE := Lib.hid he
        clear he
        go_wp2_with fail
        go_roundw
        case rel => exact ⟨t + 1, by omega, by go_num, fun s hs hst => by by_cases e : s = t; (subst e; exact HE.out); exact HNE.out s hs (by omega), HB0.out⟩
        case measure => simp [intOf]; omega
    · go_wp2_with fail
      go_ret
      exact ⟨by rw [idx_none fun s hs => HNE.out s hs (by omega)]; rfl, HBL.out.bel⟩
set_option maxRecDepth 100000 in
set_option maxHeartbeats 4000000 in
/-- What the document's Get answers shares memory with the object. -/
theorem refGet_any (v : V) (m : Nat) (lv kv : Value) (x : ByteArray) (w : World) (h : At w w.heap.size (m + 1) v lv kv) (hlen : v.ks.length ≤ v.l.length) :
    Calls Tryz.prog 33 #[.agg (cellsV v lv kv), .string x] w fun e w' =>
      ((Lib.idxOfS v.ks x = -1 ∧ e = .returned (.tuple #[.agg zeroA, .bool false])) ∨ ∃ (i : Nat) (hi : i < v.l.length) (lv' kv' : Value), Lib.idxOfS v.ks x = (i : Int) ∧ e = .returned (.tuple #[.agg (cellsV v.l[i] lv' kv'), .bool true]) ∧ At w' w'.heap.size m v.l[i] lv' kv') ∧ Below w.heap.size w w' := by
  have hsf := run_store_float Tryz.prog
  obtain ⟨i0, hi0, hz0, hz1, hz2⟩ := info_parts infoVal
  have hpl := fun W (hb : Below w.heap.size w W) => refPlace_any v m lv kv x W ((h.below hb).more hb.size)
  have hix := idx_cases v.ks x
  obtain ⟨hsm, ha, hcp, a, c, B, o, rfl, hab, hi⟩ := h.opened
  obtain ⟨A, ad, ck, rfl, _, _⟩ := ha.1.dest
  rw [List.length_map] at *
  have hls := hsm.2.2.2.2.1
  obtain ⟨y, hy⟩ : ∃ y, Lib.idxOfS v.ks x = y := ⟨_, rfl⟩
  rw [hy] at hpl hix ⊢
  have HX := Lib.hid (show y = -1 ∨ ∃ i : Nat, i < v.l.length ∧ y = (i : Int) from by
    rcases hix with ⟨q, _⟩ | ⟨i, h1, h2, _⟩
    · exact Or.inl q
    · exact Or.inr ⟨i, by omega, h2⟩)
  unfold cellsV at hpl
  have HPL := Lib.hid hpl
  have HAB := Lib.hid hab
  have HI := Lib.hid hi
  clear hpl h ha hcp hab hi hix hy hlen hsm
  unfold cellsV
  go_enter Tryz.func33, Tryz.ntmps33
  go_wp2_with fail
  have H := Lib.hid ((HW.start w).two #[.int .i64 v.k, .float .f64 v.f, .string v.s, .slice a v.l.length c, .slice A v.ks.length ck] #[.int .i64 0, .float .f64 0, .string ⟨#[]⟩, .slice none 0 0, .slice none 0 0] 27 27)
  refine (HPL.out _ H.out.bel).mono ?_
  rintro e w1 ⟨rfl, hb⟩
  have H1 := Lib.hid (H.out.below hb)
  clear hb H
  obtain ⟨x0, x1, x2, x3, x4⟩ := row5p (H1.out.rows _ (.tail _ (.head _)))
  obtain ⟨u0, u1, u2, u3, u4, v0, v1, v2, v3, v4⟩ := row5 (H1.out.rows _ (.head _))
  rcases HX.out with rfl | ⟨i, hlt, rfl⟩
  · go_wp2_with fail
    refine bodyPost_ret_by (results_row_tmp rfl _ _ (w.heap.size + 1) 27 _ (0, 0) _ (.bool false) rfl rfl (set5_row (H1.out.rows _ (.head _)) (.int .i64 0) (.float .f64 0) (.string ⟨#[]⟩) (.slice none 0 0) (.slice none 0 0)) Tryz.underlying27 rfl sizeVal) rfl ?_
    exact ⟨rfl, set5_below0 H1.out.bel (by omega) ..⟩
  · obtain ⟨lv', kv', h5, hAt⟩ := HI.out i hlt
    obtain ⟨rfl, hBw⟩ := HAB.out (by omega)
    obtain ⟨f0, f1, f2, f3, f4⟩ := h5.keep hBw (fun p hp => H1.out.bel.cell hp)
    obtain ⟨a1, n1, k1, a2, n2, k2, rfl, rfl⟩ := hAt.slices
    have HAT := Lib.hid hAt
    clear hAt h5
    go_wp2_with fail
    refine bodyPost_ret_by (results_row_tmp rfl _ _ (w.heap.size + 1) 27 _ (0, 0) _ (.bool true) rfl rfl (set5_row (H1.out.rows _ (.head _)) (.int .i64 v.l[i].k) (.float .f64 v.l[i].f) (.string v.l[i].s) (.slice a1 n1 k1) (.slice a2 n2 k2)) Tryz.underlying27 rfl sizeVal) rfl ?_
    have hbf : Below w.heap.size w (set5 w1 (w.heap.size + 1) (.int .i64 v.l[i].k) (.float .f64 v.l[i].f) (.string v.l[i].s) (.slice a1 n1 k1) (.slice a2 n2 k2)) := set5_below0 H1.out.bel (by omega) ..
    exact ⟨Or.inr ⟨i, hlt, _, _, rfl, rfl, (HAT.out.below hbf).more hbf.size⟩, hbf⟩
end Go.Proofs.YtkklfdfmfdnjoaaGreatDoor
/- The document's Keys. -/
namespace Go.Proofs.YtkklfdfmfdnjoaaGreatDoor
open Go Go.RowKit

set_option maxRecDepth 100000 in
set_option maxHeartbeats 1000000 in
theorem refKeysV_any (v : V) (m : Nat) (lv kv : Value) (w : World) (h : At w w.heap.size m v lv kv) :
    Calls Tryz.prog 38 #[.agg (cellsV v lv kv)] w fun e w' => ∃ kv', e = .returned kv' ∧ KeysAt w' w'.heap.size kv' (sortK v.ks) ∧ Below w.heap.size w w' := by
  have hsf := run_store_float Tryz.prog
  obtain ⟨m, rfl⟩ : ∃ n, m = n + 1 := by cases m with | zero => exact h.elim | succ m => exact ⟨m, rfl⟩
  obtain ⟨hsm, ha, _⟩ := h.opened
  have hso := fun o => Sorted_any v.ks.length v.ks kv (w.alloc o) (Nat.le_refl _) hsm.2.2.2.2.2.1 (KeysAt.more (ha.below ((Below.refl w.heap.size w).alloc (Nat.le_refl _) o)) (by simp))
  obtain ⟨a1, n1, k1, a2, n2, k2, rfl, rfl⟩ := h.slices
  unfold cellsV
  have HSO := Lib.hid hso
  clear hso h ha hsm
  go_enter Tryz.func38, Tryz.ntmps38
  go_wp2_with fail
  refine (HSO.out _).mono ?_
  rintro e w1 ⟨v', rfl, hown, hb1⟩
  have hb0 : Below w.heap.size w w1 := ((Below.refl w.heap.size w).alloc (Nat.le_refl _) _).trans (hb1.mono (by simp))
  have HB := Lib.hid hb0
  clear hb1 hb0
  go_wp2_with fail
  go_ret
  exact ⟨_, rfl, hown.at, HB.out⟩
end Go.Proofs.YtkklfdfmfdnjoaaGreatDoor
/- The document's Put: what its memory holds. -/
namespace Go.Proofs.YtkklfdfmfdnjoaaGreatDoor
open Go Go.RowKit

/-- An append of a row of values that came in, nil or not, to a row of the call's own. -/
theorem app_five {w : World} {ops : Array Oper} {rest : List Oper} {o : Oper} {a : Act} {Q : Exit → Act → World → Prop} (hgd : o.guard = none) (s x : Operand)
    (ho : o.op = .call { callee := .builtin .append, args := #[s, x], argTypes := #[24, 24] })
    (base : Nat) (v : Value) (n : Nat) (xs : List Value) (hs : a.eval s = v) (hown : w.ownsRow base 27 5 v n xs)
    (A : Option Addr) (m c : Nat) (ys : List Value) (hx : a.eval x = .slice A m c) (hys : ys.length = m * 5) (hA : 0 < m → ∃ ad, A = some ad ∧ ∀ j u, ys[j]? = some u → w.cell? (ad.add j) = some u) (hnil : A = none → c = 0) (hmc : m ≤ c) (h1 : ∀ u ∈ ys, u.oneCell' = true)
    (h63 : n + m ≤ 2097152) (hbase : base ≤ w.heap.size)
    (h : ∀ v' w', w'.ownsRow base 27 5 v' (n + m) (xs ++ ys) → w.grownBy w' v.ownBlock → (v'.ownBlock = v.ownBlock ∨ v'.ownBlock = some w.heap.size) → wpList Tryz.prog ops Q rest (a.put o.dst v') w') : wpList Tryz.prog ops Q (o :: rest) a w := by
  obtain ⟨i0, hi0, hz0, hz1, hz2⟩ := info_parts infoVal
  cases A with
  | none =>
    have hc0 := hnil rfl
    obtain rfl : m = 0 := by omega
    have h0 : ys = [] := List.eq_nil_of_length_eq_zero (by omega)
    subst h0
    subst hc0
    refine wpList_append_own_none hgd s x _ ho base 27 i0 5 Tryz.underlying24 hi0 v n xs hs hown hx ?_
    exact h v w (by simpa using hown) ⟨rfl, rfl, rfl, Nat.le_refl _, fun _ _ _ => rfl⟩ (Or.inl rfl)
  | some ad =>
    refine wpList_append_own_at (w := w) hgd s x _ ho base 27 i0 _ 5 80 Tryz.underlying24 hi0 hz0 hz1 hz2 rfl (by omega) v n xs hs hown ad m c ys hx hys ?_ h1 (by unfold maxLen; omega) (by omega) hbase fun v' w' h2 h3 _ h5 => h v' w' h2 h3 h5
    intro j u hj
    have hlt := (List.getElem?_eq_some_iff.1 hj).1
    obtain ⟨ad', e1, h4⟩ := hA (by omega)
    cases e1
    exact h4 j u hj
/-- A value whose rows are the call's own, and whose parts lie anywhere. -/
theorem at_of_own {W : World} {B m : Nat} {r : V} {lv kv : Value} {qs : List (Value × Value)} (hS : Small r) (hl : W.ownsRow B 27 5 lv r.l.length (flat5 r.l qs)) (hq : qs.length = r.l.length) (hk : W.ownsRow B 9 1 kv r.ks.length (r.ks.map Value.string))
    (heach : ∀ i (h : i < r.l.length) (h2 : i < qs.length), At W W.heap.size m r.l[i] qs[i].1 qs[i].2) : At W W.heap.size (m + 1) r lv kv := by
  obtain ⟨a, c, b, o, e, hab, h5⟩ := own_five hl hq.symm rfl
  obtain ⟨ha, hc⟩ := own_keysP hk
  refine ⟨hS, ⟨?_, hc⟩, Caps.of_own hl, a, c, b, o, e, fun h => ⟨(hab h).1, (hab h).2.2⟩, fun i hi => ⟨_, _, h5 i hi (by omega), heach i hi (by omega)⟩⟩
  obtain ⟨A, c0, e0, h0⟩ := ha
  exact ⟨A, c0, e0, fun h => by obtain ⟨ad, e1, hb, hx⟩ := h0 h; exact ⟨ad, e1, hb.2, hx⟩⟩
/-- The document's Put under way: three boxes, and the object that it makes. -/
structure RP (w : World) (bv bx : Array Value) (l : List V) (qs : List (Value × Value)) (ks : List ByteArray) (lv kv : Value) (W : World) : Prop where
  h0 : W.heap[w.heap.size]? = some (.cells bv 27 (0, 0))
  h1 : W.heap[w.heap.size + 1]? = some (.cells bx 27 (0, 0))
  h2 : W.heap[w.heap.size + 2]? = some (.cells #[.int .i64 0, .float .f64 0, .string ⟨#[]⟩, .slice none 0 0, .slice none 0 0] 27 (0, 0))
  hP : W.heap[w.heap.size + 3]? = some (.cells #[.int .i64 6, .float .f64 0, .string ⟨#[]⟩, lv, kv] 27 (0, 0))
  len : qs.length = l.length
  lown : W.ownsRow (w.heap.size + 4) 27 5 lv l.length (flat5 l qs)
  kown : W.ownsRow (w.heap.size + 4) 9 1 kv ks.length (ks.map Value.string)
  apart : ∀ g, kv.ownBlock = some g → some g ≠ lv.ownBlock
  bel : Below w.heap.size w W
theorem RP.lt {w : World} {bv bx : Array Value} {l : List V} {qs : List (Value × Value)} {ks : List ByteArray} {lv kv : Value} {W : World} (h : RP w bv bx l qs ks lv kv W) : w.heap.size + 3 < W.heap.size := (Array.getElem?_eq_some_iff.1 h.hP).1
theorem RP.below {w : World} {bv bx : Array Value} {l : List V} {qs : List (Value × Value)} {ks : List ByteArray} {lv kv : Value} {W W' : World} (h : RP w bv bx l qs ks lv kv W) (hb : Below W.heap.size W W') : RP w bv bx l qs ks lv kv W' := by
  have := h.lt
  exact ⟨(hb.block _ (by omega)).trans h.h0, (hb.block _ (by omega)).trans h.h1, (hb.block _ (by omega)).trans h.h2, (hb.block _ (by omega)).trans h.hP, h.len, own_heap h.lown (fun k hk => hb.block k hk), own_heap h.kown (fun k hk => hb.block k hk), h.apart, h.bel.trans (hb.mono h.bel.size)⟩
theorem RP.start (w : World) (bv bx : Array Value) : RP w bv bx [] [] [] (.slice none 0 0) (.slice none 0 0) ((((w.alloc (.cells bv 27)).alloc (.cells bx 27)).alloc (.cells #[.int .i64 0, .float .f64 0, .string ⟨#[]⟩, .slice none 0 0, .slice none 0 0] 27)).alloc (.cells #[.int .i64 6, .float .f64 0, .string ⟨#[]⟩, .slice none 0 0, .slice none 0 0] 27)) := by
  have q1 := heap_alloc_new (w.alloc (.cells bv 27)) (.cells bx 27)
  have q2 := heap_alloc_new ((w.alloc (.cells bv 27)).alloc (.cells bx 27)) (.cells #[.int .i64 0, .float .f64 0, .string ⟨#[]⟩, .slice none 0 0, .slice none 0 0] 27)
  have q3 := heap_alloc_new (((w.alloc (.cells bv 27)).alloc (.cells bx 27)).alloc (.cells #[.int .i64 0, .float .f64 0, .string ⟨#[]⟩, .slice none 0 0, .slice none 0 0] 27)) (.cells #[.int .i64 6, .float .f64 0, .string ⟨#[]⟩, .slice none 0 0, .slice none 0 0] 27)
  rw [World.size_alloc] at q1
  rw [World.size_alloc, World.size_alloc] at q2
  rw [World.size_alloc, World.size_alloc, World.size_alloc] at q3
  exact ⟨row_alloc3 (row_alloc3 (row_alloc3 (heap_alloc_new w _) _) _) _, row_alloc3 (row_alloc3 q1 _) _, row_alloc3 q2 _, q3, rfl, ⟨rfl, Or.inl ⟨rfl, rfl⟩⟩, ⟨rfl, Or.inl ⟨rfl, rfl⟩⟩, (fun g hg => by cases hg),
    ((((Below.refl w.heap.size w).alloc (Nat.le_refl _) _).alloc (by simp) _).alloc (by simp; omega) _).alloc (by simp; omega) _⟩
/-- The keys' row has grown. -/
theorem RP.keys {w : World} {bv bx : Array Value} {l : List V} {qs : List (Value × Value)} {ks ks' : List ByteArray} {lv kv kv' : Value} {W W' : World} (h : RP w bv bx l qs ks lv kv W)
    (hown : W'.ownsRow (w.heap.size + 4) 9 1 kv' ks'.length (ks'.map Value.string)) (hsame : ∀ k, k < W.heap.size → some k ≠ kv.ownBlock → W'.heap[k]? = W.heap[k]?) (hblk : kv'.ownBlock = kv.ownBlock ∨ ∀ g, kv'.ownBlock = some g → W.heap.size ≤ g) (hbel : Below w.heap.size w W') :
    RP w bv bx l qs ks' lv kv' (W'.setCell ⟨w.heap.size + 3, 4, none⟩ kv') := by
  have hlt := h.lt
  have hkP : ∀ g, kv.ownBlock = some g → w.heap.size + 4 ≤ g := fun g hg => (h.kown.lt g hg).1
  have hkP' : ∀ g, kv'.ownBlock = some g → w.heap.size + 4 ≤ g := fun g hg => (hown.lt g hg).1
  have hnk : ∀ k, k < w.heap.size + 4 → some k ≠ kv.ownBlock := fun k hk e => by have := hkP k e.symm; omega
  have hk' : ∀ k, k < W.heap.size → some k ≠ kv.ownBlock → k ≠ w.heap.size + 3 → (W'.setCell ⟨w.heap.size + 3, 4, none⟩ kv').heap[k]? = W.heap[k]? := fun k h1 h2 h3 => (setCell_other_block _ h3).trans (hsame k h1 h2)
  refine ⟨(hk' _ (by omega) (hnk _ (by omega)) (by omega)).trans h.h0, (hk' _ (by omega) (hnk _ (by omega)) (by omega)).trans h.h1, (hk' _ (by omega) (hnk _ (by omega)) (by omega)).trans h.h2, row_setAt ((hsame _ hlt (hnk _ (by omega))).trans h.hP) 4 kv', h.len, ?_, ?_, ?_, hbel.setCell (p := ⟨w.heap.size + 3, 4, none⟩) (by show w.heap.size ≤ w.heap.size + 3; omega) _⟩
  · exact own_keepN h.lown (fun g hg => hk' g (h.lown.lt g hg).2 (fun e => h.apart g e.symm hg.symm) (by have := (h.lown.lt g hg).1; omega))
  · exact own_keepN hown (fun g hg => setCell_other_block _ (by have := hkP' g hg; omega))
  · intro g hg e
    have hl := (h.lown.lt g e.symm)
    rcases hblk with q | q
    · exact h.apart g (q ▸ hg) e
    · have := q g hg
      omega
/-- The values' row has grown. -/
theorem RP.vals {w : World} {bv bx : Array Value} {l l' : List V} {qs qs' : List (Value × Value)} {ks : List ByteArray} {lv lv' kv : Value} {W W' : World} (h : RP w bv bx l qs ks lv kv W) (hlen : qs'.length = l'.length)
    (hown : W'.ownsRow (w.heap.size + 4) 27 5 lv' l'.length (flat5 l' qs')) (hsame : ∀ k, k < W.heap.size → some k ≠ lv.ownBlock → W'.heap[k]? = W.heap[k]?) (hblk : lv'.ownBlock = lv.ownBlock ∨ ∀ g, lv'.ownBlock = some g → W.heap.size ≤ g) (hbel : Below w.heap.size w W') :
    RP w bv bx l' qs' ks lv' kv (W'.setCell ⟨w.heap.size + 3, 3, none⟩ lv') := by
  have hlt := h.lt
  have hkP : ∀ g, lv.ownBlock = some g → w.heap.size + 4 ≤ g := fun g hg => (h.lown.lt g hg).1
  have hkP' : ∀ g, lv'.ownBlock = some g → w.heap.size + 4 ≤ g := fun g hg => (hown.lt g hg).1
  have hnk : ∀ k, k < w.heap.size + 4 → some k ≠ lv.ownBlock := fun k hk e => by have := hkP k e.symm; omega
  have hk' : ∀ k, k < W.heap.size → some k ≠ lv.ownBlock → k ≠ w.heap.size + 3 → (W'.setCell ⟨w.heap.size + 3, 3, none⟩ lv').heap[k]? = W.heap[k]? := fun k h1 h2 h3 => (setCell_other_block _ h3).trans (hsame k h1 h2)
  refine ⟨(hk' _ (by omega) (hnk _ (by omega)) (by omega)).trans h.h0, (hk' _ (by omega) (hnk _ (by omega)) (by omega)).trans h.h1, (hk' _ (by omega) (hnk _ (by omega)) (by omega)).trans h.h2, row_setAt ((hsame _ hlt (hnk _ (by omega))).trans h.hP) 3 lv', hlen, ?_, ?_, ?_, hbel.setCell (p := ⟨w.heap.size + 3, 3, none⟩) (by show w.heap.size ≤ w.heap.size + 3; omega) _⟩
  · exact own_keepN hown (fun g hg => setCell_other_block _ (by have := hkP' g hg; omega))
  · exact own_keepN h.kown (fun g hg => hk' g (h.kown.lt g hg).2 (fun e => h.apart g hg e) (by have := (h.kown.lt g hg).1; omega))
  · intro g hg e
    have hl := (h.kown.lt g hg)
    rcases hblk with q | q
    · exact h.apart g hg (e.trans q)
    · have := q g e.symm
      omega
/-- A value in its old place. -/
theorem RP.set {w : World} {bv bx : Array Value} {l : List V} {qs : List (Value × Value)} {ks : List ByteArray} {g cap j : Nat} {kv : Value} {W : World} (h : RP w bv bx l qs ks (.slice (some ⟨g, 0, none⟩) l.length cap) kv W) (hj : j < l.length) (x : V) (aa bb : Value) :
    RP w bv bx (l.set j x) (qs.set j (aa, bb)) ks (.slice (some ⟨g, 0, none⟩) l.length cap) kv (set5at W g (j * 5) (.int .i64 x.k) (.float .f64 x.f) (.string x.s) aa bb) := by
  have hg := h.lown.lt g rfl
  have hk' : ∀ k, k ≠ g → (set5at W g (j * 5) (.int .i64 x.k) (.float .f64 x.f) (.string x.s) aa bb).heap[k]? = W.heap[k]? := fun k hk => set5at_other hk ..
  refine ⟨(hk' _ (by omega)).trans h.h0, (hk' _ (by omega)).trans h.h1, (hk' _ (by omega)).trans h.h2, (hk' _ (by omega)).trans h.hP, by simp [h.len], ?_, own_set5at h.kown (fun e => h.apart g e.symm rfl) .., h.apart, set5at_below h.bel (by omega) ..⟩
  rw [List.length_set]
  exact own_put h.lown h.len hj aa bb
/-- The object is done: it is answered. -/
theorem RP.done {w : World} {bv bx : Array Value} {r : V} {qs : List (Value × Value)} {lv kv : Value} {W : World} {m : Nat} (h : RP w bv bx r.l qs r.ks lv kv W) (hS : Small r)
    (heach : ∀ i (h : i < r.l.length) (h2 : i < qs.length), At w w.heap.size m r.l[i] qs[i].1 qs[i].2) (x0 x1 x2 x3 x4 : Value) :
    At (set5 W (w.heap.size + 2) x0 x1 x2 x3 x4) (set5 W (w.heap.size + 2) x0 x1 x2 x3 x4).heap.size (m + 1) r lv kv ∧ Below w.heap.size w (set5 W (w.heap.size + 2) x0 x1 x2 x3 x4) := by
  have hb : Below w.heap.size w (set5 W (w.heap.size + 2) x0 x1 x2 x3 x4) := set5_below0 h.bel (by omega) ..
  refine ⟨at_of_own hS (own_keepN h.lown fun g hg => set5_other (by have := (h.lown.lt g hg).1; omega) ..) h.len (own_keepN h.kown fun g hg => set5_other (by have := (h.kown.lt g hg).1; omega) ..) fun i h1 h2 => ?_, hb⟩
  exact At.more hb.size _ _ _ _ ((heach i h1 h2).below hb)
/-- The cells of a row that was just made. -/
theorem cell_row {w : World} {b : Nat} {cs : Array Value} {t : TypeId} (hb : w.heap[b]? = some (.cells cs t (0, 0))) (j : Nat) (u : Value) (h : cs.toList[j]? = some u) : w.cell? (Addr.add ⟨b, 0, none⟩ j) = some u := by
  rw [Addr.add_lit]
  simp only [World.cell?, hb]
  simpa using h
theorem cell_fresh {w : World} {cs : Array Value} {t : TypeId} (j : Nat) (u : Value) (h : cs.toList[j]? = some u) : (w.alloc (.cells cs t)).cell? (Addr.add ⟨w.heap.size, 0, none⟩ j) = some u := cell_row (heap_alloc_new w _) j u h
end Go.Proofs.YtkklfdfmfdnjoaaGreatDoor
/- The document's Put: its walk. -/
namespace Go.Proofs.YtkklfdfmfdnjoaaGreatDoor
open Go Go.RowKit

set_option maxRecDepth 100000 in
set_option maxHeartbeats 4000000 in
theorem refPut_any (v x : V) (m : Nat) (lv kv lx kx : Value) (key : ByteArray) (w : World) (h : At w w.heap.size (m + 1) v lv kv) (hxa : At w w.heap.size m x lx kx) (hk6 : v.k = 6) (hf : v.f = 0) (hs : v.s = ⟨#[]⟩) (hlen : v.ks.length ≤ v.l.length) (hS : Small (putV v key x)) :
    Calls Tryz.prog 39 #[.agg (cellsV v lv kv), .string key, .agg (cellsV x lx kx)] w fun e w' => ∃ lv' kv', e = .returned (.agg (cellsV (putV v key x) lv' kv')) ∧ At w' w'.heap.size (m + 1) (putV v key x) lv' kv' ∧ Below w.heap.size w w' := by
  have hsf := run_store_float Tryz.prog
  obtain ⟨i0, hi0, hz0, hz1, hz2⟩ := info_parts infoVal
  have hpl := fun W (hb : Below w.heap.size w W) => refPlace_any v m lv kv key W ((h.below hb).more hb.size)
  obtain ⟨hsm, ha, hcp, a, c, B, o, rfl, hab, hi⟩ := h.opened
  obtain ⟨qs, hq, hqq⟩ := pairs_of (P := fun i a b => ∃ h : i < v.l.length, FiveAt w B (o + i * 5) v.l[i] a b ∧ At w w.heap.size m v.l[i] a b) (fun i h => by obtain ⟨a, b, q⟩ := hi i h; exact ⟨a, b, h, q⟩)
  have hqa : ∀ i (h : i < v.l.length) (h2 : i < qs.length), At w w.heap.size m v.l[i] qs[i].1 qs[i].2 := fun i _ h2 => (hqq i h2).2.2
  have hsl : ∀ i (h : i < qs.length), ∃ A n c A' n' c', qs[i].1 = .slice A n c ∧ qs[i].2 = .slice A' n' c' := fun i h => by
    obtain ⟨a, b, c, d, e, f, g1, g2⟩ := At.slices (hqq i h).2.2
    exact ⟨a, b, c, d, e, f, g1, g2⟩
  have hone := flat5_one v.l qs hsl
  have hfl := flat5_len v.l qs hq.symm
  have hcells := row_cells hq (fun i _ h2 => (hqq i h2).2.1)
  obtain ⟨A, ck, hkv, hac⟩ := ha.1
  have hkc := ha.2
  rw [List.length_map] at hkv
  subst hkv
  obtain ⟨a3, n3, c3, a4, n4, c4, rfl, rfl⟩ := hxa.slices
  have hls := hsm.2.2.2.2.1
  have hks := hsm.2.2.2.2.2.1
  have hix := idx_cases v.ks key
  obtain ⟨y, hy⟩ : ∃ y, Lib.idxOfS v.ks key = y := ⟨_, rfl⟩
  obtain ⟨R, hR⟩ : ∃ R, putV v key x = R := ⟨_, rfl⟩
  have HX := Lib.hid (show (y = -1 ∧ R = .mk 6 0 ⟨#[]⟩ (v.l ++ [x]) (v.ks ++ [key])) ∨ ∃ i : Nat, i < v.l.length ∧ y = (i : Int) ∧ R = .mk 6 0 ⟨#[]⟩ (v.l.set i x) v.ks from by
    rw [← hR, ← hy]
    unfold putV
    rcases hix with ⟨q, _⟩ | ⟨i, h1, h2, _⟩
    · exact Or.inl ⟨q, by rw [q, if_pos (by omega), hk6, hf, hs]⟩
    · exact Or.inr ⟨i, by omega, h2, by rw [h2, if_neg (by omega), hk6, hf, hs]; rfl⟩)
  rw [hy] at hpl
  rw [hR] at hS ⊢
  unfold cellsV at hpl ⊢
  rw [hk6] at hpl ⊢
  have HPL := Lib.hid hpl
  have HS := Lib.hid hS
  have HONE := Lib.hid hone
  have HFL := Lib.hid hfl
  have HCELL := Lib.hid hcells
  have HAB := Lib.hid hab
  have HCP := Lib.hid hcp
  have HAC := Lib.hid hac
  have HKC := Lib.hid hkc
  have HQA := Lib.hid hqa
  have HXA := Lib.hid hxa
  have HHQ := Lib.hid hq
  clear hpl hS hone hfl hcells hab hcp hac hkc hqa hxa hq hqq hsl hi ha h hsm hix hy hR hlen hk6 hf hs
  go_enter Tryz.func39, Tryz.ntmps39
  go_wp2_with (at_builtin; refine app_arr (w := (((w.alloc (.cells #[.int .i64 6, .float .f64 v.f, .string v.s, .slice a v.l.length c, .slice A v.ks.length ck] 27)).alloc (.cells #[.int .i64 x.k, .float .f64 x.f, .string x.s, .slice a3 n3 c3, .slice a4 n4 c4] 27)).alloc (.cells #[.int .i64 0, .float .f64 0, .string ⟨#[]⟩, .slice none 0 0, .slice none 0 0] 27)).alloc (.cells #[.int .i64 6, .float .f64 0, .string ⟨#[]⟩, .slice none 0 0, .slice none 0 0] 27)) rfl _ _ _ rfl (w.heap.size + 4) 9 (.string ⟨#[]⟩) 16 Tryz.underlying25 infoStr rfl (.slice none 0 0) 0 [] rfl ⟨rfl, Or.inl ⟨rfl, rfl⟩⟩ w.heap.size (.slice A v.ks.length ck) (v.ks.map Value.string) ?o2 ?o3 rfl ?o4 ?o5 ?o6 ?o7 ?_)
  case o2 => exact ⟨A, ck, by rw [List.length_map], fun h0 => by
    obtain ⟨ad, e1, e2, e3⟩ := HAC.out h0
    exact ⟨ad, e1, e2, fun j u hu => by
      have q := e3 j u hu
      have hlt : (ad.add j).block < w.heap.size := by rw [add_block]; exact e2
      rw [cell_old (by simp; omega), cell_old (by simp; omega), cell_old (by simp; omega), cell_old hlt]
      exact q⟩⟩
  case o3 => exact fun n c e => by cases e; exact (HKC.out _ _ _ rfl).2.2 rfl
  case o4 => intro u hu; obtain ⟨s, _, rfl⟩ := List.mem_map.1 hu; rfl
  case o5 => unfold maxLen; simp; omega
  case o6 => simp; omega
  case o7 => simp
  intro kv1 w1 hown1 hgrow1 hblk1
  have hst := RP.start w #[.int .i64 6, .float .f64 v.f, .string v.s, .slice a v.l.length c, .slice A v.ks.length ck] #[.int .i64 x.k, .float .f64 x.f, .string x.s, .slice a3 n3 c3, .slice a4 n4 c4]
  have hzz : ((((w.alloc (.cells #[.int .i64 6, .float .f64 v.f, .string v.s, .slice a v.l.length c, .slice A v.ks.length ck] 27)).alloc (.cells #[.int .i64 x.k, .float .f64 x.f, .string x.s, .slice a3 n3 c3, .slice a4 n4 c4] 27)).alloc (.cells #[.int .i64 0, .float .f64 0, .string ⟨#[]⟩, .slice none 0 0, .slice none 0 0] 27)).alloc (.cells #[.int .i64 6, .float .f64 0, .string ⟨#[]⟩, .slice none 0 0, .slice none 0 0] 27)).heap.size = w.heap.size + 4 := by simp
  generalize (((w.alloc (.cells #[.int .i64 6, .float .f64 v.f, .string v.s, .slice a v.l.length c, .slice A v.ks.length ck] 27)).alloc (.cells #[.int .i64 x.k, .float .f64 x.f, .string x.s, .slice a3 n3 c3, .slice a4 n4 c4] 27)).alloc (.cells #[.int .i64 0, .float .f64 0, .string ⟨#[]⟩, .slice none 0 0, .slice none 0 0] 27)).alloc (.cells #[.int .i64 6, .float .f64 0, .string ⟨#[]⟩, .slice none 0 0, .slice none 0 0] 27) = W0 at hst hgrow1 hblk1 hzz
  have hk1 : w1.ownsRow (w.heap.size + 4) 9 1 kv1 v.ks.length (v.ks.map Value.string) := by simpa using hown1
  obtain ⟨Ak, ckk, rfl⟩ := own_slC hk1
  have hsame : ∀ k, k < W0.heap.size → w1.heap[k]? = W0.heap[k]? := fun k hk => hgrow1.block k hk (fun e => by cases e)
  have hpk := hst.keys hk1 (fun k hk _ => hsame k hk) (by
    rcases hblk1 with q | q
    · exact Or.inl q
    · exact Or.inr fun g hg => by rw [q] at hg; have e := Option.some.inj hg; omega) (hst.bel.grown hgrow1 hst.bel.size (fun k hk => by cases hk))
  obtain ⟨p0, p1, p2, p3, p4, z0, z1, z2, z3, z4⟩ := row5 ((hsame _ hst.lt).trans hst.hP)
  obtain ⟨x0, x1, x2, x3, x4, _⟩ := row5' ((hsame _ (by have := hst.lt; omega)).trans hst.h0)
  have hlt1 := hst.lt
  have PK := Lib.hid hpk
  clear hpk hst hown1 hk1 hgrow1 hblk1 hsame hlt1
  go_wp2_with (at_builtin; refine app_five (w := w1.setCell ⟨w.heap.size + 3, 4, none⟩ (.slice Ak v.ks.length ckk)) rfl _ _ rfl (w.heap.size + 4) (.slice none 0 0) 0 [] rfl ⟨rfl, Or.inl ⟨rfl, rfl⟩⟩ a v.l.length c (flat5 v.l qs) rfl HFL.out ?A ?nil ?mc HONE.out ?h6 ?bs ?_)
  case A => exact fun h0 => ⟨_, (HAB.out h0).1, fun j u hu => by
    have q := HCELL.out j u hu
    rw [Addr.add_lit]
    exact (PK.out.bel.cell (p := ⟨B, o + j, none⟩) (HAB.out h0).2).trans q⟩
  case nil => exact fun e => (HCP.out _ _ _ rfl).2.2 e
  case mc => exact (HCP.out _ _ _ rfl).1
  case h6 => omega
  case bs => have := PK.out.lt; omega
  intro lv1 w2 hown2 hgrow2 hblk2
  have hk2 : w2.ownsRow (w.heap.size + 4) 27 5 lv1 v.l.length (flat5 v.l qs) := by simpa using hown2
  obtain ⟨Al, cl, rfl⟩ := own_slC hk2
  have hsame2 : ∀ k, k < (w1.setCell ⟨w.heap.size + 3, 4, none⟩ (.slice Ak v.ks.length ckk)).heap.size → w2.heap[k]? = (w1.setCell ⟨w.heap.size + 3, 4, none⟩ (.slice Ak v.ks.length ckk)).heap[k]? := fun k hk => hgrow2.block k hk (fun e => by cases e)
  have hpv := PK.out.vals HHQ.out hk2 (fun k hk _ => hsame2 k hk) (by
    rcases hblk2 with q | q
    · exact Or.inl q
    · exact Or.inr fun g hg => by rw [q] at hg; have e := Option.some.inj hg; simp at e ⊢; omega) (PK.out.bel.grown hgrow2 PK.out.bel.size (fun k hk => by cases hk))
  obtain ⟨p0, p1, p2, p3, p4, z0, z1, z2, z3, z4⟩ := row5 ((hsame2 _ PK.out.lt).trans PK.out.hP)
  obtain ⟨x0, x1, x2, x3, x4, _⟩ := row5' ((hsame2 _ (by have := PK.out.lt; omega)).trans PK.out.h0)
  have PV := Lib.hid hpv
  clear hpv hown2 hk2 hgrow2 hblk2 hsame2 PK
  go_wp2_with fail
  have hpv := PV.out
  clear PV p0 p1 p2 p3 p4 z0 z1 z2 z3 z4 x0 x1 x2 x3 x4
  generalize w2.setCell ⟨w.heap.size + 3, 3, none⟩ (.slice Al v.l.length cl) = W3 at hpv ⊢
  refine (HPL.out _ hpv.bel).mono ?_
  rintro e w4 ⟨rfl, hb⟩
  have PV := Lib.hid (hpv.below hb)
  clear hpv hb
  rcases HX.out with ⟨rfl, hR⟩ | ⟨i, hlt, rfl, hR⟩
  · subst hR
    obtain ⟨p0, p1, p2, p3, p4, z0, z1, z2, z3, z4⟩ := row5 PV.out.hP
    obtain ⟨x0, x1, x2, x3, x4, _⟩ := row5' PV.out.h1
    have hz4 := PV.out.lt
    go_wp2_with (at_builtin; refine app_arr (w := w4.alloc (.cells #[.string key] 9)) rfl _ _ _ rfl (w.heap.size + 4) 9 (.string ⟨#[]⟩) 16 Tryz.underlying25 infoStr rfl (.slice Ak v.ks.length ckk) v.ks.length (v.ks.map Value.string) rfl ?o1 (w4.heap.size + 1) (.slice (some ⟨w4.heap.size, 0, none⟩) 1 1) [.string key] ?o2 ?o3 rfl ?o4 ?o5 ?o6 ?o7 ?_)
    case o1 => exact PV.out.kown.alloc _
    case o2 => exact arr_one
    case o3 => exact fun n c e => by cases e
    case o4 => simp [Value.oneCell']
    case o5 => unfold maxLen; simp; omega
    case o6 => simp; omega
    case o7 => simp; omega
    intro kv2 w5 hown hgrow hblk
    have hsame : ∀ k, k < w4.heap.size → some k ≠ (Value.slice Ak v.ks.length ckk).ownBlock → w5.heap[k]? = w4.heap[k]? := fun k hk hn => (hgrow.block _ (by simp; omega) hn).trans (((Below.refl w4.heap.size w4).alloc (Nat.le_refl _) _).block k hk)
    have hnk : ∀ k, k < w.heap.size + 4 → some k ≠ (Value.slice Ak v.ks.length ckk).ownBlock := fun k hk e => by have := (PV.out.kown.lt k e.symm).1; omega
    have hpk := PV.out.keys (ks' := v.ks ++ [key]) (by simpa using hown) hsame (by
      rcases hblk with q | q
      · exact Or.inl q
      · exact Or.inr fun g hg => by rw [q] at hg; have e := Option.some.inj hg; (try simp at e); omega) ((PV.out.bel.alloc PV.out.bel.size _).grown hgrow (by have := PV.out.bel.size; simp; omega) (fun k hk => by have := (PV.out.kown.lt k hk).1; omega))
    obtain ⟨Ak2, ck2, rfl⟩ := own_slC hown
    have r1 := (hsame _ (by omega) (hnk (w.heap.size + 1) (by omega))).trans PV.out.h1
    have r3 := (hsame _ (by omega) (hnk (w.heap.size + 3) (by omega))).trans PV.out.hP
    clear p0 p1 p2 p3 p4 z0 z1 z2 z3 z4 x0 x1 x2 x3 x4
    obtain ⟨p0, p1, p2, p3, p4, z0, z1, z2, z3, z4⟩ := row5 r3
    obtain ⟨x0, x1, x2, x3, x4, _⟩ := row5' r1
    have PK := Lib.hid hpk
    clear hpk hown hgrow hblk hsame hnk r1 r3 PV
    have es5 : (w5.setCell ⟨w.heap.size + 3, 4, none⟩ (.slice Ak2 (v.ks.length + 1) ck2)).heap.size = w5.heap.size := by simp [World.setCell]
    go_wp2_with (at_builtin; refine app_five (w := (w5.setCell ⟨w.heap.size + 3, 4, none⟩ (.slice Ak2 (v.ks.length + 1) ck2)).alloc (.cells #[.int .i64 x.k, .float .f64 x.f, .string x.s, .slice a3 n3 c3, .slice a4 n4 c4] 27)) rfl _ _ rfl (w.heap.size + 4) (.slice Al v.l.length cl) v.l.length (flat5 v.l qs) rfl ?own (some ⟨w5.heap.size, 0, none⟩) 1 1 (cellsV x (.slice a3 n3 c3) (.slice a4 n4 c4)).toList rfl rfl ?A ?nil (Nat.le_refl _) ?one ?h6 ?bs ?_)
    case own => exact PK.out.lown.alloc _
    case A => exact fun _ => ⟨_, rfl, fun j u hu => by
      have q := cell_fresh (w := (w5.setCell ⟨w.heap.size + 3, 4, none⟩ (.slice Ak2 (v.ks.length + 1) ck2))) (t := 27) j u hu
      rw [es5] at q
      exact q⟩
    case nil => exact fun e => by cases e
    case one => simp [Value.oneCell', cellsV]
    case h6 => omega
    case bs => have := PK.out.lt; simp at this ⊢; omega
    intro lv2 w6 hown2 hgrow2 hblk2
    have hsame : ∀ k, k < (w5.setCell ⟨w.heap.size + 3, 4, none⟩ (.slice Ak2 (v.ks.length + 1) ck2)).heap.size → some k ≠ (Value.slice Al v.l.length cl).ownBlock → w6.heap[k]? = (w5.setCell ⟨w.heap.size + 3, 4, none⟩ (.slice Ak2 (v.ks.length + 1) ck2)).heap[k]? := fun k hk hn => (hgrow2.block _ (by simp at hk ⊢; omega) hn).trans (((Below.refl _ (w5.setCell ⟨w.heap.size + 3, 4, none⟩ (.slice Ak2 (v.ks.length + 1) ck2))).alloc (Nat.le_refl _) _).block k hk)
    have hnk : ∀ k, k < w.heap.size + 4 → some k ≠ (Value.slice Al v.l.length cl).ownBlock := fun k hk e => by have := (PK.out.lown.lt k e.symm).1; omega
    have hpv := PK.out.vals (l' := v.l ++ [x]) (qs' := qs ++ [(.slice a3 n3 c3, .slice a4 n4 c4)]) (by rw [List.length_append, List.length_append, HHQ.out]; rfl) (by rw [flat5_snoc _ _ _ _ HHQ.out.symm, List.length_append]; exact hown2) hsame (by
      rcases hblk2 with q | q
      · exact Or.inl q
      · exact Or.inr fun g hg => by rw [q] at hg; have e := Option.some.inj hg; (try simp at e ⊢); omega) ((PK.out.bel.alloc PK.out.bel.size _).grown hgrow2 (by have := PK.out.bel.size; simp at this ⊢; omega) (fun k hk => by have := (PK.out.lown.lt k hk).1; omega))
    obtain ⟨Al2, cl2, rfl⟩ := own_slC hown2
    have hlt5 := PK.out.lt
    have r2 := (hsame _ (by omega) (hnk (w.heap.size + 2) (by omega))).trans PK.out.h2
    have r3 := (hsame _ (by omega) (hnk (w.heap.size + 3) (by omega))).trans PK.out.hP
    clear p0 p1 p2 p3 p4 z0 z1 z2 z3 z4 x0 x1 x2 x3 x4
    obtain ⟨p0, p1, p2, p3, p4, z0, z1, z2, z3, z4⟩ := row5 r3
    obtain ⟨u0, u1, u2, u3, u4, y0, y1, y2, y3, y4⟩ := row5 r2
    have PW := Lib.hid hpv
    clear hpv hown2 hgrow2 hblk2 hsame hnk r2 r3 PK
    go_wp2_with fail
    refine bodyPost_ret_by (results_cell_row rfl _ _ (w.heap.size + 2) 27 _ (0, 0) _ rfl (set5_row PW.out.h2 (.int .i64 6) (.float .f64 0) (.string ⟨#[]⟩) (.slice Al2 (v.l.length + 1) cl2) (.slice Ak2 (v.ks.length + 1) ck2)) Tryz.underlying27 rfl sizeVal) rfl ?_
    have hd := RP.done (r := .mk 6 0 ⟨#[]⟩ (v.l ++ [x]) (v.ks ++ [key])) (m := m) PW.out HS.out (fun i h1 h2 => by
      have h1 : i < (v.l ++ [x]).length := h1
      show At w w.heap.size m (v.l ++ [x])[i] _ _
      by_cases hlt2 : i < v.l.length
      · have e1 : (v.l ++ [x])[i] = v.l[i] := List.getElem_append_left hlt2
        have e2 : (qs ++ [(Value.slice a3 n3 c3, Value.slice a4 n4 c4)])[i] = qs[i]'(by rw [HHQ.out]; exact hlt2) := List.getElem_append_left (by rw [HHQ.out]; exact hlt2)
        rw [e1, e2]
        exact HQA.out i hlt2 (by rw [HHQ.out]; exact hlt2)
      · have hie : i = v.l.length := by simp at h1; omega
        subst hie
        have e1 : (v.l ++ [x])[v.l.length] = x := by simp
        have e2 : (qs ++ [(Value.slice a3 n3 c3, Value.slice a4 n4 c4)])[v.l.length]'h2 = (Value.slice a3 n3 c3, Value.slice a4 n4 c4) := by
          rw [List.getElem_append_right (by rw [HHQ.out]; exact Nat.le_refl _)]
          simp
        rw [e1, e2]
        exact HXA.out) (.int .i64 6) (.float .f64 0) (.string ⟨#[]⟩) (.slice Al2 (v.l.length + 1) cl2) (.slice Ak2 (v.ks.length + 1) ck2)
    exact ⟨_, _, rfl, hd⟩
  · subst hR
    obtain ⟨p0, p1, p2, p3, p4, _⟩ := row5' PV.out.hP
    obtain ⟨x0, x1, x2, x3, x4, _⟩ := row5' PV.out.h1
    rcases id PV.out.lown.2 with ⟨_, h0⟩ | ⟨g, cap, cur, hsl, hgb, hgh, hgc, _, hgs, _⟩
    · omega
    injection hsl with e1 _ e2
    subst e1
    subst e2
    have hjl : i < qs.length := by rw [HHQ.out]; exact hlt
    have hcell := PV.out.lown.cells (g := g) rfl
    have hfl : ∀ c u, c < 5 → (cellsV v.l[i] qs[i].1 qs[i].2)[c]? = some u → w4.cell? ⟨g, i * 5 + c, none⟩ = some u := fun c u hc hu => by
      have := hcell (i * 5 + c) u (by rw [flat5_at v.l qs (by rw [HHQ.out]) i hlt hjl c hc]; exact hu)
      rw [add_zero_off] at this
      exact this
    have f0 : w4.cell? ⟨g, i * 5, none⟩ = some (.int .i64 v.l[i].k) := hfl 0 _ (by omega) rfl
    have f1 : w4.cell? ⟨g, i * 5 + 1, none⟩ = some (.float .f64 v.l[i].f) := hfl 1 _ (by omega) rfl
    have f2 : w4.cell? ⟨g, i * 5 + 2, none⟩ = some (.string v.l[i].s) := hfl 2 _ (by omega) rfl
    have f3 : w4.cell? ⟨g, i * 5 + 3, none⟩ = some qs[i].1 := hfl 3 _ (by omega) rfl
    have f4 : w4.cell? ⟨g, i * 5 + 4, none⟩ = some qs[i].2 := hfl 4 _ (by omega) rfl
    have hfz : ∀ q, w4.frozen? ⟨g, q, none⟩ = false := fun q => by simp [World.frozen?, hgh]
    have y0 := hfz (i * 5)
    have y1 := hfz (i * 5 + 1)
    have y2 := hfz (i * 5 + 2)
    have y3 := hfz (i * 5 + 3)
    have y4 := hfz (i * 5 + 4)
    clear hcell hfl hfz hgh hgs hgc
    have hps := PV.out.set hlt x (.slice a3 n3 c3) (.slice a4 n4 c4)
    unfold set5at at hps
    obtain ⟨W5, hW5⟩ : ∃ W5, ((((w4.setCell ⟨g, i * 5, none⟩ (.int .i64 x.k)).setCell ⟨g, i * 5 + 1, none⟩ (.float .f64 x.f)).setCell ⟨g, i * 5 + 2, none⟩ (.string x.s)).setCell ⟨g, i * 5 + 3, none⟩ (.slice a3 n3 c3)).setCell ⟨g, i * 5 + 4, none⟩ (.slice a4 n4 c4) = W5 := ⟨_, rfl⟩
    rw [hW5] at hps
    obtain ⟨b0, b1, b2, b3, b4, _⟩ := row5' hps.hP
    obtain ⟨u0, u1, u2, u3, u4, t0, t1, t2, t3, t4⟩ := row5 hps.h2
    have PS := Lib.hid hps
    clear hps hgb
    go_wp2_with fail
    refine bodyPost_ret_by (results_cell_row rfl _ _ (w.heap.size + 2) 27 _ (0, 0) _ rfl (set5_row PS.out.h2 (.int .i64 6) (.float .f64 0) (.string ⟨#[]⟩) (.slice (some ⟨g, 0, none⟩) v.l.length cl) (.slice Ak v.ks.length ckk)) Tryz.underlying27 rfl sizeVal) rfl ?_
    have hd := RP.done (r := .mk 6 0 ⟨#[]⟩ (v.l.set i x) v.ks) (m := m) PS.out HS.out (fun j h1 h2 => by
      have h1 : j < (v.l.set i x).length := h1
      show At w w.heap.size m (v.l.set i x)[j] _ _
      simp only [List.getElem_set]
      by_cases hij : i = j
      · rw [if_pos hij, if_pos hij]
        exact HXA.out
      · rw [if_neg hij, if_neg hij]
        exact HQA.out j (by simpa using h1) (by rw [HHQ.out]; simpa using h1)) (.int .i64 6) (.float .f64 0) (.string ⟨#[]⟩) (.slice (some ⟨g, 0, none⟩) v.l.length cl) (.slice Ak v.ks.length ckk)
    exact ⟨_, _, rfl, hd⟩
end Go.Proofs.YtkklfdfmfdnjoaaGreatDoor
