/- The document's Drop: what its memory holds. -/
import Derived.Test.YtkklfdfmfdnjoaaGreatDoorQRefPut
namespace Go.Proofs.YtkklfdfmfdnjoaaGreatDoor
open Go Go.RowKit

/-- The document's Drop under way: two boxes, and the object that it makes. -/
structure RD (w : World) (bv : Array Value) (l : List V) (qs : List (Value × Value)) (ks : List ByteArray) (lv kv : Value) (W : World) : Prop where
  h0 : W.heap[w.heap.size]? = some (.cells bv 27 (0, 0))
  h2 : W.heap[w.heap.size + 1]? = some (.cells #[.int .i64 0, .float .f64 0, .string ⟨#[]⟩, .slice none 0 0, .slice none 0 0] 27 (0, 0))
  hP : W.heap[w.heap.size + 2]? = some (.cells #[.int .i64 6, .float .f64 0, .string ⟨#[]⟩, lv, kv] 27 (0, 0))
  len : qs.length = l.length
  lown : W.ownsRow (w.heap.size + 3) 27 5 lv l.length (flat5 l qs)
  kown : W.ownsRow (w.heap.size + 3) 9 1 kv ks.length (ks.map Value.string)
  apart : ∀ g, kv.ownBlock = some g → some g ≠ lv.ownBlock
  bel : Below w.heap.size w W
theorem RD.lt {w : World} {bv : Array Value} {l : List V} {qs : List (Value × Value)} {ks : List ByteArray} {lv kv : Value} {W : World} (h : RD w bv l qs ks lv kv W) : w.heap.size + 2 < W.heap.size := (Array.getElem?_eq_some_iff.1 h.hP).1
theorem RD.below {w : World} {bv : Array Value} {l : List V} {qs : List (Value × Value)} {ks : List ByteArray} {lv kv : Value} {W W' : World} (h : RD w bv l qs ks lv kv W) (hb : Below W.heap.size W W') : RD w bv l qs ks lv kv W' := by
  have := h.lt
  exact ⟨(hb.block _ (by omega)).trans h.h0, (hb.block _ (by omega)).trans h.h2, (hb.block _ (by omega)).trans h.hP, h.len, own_heap h.lown (fun k hk => hb.block k hk), own_heap h.kown (fun k hk => hb.block k hk), h.apart, h.bel.trans (hb.mono h.bel.size)⟩
theorem RD.start (w : World) (bv : Array Value) : RD w bv [] [] [] (.slice none 0 0) (.slice none 0 0) (((w.alloc (.cells bv 27)).alloc (.cells #[.int .i64 0, .float .f64 0, .string ⟨#[]⟩, .slice none 0 0, .slice none 0 0] 27)).alloc (.cells #[.int .i64 6, .float .f64 0, .string ⟨#[]⟩, .slice none 0 0, .slice none 0 0] 27)) := by
  have q1 := heap_alloc_new (w.alloc (.cells bv 27)) (.cells #[.int .i64 0, .float .f64 0, .string ⟨#[]⟩, .slice none 0 0, .slice none 0 0] 27)
  have q2 := heap_alloc_new ((w.alloc (.cells bv 27)).alloc (.cells #[.int .i64 0, .float .f64 0, .string ⟨#[]⟩, .slice none 0 0, .slice none 0 0] 27)) (.cells #[.int .i64 6, .float .f64 0, .string ⟨#[]⟩, .slice none 0 0, .slice none 0 0] 27)
  rw [World.size_alloc] at q1
  rw [World.size_alloc, World.size_alloc] at q2
  exact ⟨row_alloc3 (row_alloc3 (heap_alloc_new w _) _) _, row_alloc3 q1 _, q2, rfl, ⟨rfl, Or.inl ⟨rfl, rfl⟩⟩, ⟨rfl, Or.inl ⟨rfl, rfl⟩⟩, (fun g hg => by cases hg),
    (((Below.refl w.heap.size w).alloc (Nat.le_refl _) _).alloc (by simp) _).alloc (by simp; omega) _⟩
/-- The keys' row has grown. -/
theorem RD.keys {w : World} {bv : Array Value} {l : List V} {qs : List (Value × Value)} {ks ks' : List ByteArray} {lv kv kv' : Value} {W W' : World} (h : RD w bv l qs ks lv kv W)
    (hown : W'.ownsRow (w.heap.size + 3) 9 1 kv' ks'.length (ks'.map Value.string)) (hsame : ∀ k, k < W.heap.size → some k ≠ kv.ownBlock → W'.heap[k]? = W.heap[k]?) (hblk : kv'.ownBlock = kv.ownBlock ∨ ∀ g, kv'.ownBlock = some g → W.heap.size ≤ g) (hbel : Below w.heap.size w W') :
    RD w bv l qs ks' lv kv' (W'.setCell ⟨w.heap.size + 2, 4, none⟩ kv') := by
  have hlt := h.lt
  have hkP : ∀ g, kv.ownBlock = some g → w.heap.size + 3 ≤ g := fun g hg => (h.kown.lt g hg).1
  have hkP' : ∀ g, kv'.ownBlock = some g → w.heap.size + 3 ≤ g := fun g hg => (hown.lt g hg).1
  have hnk : ∀ k, k < w.heap.size + 3 → some k ≠ kv.ownBlock := fun k hk e => by have := hkP k e.symm; omega
  have hk' : ∀ k, k < W.heap.size → some k ≠ kv.ownBlock → k ≠ w.heap.size + 2 → (W'.setCell ⟨w.heap.size + 2, 4, none⟩ kv').heap[k]? = W.heap[k]? := fun k h1 h2 h3 => (setCell_other_block _ h3).trans (hsame k h1 h2)
  refine ⟨(hk' _ (by omega) (hnk _ (by omega)) (by omega)).trans h.h0, (hk' _ (by omega) (hnk _ (by omega)) (by omega)).trans h.h2, row_setAt ((hsame _ hlt (hnk _ (by omega))).trans h.hP) 4 kv', h.len, ?_, ?_, ?_, hbel.setCell (p := ⟨w.heap.size + 2, 4, none⟩) (by show w.heap.size ≤ w.heap.size + 2; omega) _⟩
  · exact own_keepN h.lown (fun g hg => hk' g (h.lown.lt g hg).2 (fun e => h.apart g e.symm hg.symm) (by have := (h.lown.lt g hg).1; omega))
  · exact own_keepN hown (fun g hg => setCell_other_block _ (by have := hkP' g hg; omega))
  · intro g hg e
    have hl := (h.lown.lt g e.symm)
    rcases hblk with q | q
    · exact h.apart g (q ▸ hg) e
    · have := q g hg
      omega
/-- The values' row has grown. -/
theorem RD.vals {w : World} {bv : Array Value} {l l' : List V} {qs qs' : List (Value × Value)} {ks : List ByteArray} {lv lv' kv : Value} {W W' : World} (h : RD w bv l qs ks lv kv W) (hlen : qs'.length = l'.length)
    (hown : W'.ownsRow (w.heap.size + 3) 27 5 lv' l'.length (flat5 l' qs')) (hsame : ∀ k, k < W.heap.size → some k ≠ lv.ownBlock → W'.heap[k]? = W.heap[k]?) (hblk : lv'.ownBlock = lv.ownBlock ∨ ∀ g, lv'.ownBlock = some g → W.heap.size ≤ g) (hbel : Below w.heap.size w W') :
    RD w bv l' qs' ks lv' kv (W'.setCell ⟨w.heap.size + 2, 3, none⟩ lv') := by
  have hlt := h.lt
  have hkP : ∀ g, lv.ownBlock = some g → w.heap.size + 3 ≤ g := fun g hg => (h.lown.lt g hg).1
  have hkP' : ∀ g, lv'.ownBlock = some g → w.heap.size + 3 ≤ g := fun g hg => (hown.lt g hg).1
  have hnk : ∀ k, k < w.heap.size + 3 → some k ≠ lv.ownBlock := fun k hk e => by have := hkP k e.symm; omega
  have hk' : ∀ k, k < W.heap.size → some k ≠ lv.ownBlock → k ≠ w.heap.size + 2 → (W'.setCell ⟨w.heap.size + 2, 3, none⟩ lv').heap[k]? = W.heap[k]? := fun k h1 h2 h3 => (setCell_other_block _ h3).trans (hsame k h1 h2)
  refine ⟨(hk' _ (by omega) (hnk _ (by omega)) (by omega)).trans h.h0, (hk' _ (by omega) (hnk _ (by omega)) (by omega)).trans h.h2, row_setAt ((hsame _ hlt (hnk _ (by omega))).trans h.hP) 3 lv', hlen, ?_, ?_, ?_, hbel.setCell (p := ⟨w.heap.size + 2, 3, none⟩) (by show w.heap.size ≤ w.heap.size + 2; omega) _⟩
  · exact own_keepN hown (fun g hg => setCell_other_block _ (by have := hkP' g hg; omega))
  · exact own_keepN h.kown (fun g hg => hk' g (h.kown.lt g hg).2 (fun e => h.apart g hg e) (by have := (h.kown.lt g hg).1; omega))
  · intro g hg e
    have hl := (h.kown.lt g hg)
    rcases hblk with q | q
    · exact h.apart g hg (e.trans q)
    · have := q g e.symm
      omega
/-- The object is done: it is answered. -/
theorem RD.done {w : World} {bv : Array Value} {r : V} {qs : List (Value × Value)} {lv kv : Value} {W : World} {m : Nat} (h : RD w bv r.l qs r.ks lv kv W) (hS : Small r)
    (heach : ∀ i (h : i < r.l.length) (h2 : i < qs.length), At w w.heap.size m r.l[i] qs[i].1 qs[i].2) (x0 x1 x2 x3 x4 : Value) :
    At (set5 W (w.heap.size + 1) x0 x1 x2 x3 x4) (set5 W (w.heap.size + 1) x0 x1 x2 x3 x4).heap.size (m + 1) r lv kv ∧ Below w.heap.size w (set5 W (w.heap.size + 1) x0 x1 x2 x3 x4) := by
  have hb : Below w.heap.size w (set5 W (w.heap.size + 1) x0 x1 x2 x3 x4) := set5_below0 h.bel (by omega) ..
  refine ⟨at_of_own hS (own_keepN h.lown fun g hg => set5_other (by have := (h.lown.lt g hg).1; omega) ..) h.len (own_keepN h.kown fun g hg => set5_other (by have := (h.kown.lt g hg).1; omega) ..) fun i h1 h2 => ?_, hb⟩
  exact At.more hb.size _ _ _ _ ((heach i h1 h2).below hb)
/-- Behind an append to the keys' row: the cell that is written next. -/
theorem RD.midK {w : World} {bv : Array Value} {l : List V} {qs : List (Value × Value)} {ks : List ByteArray} {lv kv : Value} {W w5 : World} {o : Obj} (h : RD w bv l qs ks lv kv W) (hgrow : (W.alloc o).grownBy w5 kv.ownBlock) :
    w5.cell? ⟨w.heap.size + 1 + 1, 4, none⟩ = some kv ∧ w5.frozen? ⟨w.heap.size + 1 + 1, 4, none⟩ = false := by
  have hlt := h.lt
  have e := (hgrow.block (w.heap.size + 2) (by simp; omega) (fun e => by have := (h.kown.lt _ e.symm).1; omega)).trans (row_alloc3 h.hP o)
  obtain ⟨_, _, _, _, c4, _, _, _, _, z4⟩ := row5 e
  exact ⟨c4, z4⟩
theorem RD.midL {w : World} {bv : Array Value} {l : List V} {qs : List (Value × Value)} {ks : List ByteArray} {lv kv : Value} {W w5 : World} {o : Obj} (h : RD w bv l qs ks lv kv W) (hgrow : (W.alloc o).grownBy w5 lv.ownBlock) :
    w5.cell? ⟨w.heap.size + 1 + 1, 3, none⟩ = some lv ∧ w5.frozen? ⟨w.heap.size + 1 + 1, 3, none⟩ = false := by
  have hlt := h.lt
  have e := (hgrow.block (w.heap.size + 2) (by simp; omega) (fun e => by have := (h.lown.lt _ e.symm).1; omega)).trans (row_alloc3 h.hP o)
  obtain ⟨_, _, _, c3, _, _, _, _, z3, _⟩ := row5 e
  exact ⟨c3, z3⟩
/-- The same two, by what an append's law tells. -/
theorem RD.keysG {w : World} {bv : Array Value} {l : List V} {qs : List (Value × Value)} {ks : List ByteArray} {lv kv : Value} {W w5 : World} {x : ByteArray} {t : TypeId} {g cap : Nat} (h : RD w bv l qs ks lv kv W)
    (hown : w5.ownsRow (w.heap.size + 3) 9 1 (.slice (some ⟨g, 0, none⟩) (ks.length + 1) cap) (ks.length + 1) (ks.map Value.string ++ [Value.string x])) (hgrow : (W.alloc (.cells #[.string x] t)).grownBy w5 kv.ownBlock) (hat : kv.ownBlock = some g ∨ g = W.heap.size + 1) :
    RD w bv l qs (ks ++ [x]) lv (.slice (some ⟨g, 0, none⟩) (ks.length + 1) cap) (w5.setCell ⟨w.heap.size + 2, 4, none⟩ (.slice (some ⟨g, 0, none⟩) (ks.length + 1) cap)) := by
  refine h.keys (by rw [List.length_append, List.map_append]; exact hown) (fun k hk hn => (hgrow.block _ (by simp; omega) hn).trans (((Below.refl W.heap.size W).alloc (Nat.le_refl _) _).block k hk)) ?_ ((h.bel.alloc h.bel.size _).grown hgrow (by have := h.bel.size; simp; omega) (fun k hk => by have := (h.kown.lt k hk).1; omega))
  rcases hat with e | e
  · exact Or.inl e.symm
  · exact Or.inr fun k hk => by
      have : g = k := Option.some.inj hk
      omega
theorem RD.valsG {w : World} {bv : Array Value} {l : List V} {qs : List (Value × Value)} {ks : List ByteArray} {lv kv : Value} {W w5 : World} {x : V} {q : Value × Value} {t : TypeId} {g cap : Nat} (h : RD w bv l qs ks lv kv W)
    (hown : w5.ownsRow (w.heap.size + 3) 27 5 (.slice (some ⟨g, 0, none⟩) (l.length + 1) cap) (l.length + 1) (flat5 l qs ++ (cellsV x q.1 q.2).toList)) (hgrow : (W.alloc (.cells (cellsV x q.1 q.2) t)).grownBy w5 lv.ownBlock) (hat : lv.ownBlock = some g ∨ g = W.heap.size + 1) :
    RD w bv (l ++ [x]) (qs ++ [q]) ks (.slice (some ⟨g, 0, none⟩) (l.length + 1) cap) kv (w5.setCell ⟨w.heap.size + 2, 3, none⟩ (.slice (some ⟨g, 0, none⟩) (l.length + 1) cap)) := by
  refine h.vals (by rw [List.length_append, List.length_append, h.len]; rfl) (by rw [flat5_snoc _ _ _ _ h.len.symm, List.length_append]; exact hown) (fun k hk hn => (hgrow.block _ (by simp; omega) hn).trans (((Below.refl W.heap.size W).alloc (Nat.le_refl _) _).block k hk)) ?_ ((h.bel.alloc h.bel.size _).grown hgrow (by have := h.bel.size; simp; omega) (fun k hk => by have := (h.lown.lt k hk).1; omega))
  rcases hat with e | e
  · exact Or.inl e.symm
  · exact Or.inr fun k hk => by
      have : g = k := Option.some.inj hk
      omega
theorem erase_snoc {α : Type} {l : List α} {t i : Nat} (ht : t < l.length) (hi : i ≠ t) : (l.take (t + 1)).eraseIdx i = (l.take t).eraseIdx i ++ [l[t]] := by
  rw [List.take_succ_eq_append_getElem ht]
  rcases Nat.lt_or_ge i t with h | h
  · rw [List.eraseIdx_append_of_lt_length (by rw [List.length_take]; omega)]
  · rw [List.eraseIdx_of_length_le (by rw [List.length_append, List.length_take]; simp; omega), List.eraseIdx_of_length_le (by rw [List.length_take]; omega)]
theorem erase_same {α : Type} {l : List α} {t : Nat} (ht : t < l.length) : (l.take (t + 1)).eraseIdx t = (l.take t).eraseIdx t := by
  rw [List.take_succ_eq_append_getElem ht, List.eraseIdx_append_of_length_le (by rw [List.length_take]; omega), List.eraseIdx_of_length_le (l := l.take t) (by rw [List.length_take]; omega)]
  rw [show t - (l.take t).length = 0 by rw [List.length_take]; omega]
  simp
/-- Where a key stands, or the length. -/
theorem drop_place (v : V) (K : ByteArray) (hlen : v.ks.length = v.l.length) (hnd : v.ks.Nodup) (hk6 : v.k = 6) (hf : v.f = 0) (hs : v.s = ⟨#[]⟩) :
    ∃ i, (∀ t (h : t < v.ks.length), v.ks[t] = K ↔ t = i) ∧ dropV v K = .mk 6 0 ⟨#[]⟩ (v.l.eraseIdx i) (v.ks.eraseIdx i) := by
  unfold dropV
  rcases idx_cases v.ks K with ⟨q, hn⟩ | ⟨i, h1, h2, h3, _⟩
  · refine ⟨v.ks.length, fun t h => ⟨fun e => absurd (e ▸ List.getElem_mem h) hn, fun e => by omega⟩, ?_⟩
    rw [q, if_pos (by omega), List.eraseIdx_of_length_le (Nat.le_refl _), List.eraseIdx_of_length_le (by omega), ← hk6, ← hf, ← hs]
    cases v
    rfl
  · refine ⟨i, fun t h => ⟨fun e => ?_, fun e => by subst e; exact h3⟩, ?_⟩
    · rcases Nat.lt_trichotomy t i with q | q | q
      · exact absurd (e.trans h3.symm) (List.pairwise_iff_getElem.1 hnd t i h h1 q)
      · exact q
      · exact absurd (h3.trans e.symm) (List.pairwise_iff_getElem.1 hnd i t h1 h q)
    · rw [h2, if_neg (by omega), hk6, hf, hs]
      rfl
/-- The parts of what is left lie where they lay. -/
theorem erase_each {w : World} {B m i : Nat} {l : List V} {qs : List (Value × Value)} (_hq : qs.length = l.length) (h : ∀ j (h : j < l.length) (h2 : j < qs.length), At w B m l[j] qs[j].1 qs[j].2) :
    ∀ j (h : j < (l.eraseIdx i).length) (h2 : j < (qs.eraseIdx i).length), At w B m (l.eraseIdx i)[j] (qs.eraseIdx i)[j].1 (qs.eraseIdx i)[j].2 := by
  intro j h1 h2
  rw [List.getElem_eraseIdx, List.getElem_eraseIdx]
  split
  · exact h j _ _
  · exact h (j + 1) _ _
theorem Small.erase {v : V} (h : Small v) (i : Nat) : Small (.mk 6 0 ⟨#[]⟩ (v.l.eraseIdx i) (v.ks.eraseIdx i)) := by
  obtain ⟨s1, s2, s3, s4, s5, s6, s7⟩ := h
  refine ⟨by show (-9223372036854775808 : Int) ≤ 6; omega, by show (6 : Int) ≤ _; omega, by show 0 < _; omega, by show (0 : Nat) ≤ _; omega, ?_, ?_, Nat.le_trans (keysLen_erase _ _) s7⟩
  · show (v.l.eraseIdx i).length ≤ _
    have := List.length_eraseIdx_le v.l i
    omega
  · show (v.ks.eraseIdx i).length ≤ _
    have := List.length_eraseIdx_le v.ks i
    omega
end Go.Proofs.YtkklfdfmfdnjoaaGreatDoor
/- The document's Drop: its walk. -/
namespace Go.Proofs.YtkklfdfmfdnjoaaGreatDoor
open Go Go.RowKit

set_option maxRecDepth 100000 in
set_option maxHeartbeats 3000000 in
theorem refDrop_any (v : V) (m : Nat) (lv kv : Value) (key : ByteArray) (w : World) (h : At w w.heap.size (m + 1) v lv kv) (hk6 : v.k = 6) (hf : v.f = 0) (hs : v.s = ⟨#[]⟩) (hlen : v.ks.length = v.l.length) (hnd : v.ks.Nodup) :
    Calls Tryz.prog 40 #[.agg (cellsV v lv kv), .string key] w fun e w' => ∃ lv' kv', e = .returned (.agg (cellsV (dropV v key) lv' kv')) ∧ At w' w'.heap.size (m + 1) (dropV v key) lv' kv' ∧ Below w.heap.size w w' := by
  have hsf := run_store_float Tryz.prog
  obtain ⟨i0, hi0, hz0, hz1, hz2⟩ := info_parts infoVal
  obtain ⟨is, his, hs0, hs1, hs2⟩ := info_parts infoStr
  obtain ⟨hsm, ha, hcp, a, c, B, o, rfl, hab, hi⟩ := h.opened
  obtain ⟨qs, hq, hqq⟩ := pairs_of (P := fun i a b => ∃ h : i < v.l.length, FiveAt w B (o + i * 5) v.l[i] a b ∧ At w w.heap.size m v.l[i] a b) (fun i h => by obtain ⟨a, b, q⟩ := hi i h; exact ⟨a, b, h, q⟩)
  have hqa : ∀ i (h : i < v.l.length) (h2 : i < qs.length), At w w.heap.size m v.l[i] qs[i].1 qs[i].2 := fun i _ h2 => (hqq i h2).2.2
  have hq5 : ∀ i (h : i < v.l.length) (h2 : i < qs.length), FiveAt w B (o + i * 5) v.l[i] qs[i].1 qs[i].2 := fun i _ h2 => (hqq i h2).2.1
  have hsl : ∀ i (h : i < qs.length), ∃ A n c A' n' c', qs[i].1 = .slice A n c ∧ qs[i].2 = .slice A' n' c' := fun i h => by
    obtain ⟨a, b, c, d, e, f, g1, g2⟩ := At.slices (hqq i h).2.2
    exact ⟨a, b, c, d, e, f, g1, g2⟩
  obtain ⟨A, ad, ck, rfl, hA, hac⟩ := ha.1.dest
  rw [List.length_map] at hA
  have hcell : ∀ t (ht : t < v.ks.length), w.cell? (ad.add t) = some (.string v.ks[t]) := fun t ht => hac t _ (by simp [ht])
  obtain ⟨i, hiff, hdv⟩ := drop_place v key hlen hnd hk6 hf hs
  have hlm := hsm.2.2.2.2.1
  have hkm := hsm.2.2.2.2.2.1
  rw [hdv]
  unfold cellsV
  rw [hk6, hf, hs, List.length_map]
  have HA := Lib.hid hA
  have HC := Lib.hid hcell
  have HAB := Lib.hid hab
  have HQA := Lib.hid hqa
  have HQ5 := Lib.hid hq5
  have HSL := Lib.hid hsl
  have HQ := Lib.hid hq
  have HLEN := Lib.hid hlen
  have HIFF := Lib.hid hiff
  have HSM := Lib.hid (hsm.erase i)
  clear hA hcell hab hqa hq5 hsl hq hlen hiff hsm hdv hac ha hcp hi hqq h hnd hk6
  go_enter Tryz.func40, Tryz.ntmps40
  go_wp2_with fail
  have hst := RD.start w #[.int .i64 6, .float .f64 0, .string ⟨#[]⟩, .slice a v.l.length c, .slice A v.ks.length ck]
  have HST := Lib.hid hst
  clear hst
  go_loopw [6] (fun k W => ∃ (t : Nat) (lvv kvv : Value), t ≤ v.ks.length ∧ k = .int .i64 t ∧ RD w #[.int .i64 6, .float .f64 0, .string ⟨#[]⟩, .slice a v.l.length c, .slice A v.ks.length ck] ((v.l.take t).eraseIdx i) ((qs.take t).eraseIdx i) ((v.ks.take t).eraseIdx i) lvv kvv W) (fun k _ => v.ks.length - (intOf k).toNat)
  case atStart => exact ⟨0, _, _, Nat.zero_le _, rfl, HST.out⟩
  case round =>
    obtain ⟨t, lvv, kvv, ht, rfl, hI⟩ := hrel
    clear HST
    obtain ⟨Al, cl, rfl⟩ := own_slC hI.lown
    obtain ⟨Ak, ckk, rfl⟩ := own_slC hI.kown
    have hIlt := hI.lt
    obtain ⟨x0, x1, x2, x3, x4⟩ := row5p hI.h0
    by_cases hlt : t < v.ks.length
    · have hlt2 : t < v.l.length := by rw [← HLEN.out]; exact hlt
      have hlt3 : t < qs.length := by rw [HQ.out]; exact hlt2
      obtain ⟨rfl, hBk⟩ := HA.out (by omega)
      have hc := (hI.bel.cell (p := ad.add t) (by rw [add_block]; exact hBk)).trans (HC.out t hlt)
      have heq := bytes_eq v.ks[t] key
      by_cases he : v.ks[t] = key
      · rw [decide_eq_true he] at heq
        have hti : t = i := (HIFF.out t hlt).1 he
        subst hti
        have hJ : RD w #[.int .i64 6, .float .f64 0, .string ⟨#[]⟩, .slice a v.l.length c, .slice (some ad) v.ks.length ck] ((v.l.take (t + 1)).eraseIdx t) ((qs.take (t + 1)).eraseIdx t) ((v.ks.take (t + 1)).eraseIdx t) (.slice Al ((v.l.take t).eraseIdx t).length cl) (.slice Ak ((v.ks.take t).eraseIdx t).length ckk) wr := by
          rw [erase_same hlt2, erase_same hlt3, erase_same hlt]
          exact hI
        have HJ := Lib.hid hJ
        clear he hI hJ
        go_wp2_with fail
        go_roundw
        case rel => exact ⟨t + 1, _, _, by omega, by go_num, HJ.out⟩
        case measure => simp [intOf]; omega
      · rw [decide_eq_false he] at heq
        have hti : i ≠ t := fun e => he ((HIFF.out t hlt).2 e.symm)
        obtain ⟨rfl, hBw⟩ := HAB.out (by omega)
        have h5 := HQ5.out t hlt2 hlt3
        have gk := erase_snoc hlt hti
        have gl := erase_snoc hlt2 hti
        have gq := erase_snoc hlt3 hti
        have lk : ((v.ks.take t).eraseIdx i).length ≤ 1048576 := by have := List.length_eraseIdx_le (v.ks.take t) i; rw [List.length_take] at this; omega
        have ll : ((v.l.take t).eraseIdx i).length ≤ 1048576 := by have := List.length_eraseIdx_le (v.l.take t) i; rw [List.length_take] at this; omega
        obtain ⟨b1, m1, d1, b2, m2, d2, g1, g2⟩ := HSL.out t hlt3
        have hqt : qs[t] = (.slice b1 m1 d1, .slice b2 m2 d2) := by rw [← g1, ← g2]
        rw [hqt] at gq h5
        have GK := Lib.hid gk
        have GL := Lib.hid gl
        have GQ := Lib.hid gq
        clear gk gl gq he hti g1 g2 hqt
        generalize (v.ks.take t).eraseIdx i = Kt at GK lk hI ⊢
        generalize (v.l.take t).eraseIdx i = Lt at GL ll hI ⊢
        generalize (qs.take t).eraseIdx i = Qt at GQ hI ⊢
        obtain ⟨p0, p1, p2, p3, p4, z0, z1, z2, z3, z4⟩ := row5 hI.hP
        have PV := Lib.hid hI
        clear hI
        clear z0 z1 z2 z3 z4
        go_wp2_with fail
        have PD := Lib.hid (PV.out.below ((Below.refl _ _).drew))
        clear PV
        go_region_law ((refine step_append_lies _ (by rfl) _ _ _ (by rfl) (w.heap.size + 3) 9 is _ 1 16 Tryz.underlying25 his hs0 hs1 hs2 rfl (by omega) (.slice Ak Kt.length ckk) Kt.length (Kt.map Value.string) (by rfl) (PD.out.kown.alloc _) ⟨wr.heap.size, 0, none⟩ 1 1 [.string v.ks[t]] (by rfl) (by rfl) (World.news_of_block (cs := #[.string v.ks[t]]) (t := 9) (fr := (0, 0)) (heap_alloc_new wr.drew _)) (by simp [Value.oneCell']) (by omega) (by unfold maxLen; omega) (by omega) (by simp; omega) (wr.heap.size + 1) (by simp) ?_; intro gg cap w5 hown5 hgrow5 hat5 hlt5; obtain ⟨c4, z4⟩ := RD.midK PD.out hgrow5))
        all_goals
          have hpk := PD.out.keysG (x := v.ks[t]) hown5 hgrow5 hat5
          generalize w5.setCell ⟨w.heap.size + 2, 4, none⟩ (.slice (some ⟨gg, 0, none⟩) (Kt.length + 1) cap) = W5 at hpk ⊢
          clear p0 p1 p2 p3 p4 x0 x1 x2 x3 x4 hc c4 z4 hown5 hgrow5 hat5 hlt5 PD
          obtain ⟨p0, p1, p2, p3, p4⟩ := row5p hpk.hP
          obtain ⟨x0, x1, x2, x3, x4⟩ := row5p hpk.h0
          obtain ⟨f0, f1, f2, f3, f4⟩ := h5.keep hBw (fun p hp => hpk.bel.cell hp)
          have hBne : B ≠ w.heap.size + 1 + 1 := by omega
          have hIlt := hpk.lt
          have PD := Lib.hid (hpk.below ((Below.refl _ _).drew))
          clear hpk
          go_wp2_with fail
          go_region_law ((refine step_append_lies _ (by rfl) _ _ _ (by rfl) (w.heap.size + 3) 27 i0 _ 5 80 Tryz.underlying24 hi0 hz0 hz1 hz2 rfl (by omega) (.slice Al Lt.length cl) Lt.length (flat5 Lt Qt) (by rfl) (PD.out.lown.alloc _) ⟨W5.heap.size, 0, none⟩ 1 1 (cellsV v.l[t] (.slice b1 m1 d1) (.slice b2 m2 d2)).toList (by rfl) (by rfl) (World.news_of_block (cs := cellsV v.l[t] (.slice b1 m1 d1) (.slice b2 m2 d2)) (t := 27) (fr := (0, 0)) (heap_alloc_new W5.drew _)) (by simp [Value.oneCell', cellsV]) (by omega) (by unfold maxLen; omega) (by omega) (by simp; omega) (W5.heap.size + 1) (by simp) ?_; intro gl capl w6 hown6 hgrow6 hat6 hlt6; obtain ⟨c3, z3⟩ := RD.midL PD.out hgrow6))
          all_goals
            have hpv := PD.out.valsG (x := v.l[t]) (q := (.slice b1 m1 d1, .slice b2 m2 d2)) hown6 hgrow6 hat6
            rw [← GL.out, ← GQ.out, ← GK.out] at hpv
            generalize w6.setCell ⟨w.heap.size + 2, 3, none⟩ (.slice (some ⟨gl, 0, none⟩) (Lt.length + 1) capl) = W6 at hpv ⊢
            have PW := Lib.hid hpv
            clear hpv hown6 hgrow6 hat6 hlt6 PD p0 p1 p2 p3 p4 x0 x1 x2 x3 x4 f0 f1 f2 f3 f4 c3 z3
            go_wp2_with fail
            go_roundw
            case rel => exact ⟨t + 1, _, _, by omega, by go_num, PW.out⟩
            case measure => simp [intOf]; omega
    · have hte : t = v.ks.length := by omega
      subst hte
      have e1 : v.ks.take v.ks.length = v.ks := List.take_of_length_le (Nat.le_refl _)
      have e2 : v.l.take v.ks.length = v.l := List.take_of_length_le (by rw [HLEN.out]; exact Nat.le_refl _)
      have e3 : qs.take v.ks.length = qs := List.take_of_length_le (by rw [HQ.out, HLEN.out]; exact Nat.le_refl _)
      rw [e1, e2, e3] at hI
      clear e1 e2 e3
      have hI' : RD w #[.int .i64 6, .float .f64 0, .string ⟨#[]⟩, .slice a v.l.length c, .slice A v.ks.length ck] (v.l.eraseIdx i) (qs.eraseIdx i) (v.ks.eraseIdx i) (.slice Al (v.l.eraseIdx i).length cl) (.slice Ak (v.ks.eraseIdx i).length ckk) wr := by
        exact hI
      have PS := Lib.hid hI'
      clear hI' hI
      obtain ⟨p0, p1, p2, p3, p4⟩ := row5p PS.out.hP
      obtain ⟨u0, u1, u2, u3, u4, t0, t1, t2, t3, t4⟩ := row5 PS.out.h2
      go_wp2_with fail
      refine bodyPost_ret_by (results_cell_row rfl _ _ (w.heap.size + 1) 27 _ (0, 0) _ rfl (set5_row PS.out.h2 (.int .i64 6) (.float .f64 0) (.string ⟨#[]⟩) (.slice Al (v.l.eraseIdx i).length cl) (.slice Ak (v.ks.eraseIdx i).length ckk)) Tryz.underlying27 rfl sizeVal) rfl ?_
      have hd := RD.done (r := .mk 6 0 ⟨#[]⟩ (v.l.eraseIdx i) (v.ks.eraseIdx i)) (m := m) PS.out HSM.out (erase_each HQ.out HQA.out) (.int .i64 6) (.float .f64 0) (.string ⟨#[]⟩) (.slice Al (v.l.eraseIdx i).length cl) (.slice Ak (v.ks.eraseIdx i).length ckk)
      exact ⟨_, _, rfl, hd⟩
end Go.Proofs.YtkklfdfmfdnjoaaGreatDoor
