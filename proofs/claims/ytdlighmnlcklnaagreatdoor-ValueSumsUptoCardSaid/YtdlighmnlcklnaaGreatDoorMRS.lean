/- Objects merged: what the program's memory holds meanwhile. -/
import Derived.Test.YtdlighmnlcklnaaGreatDoorUClone
import Derived.Test.YtdlighmnlcklnaaGreatDoorMMap
namespace Go.Proofs.YtdlighmnlcklnaaGreatDoor
open Go Go.RowKit

theorem own_keepM {W W' : World} {n0 : Nat} {e : TypeId} {size n : Nat} {u : Value} {xs : List Value} (h : W.ownsRow n0 e size u n xs) (hk : ∀ g, u.ownBlock = some g → W'.heap[g]? = W.heap[g]?) : W'.ownsRow n0 e size u n xs := by
  refine ⟨h.1, ?_⟩
  rcases h.2 with h1 | ⟨g, cap, cur, h1, h2, h3, h4⟩
  · exact Or.inl h1
  · exact Or.inr ⟨g, cap, cur, h1, h2, (hk g (by rw [h1]; rfl)).trans h3, h4⟩
theorem set5_belowM {B R : Nat} {w w' : World} (h : Below B w w') (q : B ≤ R) (x0 x1 x2 x3 x4 : Value) : Below B w (set5 w' R x0 x1 x2 x3 x4) := by
  unfold set5
  exact ((((h.setCell (p := ⟨R, 0, none⟩) q x0).setCell (p := ⟨R, 1, none⟩) q x1).setCell (p := ⟨R, 2, none⟩) q x2).setCell (p := ⟨R, 3, none⟩) q x3).setCell (p := ⟨R, 4, none⟩) q x4
theorem row5q {w : World} {b : Nat} {u0 u1 u2 u3 u4 : Value} {t : TypeId} (hb : w.heap[b]? = some (.cells #[u0, u1, u2, u3, u4] t (0, 0))) :
    w.cell? ⟨b, 0, none⟩ = some u0 ∧ w.cell? ⟨b, 1, none⟩ = some u1 ∧ w.cell? ⟨b, 2, none⟩ = some u2 ∧ w.cell? ⟨b, 3, none⟩ = some u3 ∧ w.cell? ⟨b, 4, none⟩ = some u4 := by
  refine ⟨?_, ?_, ?_, ?_, ?_⟩ <;> simp [World.cell?, hb]
theorem sizeValM : (Tryz.prog.info? 27).map (·.size) = some 5 := by kernel_rfl
/-- The sorted object under way. -/
structure RS (w2 : World) (Q : Nat) (l : List V) (qs : List (Value × Value)) (ks : List ByteArray) (lv kv : Value) (W : World) : Prop where
  hQ : w2.heap.size ≤ Q
  hP : W.heap[Q]? = some (.cells #[.int .i64 6, .float .f64 0, .string ⟨#[]⟩, lv, kv] 27 (0, 0))
  len : qs.length = l.length
  lown : W.ownsRow w2.heap.size 27 5 lv l.length (flat5 l qs)
  kown : W.ownsRow w2.heap.size 9 1 kv ks.length (ks.map Value.string)
  apart : ∀ g, kv.ownBlock = some g → some g ≠ lv.ownBlock
  nl : some Q ≠ lv.ownBlock
  nk : some Q ≠ kv.ownBlock
  bel : Below w2.heap.size w2 W
theorem RS.lt {w2 : World} {Q : Nat} {l : List V} {qs : List (Value × Value)} {ks : List ByteArray} {lv kv : Value} {W : World} (h : RS w2 Q l qs ks lv kv W) : Q < W.heap.size := (Array.getElem?_eq_some_iff.1 h.hP).1
theorem RS.below {w2 : World} {Q : Nat} {l : List V} {qs : List (Value × Value)} {ks : List ByteArray} {lv kv : Value} {W W' : World} (h : RS w2 Q l qs ks lv kv W) (hb : Below W.heap.size W W') : RS w2 Q l qs ks lv kv W' := by
  have := h.lt
  exact ⟨h.hQ, (hb.block _ this).trans h.hP, h.len, own_heap h.lown (fun k hk => hb.block k hk), own_heap h.kown (fun k hk => hb.block k hk), h.apart, h.nl, h.nk, h.bel.trans (hb.mono h.bel.size)⟩
/-- The keys' row has grown. -/
theorem RS.keys {w2 : World} {Q : Nat} {l : List V} {qs : List (Value × Value)} {ks ks' : List ByteArray} {lv kv kv' : Value} {W W' : World} (h : RS w2 Q l qs ks lv kv W)
    (hown : W'.ownsRow w2.heap.size 9 1 kv' ks'.length (ks'.map Value.string)) (hsame : ∀ k, k < W.heap.size → some k ≠ kv.ownBlock → W'.heap[k]? = W.heap[k]?) (hblk : kv'.ownBlock = kv.ownBlock ∨ ∀ g, kv'.ownBlock = some g → W.heap.size ≤ g) (hbel : Below w2.heap.size w2 W') :
    RS w2 Q l qs ks' lv kv' (W'.setCell ⟨Q, 4, none⟩ kv') := by
  have hlt := h.lt
  have hnk' : some Q ≠ kv'.ownBlock := fun e => by
    rcases hblk with q | q
    · exact h.nk (e.trans q)
    · have := q Q e.symm
      omega
  have hk' : ∀ k, k < W.heap.size → some k ≠ kv.ownBlock → k ≠ Q → (W'.setCell ⟨Q, 4, none⟩ kv').heap[k]? = W.heap[k]? := fun k h1 h2 h3 => (setCell_other_block _ h3).trans (hsame k h1 h2)
  refine ⟨h.hQ, row_setAt ((hsame _ hlt h.nk).trans h.hP) 4 kv', h.len, ?_, ?_, ?_, h.nl, hnk', hbel.setCell (p := ⟨Q, 4, none⟩) h.hQ _⟩
  · exact own_keepM h.lown (fun g hg => hk' g (h.lown.lt g hg).2 (fun e => h.apart g e.symm hg.symm) (fun e => h.nl (by rw [← e]; exact hg.symm)))
  · exact own_keepM hown (fun g hg => setCell_other_block _ (fun e => hnk' (by rw [← e]; exact hg.symm)))
  · intro g hg e
    have hl := (h.lown.lt g e.symm)
    rcases hblk with q | q
    · exact h.apart g (q ▸ hg) e
    · have := q g hg
      omega
/-- The values' row has grown. -/
theorem RS.vals {w2 : World} {Q : Nat} {l l' : List V} {qs qs' : List (Value × Value)} {ks : List ByteArray} {lv lv' kv : Value} {W W' : World} (h : RS w2 Q l qs ks lv kv W) (hlen : qs'.length = l'.length)
    (hown : W'.ownsRow w2.heap.size 27 5 lv' l'.length (flat5 l' qs')) (hsame : ∀ k, k < W.heap.size → some k ≠ lv.ownBlock → W'.heap[k]? = W.heap[k]?) (hblk : lv'.ownBlock = lv.ownBlock ∨ ∀ g, lv'.ownBlock = some g → W.heap.size ≤ g) (hbel : Below w2.heap.size w2 W') :
    RS w2 Q l' qs' ks lv' kv (W'.setCell ⟨Q, 3, none⟩ lv') := by
  have hlt := h.lt
  have hnl' : some Q ≠ lv'.ownBlock := fun e => by
    rcases hblk with q | q
    · exact h.nl (e.trans q)
    · have := q Q e.symm
      omega
  have hk' : ∀ k, k < W.heap.size → some k ≠ lv.ownBlock → k ≠ Q → (W'.setCell ⟨Q, 3, none⟩ lv').heap[k]? = W.heap[k]? := fun k h1 h2 h3 => (setCell_other_block _ h3).trans (hsame k h1 h2)
  refine ⟨h.hQ, row_setAt ((hsame _ hlt h.nl).trans h.hP) 3 lv', hlen, ?_, ?_, ?_, hnl', h.nk, hbel.setCell (p := ⟨Q, 3, none⟩) h.hQ _⟩
  · exact own_keepM hown (fun g hg => setCell_other_block _ (fun e => hnl' (by rw [← e]; exact hg.symm)))
  · exact own_keepM h.kown (fun g hg => hk' g (h.kown.lt g hg).2 (fun e => h.apart g hg e) (fun e => h.nk (by rw [← e]; exact hg.symm)))
  · intro g hg e
    have hl := (h.kown.lt g hg)
    rcases hblk with q | q
    · exact h.apart g hg (e.trans q)
    · have := q g e.symm
      omega
theorem RS.midK {w2 : World} {Q : Nat} {l : List V} {qs : List (Value × Value)} {ks : List ByteArray} {lv kv : Value} {W w5 : World} {o : Obj} (h : RS w2 Q l qs ks lv kv W) (hgrow : (W.alloc o).grownBy w5 kv.ownBlock) :
    w5.cell? ⟨Q, 4, none⟩ = some kv ∧ w5.frozen? ⟨Q, 4, none⟩ = false := by
  have hlt := h.lt
  have e := (hgrow.block Q (by simp; omega) h.nk).trans (row_alloc3 h.hP o)
  obtain ⟨_, _, _, _, c4, _, _, _, _, z4⟩ := row5 e
  exact ⟨c4, z4⟩
theorem RS.midL {w2 : World} {Q : Nat} {l : List V} {qs : List (Value × Value)} {ks : List ByteArray} {lv kv : Value} {W w5 : World} {o : Obj} (h : RS w2 Q l qs ks lv kv W) (hgrow : (W.alloc o).grownBy w5 lv.ownBlock) :
    w5.cell? ⟨Q, 3, none⟩ = some lv ∧ w5.frozen? ⟨Q, 3, none⟩ = false := by
  have hlt := h.lt
  have e := (hgrow.block Q (by simp; omega) h.nl).trans (row_alloc3 h.hP o)
  obtain ⟨_, _, _, c3, _, _, _, _, z3, _⟩ := row5 e
  exact ⟨c3, z3⟩
theorem RS.keysG {w2 : World} {Q : Nat} {l : List V} {qs : List (Value × Value)} {ks : List ByteArray} {lv kv : Value} {W w5 : World} {x : ByteArray} {t : TypeId} {g cap : Nat} (h : RS w2 Q l qs ks lv kv W)
    (hown : w5.ownsRow w2.heap.size 9 1 (.slice (some ⟨g, 0, none⟩) (ks.length + 1) cap) (ks.length + 1) (ks.map Value.string ++ [Value.string x])) (hgrow : (W.alloc (.cells #[.string x] t)).grownBy w5 kv.ownBlock) (hat : kv.ownBlock = some g ∨ g = W.heap.size + 1) :
    RS w2 Q l qs (ks ++ [x]) lv (.slice (some ⟨g, 0, none⟩) (ks.length + 1) cap) (w5.setCell ⟨Q, 4, none⟩ (.slice (some ⟨g, 0, none⟩) (ks.length + 1) cap)) := by
  refine h.keys (by rw [List.length_append, List.map_append]; exact hown) (fun k hk hn => (hgrow.block _ (by simp; omega) hn).trans (((Below.refl W.heap.size W).alloc (Nat.le_refl _) _).block k hk)) ?_ ((h.bel.alloc h.bel.size _).grown hgrow (by have := h.bel.size; simp; omega) (fun k hk => by have := (h.kown.lt k hk).1; omega))
  rcases hat with e | e
  · exact Or.inl e.symm
  · exact Or.inr fun k hk => by
      have : g = k := Option.some.inj hk
      omega
theorem RS.valsG {w2 : World} {Q : Nat} {l : List V} {qs : List (Value × Value)} {ks : List ByteArray} {lv kv : Value} {W w5 : World} {x : V} {q : Value × Value} {t : TypeId} {g cap : Nat} (h : RS w2 Q l qs ks lv kv W)
    (hown : w5.ownsRow w2.heap.size 27 5 (.slice (some ⟨g, 0, none⟩) (l.length + 1) cap) (l.length + 1) (flat5 l qs ++ (cellsV x q.1 q.2).toList)) (hgrow : (W.alloc (.cells (cellsV x q.1 q.2) t)).grownBy w5 lv.ownBlock) (hat : lv.ownBlock = some g ∨ g = W.heap.size + 1) :
    RS w2 Q (l ++ [x]) (qs ++ [q]) ks (.slice (some ⟨g, 0, none⟩) (l.length + 1) cap) kv (w5.setCell ⟨Q, 3, none⟩ (.slice (some ⟨g, 0, none⟩) (l.length + 1) cap)) := by
  refine h.vals (by rw [List.length_append, List.length_append, h.len]; rfl) (by rw [flat5_snoc _ _ _ _ h.len.symm, List.length_append]; exact hown) (fun k hk hn => (hgrow.block _ (by simp; omega) hn).trans (((Below.refl W.heap.size W).alloc (Nat.le_refl _) _).block k hk)) ?_ ((h.bel.alloc h.bel.size _).grown hgrow (by have := h.bel.size; simp; omega) (fun k hk => by have := (h.lown.lt k hk).1; omega))
  rcases hat with e | e
  · exact Or.inl e.symm
  · exact Or.inr fun k hk => by
      have : g = k := Option.some.inj hk
      omega
/-- Where a value lies: below B0, or from B1 on. -/
def AtN (w : World) (B0 B1 m : Nat) (v : V) (lv kv : Value) : Prop := AtP w (fun b => b < B0 ∨ (B1 ≤ b ∧ b < w.heap.size)) m v lv kv
theorem AtN.to_at {w : World} {B0 B1 m : Nat} {v : V} {lv kv : Value} (h : AtN w B0 B1 m v lv kv) (hB : B0 ≤ w.heap.size) : At w w.heap.size m v lv kv :=
  AtP.more (fun b hb => by rcases hb with q | q <;> omega) _ _ _ _ h
theorem AtN.keep {w w' : World} {B0 B1 m : Nat} {v : V} {lv kv : Value} (h : AtN w B0 B1 m v lv kv) (hs : w.heap.size ≤ w'.heap.size) (hk : ∀ b, (b < B0 ∨ (B1 ≤ b ∧ b < w.heap.size)) → w'.heap[b]? = w.heap[b]?) : AtN w' B0 B1 m v lv kv :=
  AtP.more (fun b hb => by rcases hb with q | q; exact Or.inl q; exact Or.inr ⟨q.1, by omega⟩) _ _ _ _ (AtP.keep (fun a ha => by unfold World.cell?; rw [hk _ ha]) _ _ _ _ h)
theorem AtN.below {w w' : World} {B0 B1 m : Nat} {v : V} {lv kv : Value} (h : AtN w B0 B1 m v lv kv) (hB : B0 ≤ w.heap.size) (hb : Below w.heap.size w w') : AtN w' B0 B1 m v lv kv :=
  h.keep hb.size fun b q => hb.block b (by rcases q with q | q <;> omega)
theorem AtN.of_at {w : World} {B0 B1 m : Nat} {v : V} {lv kv : Value} (h : At w B0 m v lv kv) : AtN w B0 B1 m v lv kv := AtP.more (fun _ hb => Or.inl hb) _ _ _ _ h
theorem atP_of_own {W : World} {B m : Nat} {p : Nat → Prop} (hp : ∀ b, B ≤ b → b < W.heap.size → p b) {r : V} {lv kv : Value} {qs : List (Value × Value)} (hS : Small r) (hl : W.ownsRow B 27 5 lv r.l.length (flat5 r.l qs)) (hq : qs.length = r.l.length) (hk : W.ownsRow B 9 1 kv r.ks.length (r.ks.map Value.string))
    (heach : ∀ i (h : i < r.l.length) (h2 : i < qs.length), AtP W p m r.l[i] qs[i].1 qs[i].2) : AtP W p (m + 1) r lv kv := by
  obtain ⟨a, c, b, o, e, hab, h5⟩ := own_five hl hq.symm rfl
  obtain ⟨ha, hc⟩ := own_keysP hk
  refine ⟨hS, ⟨?_, hc⟩, Caps.of_own hl, a, c, b, o, e, fun h => ⟨(hab h).1, hp _ (hab h).2.1 (hab h).2.2⟩, fun i hi => ⟨_, _, h5 i hi (by omega), heach i hi (by omega)⟩⟩
  obtain ⟨A, c0, e0, h0⟩ := ha
  exact ⟨A, c0, e0, fun h => by obtain ⟨ad, e1, hb, hx⟩ := h0 h; exact ⟨ad, e1, hp _ hb.1 hb.2, hx⟩⟩
/-- Three blocks, one behind the other. -/
theorem three (w : World) (o1 o2 o3 : Obj) : (((w.alloc o1).alloc o2).alloc o3).drew.heap[w.heap.size]? = some o1 ∧ (((w.alloc o1).alloc o2).alloc o3).drew.heap[w.heap.size + 1]? = some o2 ∧ (((w.alloc o1).alloc o2).alloc o3).drew.heap[w.heap.size + 1 + 1]? = some o3 ∧ Below w.heap.size w (((w.alloc o1).alloc o2).alloc o3).drew := by
  have h1 := row_alloc3 (row_alloc3 (heap_alloc_new w o1) o2) o3
  have h2 := row_alloc3 (heap_alloc_new (w.alloc o1) o2) o3
  have h3 := heap_alloc_new ((w.alloc o1).alloc o2) o3
  rw [World.size_alloc] at h2 h3
  rw [World.size_alloc] at h3
  exact ⟨h1, h2, h3, ((((Below.refl w.heap.size w).alloc (Nat.le_refl _) _).alloc (by simp) _).alloc (by simp; omega) _).drew⟩
theorem gen_world {F R : World → Prop} {W : World} (h1 : R W) (h2 : ∀ W, R W → F W) : F W := h2 W h1
/-- A block in which what the object holds may lie: elder than the call's arguments end, or one of the call's own that is neither the object's box nor one of its rows. -/
def InM (B0 B1 Q : Nat) (lv kv : Value) (W : World) (b : Nat) : Prop := b < B0 ∨ (B1 ≤ b ∧ b < W.heap.size ∧ b ≠ Q ∧ some b ≠ lv.ownBlock ∧ some b ≠ kv.ownBlock)
/-- .. each of its values does. -/
def EA (W : World) (B0 B1 Q m : Nat) (lv kv : Value) (L : List V) (qs : List (Value × Value)) : Prop :=
  ∀ i (h : i < L.length) (h2 : i < qs.length), AtP W (InM B0 B1 Q lv kv W) m L[i] qs[i].1 qs[i].2
/-- Nothing that it leans on has changed. -/
theorem EA.keep {W W' : World} {B0 B1 Q m : Nat} {lv kv lv' kv' : Value} {L : List V} {qs : List (Value × Value)} (h : EA W B0 B1 Q m lv kv L qs) (hp : ∀ b, InM B0 B1 Q lv kv W b → InM B0 B1 Q lv' kv' W' b ∧ W'.heap[b]? = W.heap[b]?) : EA W' B0 B1 Q m lv' kv' L qs :=
  fun i h1 h2 => AtP.more (fun b hb => (hp b hb).1) _ _ _ _ (AtP.keep (fun _a ha => cell_of_block (hp _ ha).2) _ _ _ _ (h i h1 h2))
/-- The world has only grown. -/
theorem EA.below {W W' : World} {B0 B1 Q m : Nat} {lv kv : Value} {L : List V} {qs : List (Value × Value)} (h : EA W B0 B1 Q m lv kv L qs) (hB : B0 ≤ W.heap.size) (hb : Below W.heap.size W W') : EA W' B0 B1 Q m lv kv L qs :=
  h.keep fun b q => by
    have hs := hb.size
    rcases q with q | ⟨q1, q2, q3⟩
    · exact ⟨Or.inl q, hb.block b (by omega)⟩
    · exact ⟨Or.inr ⟨q1, by omega, q3⟩, hb.block b q2⟩
theorem EA.snoc {W : World} {B0 B1 Q m : Nat} {lv kv : Value} {L : List V} {qs : List (Value × Value)} (h : EA W B0 B1 Q m lv kv L qs) (hq : qs.length = L.length) {x : V} {q : Value × Value} (hx : AtP W (InM B0 B1 Q lv kv W) m x q.1 q.2) : EA W B0 B1 Q m lv kv (L ++ [x]) (qs ++ [q]) := by
  intro i h1 h2
  rw [List.length_append] at h1 h2
  simp only [List.length_cons, List.length_nil] at h1 h2
  by_cases hi : i < L.length
  · rw [List.getElem_append_left hi, List.getElem_append_left (by omega)]
    exact h i hi (by omega)
  · have e : i = L.length := by omega
    subst e
    rw [List.getElem_append_right (Nat.le_refl _), List.getElem_append_right (by omega)]
    simp only [hq, Nat.sub_self, List.getElem_cons_zero]
    exact hx
theorem EA.put {W : World} {B0 B1 Q m : Nat} {lv kv : Value} {L : List V} {qs : List (Value × Value)} (h : EA W B0 B1 Q m lv kv L qs) (_hq : qs.length = L.length) {p : Nat} {x : V} {q : Value × Value} (hx : AtP W (InM B0 B1 Q lv kv W) m x q.1 q.2) : EA W B0 B1 Q m lv kv (L.set p x) (qs.set p q) := by
  intro i h1 h2
  rw [List.length_set] at h1 h2
  by_cases hi : p = i
  · subst hi
    rw [List.getElem_set_self, List.getElem_set_self]
    exact hx
  · rw [List.getElem_set_ne hi, List.getElem_set_ne hi]
    exact h i h1 h2
/-- A value of the object's is written anew. -/
theorem RS.put {w2 : World} {Q : Nat} {L : List V} {qs : List (Value × Value)} {ks : List ByteArray} {kv : Value} {W : World} {g cap : Nat} (h : RS w2 Q L qs ks (.slice (some ⟨g, 0, none⟩) L.length cap) kv W) {p : Nat} (hp : p < L.length) (x : V) (aa bb : Value) :
    RS w2 Q (L.set p x) (qs.set p (aa, bb)) ks (.slice (some ⟨g, 0, none⟩) L.length cap) kv (set5at W g (p * 5) (.int .i64 x.k) (.float .f64 x.f) (.string x.s) aa bb) := by
  have hlt := h.lt
  have hg := h.lown.lt g rfl
  have hne : Q ≠ g := fun e => h.nl (by rw [e]; rfl)
  have hlen := h.len
  refine ⟨h.hQ, (set5at_other hne ..).trans h.hP, by simp [hlen], ?_, own_set5at h.kown (fun e => h.apart g e.symm rfl) .., h.apart, h.nl, h.nk, set5at_below h.bel hg.1 ..⟩
  have q : W.ownsRow w2.heap.size 27 5 (.slice (some ⟨g, 0, none⟩) L.length cap) L.length (flat5 L qs) := h.lown
  rcases q.2 with ⟨e0, _⟩ | ⟨g', cap', cur, e0, hb, hgh, hc1, hc2, hcs, htk⟩
  · cases e0
  · cases e0
    refine ⟨by rw [flat5_len _ _ (by simp [hlen])], Or.inr ⟨g, cap, _, by simp, hb, set5at_row hgh .., by simpa using hc1, hc2, by simp [hcs], ?_⟩⟩
    rw [List.length_set]
    apply List.ext_getElem?
    intro k
    by_cases hk : k < L.length * 5
    · rw [List.getElem?_take, if_pos hk, Array.getElem?_toList, set_get _ _ _ _ _ _ _ _ (by rw [hcs]; omega)]
      have hi : k / 5 < L.length := by omega
      have hm : k % 5 < 5 := Nat.mod_lt _ (by omega)
      have ek : k = k / 5 * 5 + k % 5 := by omega
      have hr := flat5_at (L.set p x) (qs.set p (aa, bb)) (by simp [hlen]) (k / 5) (by simpa using hi) (by simp [hlen]; exact hi) (k % 5) hm
      rw [← ek] at hr
      rw [hr]
      by_cases hkp : k / 5 = p
      · rw [if_pos (by omega)]
        have e1 : k - p * 5 = k % 5 := by omega
        rw [e1]
        subst hkp
        rw [List.getElem_set_self, List.getElem_set_self]
        rfl
      · have hkp' : p ≠ k / 5 := fun e => hkp e.symm
        rw [if_neg (by omega), List.getElem_set_ne hkp', List.getElem_set_ne hkp']
        have h0 := flat5_at L qs hlen.symm (k / 5) hi (by omega) (k % 5) hm
        rw [← ek] at h0
        rw [← h0, ← htk, List.getElem?_take, if_pos hk, Array.getElem?_toList]
    · rw [List.getElem?_take, if_neg hk, List.getElem?_eq_none (by rw [flat5_len _ _ (by simp [hlen])]; simp; omega)]
/-- What was there lies elsewhere. -/
theorem EA.put5 {W : World} {B0 B1 Q m g cap n : Nat} {kv : Value} {L : List V} {qs : List (Value × Value)} (h : EA W B0 B1 Q m (.slice (some ⟨g, 0, none⟩) n cap) kv L qs) (hg : B0 ≤ g) (o : Nat) (x0 x1 x2 x3 x4 : Value) : EA (set5at W g o x0 x1 x2 x3 x4) B0 B1 Q m (.slice (some ⟨g, 0, none⟩) n cap) kv L qs :=
  h.keep fun b q => by
    have hne : b ≠ g := by
      rcases q with q | ⟨_, _, _, q, _⟩
      · omega
      · exact fun e => q (by rw [e]; rfl)
    refine ⟨?_, set5at_other hne ..⟩
    rcases q with q | ⟨q1, q2, q3⟩
    · exact Or.inl q
    · exact Or.inr ⟨q1, by rw [set5at_size]; exact q2, q3⟩
/-- The keys' row has grown. -/
theorem EA.keysG {w2 : World} {B0 B1 Q m : Nat} {l : List V} {qs : List (Value × Value)} {ks : List ByteArray} {lv kv kv' : Value} {W w5 : World} {o : Obj} (h : EA W B0 B1 Q m lv kv l qs) (hR : RS w2 Q l qs ks lv kv W) (hB0 : B0 ≤ w2.heap.size)
    (hgrow : (W.alloc o).grownBy w5 kv.ownBlock) (hat : kv'.ownBlock = kv.ownBlock ∨ kv'.ownBlock = some (W.heap.size + 1)) : EA (w5.setCell ⟨Q, 4, none⟩ kv') B0 B1 Q m lv kv' l qs :=
  h.keep fun b q => by
    have hs := hgrow.size
    rw [World.size_alloc] at hs
    have hlt := hR.lt
    have hQ := hR.hQ
    have hW := hR.bel.size
    have hk : some b ≠ kv.ownBlock := by
      rcases q with q | q
      · exact fun e => by have := (hR.kown.lt b e.symm).1; omega
      · exact q.2.2.2.2
    have hbQ : b ≠ Q := by rcases q with q | q; omega; exact q.2.2.1
    have hbW : b < W.heap.size := by rcases q with q | q; omega; exact q.2.1
    refine ⟨?_, (setCell_other_block _ hbQ).trans ((hgrow.block b (by simp; omega) hk).trans (((Below.refl W.heap.size W).alloc (Nat.le_refl _) o).block b hbW))⟩
    rcases q with q | ⟨q1, q2, q3, q4, q5⟩
    · exact Or.inl q
    · refine Or.inr ⟨q1, by simp; omega, q3, q4, fun e => ?_⟩
      rcases hat with e2 | e2
      · exact q5 (e.trans e2)
      · have := Option.some.inj (e.trans e2)
        omega
theorem EA.valsG {w2 : World} {B0 B1 Q m : Nat} {l : List V} {qs : List (Value × Value)} {ks : List ByteArray} {lv lv' kv : Value} {W w5 : World} {o : Obj} (h : EA W B0 B1 Q m lv kv l qs) (hR : RS w2 Q l qs ks lv kv W) (hB0 : B0 ≤ w2.heap.size)
    (hgrow : (W.alloc o).grownBy w5 lv.ownBlock) (hat : lv'.ownBlock = lv.ownBlock ∨ lv'.ownBlock = some (W.heap.size + 1)) : EA (w5.setCell ⟨Q, 3, none⟩ lv') B0 B1 Q m lv' kv l qs :=
  h.keep fun b q => by
    have hs := hgrow.size
    rw [World.size_alloc] at hs
    have hlt := hR.lt
    have hQ := hR.hQ
    have hW := hR.bel.size
    have hk : some b ≠ lv.ownBlock := by
      rcases q with q | q
      · exact fun e => by have := (hR.lown.lt b e.symm).1; omega
      · exact q.2.2.2.1
    have hbQ : b ≠ Q := by rcases q with q | q; omega; exact q.2.2.1
    have hbW : b < W.heap.size := by rcases q with q | q; omega; exact q.2.1
    refine ⟨?_, (setCell_other_block _ hbQ).trans ((hgrow.block b (by simp; omega) hk).trans (((Below.refl W.heap.size W).alloc (Nat.le_refl _) o).block b hbW))⟩
    rcases q with q | ⟨q1, q2, q3, q4, q5⟩
    · exact Or.inl q
    · refine Or.inr ⟨q1, by simp; omega, q3, fun e => ?_, q5⟩
      rcases hat with e2 | e2
      · exact q4 (e.trans e2)
      · have := Option.some.inj (e.trans e2)
        omega
/-- The merged object is done. -/
theorem RS.doneM {w w2 : World} {Q R B0 : Nat} {r : V} {qs : List (Value × Value)} {lv kv : Value} {W : World} {m : Nat} (h : RS w2 Q r.l qs r.ks lv kv W) (hS : Small r) (hw : Below w.heap.size w w2) (hR : R < w2.heap.size) (hRw : w.heap.size ≤ R) (hB0 : B0 ≤ w.heap.size)
    (heach : EA W B0 w2.heap.size Q m lv kv r.l qs) (x0 x1 x2 x3 x4 : Value) :
    AtN (set5 W R x0 x1 x2 x3 x4) B0 w.heap.size (m + 1) r lv kv ∧ Below w.heap.size w (set5 W R x0 x1 x2 x3 x4) := by
  have hb : Below w.heap.size w (set5 W R x0 x1 x2 x3 x4) := set5_belowM (hw.trans (h.bel.mono hw.size)) hRw ..
  have hws := hw.size
  refine ⟨atP_of_own (B := w2.heap.size) (fun b h1 h2 => Or.inr ⟨by omega, h2⟩) hS (own_keepM h.lown fun g hg => set5_other (by have := (h.lown.lt g hg).1; omega) ..) h.len (own_keepM h.kown fun g hg => set5_other (by have := (h.kown.lt g hg).1; omega) ..) fun i h1 h2 => ?_, hb⟩
  refine AtP.more (fun b q => ?_) _ _ _ _ (AtP.keep (fun a q => cell_of_block (set5_other (R := R) (w := W) (by rcases q with q | q <;> omega) ..)) _ _ _ _ (heach i h1 h2))
  rcases q with q | q
  · exact Or.inl q
  · exact Or.inr ⟨by omega, by rw [set5_size]; exact q.2.1⟩
end Go.Proofs.YtdlighmnlcklnaaGreatDoor
