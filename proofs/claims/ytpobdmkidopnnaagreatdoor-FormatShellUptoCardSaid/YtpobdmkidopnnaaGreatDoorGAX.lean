/- The program's Get: keys, their places, what stands there. -/
import Derived.Test.YtpobdmkidopnnaaGreatDoorGAT
import Derived.Test.YtpobdmkidopnnaaGreatDoorGAK
import Derived.Test.YtpobdmkidopnnaaGreatDoorGAO
import Derived.Test.YtpobdmkidopnnaaGreatDoorGAG
import Derived.Test.YtpobdmkidopnnaaGreatDoorGAN
import Derived.Test.YtpobdmkidopnnaaGreatDoorGAL
import Derived.Test.YtpobdmkidopnnaaGreatDoorGAP
import Derived.Test.YtpobdmkidopnnaaGreatDoorGAW
namespace Go.Proofs.YtpobdmkidopnnaaGreatDoor
open Go Go.RowKit

theorem BRow.arrV {w : World} {e : TypeId} {b n cap : Nat} {l : List UInt8} (h : BRow w e b l) (hn : n = l.length) : Arr w (b + 1) (.slice (some ⟨b, 0, none⟩) n cap) (Lib.byteCells l) := by
  subst hn
  refine ⟨some ⟨b, 0, none⟩, cap, by rw [Lib.byteCells_length], fun _ => ⟨_, rfl, by simp, fun j u hu => ?_⟩⟩
  have hj : j < l.length := by
    have := (List.getElem?_eq_some_iff.1 hu).1
    rw [Lib.byteCells_length] at this
    exact this
  rw [Addr.add_lit, Nat.zero_add, h.cell j hj, ← hu]
  unfold Lib.byteCells
  rw [List.getElem?_map, List.getElem?_eq_getElem hj]
  rfl
theorem back_bytesV (c : ByteArray) : (⟨c.data.toList.toArray⟩ : ByteArray) = c := by cases c; simp
theorem first_at (x : ByteArray) : ∀ zs : List ByteArray, x ∈ zs → ∃ i : Nat, ∃ h : i < zs.length, zs[i] = x ∧ ∀ j (hj : j < i), zs[j]'(by omega) ≠ x
  | [], h => by cases h
  | z :: zs, h => by
    by_cases e : z = x
    · exact ⟨0, by simp, e, fun j hj => absurd hj (by omega)⟩
    · obtain ⟨i, hi, he, hn⟩ := first_at x zs ((List.mem_cons.1 h).resolve_left fun q => e q.symm)
      refine ⟨i + 1, by simp; omega, he, fun j hj => ?_⟩
      cases j with
      | zero => exact e
      | succ j => exact hn j (by omega)
theorem idx_cases (zs : List ByteArray) (x : ByteArray) : (Lib.idxOfS zs x = -1 ∧ x ∉ zs) ∨ ∃ i : Nat, ∃ h : i < zs.length, Lib.idxOfS zs x = (i : Int) ∧ zs[i] = x ∧ ∀ j (hj : j < i), zs[j]'(by omega) ≠ x := by
  by_cases hm : x ∈ zs
  · right
    obtain ⟨i, hi, he, hn⟩ := first_at x zs hm
    refine ⟨i, hi, ?_, he, hn⟩
    have := Lib.idxOfS_hit zs zs.length i x hi (Nat.le_refl _) (by rw [List.getD, List.getElem?_eq_getElem hi]; exact he) (fun j hj e => hn j hj (by rw [List.getD, List.getElem?_eq_getElem (by omega)] at e; exact e))
    rw [List.take_length] at this
    exact this
  · left
    refine ⟨?_, hm⟩
    have := Lib.idxOfS_miss zs zs.length x (fun j hj e => hm (by rw [List.getD, List.getElem?_eq_getElem hj] at e; rw [← e]; exact List.getElem_mem _))
    rw [List.take_length] at this
    exact this
/-- What Get answers where the key's place is x. -/
def GetP (v : V) (m : Nat) (w : World) (x : Int) (e : Ending) (w' : World) : Prop :=
  (x = -1 ∧ e = .returned (.tuple #[.agg zeroA, .bool false])) ∨ ∃ (i : Nat) (hi : i < v.l.length) (lv' kv' : Value), x = (i : Int) ∧ e = .returned (.tuple #[.agg (cellsV v.l[i] lv' kv'), .bool true]) ∧ AtP w' (fun b => w.heap.size ≤ b ∧ b < w'.heap.size) m v.l[i] lv' kv'
end Go.Proofs.YtpobdmkidopnnaaGreatDoor
namespace Go.Proofs.YtpobdmkidopnnaaGreatDoor
open Go Go.RowKit

/-- An owned value whose blocks all lie below H. -/
structure OwnH (W : World) (n0 H m : Nat) (v : V) (lv kv : Value) (ps : List (Value × Value)) : Prop where
  len : ps.length = v.l.length
  lown : W.ownsRow n0 27 5 lv v.l.length (flat5 v.l ps)
  kown : W.ownsRow n0 9 1 kv v.ks.length (v.ks.map Value.string)
  apart : ∀ g, kv.ownBlock = some g → some g ≠ lv.ownBlock
  lH : ∀ g, lv.ownBlock = some g → g < H
  kH : ∀ g, kv.ownBlock = some g → g < H
  each : ∀ i (h : i < v.l.length) (h2 : i < ps.length), AtP W (fun b => n0 ≤ b ∧ b < H ∧ some b ≠ lv.ownBlock ∧ some b ≠ kv.ownBlock) m v.l[i] ps[i].1 ps[i].2
theorem OwnV.toH {W : World} {n0 m : Nat} {v : V} {lv kv : Value} {ps : List (Value × Value)} (h : OwnV W n0 m v lv kv ps) : OwnH W n0 W.heap.size m v lv kv ps :=
  ⟨h.len, h.lown, h.kown, h.apart, fun g hg => (h.lown.lt g hg).2, fun g hg => (h.kown.lt g hg).2, h.each⟩
theorem own_keepB {W W' : World} {n0 H : Nat} (hk : ∀ k, n0 ≤ k → k < H → W'.heap[k]? = W.heap[k]?) {e : TypeId} {size n : Nat} {u : Value} {xs : List Value} (h : W.ownsRow n0 e size u n xs) (hH : ∀ g, u.ownBlock = some g → g < H) : W'.ownsRow n0 e size u n xs := by
  refine ⟨h.1, ?_⟩
  rcases h.2 with h1 | ⟨g, cap, cur, h1, h2, h3, h4⟩
  · exact Or.inl h1
  · exact Or.inr ⟨g, cap, cur, h1, h2, (hk g h2 (hH g (by rw [h1]; rfl))).trans h3, h4⟩
theorem OwnH.keep {W W' : World} {n0 H m : Nat} {v : V} {lv kv : Value} {ps : List (Value × Value)} (h : OwnH W n0 H m v lv kv ps) (hk : ∀ k, n0 ≤ k → k < H → W'.heap[k]? = W.heap[k]?) : OwnH W' n0 H m v lv kv ps :=
  ⟨h.len, own_keepB hk h.lown h.lH, own_keepB hk h.kown h.kH, h.apart, h.lH, h.kH, fun i h1 h2 => AtP.keep (fun _p hp => cell_of_block (hk _ hp.1 hp.2.1)) _ _ _ _ (h.each i h1 h2)⟩
theorem own_keepN {W W' : World} {n0 : Nat} {e : TypeId} {size n : Nat} {u : Value} {xs : List Value} (h : W.ownsRow n0 e size u n xs) (hk : ∀ g, u.ownBlock = some g → W'.heap[g]? = W.heap[g]?) : W'.ownsRow n0 e size u n xs := by
  refine ⟨h.1, ?_⟩
  rcases h.2 with h1 | ⟨g, cap, cur, h1, h2, h3, h4⟩
  · exact Or.inl h1
  · exact Or.inr ⟨g, cap, cur, h1, h2, (hk g (by rw [h1]; rfl)).trans h3, h4⟩
theorem own_put {w : World} {B g n cap j : Nat} {e : TypeId} {l : List V} {qs : List (Value × Value)} {x : V} (h : w.ownsRow B e 5 (.slice (some ⟨g, 0, none⟩) n cap) n (flat5 l qs)) (hq : qs.length = l.length) (hj : j < l.length) (aa bb : Value) :
    (set5at w g (j * 5) (.int .i64 x.k) (.float .f64 x.f) (.string x.s) aa bb).ownsRow B e 5 (.slice (some ⟨g, 0, none⟩) n cap) n (flat5 (l.set j x) (qs.set j (aa, bb))) := by
  have h1 : l.length * 5 = n * 5 := by rw [← flat5_len l qs hq.symm]; exact h.1
  refine ⟨by rw [flat5_len _ _ (by simp [hq])]; simpa using h1, ?_⟩
  rcases h.2 with ⟨e0, _⟩ | ⟨g', cap', cur, e0, hb, hg, hc1, hc2, hcs, htk⟩
  · cases e0
  · cases e0
    refine Or.inr ⟨g, cap, _, rfl, hb, set5at_row hg .., hc1, hc2, by simp [hcs], ?_⟩
    apply List.ext_getElem?
    intro k
    by_cases hk : k < n * 5
    · rw [List.getElem?_take, if_pos hk, Array.getElem?_toList, set_get _ _ _ _ _ _ _ _ (by rw [hcs]; omega)]
      have hi : k / 5 < l.length := by omega
      have hm : k % 5 < 5 := Nat.mod_lt _ (by omega)
      have ek : k = k / 5 * 5 + k % 5 := by omega
      have hr := flat5_at (l.set j x) (qs.set j (aa, bb)) (by simp [hq]) (k / 5) (by simpa using hi) (by simpa [hq] using hi) (k % 5) hm
      rw [← ek] at hr
      rw [hr, List.getElem_set, List.getElem_set]
      by_cases hkj : j = k / 5
      · rw [if_pos (by omega), if_pos hkj, if_pos hkj]
        have e1 : k - j * 5 = k % 5 := by omega
        rw [e1]
        rfl
      · rw [if_neg (by omega), if_neg hkj, if_neg hkj]
        have h0 := flat5_at l qs (by omega) (k / 5) hi (by omega) (k % 5) hm
        rw [← ek] at h0
        rw [← h0, ← htk, List.getElem?_take, if_pos hk, Array.getElem?_toList]
    · rw [List.getElem?_take, if_neg hk, List.getElem?_eq_none (by rw [flat5_len _ _ (by simp [hq])]; simp; omega)]
/-- Behind the copy of the object. -/
structure PutA (w : World) (P m : Nat) (bv bx : Array Value) (v : V) (lv kv : Value) (ps : List (Value × Value)) (W : World) : Prop where
  h0 : W.heap[w.heap.size]? = some (.cells bv 27 (0, 0))
  h1 : W.heap[w.heap.size + 1]? = some (.cells bx 27 (0, 0))
  h2 : W.heap[w.heap.size + 2]? = some (.cells #[.int .i64 0, .float .f64 0, .string ⟨#[]⟩, .slice none 0 0, .slice none 0 0] 27 (0, 0))
  hP : W.heap[P]? = some (.cells (cellsV v lv kv) 27 (0, 0))
  nP : w.heap.size + 3 ≤ P
  own : OwnH W (w.heap.size + 3) P m v lv kv ps
  bel : Below w.heap.size w W
theorem PutA.lt {w : World} {P m : Nat} {bv bx : Array Value} {v : V} {lv kv : Value} {ps : List (Value × Value)} {W : World} (h : PutA w P m bv bx v lv kv ps W) : P < W.heap.size := (Array.getElem?_eq_some_iff.1 h.hP).1
theorem PutA.below {w : World} {P m : Nat} {bv bx : Array Value} {v : V} {lv kv : Value} {ps : List (Value × Value)} {W W' : World} (h : PutA w P m bv bx v lv kv ps W) (hb : Below W.heap.size W W') : PutA w P m bv bx v lv kv ps W' := by
  have := h.lt
  have := h.nP
  exact ⟨(hb.block _ (by omega)).trans h.h0, (hb.block _ (by omega)).trans h.h1, (hb.block _ (by omega)).trans h.h2, (hb.block _ (by omega)).trans h.hP, h.nP, h.own.keep (fun k _ hk => hb.block k (by omega)), h.bel.trans (hb.mono h.bel.size)⟩
/-- Behind the key that has been put. -/
structure PutB (w : World) (P m : Nat) (bx : Array Value) (v : V) (K : ByteArray) (lv kv : Value) (ps : List (Value × Value)) (W : World) : Prop where
  h1 : W.heap[w.heap.size + 1]? = some (.cells bx 27 (0, 0))
  h2 : W.heap[w.heap.size + 2]? = some (.cells #[.int .i64 0, .float .f64 0, .string ⟨#[]⟩, .slice none 0 0, .slice none 0 0] 27 (0, 0))
  hP : W.heap[P]? = some (.cells (cellsV v lv kv) 27 (0, 0))
  nP : w.heap.size + 3 ≤ P
  len : ps.length = v.l.length
  lown : W.ownsRow (w.heap.size + 3) 27 5 lv v.l.length (flat5 v.l ps)
  kown : W.ownsRow (w.heap.size + 3) 9 1 kv (v.ks.length + 1) ((v.ks ++ [K]).map Value.string)
  apart : ∀ g, kv.ownBlock = some g → some g ≠ lv.ownBlock ∧ g ≠ P
  lH : ∀ g, lv.ownBlock = some g → g < P
  each : ∀ i (h : i < v.l.length) (h2 : i < ps.length), AtP W (fun b => w.heap.size + 3 ≤ b ∧ b < P ∧ some b ≠ lv.ownBlock) m v.l[i] ps[i].1 ps[i].2
  bel : Below w.heap.size w W
theorem PutB.lt {w : World} {P m : Nat} {bx : Array Value} {v : V} {K : ByteArray} {lv kv : Value} {ps : List (Value × Value)} {W : World} (h : PutB w P m bx v K lv kv ps W) : P < W.heap.size := (Array.getElem?_eq_some_iff.1 h.hP).1
theorem PutB.below {w : World} {P m : Nat} {bx : Array Value} {v : V} {K : ByteArray} {lv kv : Value} {ps : List (Value × Value)} {W W' : World} (h : PutB w P m bx v K lv kv ps W) (hb : Below W.heap.size W W') : PutB w P m bx v K lv kv ps W' := by
  have := h.lt
  have := h.nP
  exact ⟨(hb.block _ (by omega)).trans h.h1, (hb.block _ (by omega)).trans h.h2, (hb.block _ (by omega)).trans h.hP, h.nP, h.len, own_heap h.lown (fun k hk => hb.block k hk), own_heap h.kown (fun k hk => hb.block k hk), h.apart, h.lH, fun i h1 h2 => AtP.keep (fun p hp => cell_of_block (hb.block _ (by have := hp.2.1; omega))) _ _ _ _ (h.each i h1 h2), h.bel.trans (hb.mono h.bel.size)⟩
theorem putB_of {w : World} {P m : Nat} {bv bx : Array Value} {v : V} {K : ByteArray} {lv kv kv' : Value} {ps : List (Value × Value)} {W w' : World} (h : PutA w P m bv bx v lv kv ps W)
    (hown : w'.ownsRow (w.heap.size + 3) 9 1 kv' (v.ks.length + 1) ((v.ks ++ [K]).map Value.string)) (hgrow : (W.alloc (.cells #[.string K] 9)).grownBy w' kv.ownBlock) (hblk : kv'.ownBlock = kv.ownBlock ∨ kv'.ownBlock = some (W.alloc (.cells #[.string K] 9)).heap.size) :
    PutB w P m bx v K lv kv' ps (w'.setCell ⟨P, 4, none⟩ kv') := by
  have hlt := h.lt
  have hnP := h.nP
  have hkP : ∀ g, kv.ownBlock = some g → w.heap.size + 3 ≤ g ∧ g < P := fun g hg => ⟨(h.own.kown.lt g hg).1, h.own.kH g hg⟩
  have hk : ∀ k, k < W.heap.size → some k ≠ kv.ownBlock → w'.heap[k]? = W.heap[k]? := fun k hk hn =>
    (hgrow.block _ (by simp; omega) hn).trans (((Below.refl W.heap.size W).alloc (Nat.le_refl _) _).block k hk)
  have hk' : ∀ k, k < W.heap.size → some k ≠ kv.ownBlock → k ≠ P → (w'.setCell ⟨P, 4, none⟩ kv').heap[k]? = W.heap[k]? := fun k h1 h2 h3 => (setCell_other_block _ h3).trans (hk k h1 h2)
  have hnk : ∀ k, k < w.heap.size + 3 ∨ P ≤ k → some k ≠ kv.ownBlock := fun k hk e => by have := hkP k e.symm; omega
  have hk'P : ∀ g, kv'.ownBlock = some g → g ≠ P := fun g hg e => by
    rcases hblk with q | q
    · exact absurd (hkP g (q ▸ hg)) (by omega)
    · rw [q] at hg; injection hg with hg; simp at hg; omega
  refine ⟨(hk' _ (by omega) (hnk _ (by omega)) (by omega)).trans h.h1, (hk' _ (by omega) (hnk _ (by omega)) (by omega)).trans h.h2, row_setAt ((hk _ hlt (hnk _ (by omega))).trans h.hP) 4 kv', hnP, h.own.len, ?_, ?_, ?_, h.own.lH, ?_, ?_⟩
  · exact own_keepN h.own.lown (fun g hg => hk' g (by have := h.own.lH g hg; omega) (fun e => h.own.apart g e.symm (by rw [hg])) (by have := h.own.lH g hg; omega))
  · exact own_keepN hown (fun g hg => setCell_other_block _ (hk'P g hg))
  · refine fun g hg => ⟨fun e => ?_, hk'P g hg⟩
    have hl := h.own.lH g e.symm
    rcases hblk with q | q
    · exact h.own.apart g (q ▸ hg) e
    · rw [q] at hg; injection hg with hg; simp at hg; omega
  · intro i h1 h2
    exact AtP.more (fun b hb => ⟨hb.1, hb.2.1, hb.2.2.1⟩) _ _ _ _ (AtP.keep (fun p hp => cell_of_block (hk' _ (by have := hp.2.1; omega) hp.2.2.2 (by have := hp.2.1; omega))) _ _ _ _ (h.own.each i h1 h2))
  · have hb1 : Below w.heap.size w w' := (h.bel.alloc h.bel.size _).grown hgrow (by have := h.bel.size; simp; omega) (fun k hk => by have := hkP k hk; omega)
    exact hb1.setCell (p := ⟨P, 4, none⟩) (by show w.heap.size ≤ P; omega) _
/-- What Put makes of an object. -/
def putV (v : V) (K : ByteArray) (x : V) : V := if Lib.idxOfS v.ks K < 0 then .mk v.k v.f v.s (v.l ++ [x]) (v.ks ++ [K]) else .mk v.k v.f v.s (v.l.set (Lib.idxOfS v.ks K).toNat x) v.ks
/-- Behind the value that has been put. -/
structure PutC (w : World) (P m : Nat) (r : V) (lv kv : Value) (W : World) : Prop where
  h2 : W.heap[w.heap.size + 2]? = some (.cells #[.int .i64 0, .float .f64 0, .string ⟨#[]⟩, .slice none 0 0, .slice none 0 0] 27 (0, 0))
  hP : W.heap[P]? = some (.cells (cellsV r lv kv) 27 (0, 0))
  nP : w.heap.size + 3 ≤ P
  at_ : AtP W (fun b => w.heap.size + 3 ≤ b ∧ b < W.heap.size) (m + 1) r lv kv
  bel : Below w.heap.size w W
theorem putC_add {w : World} {P m H : Nat} {bx : Array Value} {v x : V} {K : ByteArray} {lv kv lv' aa bb : Value} {ps : List (Value × Value)} {W w4 : World} (h : PutB w P m bx v K lv kv ps W)
    (hS : Small (.mk v.k v.f v.s (v.l ++ [x]) (v.ks ++ [K]))) (hx : AtP W (fun b => H ≤ b ∧ b < W.heap.size) m x aa bb) (hH : P < H)
    (hown : w4.ownsRow (w.heap.size + 3) 27 5 lv' (v.l.length + 1) (flat5 v.l ps ++ (cellsV x aa bb).toList)) (hgrow : (W.alloc (.cells (cellsV x aa bb) 27)).grownBy w4 lv.ownBlock) (hblk : lv'.ownBlock = lv.ownBlock ∨ lv'.ownBlock = some (W.heap.size + 1)) :
    PutC w P m (.mk v.k v.f v.s (v.l ++ [x]) (v.ks ++ [K])) lv' kv (w4.setCell ⟨P, 3, none⟩ lv') := by
  have hlt := h.lt
  have hnP := h.nP
  have hlP : ∀ g, lv.ownBlock = some g → w.heap.size + 3 ≤ g ∧ g < P := fun g hg => ⟨(h.lown.lt g hg).1, h.lH g hg⟩
  have hk : ∀ k, k < W.heap.size → some k ≠ lv.ownBlock → w4.heap[k]? = W.heap[k]? := fun k hk hn =>
    (hgrow.block _ (by simp; omega) hn).trans (((Below.refl W.heap.size W).alloc (Nat.le_refl _) _).block k hk)
  have hk' : ∀ k, k < W.heap.size → some k ≠ lv.ownBlock → k ≠ P → (w4.setCell ⟨P, 3, none⟩ lv').heap[k]? = W.heap[k]? := fun k h1 h2 h3 => (setCell_other_block _ h3).trans (hk k h1 h2)
  have hnk : ∀ k, k < w.heap.size + 3 ∨ P ≤ k → some k ≠ lv.ownBlock := fun k hk e => by have := hlP k e.symm; omega
  have hl'P : ∀ g, lv'.ownBlock = some g → g ≠ P := fun g hg e => by
    rcases hblk with q | q
    · exact absurd (hlP g (q ▸ hg)) (by omega)
    · rw [q] at hg; injection hg with hg; omega
  have hz : W.heap.size ≤ (w4.setCell ⟨P, 3, none⟩ lv').heap.size := by have := hgrow.size; simp at this ⊢; omega
  refine ⟨(hk' _ (by omega) (hnk _ (by omega)) (by omega)).trans h.h2, row_setAt ((hk _ hlt (hnk _ (by omega))).trans h.hP) 3 lv', hnP, ?_, ?_⟩
  · have hown' : (w4.setCell ⟨P, 3, none⟩ lv').ownsRow (w.heap.size + 3) 27 5 lv' (v.l.length + 1) (flat5 (v.l ++ [x]) (ps ++ [(aa, bb)])) := by
      rw [flat5_snoc x (aa, bb) v.l ps h.len.symm]
      exact own_keepN hown (fun g hg => setCell_other_block _ (hl'P g hg))
    have hkey : (w4.setCell ⟨P, 3, none⟩ lv').ownsRow (w.heap.size + 3) 9 1 kv (v.ks.length + 1) ((v.ks ++ [K]).map Value.string) := own_keepN h.kown (fun g hg => hk' g (h.kown.lt g hg).2 (h.apart g hg).1 (h.apart g hg).2)
    have hl : (v.l ++ [x]).length = (ps ++ [(aa, bb)]).length := by simp [h.len]
    obtain ⟨a, c, b, o, e, hab, h5⟩ := own_five hown' hl (by simp)
    refine ⟨hS, own_keysP hkey, Caps.of_own hown', a, c, b, o, e, hab, fun i hi => ?_⟩
    have hi : i < (v.l ++ [x]).length := hi
    have hi2 : i < (ps ++ [(aa, bb)]).length := by omega
    refine ⟨_, _, h5 i hi hi2, ?_⟩
    show AtP _ _ m (v.l ++ [x])[i] _ _
    by_cases hlt2 : i < v.l.length
    · have e1 : (v.l ++ [x])[i] = v.l[i] := List.getElem_append_left hlt2
      have e2 : (ps ++ [(aa, bb)])[i] = ps[i]'(by rw [h.len]; exact hlt2) := List.getElem_append_left (by rw [h.len]; exact hlt2)
      rw [e1, e2]
      exact AtP.more (fun b hb => ⟨hb.1, by have := hb.2.1; omega⟩) _ _ _ _ (AtP.keep (fun p hp => cell_of_block (hk' _ (by have := hp.2.1; omega) hp.2.2 (by have := hp.2.1; omega))) _ _ _ _ (h.each i hlt2 (by rw [h.len]; exact hlt2)))
    · have hie : i = v.l.length := by simp at hi; omega
      subst hie
      have e1 : (v.l ++ [x])[v.l.length] = x := by simp
      have e2 : (ps ++ [(aa, bb)])[v.l.length]'hi2 = (aa, bb) := by
        rw [List.getElem_append_right (by rw [h.len]; exact Nat.le_refl _)]
        simp
      rw [e1, e2]
      exact AtP.more (fun b hb => ⟨by have := hb.1; omega, by have := hb.2; omega⟩) _ _ _ _ (AtP.keep (fun p hp => cell_of_block (hk' _ hp.2 (hnk _ (by have := hp.1; omega)) (by have := hp.1; omega))) _ _ _ _ hx)
  · have hb1 : Below w.heap.size w w4 := (h.bel.alloc h.bel.size _).grown hgrow (by have := h.bel.size; simp; omega) (fun k hk => by have := hlP k hk; omega)
    exact hb1.setCell (p := ⟨P, 3, none⟩) (by show w.heap.size ≤ P; omega) _
theorem putC_hit {w : World} {P m H g cap i : Nat} {bv bx : Array Value} {v x : V} {kv aa bb : Value} {ps : List (Value × Value)} {W : World} (h : PutA w P m bv bx v (.slice (some ⟨g, 0, none⟩) v.l.length cap) kv ps W)
    (hi : i < v.l.length) (hS : Small (.mk v.k v.f v.s (v.l.set i x) v.ks)) (hx : AtP W (fun b => H ≤ b ∧ b < W.heap.size) m x aa bb) (hH : P < H) :
    PutC w P m (.mk v.k v.f v.s (v.l.set i x) v.ks) (.slice (some ⟨g, 0, none⟩) v.l.length cap) kv (set5at W g (i * 5) (.int .i64 x.k) (.float .f64 x.f) (.string x.s) aa bb) := by
  have hlt := h.lt
  have hnP := h.nP
  have hgP : w.heap.size + 3 ≤ g ∧ g < P := ⟨(h.own.lown.lt g rfl).1, h.own.lH g rfl⟩
  have hk' : ∀ k, k ≠ g → (set5at W g (i * 5) (.int .i64 x.k) (.float .f64 x.f) (.string x.s) aa bb).heap[k]? = W.heap[k]? := fun k hk => set5at_other hk ..
  refine ⟨(hk' _ (by omega)).trans h.h2, (hk' _ (by omega)).trans h.hP, hnP, ?_, set5at_below h.bel (by omega) ..⟩
  have hset : (ps.set i (aa, bb)).length = (v.l.set i x).length := by simp [h.own.len]
  have hown' : (set5at W g (i * 5) (.int .i64 x.k) (.float .f64 x.f) (.string x.s) aa bb).ownsRow (w.heap.size + 3) 27 5 (.slice (some ⟨g, 0, none⟩) v.l.length cap) v.l.length (flat5 (v.l.set i x) (ps.set i (aa, bb))) := own_put h.own.lown h.own.len hi aa bb
  have hkey : (set5at W g (i * 5) (.int .i64 x.k) (.float .f64 x.f) (.string x.s) aa bb).ownsRow (w.heap.size + 3) 9 1 kv v.ks.length (v.ks.map Value.string) := own_set5at h.own.kown (fun e => h.own.apart g e.symm rfl) ..
  obtain ⟨a, c, b, o, e, hab, h5⟩ := own_five hown' hset.symm (by simp)
  refine ⟨hS, own_keysP hkey, Caps.of_own hown', a, c, b, o, e, hab, fun j hj => ?_⟩
  have hj : j < (v.l.set i x).length := hj
  have hj2 : j < (ps.set i (aa, bb)).length := by omega
  refine ⟨_, _, h5 j hj hj2, ?_⟩
  show AtP _ _ m (v.l.set i x)[j] _ _
  rw [List.getElem_set, List.getElem_set]
  by_cases hij : i = j
  · rw [if_pos hij, if_pos hij]
    exact AtP.more (fun b hb => ⟨by have := hb.1; omega, by rw [set5at_size]; exact hb.2⟩) _ _ _ _ (AtP.keep (fun p hp => cell_of_block (hk' _ (by have := hp.1; omega))) _ _ _ _ hx)
  · rw [if_neg hij, if_neg hij]
    have hj3 : j < v.l.length := by simpa using hj
    exact AtP.more (fun b hb => ⟨hb.1, by rw [set5at_size]; have := hb.2.1; omega⟩) _ _ _ _ (AtP.keep (fun p hp => cell_of_block (hk' _ (fun e => hp.2.2.1 (by rw [e]; rfl)))) _ _ _ _ (h.own.each j hj3 (by rw [h.own.len]; exact hj3)))
theorem put_mid {w : World} {P m : Nat} {bx : Array Value} {v : V} {K : ByteArray} {lv kv : Value} {ps : List (Value × Value)} {W w4 : World} {o : Obj} (h : PutB w P m bx v K lv kv ps W) (hgrow : (W.alloc o).grownBy w4 lv.ownBlock) :
    w4.cell? ⟨P, 3, none⟩ = some lv ∧ w4.frozen? ⟨P, 3, none⟩ = false := by
  have hlt := h.lt
  have e : w4.heap[P]? = some (.cells (cellsV v lv kv) 27 (0, 0)) := (hgrow.block _ (by simp; omega) (fun e => by have := h.lH _ e.symm; omega)).trans (row_alloc3 h.hP o)
  obtain ⟨_, _, _, c3, _, _, _, _, z3, _⟩ := row5 e
  exact ⟨c3, z3⟩
theorem arr_one {w : World} {x : Value} {t : TypeId} : Arr (w.alloc (.cells #[x] t)) (w.heap.size + 1) (.slice (some ⟨w.heap.size, 0, none⟩) 1 1) [x] := by
  refine ⟨_, _, rfl, fun _ => ⟨_, rfl, by simp, fun j u hu => ?_⟩⟩
  cases j with
  | zero =>
    simp at hu
    subst hu
    rw [Addr.add_lit]
    exact row1V (heap_alloc_new w _)
  | succ j => simp at hu
end Go.Proofs.YtpobdmkidopnnaaGreatDoor
namespace Go.Proofs.YtpobdmkidopnnaaGreatDoor
open Go Go.RowKit

end Go.Proofs.YtpobdmkidopnnaaGreatDoor
namespace Go.Proofs.YtpobdmkidopnnaaGreatDoor
open Go Go.RowKit

/-- The order of two ints. -/
def cmpI (a b : Int) : Int := if a < b then -1 else if b < a then 1 else 0
set_option maxHeartbeats 400000 in
theorem Arr_nil (w : World) : Calls Tryz.prog 24 #[.slice none 0 0] w fun e w' => e = .returned (.agg #[.int .i64 5, .float .f64 0, .string ⟨#[]⟩, .slice none 0 0, .slice none 0 0]) ∧ Below w.heap.size w w' := by
  have hsf := run_store_float Tryz.prog
  obtain ⟨i0, hi0, hz0, hz1, hz2⟩ := info_parts infoVal
  go_enter Tryz.func24, Tryz.ntmps24
  go_wp2_with fail
  refine bodyPost_ret_by (results_cell_row rfl _ _ w.heap.size 27 _ (0, 0) _ rfl (heap_alloc_new w _) Tryz.underlying27 rfl (by rw [hi0]; simp [hz1])) rfl ?_
  exact ⟨rfl, (Below.refl w.heap.size w).alloc (Nat.le_refl _) _⟩
end Go.Proofs.YtpobdmkidopnnaaGreatDoor
namespace Go.Proofs.YtpobdmkidopnnaaGreatDoor
open Go Go.RowKit

def bareB (f : Nat) (s : ByteArray) (n m : Nat) : Bool := zeroV f && emptyB s && decide (n = 0) && decide (m = 0)
theorem bareB_iff (f : Nat) (s : ByteArray) (n m : Nat) : bareB f s n m = true ↔ zeroV f = true ∧ s.toList = [] ∧ n = 0 ∧ m = 0 := by
  unfold bareB emptyB
  simp only [Bool.and_eq_true, decide_eq_true_eq, List.isEmpty_iff, and_assoc]
theorem good_empty (s : ByteArray) (h : s.toList = []) : allGood s 0 = true := by
  refine allGood_nil s 0 ?_
  rw [Lib.toList_data] at h
  have : s.size = 0 := by rw [← ByteArray.size_data, ← Array.length_toList, h]; rfl
  omega
theorem okK_nil (l : List ByteArray) (h : l.length = 0) : okK (sortK l) = true := by
  rw [List.eq_nil_of_length_eq_zero h, sortK_small [] (by simp)]
  rfl
theorem all_nil (l : List V) (g : V → Bool) (h : l.length = 0) : l.all g = true := by
  rw [List.eq_nil_of_length_eq_zero h]; rfl
theorem empty_listV : (⟨#[]⟩ : ByteArray).toList = [] := by rw [Lib.toList_data]
theorem right_flat (v : V) (g : V → Bool) (hk : v.k = 0 ∨ v.k = 1 ∨ v.k = 2) : (headOK v && v.l.all g) = bareB v.f v.s v.l.length v.ks.length := by
  rw [Bool.eq_iff_iff, Bool.and_eq_true, headOK_iff, bareB_iff]
  constructor
  · rintro ⟨⟨_, h1, h2, h3, _, h5, _⟩, _⟩
    exact ⟨h1.resolve_left (by omega), h2.resolve_left (by omega), by omega, by omega⟩
  · rintro ⟨h1, h2, h3, h4⟩
    exact ⟨⟨by omega, Or.inr h1, Or.inr h2, Or.inr h3, Or.inl (by omega), Or.inr h4, good_empty _ h2, okK_nil _ h4⟩, all_nil _ _ h3⟩
theorem right_num (v : V) (g : V → Bool) (hk : v.k = 3) : (headOK v && v.l.all g) = bareB 0 v.s v.l.length v.ks.length := by
  rw [Bool.eq_iff_iff, Bool.and_eq_true, headOK_iff, bareB_iff]
  constructor
  · rintro ⟨⟨_, h1, h2, h3, _, h5, _⟩, _⟩
    exact ⟨rfl, h2.resolve_left (by omega), by omega, by omega⟩
  · rintro ⟨h1, h2, h3, h4⟩
    exact ⟨⟨by omega, Or.inl hk, Or.inr h2, Or.inr h3, Or.inl (by omega), Or.inr h4, good_empty _ h2, okK_nil _ h4⟩, all_nil _ _ h3⟩
theorem right_str (v : V) (g : V → Bool) (hk : v.k = 4) : (headOK v && v.l.all g) = (allGood v.s 0 && bareB v.f ⟨#[]⟩ v.l.length v.ks.length) := by
  rw [Bool.eq_iff_iff, Bool.and_eq_true, Bool.and_eq_true, headOK_iff, bareB_iff]
  constructor
  · rintro ⟨⟨_, h1, h2, h3, _, h5, h6, _⟩, _⟩
    exact ⟨h6, h1.resolve_left (by omega), empty_listV, by omega, by omega⟩
  · rintro ⟨h6, h1, h2, h3, h4⟩
    exact ⟨⟨by omega, Or.inr h1, Or.inl hk, Or.inr h3, Or.inl (by omega), Or.inr h4, h6, okK_nil _ h4⟩, all_nil _ _ h3⟩
theorem right_arr (v : V) (g : V → Bool) (hk : v.k = 5) : (headOK v && v.l.all g) = (v.l.all g && bareB v.f v.s 0 v.ks.length) := by
  rw [Bool.eq_iff_iff, Bool.and_eq_true, Bool.and_eq_true, headOK_iff, bareB_iff]
  constructor
  · rintro ⟨⟨_, h1, h2, h3, _, h5, h6, _⟩, h7⟩
    exact ⟨h7, h1.resolve_left (by omega), h2.resolve_left (by omega), rfl, by omega⟩
  · rintro ⟨h7, h1, h2, _, h4⟩
    exact ⟨⟨by omega, Or.inr h1, Or.inr h2, Or.inl (by omega), Or.inl (by omega), Or.inr h4, good_empty _ h2, okK_nil _ h4⟩, h7⟩
theorem right_obj (v : V) (g : V → Bool) (hk : v.k = 6) : (headOK v && v.l.all g) = ((decide (v.ks.length = v.l.length) && okK (sortK v.ks)) && (v.l.all g && bareB v.f v.s 0 0)) := by
  rw [Bool.eq_iff_iff, Bool.and_eq_true, Bool.and_eq_true, Bool.and_eq_true, Bool.and_eq_true, headOK_iff, bareB_iff, decide_eq_true_eq]
  constructor
  · rintro ⟨⟨_, h1, h2, h3, h4, h5, h6, h8⟩, h7⟩
    exact ⟨⟨h4.resolve_left (by omega), h8⟩, h7, h1.resolve_left (by omega), h2.resolve_left (by omega), rfl, rfl⟩
  · rintro ⟨⟨h4, h8⟩, h7, h1, h2, _, _⟩
    exact ⟨⟨by omega, Or.inr h1, Or.inr h2, Or.inl (by omega), Or.inr h4, Or.inl hk, good_empty _ h2, h8⟩, h7⟩
theorem right_none (v : V) (g : V → Bool) (hk : v.k < 0 ∨ 6 < v.k) : (headOK v && v.l.all g) = false := by
  cases h : headOK v
  · rfl
  · rw [headOK_iff] at h
    obtain ⟨⟨h1, h2⟩, _⟩ := h
    omega
end Go.Proofs.YtpobdmkidopnnaaGreatDoor
namespace Go.Proofs.YtpobdmkidopnnaaGreatDoor
open Go Go.RowKit

/-- {"a": 1, "b": "x"} -/
def putR : V := .mk 6 0 ⟨#[]⟩ [numV 4607182418800017408, strV ⟨#[120]⟩] [⟨#[97]⟩, ⟨#[98]⟩]
theorem clean_b : cleanS ⟨#[98]⟩ = ⟨#[98]⟩ := by kernel_rfl
theorem idx_ab : Lib.idxOfS [⟨#[97]⟩] ⟨#[98]⟩ = -1 := by kernel_rfl
theorem idx_bb : Lib.idxOfS [⟨#[97]⟩, ⟨#[98]⟩] ⟨#[98]⟩ = 1 := by kernel_rfl
theorem put_is : putV (objV ⟨#[97]⟩ 4607182418800017408) ⟨#[98]⟩ (strV ⟨#[120]⟩) = putR := by
  unfold putV
  show (if Lib.idxOfS [⟨#[97]⟩] ⟨#[98]⟩ < 0 then _ else _) = _
  rw [idx_ab, if_pos (by omega)]
  rfl
theorem small_put : Small putR := by
  refine ⟨by show (-9223372036854775808 : Int) ≤ 6; omega, by show (6 : Int) ≤ _; omega, by show 0 < _; omega, by show (0 : Nat) ≤ _; omega, by show 2 ≤ _; omega, by show 2 ≤ _; omega, by show 2 ≤ _; omega⟩
theorem nan_large : largeV 1 (numV 9221120237041090561) = false := by kernel_rfl
theorem nan_sz : 9218868437227405312 < szB 9221120237041090561 := by decide +kernel
theorem head_text (g1 g2 : Nat) (w : World) (hN : NumW w) (h : At w w.heap.size 2 (objV ⟨#[97]⟩ 4607182418800017408) (.slice (some ⟨g1, 0, none⟩) 1 1) (.slice (some ⟨g2, 0, none⟩) 1 1)) :
    Calls Tryz.prog 55 #[.agg #[.int .i64 6, .float .f64 0, .string ⟨#[]⟩, .slice (some ⟨g1, 0, none⟩) 1 1, .slice (some ⟨g2, 0, none⟩) 1 1]] w fun e w' => e = .returned (.string ⟨#[123, 34, 97, 34, 58, 49, 125]⟩) ∧ Below w.heap.size w w' := by
  have := Text_any3 2 (objV ⟨#[97]⟩ 4607182418800017408) 2 _ _ w hN h right_objA (by rw [text_obj]; decide)
  rw [text_obj] at this
  exact this
theorem head_large (w : World) :
    Calls Tryz.prog 89 #[.agg #[.int .i64 3, .float .f64 9221120237041090561, .string ⟨#[]⟩, .slice none 0 0, .slice none 0 0]] w fun e w' => e = .returned (.bool false) ∧ Below w.heap.size w w' := by
  have := Large_any 1 (numV 9221120237041090561) nilS nilS w (leaf_at w _ 0 3 9221120237041090561 ⟨#[]⟩ (by omega) (by omega) (by decide))
  rw [nan_large] at this
  exact this
theorem head_name (w : World) :
    Calls Tryz.prog 220 #[.agg #[.int .i64 0, .float .f64 0, .string ⟨#[]⟩, .slice none 0 0, .slice none 0 0]] w fun e w' => e = .returned (.string ⟨#[110, 117, 108, 108]⟩) ∧ Below w.heap.size w w' :=
  Name_any (leafV 0 0 ⟨#[]⟩) none 0 0 none 0 0 (by decide) (by decide) w
end Go.Proofs.YtpobdmkidopnnaaGreatDoor
namespace Go.Proofs.YtpobdmkidopnnaaGreatDoor
open Go Go.RowKit

/-- Rows of the call's own, and what lay below. -/
structure HW (w W : World) (l : List (Nat × Array Value × TypeId)) : Prop where
  rows : ∀ x ∈ l, W.heap[x.1]? = some (.cells x.2.1 x.2.2 (0, 0))
  bel : Below w.heap.size w W
theorem HW.start (w : World) : HW w w [] := ⟨fun x hx => by simp at hx, Below.refl _ _⟩
theorem HW.lt {w W : World} {l : List (Nat × Array Value × TypeId)} (h : HW w W l) (x : Nat × Array Value × TypeId) (hx : x ∈ l) : x.1 < W.heap.size := (Array.getElem?_eq_some_iff.1 (h.rows x hx)).1
theorem HW.below {w W W' : World} {l : List (Nat × Array Value × TypeId)} (h : HW w W l) (hb : Below W.heap.size W W') : HW w W' l :=
  ⟨fun x hx => (hb.block _ (h.lt x hx)).trans (h.rows x hx), h.bel.trans (hb.mono h.bel.size)⟩
theorem HW.one {w W : World} {l : List (Nat × Array Value × TypeId)} (h : HW w W l) (c : Array Value) (t : TypeId) : HW w (W.alloc (.cells c t)) ((W.heap.size, c, t) :: l) := by
  refine ⟨fun x hx => ?_, h.bel.alloc h.bel.size _⟩
  rcases List.mem_cons.1 hx with rfl | hx
  · exact heap_alloc_new W _
  · exact row_alloc3 (h.rows x hx) _
theorem HW.two {w W : World} {l : List (Nat × Array Value × TypeId)} (h : HW w W l) (c d : Array Value) (t u : TypeId) : HW w ((W.alloc (.cells c t)).alloc (.cells d u)) ((W.heap.size + 1, d, u) :: (W.heap.size, c, t) :: l) := by
  have := (h.one c t).one d u
  rw [World.size_alloc] at this
  exact this
theorem HW.get {w W : World} {l : List (Nat × Array Value × TypeId)} (h : HW w W l) (n : Nat) (c : Array Value) (t : TypeId) (hx : (n, c, t) ∈ l) : W.heap[n]? = some (.cells c t (0, 0)) := h.rows _ hx

theorem row5p {w : World} {b : Nat} {u0 u1 u2 u3 u4 : Value} {t : TypeId} (hb : w.heap[b]? = some (.cells #[u0, u1, u2, u3, u4] t (0, 0))) :
    w.cell? ⟨b, 0, none⟩ = some u0 ∧ w.cell? ⟨b, 1, none⟩ = some u1 ∧ w.cell? ⟨b, 2, none⟩ = some u2 ∧ w.cell? ⟨b, 3, none⟩ = some u3 ∧ w.cell? ⟨b, 4, none⟩ = some u4 := by
  refine ⟨?_, ?_, ?_, ?_, ?_⟩ <;> simp [World.cell?, hb]
theorem row6p {w : World} {b : Nat} {u0 u1 u2 u3 u4 u5 : Value} {t : TypeId} (hb : w.heap[b]? = some (.cells #[u0, u1, u2, u3, u4, u5] t (0, 0))) :
    w.cell? ⟨b, 0, none⟩ = some u0 ∧ w.cell? ⟨b, 1, none⟩ = some u1 ∧ w.cell? ⟨b, 2, none⟩ = some u2 ∧ w.cell? ⟨b, 3, none⟩ = some u3 ∧ w.cell? ⟨b, 4, none⟩ = some u4 ∧ w.cell? ⟨b, 5, none⟩ = some u5 := by
  refine ⟨?_, ?_, ?_, ?_, ?_, ?_⟩ <;> simp [World.cell?, hb]
end Go.Proofs.YtpobdmkidopnnaaGreatDoor
namespace Go.Proofs.YtpobdmkidopnnaaGreatDoor
open Go Go.RowKit Go.Shelf

set_option maxHeartbeats 400000 in
theorem Arr_anyF (a : Option Addr) (n c : Nat) (w : World) : Calls Tryz.prog 24 #[.slice a n c] w fun e w' => e = .returned (.agg #[.int .i64 5, .float .f64 0, .string ⟨#[]⟩, .slice a n c, .slice none 0 0]) ∧ Below w.heap.size w w' := by
  have hsf := run_store_float Tryz.prog
  obtain ⟨i0, hi0, hz0, hz1, hz2⟩ := info_parts infoVal
  go_enter Tryz.func24, Tryz.ntmps24
  go_wp2_with fail
  refine bodyPost_ret_by (results_cell_row rfl _ _ w.heap.size 27 _ (0, 0) _ rfl (heap_alloc_new w _) Tryz.underlying27 rfl (by rw [hi0]; simp [hz1])) rfl ?_
  exact ⟨rfl, (Below.refl w.heap.size w).alloc (Nat.le_refl _) _⟩
set_option maxHeartbeats 400000 in
theorem Bool_true (w : World) : Calls Tryz.prog 39 #[.bool true] w fun e w' => e = .returned (.agg #[.int .i64 2, .float .f64 0, .string ⟨#[]⟩, .slice none 0 0, .slice none 0 0]) ∧ Below w.heap.size w w' := by
  have hsf := run_store_float Tryz.prog
  obtain ⟨i0, hi0, hz0, hz1, hz2⟩ := info_parts infoVal
  go_enter Tryz.func39, Tryz.ntmps39
  go_wp2_with fail
  refine bodyPost_ret_by (results_cell_row rfl _ _ w.heap.size 27 _ (0, 0) _ rfl (heap_alloc_new w _) Tryz.underlying27 rfl (by rw [hi0]; simp [hz1])) rfl ?_
  exact ⟨rfl, (Below.refl w.heap.size w).alloc (Nat.le_refl _) _⟩
set_option maxHeartbeats 400000 in
theorem Names_any (w : World) : Calls Tryz.prog 19 #[] w fun e w' => ∃ a, e = .returned (.slice a 9 9) ∧ Below w.heap.size w w' := by
  go_enter Tryz.func19, Tryz.ntmps19
  go_wp2_with fail
  go_ret
  exact ⟨_, rfl, (Below.refl w.heap.size w).alloc (Nat.le_refl _) _⟩
/-- The head's row. -/
def rowLs : List V := [numV 4607182418800017408, strV ⟨#[97, 34, 98]⟩, leafV 0 0 ⟨#[]⟩, leafV 2 0 ⟨#[]⟩]
def rowV : V := .mk 5 0 ⟨#[]⟩ rowLs []
def rowA : Array Value := #[.int .i64 3, .float .f64 4607182418800017408, .string ⟨#[]⟩, .slice none 0 0, .slice none 0 0, .int .i64 4, .float .f64 0, .string ⟨#[97, 34, 98]⟩, .slice none 0 0, .slice none 0 0, .int .i64 0, .float .f64 0, .string ⟨#[]⟩, .slice none 0 0, .slice none 0 0, .int .i64 2, .float .f64 0, .string ⟨#[]⟩, .slice none 0 0, .slice none 0 0]
theorem rowV_at (W : World) (g : Nat) (t : TypeId) (hg : W.heap[g]? = some (.cells rowA t (0, 0))) : At W W.heap.size 2 rowV (.slice (some ⟨g, 0, none⟩) 4 4) nilS := by
  refine ⟨⟨by show (-9223372036854775808 : Int) ≤ 5; omega, by show (5 : Int) ≤ 9223372036854775807; omega, by show 0 < 18446744073709551616; omega, by show 0 ≤ 1048576; omega, by show 4 ≤ 1048576; omega, Nat.zero_le _, Nat.zero_le _⟩, ⟨⟨none, 0, rfl, fun h => absurd h (by simp [rowV, V.ks])⟩, caps_nil⟩, fun A n c e => by cases e; exact ⟨Nat.le_refl _, by unfold maxLen; omega, fun e => by cases e⟩, some ⟨g, 0, none⟩, 4, g, 0, rfl, fun _ => ⟨rfl, (Array.getElem?_eq_some_iff.1 hg).1⟩, fun i hi => ?_⟩
  have h4 : i = 0 ∨ i = 1 ∨ i = 2 ∨ i = 3 := by have : i < 4 := hi; omega
  unfold rowA at hg
  rcases h4 with rfl | rfl | rfl | rfl
  · exact ⟨nilS, nilS, by unfold FiveAt; simp [World.cell?, hg, rowV, rowLs, numV, leafV, V.l, V.k, V.f, V.s, nilS], leaf_at W _ 0 3 4607182418800017408 ⟨#[]⟩ (by omega) (by omega) (by show 0 ≤ _; omega)⟩
  · exact ⟨nilS, nilS, by unfold FiveAt; simp [World.cell?, hg, rowV, rowLs, strV, leafV, V.l, V.k, V.f, V.s, nilS], leaf_at W _ 0 4 0 ⟨#[97, 34, 98]⟩ (by omega) (by omega) (by show 3 ≤ _; omega)⟩
  · exact ⟨nilS, nilS, by unfold FiveAt; simp [World.cell?, hg, rowV, rowLs, leafV, V.l, V.k, V.f, V.s, nilS], leaf_at W _ 0 0 0 ⟨#[]⟩ (by omega) (by omega) (by show 0 ≤ _; omega)⟩
  · exact ⟨nilS, nilS, by unfold FiveAt; simp [World.cell?, hg, rowV, rowLs, leafV, V.l, V.k, V.f, V.s, nilS], leaf_at W _ 0 2 0 ⟨#[]⟩ (by omega) (by omega) (by show 0 ≤ _; omega)⟩
theorem rowV_elems : ElemsOK 1 rowV := by
  intro i hi
  have h4 : i = 0 ∨ i = 1 ∨ i = 2 ∨ i = 3 := by have : i < 4 := hi; omega
  rcases h4 with rfl | rfl | rfl | rfl
  · exact ⟨1, by kernel_rfl, of_decide_eq_true (by kernel_rfl)⟩
  · exact ⟨1, by kernel_rfl, of_decide_eq_true (by kernel_rfl)⟩
  · exact ⟨1, by kernel_rfl, of_decide_eq_true (by kernel_rfl)⟩
  · exact ⟨1, by kernel_rfl, of_decide_eq_true (by kernel_rfl)⟩
def csvT : List UInt8 := [49, 44, 34, 97, 34, 34, 98, 34, 44, 44, 116, 114, 117, 101]
theorem rowV_csv : rowT (fun s => 34 :: (replL LQuot s ++ [34])) 1 [44] rowV = csvT := by kernel_rfl
theorem h_csv (W : World) (hN : NumW W) (g : Nat) (t : TypeId) (hg : W.heap[g]? = some (.cells rowA t (0, 0))) : Calls Tryz.prog 12 #[.string ⟨#[99, 115, 118]⟩, .agg #[.int .i64 5, .float .f64 0, .string ⟨#[]⟩, .slice (some ⟨g, 0, none⟩) 4 4, .slice none 0 0]] W fun e w' => e = .returned (.tuple #[.agg (strA ⟨csvT.toArray⟩), .agg okA]) ∧ Below W.heap.size W w' := by
  have h := F_csv 1 rowV (.slice (some ⟨g, 0, none⟩) 4 4) nilS W hN (rowV_at W g t hg) rfl (by decide) rowV_elems (by rw [rowV_csv]; decide)
  rw [rowV_csv] at h
  exact h
theorem h_sh (W : World) (hN : NumW W) : Calls Tryz.prog 12 #[.string ⟨#[115, 104]⟩, .agg (strA ⟨#[105, 116, 39, 115]⟩)] W fun e w' => e = .returned (.tuple #[.agg (strA ⟨#[39, 105, 116, 39, 92, 39, 39, 115, 39]⟩), .agg okA]) ∧ Below W.heap.size W w' := by
  have e : wordsT 1 (soloV (strV ⟨#[105, 116, 39, 115]⟩)) = [39, 105, 116, 39, 92, 39, 39, 115, 39] := by kernel_rfl
  have h := F_sh1 1 (strV ⟨#[105, 116, 39, 115]⟩) 1 nilS nilS W hN (leaf_at W _ 0 4 0 _ (by omega) (by omega) (by decide)) (by decide) (by decide) (by kernel_rfl) (of_decide_eq_true (by kernel_rfl)) (by rw [e]; decide)
  rw [e] at h
  exact h
theorem h_b64 (W : World) (hN : NumW W) : Calls Tryz.prog 12 #[.string ⟨#[98, 97, 115, 101, 54, 52]⟩, .agg (strA ⟨#[104, 105]⟩)] W fun e w' => e = .returned (.tuple #[.agg (strA ⟨#[97, 71, 107, 61]⟩), .agg okA]) ∧ Below W.heap.size W w' := by
  have e : encL [104, 105] = [97, 71, 107, 61] := by kernel_rfl
  have h := F_base64 ⟨#[104, 105]⟩ (by decide) (by kernel_rfl) W hN
  rw [show (⟨#[104, 105]⟩ : ByteArray).data.toList = [104, 105] from rfl, e] at h
  exact h
theorem h_b64d (W : World) (hN : NumW W) : Calls Tryz.prog 12 #[.string ⟨#[98, 97, 115, 101, 54, 52, 100]⟩, .agg (strA ⟨#[97, 71, 107, 61]⟩)] W fun e w' => e = .returned (.tuple #[.agg (strA ⟨#[104, 105]⟩), .agg okA]) ∧ Below W.heap.size W w' := by
  have e : cleanS ⟨(decL [97, 71, 107, 61]).toArray⟩ = ⟨#[104, 105]⟩ := by kernel_rfl
  have h := F_base64d ⟨#[97, 71, 107, 61]⟩ (by decide) (by kernel_rfl) (by kernel_rfl) (by rw [show (⟨#[97, 71, 107, 61]⟩ : ByteArray).data.toList = [97, 71, 107, 61] from rfl, e]; decide) W hN
  rw [show (⟨#[97, 71, 107, 61]⟩ : ByteArray).data.toList = [97, 71, 107, 61] from rfl, e] at h
  exact h
theorem h_uri (W : World) (hN : NumW W) : Calls Tryz.prog 12 #[.string ⟨#[117, 114, 105]⟩, .agg (strA ⟨#[195, 169, 47, 32]⟩)] W fun e w' => e = .returned (.tuple #[.agg (strA ⟨#[37, 67, 51, 37, 65, 57, 37, 50, 70, 37, 50, 48]⟩), .agg okA]) ∧ Below W.heap.size W w' := by
  have e : uriL (strT 1 (strV ⟨#[195, 169, 47, 32]⟩)) = [37, 67, 51, 37, 65, 57, 37, 50, 70, 37, 50, 48] := by kernel_rfl
  have h := F_uri 1 (strV ⟨#[195, 169, 47, 32]⟩) 1 nilS nilS W hN (leaf_at W _ 0 4 0 _ (by omega) (by omega) (by decide)) (by kernel_rfl) (of_decide_eq_true (by kernel_rfl))
  rw [e] at h
  exact h
theorem h_one (W : World) (hN : NumW W) : Calls Tryz.prog 16 #[.agg #[.int .i64 3, .float .f64 4607182418800017408, .string ⟨#[]⟩, .slice none 0 0, .slice none 0 0]] W fun e w' => e = .returned (.string ⟨#[49]⟩) ∧ Below W.heap.size W w' := by
  have e : strT 1 (numV 4607182418800017408) = [49] := by kernel_rfl
  have h := String_any 1 (numV 4607182418800017408) 1 nilS nilS W hN (leaf_at W _ 0 3 4607182418800017408 _ (by omega) (by omega) (by decide)) (by kernel_rfl) (of_decide_eq_true (by kernel_rfl))
  rw [e] at h
  exact h
end Go.Proofs.YtpobdmkidopnnaaGreatDoor
