/- The document's copy of a value: its walk. -/
import Derived.Test.YtpobdmkidopnnaaGreatDoorGAA
import Derived.Deep.RegionLaw
import Derived.Deep.AppendLies
import Derived.LoopTactic
import Derived.Test.YtpobdmkidopnnaaGreatDoorGAJ
import Derived.Test.YtpobdmkidopnnaaGreatDoorGAK
import Derived.Test.YtpobdmkidopnnaaGreatDoorShelf
import Derived.WalkSpells
import Derived.Deep.RegionWith
namespace Go.Proofs.YtpobdmkidopnnaaGreatDoor
open Go Go.RowKit

theorem infoVal : (Tryz.prog.info? 27).map (fun i => (i.zero, i.size, i.bytes)) = some (some (.agg #[.int .i64 0, .float .f64 0, .string ⟨#[]⟩, .slice none 0 0, .slice none 0 0]), 5, 80) := by kernel_rfl
theorem row5 {w : World} {b : Nat} {u0 u1 u2 u3 u4 : Value} {t : TypeId} (hb : w.heap[b]? = some (.cells #[u0, u1, u2, u3, u4] t (0, 0))) :
    w.cell? ⟨b, 0, none⟩ = some u0 ∧ w.cell? ⟨b, 1, none⟩ = some u1 ∧ w.cell? ⟨b, 2, none⟩ = some u2 ∧ w.cell? ⟨b, 3, none⟩ = some u3 ∧ w.cell? ⟨b, 4, none⟩ = some u4 ∧
      w.frozen? ⟨b, 0, none⟩ = false ∧ w.frozen? ⟨b, 1, none⟩ = false ∧ w.frozen? ⟨b, 2, none⟩ = false ∧ w.frozen? ⟨b, 3, none⟩ = false ∧ w.frozen? ⟨b, 4, none⟩ = false := by
  simp [World.cell?, World.frozen?, hb]
theorem copy_mid {w : World} {v : V} {m : Nat} {box : Array Value} {j : Nat} {lvv kvv : Value} {ps : List (Value × Value)} {W w2 w4 : World} {o : Obj} (hI : CopyInv w v m box j lvv kvv ps W) (h2 : Below W.heap.size W w2) (hgrow : (w2.alloc o).grownBy w4 lvv.ownBlock) :
    w4.cell? ⟨w.heap.size + 1 + 1, 3, none⟩ = some lvv ∧ w4.frozen? ⟨w.heap.size + 1 + 1, 3, none⟩ = false := by
  have l2 := (Array.getElem?_eq_some_iff.1 hI.b2).1
  have hsz := h2.size
  have e : w4.heap[w.heap.size + 1 + 1]? = some (.cells (cellsV v lvv kvv) 27 (0, 0)) := by
    rw [hgrow.block _ (by simp; omega) (fun e => by have := (hI.own.lt _ e.symm).1; omega)]
    refine row_alloc3 ?_ _
    rw [h2.block _ l2]
    exact hI.b2
  obtain ⟨_, _, _, c3, _, _, _, _, z3, _⟩ := row5 e
  exact ⟨c3, z3⟩
theorem copy_low {w : World} {v : V} {m : Nat} {box : Array Value} {j : Nat} {lvv kvv : Value} {ps : List (Value × Value)} {W w2 w4 : World} {o : Obj} (hI : CopyInv w v m box j lvv kvv ps W) (h2 : Below W.heap.size W w2) (hgrow : (w2.alloc o).grownBy w4 lvv.ownBlock)
    (p : Addr) (hp : p.block < w.heap.size + 3) : w4.cell? p = W.cell? p := by
  have l2 := (Array.getElem?_eq_some_iff.1 hI.b2).1
  have hsz := h2.size
  have e : w4.heap[p.block]? = W.heap[p.block]? := by
    rw [hgrow.block _ (by simp; omega) (fun e => by have := (hI.own.lt _ e.symm).1; omega), ← h2.block _ (by omega)]
    exact ((Below.refl w2.heap.size w2).alloc (Nat.le_refl _) o).block p.block (by omega)
  unfold World.cell?
  rw [e]
theorem own_slice {w : World} {base : Nat} {e : TypeId} {size : Nat} {v : Value} {n : Nat} {xs : List Value} (h : w.ownsRow base e size v n xs) : ∃ A n c, v = .slice A n c := by
  rcases h.2 with ⟨rfl, _⟩ | ⟨g, cap, cur, rfl, _⟩
  · exact ⟨_, _, _, rfl⟩
  · exact ⟨_, _, _, rfl⟩
theorem AtP.slices {w : World} {p : Nat → Prop} : ∀ {n : Nat} {v : V} {lv kv : Value}, AtP w p n v lv kv → ∃ a1 n1 c1 a2 n2 c2, lv = .slice a1 n1 c1 ∧ kv = .slice a2 n2 c2
  | 0, _, _, _, h => h.elim
  | n + 1, v, lv, kv, h => by
    obtain ⟨_, ⟨⟨a2, c2, e2, _⟩, _⟩, _, a, c, _, _, e, _⟩ := h
    exact ⟨a, _, c, a2, _, c2, e, e2⟩
theorem own_carry {W w2 : World} {base : Nat} {e : TypeId} {size : Nat} {v : Value} {n : Nat} {xs : List Value} (h : W.ownsRow base e size v n xs) (h2 : Below W.heap.size W w2) (o : Obj) : (w2.alloc o).ownsRow base e size v n xs :=
  (h.kept (row := none) ⟨h2.os, h2.tape, h2.output, h2.size, fun k hk _ => h2.block k hk⟩ (by cases v.ownBlock <;> simp)).alloc o
theorem copy_e2 {w : World} {o0 o1 o2 o3 : Obj} {w1 : World} (hgrow : ((((w.alloc o0).alloc o1).alloc o2).alloc o3).grownBy w1 (some (w.heap.size + 1 + 1 + 1))) : w1.heap[w.heap.size + 1 + 1]? = some o2 := by
  rw [hgrow.block _ (by simp) (fun e => by simp at e)]
  have := heap_alloc_new ((w.alloc o0).alloc o1) o2
  rw [World.size_alloc, World.size_alloc] at this
  exact row_alloc3 this _
theorem carry_call {wr w2 : World} {s B q : Nat} {u1 u2 u3 u4 u5 u6 : Value} (hh : Below wr.heap.size wr w2) (hs : s + 1 + 1 < wr.heap.size) (hB : B < wr.heap.size)
    (x : wr.cell? ⟨s, 3, none⟩ = some u1) (f0 : wr.cell? ⟨B, q, none⟩ = some u2) (f1 : wr.cell? ⟨B, q + 1, none⟩ = some u3) (f2 : wr.cell? ⟨B, q + 2, none⟩ = some u4)
    (f3 : wr.cell? ⟨B, q + 3, none⟩ = some u5) (f4 : wr.cell? ⟨B, q + 4, none⟩ = some u6) :
    w2.cell? ⟨s, 3, none⟩ = some u1 ∧ w2.cell? ⟨B, q, none⟩ = some u2 ∧ w2.cell? ⟨B, q + 1, none⟩ = some u3 ∧ w2.cell? ⟨B, q + 2, none⟩ = some u4 ∧
      w2.cell? ⟨B, q + 3, none⟩ = some u5 ∧ w2.cell? ⟨B, q + 4, none⟩ = some u6 := by
  exact ⟨(hh.cell (p := ⟨s, 3, none⟩) (by show s < _; omega)).trans x, (hh.cell (p := ⟨B, q, none⟩) hB).trans f0, (hh.cell (p := ⟨B, q + 1, none⟩) hB).trans f1,
    (hh.cell (p := ⟨B, q + 2, none⟩) hB).trans f2, (hh.cell (p := ⟨B, q + 3, none⟩) hB).trans f3, (hh.cell (p := ⟨B, q + 4, none⟩) hB).trans f4⟩
def set5 (w : World) (R : Nat) (x0 x1 x2 x3 x4 : Value) : World :=
  ((((w.setCell ⟨R, 0, none⟩ x0).setCell ⟨R, 1, none⟩ x1).setCell ⟨R, 2, none⟩ x2).setCell ⟨R, 3, none⟩ x3).setCell ⟨R, 4, none⟩ x4
theorem row_setAt {w : World} {R : Nat} {cs : Array Value} {t : TypeId} {fr : Nat × Nat} (h : w.heap[R]? = some (.cells cs t fr)) (i : Nat) (x : Value) : (w.setCell ⟨R, i, none⟩ x).heap[R]? = some (.cells (cs.setIfInBounds i x) t fr) := by
  simp [World.setCell, Array.getElem?_modify, h]
theorem set5_row {w : World} {R : Nat} {u0 u1 u2 u3 u4 : Value} {t : TypeId} (h : w.heap[R]? = some (.cells #[u0, u1, u2, u3, u4] t (0, 0))) (x0 x1 x2 x3 x4 : Value) : (set5 w R x0 x1 x2 x3 x4).heap[R]? = some (.cells #[x0, x1, x2, x3, x4] t (0, 0)) := by
  exact row_setAt (row_setAt (row_setAt (row_setAt (row_setAt h 0 x0) 1 x1) 2 x2) 3 x3) 4 x4
theorem set5_other {w : World} {R k : Nat} (h : k ≠ R) (x0 x1 x2 x3 x4 : Value) : (set5 w R x0 x1 x2 x3 x4).heap[k]? = w.heap[k]? := by
  unfold set5
  rw [setCell_other_block _ h, setCell_other_block _ h, setCell_other_block _ h, setCell_other_block _ h, setCell_other_block _ h]
theorem set5_size (w : World) (R : Nat) (x0 x1 x2 x3 x4 : Value) : (set5 w R x0 x1 x2 x3 x4).heap.size = w.heap.size := by
  simp only [set5, World.setCell, Array.size_modify]
theorem copy_end {w : World} {v : V} {m : Nat} {box : Array Value} {lvv kvv : Value} {ps : List (Value × Value)} {W : World} (hs : Small v) (hI : CopyInv w v m box v.l.length lvv kvv ps W) (x0 x1 x2 x3 x4 : Value) :
    AtP (set5 W (w.heap.size + 1) x0 x1 x2 x3 x4) (fun b => w.heap.size ≤ b ∧ b < (set5 W (w.heap.size + 1) x0 x1 x2 x3 x4).heap.size) (m + 1) v lvv kvv ∧ Below w.heap.size w (set5 W (w.heap.size + 1) x0 x1 x2 x3 x4) := by
  have hb := hI.bel
  refine ⟨AtP.more (fun b hb => ⟨by have := hb.1; omega, by rw [set5_size]; exact hb.2.1⟩) _ _ _ _ (AtP.keep (fun a ha => cell_of_block (set5_other (by have := ha.1; omega) ..)) _ _ _ _ (copy_done hs hI)), ?_⟩
  have q : w.heap.size ≤ w.heap.size + 1 := by omega
  unfold set5
  exact ((((hb.setCell (p := ⟨w.heap.size + 1, 0, none⟩) q x0).setCell (p := ⟨w.heap.size + 1, 1, none⟩) q x1).setCell (p := ⟨w.heap.size + 1, 2, none⟩) q x2).setCell (p := ⟨w.heap.size + 1, 3, none⟩) q x3).setCell (p := ⟨w.heap.size + 1, 4, none⟩) q x4
end Go.Proofs.YtpobdmkidopnnaaGreatDoor
namespace Go.Proofs.YtpobdmkidopnnaaGreatDoor
open Go Go.RowKit

theorem spot_none {w : World} {a : Addr} {u : Value} (h : w.cell? a = some u) : a = ⟨a.block, a.off, none⟩ := by
  obtain ⟨b, o, s⟩ := a
  unfold World.cell? at h
  cases s with
  | none => rfl
  | some x => simp at h; split at h <;> cases h
set_option maxHeartbeats 400000 in
theorem SClone_any (s : ByteArray) (hs : s.size ≤ 1099511627776) (w : World) :
    Calls Tryz.prog 54 #[.string s] w fun e w' => e = .returned (.string s) ∧ Below w.heap.size w w' := by
  have h1 := Tryz.stringslite_Clone s w (by omega)
  have H1 := Lib.hid h1
  clear h1
  go_enter Tryz.func54, Tryz.ntmps54
  go_wp2_with fail
  refine H1.out.mono ?_
  rintro e w1 ⟨rfl, hb1⟩
  have HB := Lib.hid hb1
  clear hb1
  go_wp2_with fail
  go_ret
  exact ⟨rfl, HB.out⟩
theorem OwnKeys.base {w : World} {B B' : Nat} {v : Value} {ks : List ByteArray} (h : OwnKeys w B v ks) (hb : B' ≤ B) : OwnKeys w B' v ks := own_base h hb
/-- A store of a text in the place where it stands. -/
theorem own_same {w : World} {B g : Nat} {n cap : Nat} {ks : List ByteArray} {i : Nat} (h : w.ownsRow B 9 1 (.slice (some ⟨g, 0, none⟩) n cap) n (ks.map Value.string)) (hi : i < ks.length) :
    w.cell? ⟨g, i, none⟩ = some (.string ks[i]) ∧ w.frozen? ⟨g, i, none⟩ = false ∧ B ≤ g ∧ g < w.heap.size ∧ (w.setCell ⟨g, i, none⟩ (.string ks[i])).ownsRow B 9 1 (.slice (some ⟨g, 0, none⟩) n cap) n (ks.map Value.string) := by
  have hl : ks.length = n := by have := h.1; simpa using this
  rcases h.2 with ⟨e, _⟩ | ⟨g', cap', cur, e, hb, hg, hc1, hc2, hcs, htk⟩
  · cases e
  · cases e
    have hci : cur[i]? = some (.string ks[i]) := by
      have h1 : (cur.toList.take (n * 1))[i]? = some (.string ks[i]) := by rw [htk]; simp [hi]
      rw [List.getElem?_take, if_pos (by omega)] at h1
      simpa using h1
    have hsame : cur.setIfInBounds i (.string ks[i]) = cur := by
      apply Array.ext_getElem?
      intro k
      rw [Array.getElem?_setIfInBounds]
      split
      · rename_i e; subst e
        have hlt := (Array.getElem?_eq_some_iff.1 hci).1
        rw [if_pos hlt, hci]
      · rfl
    refine ⟨by simp [World.cell?, hg, hci], by simp [World.frozen?, hg], hb, (Array.getElem?_eq_some_iff.1 hg).1, h.1, Or.inr ⟨g, cap, cur, rfl, hb, ?_, hc1, hc2, hcs, htk⟩⟩
    simp [World.setCell, Array.getElem?_modify, hg, hsame]
end Go.Proofs.YtpobdmkidopnnaaGreatDoor
namespace Go.Proofs.YtpobdmkidopnnaaGreatDoor
open Go Go.RowKit

theorem pairs_of {n : Nat} {P : Nat → Value → Value → Prop} (h : ∀ i, i < n → ∃ a b, P i a b) : ∃ ps : List (Value × Value), ps.length = n ∧ ∀ i (h : i < ps.length), P i ps[i].1 ps[i].2 := by
  induction n with
  | zero => exact ⟨[], rfl, fun i h => absurd h (by simp)⟩
  | succ n ih =>
    obtain ⟨ps, hl, hp⟩ := ih (fun i hi => h i (by omega))
    obtain ⟨a, b, hab⟩ := h n (by omega)
    refine ⟨ps ++ [(a, b)], by simp [hl], fun i hi => ?_⟩
    by_cases e : i < ps.length
    · rw [List.getElem_append_left e]; exact hp i e
    · have : i = n := by simp at hi; omega
      subst this
      rw [List.getElem_append_right (by omega)]
      simpa [hl] using hab
theorem flat5_len : ∀ (l : List V) (ps : List (Value × Value)), l.length = ps.length → (flat5 l ps).length = l.length * 5
  | [], [], _ => rfl
  | v :: l, p :: ps, h => by
    have := flat5_len l ps (by simpa using h)
    show ((cellsV v p.1 p.2).toList ++ flat5 l ps).length = _
    rw [List.length_append, this, List.length_cons]
    simp [cellsV]
    omega
  | [], _ :: _, h => by simp at h
  | _ :: _, [], h => by simp at h
/-- The cells of a row of values that came in. -/
theorem row_cells {w : World} {b o : Nat} {l : List V} {ps : List (Value × Value)} (hl : ps.length = l.length) (h : ∀ i (h : i < l.length) (h2 : i < ps.length), FiveAt w b (o + i * 5) l[i] ps[i].1 ps[i].2) :
    ∀ j u, (flat5 l ps)[j]? = some u → w.cell? ⟨b, o + j, none⟩ = some u := by
  intro j u hu
  have hj : j < l.length * 5 := by
    have := (List.getElem?_eq_some_iff.1 hu).1
    rw [flat5_len _ _ hl.symm] at this
    exact this
  have hi : j / 5 < l.length := by omega
  have hm : j % 5 < 5 := Nat.mod_lt _ (by omega)
  have e : j = j / 5 * 5 + j % 5 := by omega
  have h5 := h (j / 5) hi (by omega)
  rw [e, flat5_at l ps hl.symm (j / 5) hi (by omega) (j % 5) hm] at hu
  have e2 : o + j = o + j / 5 * 5 + j % 5 := by omega
  rw [e2]
  obtain ⟨q0, q1, q2, q3, q4⟩ := h5
  rcases (by omega : j % 5 = 0 ∨ j % 5 = 1 ∨ j % 5 = 2 ∨ j % 5 = 3 ∨ j % 5 = 4) with k | k | k | k | k <;> rw [k] at hu ⊢ <;> (simp [cellsV] at hu; subst hu; assumption)
theorem flat5_one : ∀ (l : List V) (ps : List (Value × Value)), (∀ i (h : i < ps.length), ∃ A n c A' n' c', ps[i].1 = .slice A n c ∧ ps[i].2 = .slice A' n' c') → ∀ u ∈ flat5 l ps, u.oneCell' = true
  | [], _, _, u, h => by simp [flat5] at h
  | _ :: _, [], _, u, h => by simp [flat5] at h
  | v :: l, p :: ps, hp, u, h => by
    have h : u ∈ (cellsV v p.1 p.2).toList ++ flat5 l ps := h
    rcases List.mem_append.1 h with h | h
    · obtain ⟨A, n, c, A', n', c', e1, e2⟩ := hp 0 (by simp)
      have e1 : p.1 = .slice A n c := e1
      have e2 : p.2 = .slice A' n' c' := e2
      simp [cellsV, e1, e2] at h
      rcases h with rfl | rfl | rfl | rfl | rfl <;> rfl
    · exact flat5_one l ps (fun i hi => by have := hp (i + 1) (by simp; omega); simpa using this) u h
end Go.Proofs.YtpobdmkidopnnaaGreatDoor
namespace Go.Proofs.YtpobdmkidopnnaaGreatDoor
open Go Go.RowKit

/-- A value whose own rows belong to the call; what its elements hold lies in other new blocks. -/
def InV (n0 : Nat) (W : World) (lv kv : Value) (b : Nat) : Prop := n0 ≤ b ∧ b < W.heap.size ∧ some b ≠ lv.ownBlock ∧ some b ≠ kv.ownBlock
structure OwnV (W : World) (n0 m : Nat) (v : V) (lv kv : Value) (ps : List (Value × Value)) : Prop where
  small : Small v
  len : ps.length = v.l.length
  lown : W.ownsRow n0 27 5 lv v.l.length (flat5 v.l ps)
  kown : W.ownsRow n0 9 1 kv v.ks.length (v.ks.map Value.string)
  apart : ∀ g, kv.ownBlock = some g → some g ≠ lv.ownBlock
  each : ∀ i (h : i < v.l.length) (h2 : i < ps.length), AtP W (InV n0 W lv kv) m v.l[i] ps[i].1 ps[i].2
/-- A row of keys of the call's own. -/
theorem own_keysP {W : World} {B n : Nat} {v : Value} {ks : List ByteArray} (h : W.ownsRow B 9 1 v n (ks.map Value.string)) : KeysAtP W (fun b => B ≤ b ∧ b < W.heap.size) v ks := by
  have hl : ks.length = n := by have := h.1; simpa using this
  refine ⟨?_, Caps.of_own h⟩
  rcases id h.2 with ⟨e, h0⟩ | ⟨g, cap, cur, e, hb, hg, _⟩
  · exact ⟨none, 0, by rw [e, List.length_map, hl, h0], fun hh => absurd hh (by rw [List.length_map]; omega)⟩
  · have hcell := h.cells (g := g) (by rw [e]; rfl)
    refine ⟨some ⟨g, 0, none⟩, cap, by rw [e, List.length_map, hl], fun _ => ⟨_, rfl, ⟨hb, (Array.getElem?_eq_some_iff.1 hg).1⟩, fun j u hu => hcell j u hu⟩⟩
/-- Rows of values of the call's own, read. -/
theorem own_five {W : World} {B n : Nat} {lv : Value} {l : List V} {ps : List (Value × Value)} (h : W.ownsRow B 27 5 lv n (flat5 l ps)) (hl : l.length = ps.length) (hn : l.length = n) :
    ∃ (a : Option Addr) (c b o : Nat), lv = .slice a l.length c ∧ (0 < l.length → a = some ⟨b, o, none⟩ ∧ B ≤ b ∧ b < W.heap.size) ∧ ∀ i (h : i < l.length) (h2 : i < ps.length), FiveAt W b (o + i * 5) l[i] ps[i].1 ps[i].2 := by
  rcases h.2 with ⟨e, h0'⟩ | ⟨g, cap, cur, e, hb, hg, _⟩
  · exact ⟨none, 0, 0, 0, by rw [e, hn, h0'], fun h => absurd h (by omega), fun i h => absurd h (by omega)⟩
  · have hcell := h.cells (g := g) (by rw [e]; rfl)
    refine ⟨some ⟨g, 0, none⟩, cap, g, 0, by rw [e, hn], fun _ => ⟨rfl, hb, (Array.getElem?_eq_some_iff.1 hg).1⟩, fun i h h2 => ?_⟩
    have hc : ∀ c u, c < 5 → (cellsV l[i] ps[i].1 ps[i].2)[c]? = some u → W.cell? ⟨g, i * 5 + c, none⟩ = some u := fun c u hc5 hu => by
      have := hcell (i * 5 + c) u (by rw [flat5_at _ _ hl i h h2 c hc5]; exact hu)
      rw [add_zero_off] at this
      exact this
    rw [Nat.zero_add]
    exact ⟨hc 0 _ (by omega) rfl, hc 1 _ (by omega) rfl, hc 2 _ (by omega) rfl, hc 3 _ (by omega) rfl, hc 4 _ (by omega) rfl⟩
theorem OwnV.at {W : World} {n0 m : Nat} {v : V} {lv kv : Value} {ps : List (Value × Value)} (h : OwnV W n0 m v lv kv ps) : AtP W (fun b => n0 ≤ b ∧ b < W.heap.size) (m + 1) v lv kv := by
  obtain ⟨a, c, b, o, e, hab, h5⟩ := own_five h.lown h.len.symm rfl
  exact ⟨h.small, own_keysP h.kown, Caps.of_own h.lown, a, c, b, o, e, hab, fun i hi => ⟨_, _, h5 i hi (by rw [h.len]; exact hi), AtP.more (fun b hb => ⟨hb.1, hb.2.1⟩) _ _ _ _ (h.each i hi (by rw [h.len]; exact hi))⟩⟩
structure CpInv (w : World) (v : V) (m : Nat) (ps0 : List (Value × Value)) (j : Nat) (lvv kvv : Value) (ps : List (Value × Value)) (W : World) : Prop where
  b0 : W.heap[w.heap.size]? = some (.cells (cellsV v lvv kvv) 27 (0, 0))
  b1 : W.heap[w.heap.size + 1]? = some (.cells #[.int .i64 0, .float .f64 0, .string ⟨#[]⟩, .slice none 0 0, .slice none 0 0] 27 (0, 0))
  own : W.ownsRow (w.heap.size + 2) 27 5 lvv v.l.length (flat5 v.l (ps ++ ps0.drop j))
  len : ps.length = j
  le : j ≤ v.l.length
  each : ∀ i (h : i < v.l.length) (h2 : i < ps.length), AtP W (InV (w.heap.size + 2) W lvv kvv) m v.l[i] ps[i].1 ps[i].2
  keys : W.ownsRow (w.heap.size + 2) 9 1 kvv v.ks.length (v.ks.map Value.string)
  apart : ∀ g, kvv.ownBlock = some g → some g ≠ lvv.ownBlock
  bel : Below w.heap.size w W
def set5at (w : World) (R o : Nat) (x0 x1 x2 x3 x4 : Value) : World :=
  ((((w.setCell ⟨R, o, none⟩ x0).setCell ⟨R, o + 1, none⟩ x1).setCell ⟨R, o + 2, none⟩ x2).setCell ⟨R, o + 3, none⟩ x3).setCell ⟨R, o + 4, none⟩ x4
theorem set5at_other {w : World} {R o k : Nat} (h : k ≠ R) (x0 x1 x2 x3 x4 : Value) : (set5at w R o x0 x1 x2 x3 x4).heap[k]? = w.heap[k]? := by
  unfold set5at
  rw [setCell_other_block _ h, setCell_other_block _ h, setCell_other_block _ h, setCell_other_block _ h, setCell_other_block _ h]
theorem set5at_size (w : World) (R o : Nat) (x0 x1 x2 x3 x4 : Value) : (set5at w R o x0 x1 x2 x3 x4).heap.size = w.heap.size := by
  simp only [set5at, World.setCell, Array.size_modify]
theorem set5at_row {w : World} {R o : Nat} {cs : Array Value} {t : TypeId} {fr : Nat × Nat} (h : w.heap[R]? = some (.cells cs t fr)) (x0 x1 x2 x3 x4 : Value) :
    (set5at w R o x0 x1 x2 x3 x4).heap[R]? = some (.cells (((((cs.setIfInBounds o x0).setIfInBounds (o + 1) x1).setIfInBounds (o + 2) x2).setIfInBounds (o + 3) x3).setIfInBounds (o + 4) x4) t fr) :=
  row_setAt (row_setAt (row_setAt (row_setAt (row_setAt h o x0) (o + 1) x1) (o + 2) x2) (o + 3) x3) (o + 4) x4
theorem set5at_below {B R o : Nat} {w w' : World} (h : Below B w w') (hR : B ≤ R) (x0 x1 x2 x3 x4 : Value) : Below B w (set5at w' R o x0 x1 x2 x3 x4) := by
  unfold set5at
  exact ((((h.setCell (p := ⟨R, o, none⟩) hR x0).setCell (p := ⟨R, o + 1, none⟩) hR x1).setCell (p := ⟨R, o + 2, none⟩) hR x2).setCell (p := ⟨R, o + 3, none⟩) hR x3).setCell (p := ⟨R, o + 4, none⟩) hR x4
theorem set_get (cs : Array Value) (o k : Nat) (x0 x1 x2 x3 x4 : Value) (ho : o + 4 < cs.size) :
    (((((cs.setIfInBounds o x0).setIfInBounds (o + 1) x1).setIfInBounds (o + 2) x2).setIfInBounds (o + 3) x3).setIfInBounds (o + 4) x4)[k]? = if o ≤ k ∧ k < o + 5 then (#[x0, x1, x2, x3, x4] : Array Value)[k - o]? else cs[k]? := by
  simp only [Array.getElem?_setIfInBounds, Array.size_setIfInBounds]
  by_cases h : o ≤ k ∧ k < o + 5
  · rw [if_pos h]
    rcases (by omega : k = o ∨ k = o + 1 ∨ k = o + 2 ∨ k = o + 3 ∨ k = o + 4) with e | e | e | e | e
    · subst e; simp; omega
    · subst e; simp; omega
    · subst e; simp; omega
    · subst e; simp; omega
    · subst e; simp; omega
  · rw [if_neg h, if_neg (by omega), if_neg (by omega), if_neg (by omega), if_neg (by omega), if_neg (by omega)]
theorem own_set5 {w : World} {B g n cap j : Nat} {e : TypeId} {l : List V} {qs qs' : List (Value × Value)} (h : w.ownsRow B e 5 (.slice (some ⟨g, 0, none⟩) n cap) n (flat5 l qs)) (hl : l.length = n) (hq : qs.length = n) (hq' : qs'.length = n)
    (hj : j < l.length) (hsame : ∀ i (h : i < qs.length) (h' : i < qs'.length), i ≠ j → qs'[i] = qs[i]) (aa bb : Value) (hnew : ∀ h', qs'[j]'h' = (aa, bb)) :
    (set5at w g (j * 5) (.int .i64 l[j].k) (.float .f64 l[j].f) (.string l[j].s) aa bb).ownsRow B e 5 (.slice (some ⟨g, 0, none⟩) n cap) n (flat5 l qs') := by
  refine ⟨by rw [flat5_len l qs' (by omega), hl], ?_⟩
  rcases h.2 with ⟨e0, _⟩ | ⟨g', cap', cur, e0, hb, hg, hc1, hc2, hcs, htk⟩
  · cases e0
  · cases e0
    refine Or.inr ⟨g, cap, _, rfl, hb, set5at_row hg .., hc1, hc2, by simp [hcs], ?_⟩
    apply List.ext_getElem?
    intro k
    by_cases hk : k < n * 5
    · rw [List.getElem?_take, if_pos hk, Array.getElem?_toList, set_get _ _ _ _ _ _ _ _ (by rw [hcs]; omega)]
      have hi : k / 5 < l.length := by omega
      have hm : k % 5 < 5 := Nat.mod_lt _ (by omega)
      have ek : k = k / 5 * 5 + k % 5 := by omega
      have hr := flat5_at l qs' (by omega) (k / 5) hi (by omega) (k % 5) hm
      rw [← ek] at hr
      rw [hr]
      by_cases hkj : k / 5 = j
      · rw [if_pos (by omega)]
        have e1 : k - j * 5 = k % 5 := by omega
        rw [e1]
        subst hkj
        rw [hnew (by omega)]
        rfl
      · rw [if_neg (by omega), hsame (k / 5) (by omega) (by omega) hkj]
        have h0 := flat5_at l qs (by omega) (k / 5) hi (by omega) (k % 5) hm
        rw [← ek] at h0
        rw [← h0, ← htk, List.getElem?_take, if_pos hk, Array.getElem?_toList]
    · rw [List.getElem?_take, if_neg hk, List.getElem?_eq_none (by rw [flat5_len l qs' (by omega)]; omega)]
theorem own_heap {w w' : World} {B : Nat} {e : TypeId} {size : Nat} {v : Value} {n : Nat} {xs : List Value} (h : w.ownsRow B e size v n xs) (hk : ∀ k, k < w.heap.size → w'.heap[k]? = w.heap[k]?) : w'.ownsRow B e size v n xs := by
  refine ⟨h.1, ?_⟩
  rcases h.2 with h1 | ⟨g, cap, cur, h1, h2, h3, h4⟩
  · exact Or.inl h1
  · exact Or.inr ⟨g, cap, cur, h1, h2, (hk g (Array.getElem?_eq_some_iff.1 h3).1).trans h3, h4⟩
theorem own_set5at {w : World} {base : Nat} {e : TypeId} {size n g o : Nat} {v : Value} {xs : List Value} (h : w.ownsRow base e size v n xs) (hg : some g ≠ v.ownBlock) (x0 x1 x2 x3 x4 : Value) : (set5at w g o x0 x1 x2 x3 x4).ownsRow base e size v n xs := by
  refine ⟨h.1, ?_⟩
  rcases h.2 with h1 | ⟨g', cap, cur, h1, h2, h3, h4⟩
  · exact Or.inl h1
  · exact Or.inr ⟨g', cap, cur, h1, h2, (set5at_other (fun e => hg (by rw [h1, ← e]; rfl)) ..).trans h3, h4⟩
theorem cp_step {w : World} {v : V} {m : Nat} {ps0 : List (Value × Value)} {j g cap : Nat} {kvv : Value} {ps : List (Value × Value)} {W w2 : World} {aa bb : Value}
    (hI : CpInv w v m ps0 j (.slice (some ⟨g, 0, none⟩) v.l.length cap) kvv ps W) (h0 : ps0.length = v.l.length) (hj : j < v.l.length)
    (h2 : Below W.heap.size W w2) (hat : AtP w2 (fun b => W.heap.size ≤ b ∧ b < w2.heap.size) m v.l[j] aa bb) :
    CpInv w v m ps0 (j + 1) (.slice (some ⟨g, 0, none⟩) v.l.length cap) kvv (ps ++ [(aa, bb)]) (set5at w2 g (j * 5) (.int .i64 v.l[j].k) (.float .f64 v.l[j].f) (.string v.l[j].s) aa bb) := by
  obtain ⟨b0, b1, own, len, le, each, keys, apart, bel⟩ := hI
  have hsz := h2.size
  have hs0 := bel.size
  have hgl : w.heap.size + 2 ≤ g ∧ g < W.heap.size := own.lt g rfl
  have l1 := (Array.getElem?_eq_some_iff.1 b1).1
  have hkg : some g ≠ kvv.ownBlock := fun e => apart g e.symm rfl
  have hq1 : ∀ b, InV (w.heap.size + 2) W (.slice (some ⟨g, 0, none⟩) v.l.length cap) kvv b → InV (w.heap.size + 2) (set5at w2 g (j * 5) (.int .i64 v.l[j].k) (.float .f64 v.l[j].f) (.string v.l[j].s) aa bb) (.slice (some ⟨g, 0, none⟩) v.l.length cap) kvv b :=
    fun b hb => ⟨hb.1, by rw [set5at_size]; have := hb.2.1; omega, hb.2.2⟩
  have hq2 : ∀ b, W.heap.size ≤ b ∧ b < w2.heap.size → InV (w.heap.size + 2) (set5at w2 g (j * 5) (.int .i64 v.l[j].k) (.float .f64 v.l[j].f) (.string v.l[j].s) aa bb) (.slice (some ⟨g, 0, none⟩) v.l.length cap) kvv b :=
    fun b hb => ⟨by omega, by rw [set5at_size]; exact hb.2, fun e => by simp [Value.ownBlock] at e; omega, fun e => by have := (keys.lt b e.symm).2; omega⟩
  have k1 : ∀ p : Addr, InV (w.heap.size + 2) W (.slice (some ⟨g, 0, none⟩) v.l.length cap) kvv p.block → (set5at w2 g (j * 5) (.int .i64 v.l[j].k) (.float .f64 v.l[j].f) (.string v.l[j].s) aa bb).cell? p = W.cell? p := fun p hp =>
    cell_of_block ((set5at_other (fun e => hp.2.2.1 (by rw [e]; rfl)) ..).trans (h2.block _ hp.2.1))
  have k2 : ∀ p : Addr, (W.heap.size ≤ p.block ∧ p.block < w2.heap.size) → (set5at w2 g (j * 5) (.int .i64 v.l[j].k) (.float .f64 v.l[j].f) (.string v.l[j].s) aa bb).cell? p = w2.cell? p := fun p hp =>
    cell_of_block (set5at_other (by omega) ..)
  refine ⟨?_, ?_, ?_, by simp [len], hj, ?_, own_set5at (own_heap keys (fun k hk => h2.block k hk)) hkg .., apart, set5at_below (bel.trans (h2.mono hs0)) (by omega) ..⟩
  · rw [set5at_other (by omega), h2.block _ (by omega)]; exact b0
  · rw [set5at_other (by omega), h2.block _ (by omega)]; exact b1
  · refine own_set5 (own_heap own (fun k hk => h2.block k hk)) rfl (by simp [len, h0]; omega) (by simp [len, h0]; omega) hj ?_ aa bb ?_
    · intro i hi hi' hne
      by_cases hlt : i < j
      · rw [List.getElem_append_left (by simp [len]; omega), List.getElem_append_left (by omega), List.getElem_append_left (by omega)]
      · rw [List.getElem_append_right (by simp [len]; omega), List.getElem_append_right (by omega)]
        simp only [List.getElem_drop, List.length_append, List.length_cons, List.length_nil, len]
        congr 1
        omega
    · intro h'
      rw [List.getElem_append_left (by simp [len]), List.getElem_append_right (by omega)]
      simp [len]
  · intro i h h2'
    by_cases hi : i < ps.length
    · rw [List.getElem_append_left hi]
      exact AtP.more hq1 _ _ _ _ (AtP.keep k1 _ _ _ _ (each i h hi))
    · have hij : i = j := by rw [List.length_append, len] at h2'; simp at h2'; omega
      subst hij
      rw [List.getElem_append_right (by omega)]
      have e0 : i - ps.length = 0 := by omega
      simp only [e0, List.getElem_cons_zero]
      exact AtP.more hq2 _ _ _ _ (AtP.keep k2 _ _ _ _ hat)
theorem cp_done {w : World} {v : V} {m : Nat} {ps0 : List (Value × Value)} {lvv kvv : Value} {ps : List (Value × Value)} {W : World} (hs : Small v) (h0 : ps0.length = v.l.length) (hI : CpInv w v m ps0 v.l.length lvv kvv ps W) :
    OwnV W (w.heap.size + 2) m v lvv kvv ps := by
  obtain ⟨b0, b1, own, len, le, each, keys, apart, bel⟩ := hI
  have hdrop : ps ++ ps0.drop v.l.length = ps := by rw [List.drop_of_length_le (by omega), List.append_nil]
  rw [hdrop] at own
  exact ⟨hs, len, own, keys, apart, each⟩
/-- Stores below what is owned leave it. -/
theorem OwnV.low {W W' : World} {n0 m : Nat} {v : V} {lv kv : Value} {ps : List (Value × Value)} (h : OwnV W n0 m v lv kv ps) (hb : ∀ k, n0 ≤ k → k < W.heap.size → W'.heap[k]? = W.heap[k]?) (hz : W.heap.size ≤ W'.heap.size) : OwnV W' n0 m v lv kv ps := by
  obtain ⟨hs, len, lown, kown, apart, each⟩ := h
  have ho : ∀ {e : TypeId} {size n : Nat} {u : Value} {xs : List Value}, W.ownsRow n0 e size u n xs → W'.ownsRow n0 e size u n xs := fun h => by
    refine ⟨h.1, ?_⟩
    rcases h.2 with h1 | ⟨g, cap, cur, h1, h2, h3, h4⟩
    · exact Or.inl h1
    · exact Or.inr ⟨g, cap, cur, h1, h2, (hb g h2 (Array.getElem?_eq_some_iff.1 h3).1).trans h3, h4⟩
  exact ⟨hs, len, ho lown, ho kown, apart, fun i h1 h2 => AtP.more (fun b hb => ⟨hb.1, Nat.lt_of_lt_of_le hb.2.1 hz, hb.2.2⟩) _ _ _ _ (AtP.keep (fun p hp => cell_of_block (hb _ hp.1 hp.2.1)) _ _ _ _ (each i h1 h2))⟩
theorem OwnV.base {W : World} {n0 n1 m : Nat} {v : V} {lv kv : Value} {ps : List (Value × Value)} (h : OwnV W n0 m v lv kv ps) (hn : n1 ≤ n0) : OwnV W n1 m v lv kv ps :=
  ⟨h.small, h.len, own_base h.lown hn, own_base h.kown hn, h.apart, fun i h1 h2 => AtP.more (fun _b hb => ⟨Nat.le_trans hn hb.1, hb.2⟩) _ _ _ _ (h.each i h1 h2)⟩
theorem own_slC {w : World} {base : Nat} {e : TypeId} {size : Nat} {v : Value} {n : Nat} {xs : List Value} (h : w.ownsRow base e size v n xs) : ∃ A c, v = .slice A n c := by
  rcases h.2 with ⟨rfl, rfl⟩ | ⟨g, cap, cur, rfl, _⟩
  · exact ⟨_, _, rfl⟩
  · exact ⟨_, _, rfl⟩
theorem own_setC {w : World} {base : Nat} {e : TypeId} {size n : Nat} {v : Value} {xs : List Value} {b i : Nat} (h : w.ownsRow base e size v n xs) (hb : b < base) (x : Value) : (w.setCell ⟨b, i, none⟩ x).ownsRow base e size v n xs := by
  refine ⟨h.1, ?_⟩
  rcases h.2 with h1 | ⟨g, cap, cur, h1, h2, h3, h4⟩
  · exact Or.inl h1
  · exact Or.inr ⟨g, cap, cur, h1, h2, (setCell_other_block _ (by omega)).trans h3, h4⟩
end Go.Proofs.YtpobdmkidopnnaaGreatDoor
namespace Go.Proofs.YtpobdmkidopnnaaGreatDoor
open Go Go.RowKit

end Go.Proofs.YtpobdmkidopnnaaGreatDoor
