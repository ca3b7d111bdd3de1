/- slices.Delete of one value, in place, in a row of the call's own. -/
import Derived.Test.YtkklfdfmfdnjoaaGreatDoorQPut
import Derived.Deep.RegionLaw
import Derived.Lib.SliceRun
import Derived.Deep.MidRow
import Derived.Test.YtkklfdfmfdnjoaaGreatDoorShelf
import Derived.Test.YtkklfdfmfdnjoaaGreatDoorQSame
namespace Go.Proofs.YtkklfdfmfdnjoaaGreatDoor
open Go Go.RowKit

theorem setCells_rowV {t : TypeId} {fr : Nat × Nat} (g : Nat) : ∀ (vs : List Value) (o : Nat) (w : World) (cur : Array Value), w.heap[g]? = some (.cells cur t fr) →
    ∃ cur' : Array Value, (w.setCells g o vs).heap[g]? = some (.cells cur' t fr) ∧ cur'.size = cur.size ∧ ∀ k, k < cur.size → cur'[k]? = if o ≤ k ∧ k < o + vs.length then vs[k - o]? else cur[k]?
  | [], o, w, cur, h => ⟨cur, h, rfl, fun k _ => by rw [if_neg (by simp)]⟩
  | v :: r, o, w, cur, h => by
    obtain ⟨cur', h1, h2, h3⟩ := setCells_rowV g r (o + 1) (w.setCell ⟨g, o, none⟩ v) _ (row_setAt h o v)
    rw [Array.size_setIfInBounds] at h2 h3
    refine ⟨cur', h1, h2, fun k hk => ?_⟩
    rw [h3 k hk]
    by_cases hko : k = o
    · subst hko
      rw [if_neg (by omega), if_pos (by simp), Nat.sub_self, Array.getElem?_setIfInBounds_self_of_lt hk]
      rfl
    · rw [Array.getElem?_setIfInBounds_ne (by omega)]
      by_cases hin : o + 1 ≤ k ∧ k < o + 1 + r.length
      · rw [if_pos hin, if_pos (by rw [List.length_cons]; omega), show k - o = (k - (o + 1)) + 1 by omega, List.getElem?_cons_succ]
      · rw [if_neg hin, if_neg (by rw [List.length_cons]; omega)]
theorem below_setCellsV {B b : Nat} {a : World} (hb : B ≤ b) : ∀ (vs : List Value) (o : Nat) (w : World), Below B a w → Below B a (w.setCells b o vs)
  | [], _, _, h => h
  | v :: r, o, _w, h => below_setCellsV hb r (o + 1) _ (h.setCell (p := ⟨b, o, none⟩) hb v)
theorem setCells_otherV {g k : Nat} (h : k ≠ g) : ∀ (vs : List Value) (o : Nat) (w : World), (w.setCells g o vs).heap[k]? = w.heap[k]?
  | [], _, _ => rfl
  | _v :: r, o, _w => (setCells_otherV h r (o + 1) _).trans (setCell_other_block _ h)
def zero5 : List Value := [.int .i64 0, .float .f64 0, .string ⟨#[]⟩, .slice none 0 0, .slice none 0 0]
theorem zero_runV (w : World) : (zeroValue 27).run Tryz.prog w = .ok (.agg #[.int .i64 0, .float .f64 0, .string ⟨#[]⟩, .slice none 0 0, .slice none 0 0]) w := by
  have hz : Tryz.t27.zero = some (.agg #[.int .i64 0, .float .f64 0, .string ⟨#[]⟩, .slice none 0 0, .slice none 0 0]) := by kernel_rfl
  simp [zeroValue, hz]
theorem run_clear_five (w : World) (ty : TypeId) (b o c : Nat)
    (hc : ∀ j, j < 5 → (w.cell? ⟨b, o + j, none⟩).isSome = true) (hf : ∀ j, j < 5 → w.frozen? ⟨b, o + j, none⟩ = false) :
    (Builtin.clear_ #[24] ty #[.slice (some ⟨b, o, none⟩) 1 c]).run Tryz.prog w = .ok (.tuple #[]) (w.setCells b o zero5) := by
  have hzc : (Builtin.zeroCells (Value.agg #[.int .i64 0, .float .f64 0, .string ⟨#[]⟩, .slice none 0 0, .slice none 0 0]).cells 1).toList = zero5 := by kernel_rfl
  have hst := run_storeCells_cells (P := Tryz.prog) b o zero5 0 w (fun j hj => by simpa using hc j hj) (fun j hj => by simpa using hf j hj) (by intro v hv'; simp [zero5] at hv'; rcases hv' with rfl | rfl | rfl | rfl | rfl <;> rfl)
  simp only [Nat.add_zero] at hst
  simp [Builtin.clear_, run_underlying Tryz.underlying24, hzc, hst]
set_option maxRecDepth 100000 in
set_option maxHeartbeats 2000000 in
theorem DeleteV_run (B g m cap i : Nat) (xs : List Value) (w : World) (hone : ∀ u ∈ xs, u.oneCell' = true) (hi : i ≤ m) (hs : m + 1 ≤ 1048576) (h : w.ownsRow B 27 5 (.slice (some ⟨g, 0, none⟩) (m + 1) cap) (m + 1) xs) :
    Calls Tryz.prog 82 #[.slice (some ⟨g, 0, none⟩) (m + 1) cap, .int .i64 i, .int .i64 (i + 1)] w fun e w' => e = .returned (.slice (some ⟨g, 0, none⟩) m cap) ∧ w' = (w.drew.setCells g (i * 5) (xs.drop ((i + 1) * 5))).setCells g (m * 5) zero5 := by
  obtain ⟨i0, hi0, hz0, hz1, hz2⟩ := info_parts infoVal
  have hxl := h.1
  rcases id h.2 with ⟨q, _⟩ | ⟨g', cap', cur, q, hgb, hgh, hcap, hcm, hgs, htk⟩
  · cases q
  cases q
  have hcells := h.cells (g := g) rfl
  obtain ⟨news, hnews⟩ : ∃ news, news = xs.drop ((i + 1) * 5) := ⟨_, rfl⟩
  have hlen : news.length = (m - i) * 5 := by rw [hnews, List.length_drop, hxl]; omega
  have hfz : ∀ q, w.frozen? ⟨g, q, none⟩ = false := fun q => by simp [World.frozen?, hgh]
  have hthere : ∀ q, q < cap * 5 → (w.cell? ⟨g, q, none⟩).isSome = true := fun q hq => by
    simp [World.cell?, hgh, hgs]
    omega
  obtain ⟨A, hA, hsrc⟩ : ∃ A : Addr, (if cap = i + 1 then some (⟨g, 0, none⟩ : Addr) else some ⟨g, (i + 1) * 5, none⟩) = some A ∧ Hid (∀ t u, news[t]? = some u → w.drew.cell? (A.add t) = some u) := by
    by_cases hc : cap = i + 1
    · refine ⟨⟨g, 0, none⟩, by simp [hc], Lib.hid fun t u hu => ?_⟩
      have h0 : news.length = 0 := by rw [hlen]; omega
      rw [List.length_eq_zero_iff.1 h0] at hu
      simp at hu
    · refine ⟨⟨g, (i + 1) * 5, none⟩, by simp [hc], Lib.hid fun t u hu => ?_⟩
      rw [hnews, List.getElem?_drop] at hu
      have := hcells _ u hu
      rw [add_zero_off] at this
      rw [Addr.add_lit]
      exact this
  have s1 : Hid (news.length = (m - i) * 5) := Lib.hid hlen
  have s2 : Hid (∀ u ∈ news, u.oneCell' = true) := Lib.hid fun u hu => hone u (List.mem_of_mem_drop (hnews ▸ hu))
  have s3 : Hid (∀ t, t < news.length → (w.drew.cell? ⟨g, 0 + i * 5 + t, none⟩).isSome = true ∧ w.drew.frozen? ⟨g, 0 + i * 5 + t, none⟩ = false) := Lib.hid fun t ht => by
    rw [hlen] at ht
    exact ⟨hthere _ (by omega), hfz _⟩
  obtain ⟨W1, hW1⟩ : ∃ W1, W1 = w.drew.setCells g (0 + i * 5) news := ⟨_, rfl⟩
  have hcl : ∀ ty, (Builtin.clear_ #[24] ty #[.slice (some ⟨g, m * 5, none⟩) 1 (cap - m)]).run Tryz.prog W1 = .ok (.tuple #[]) (W1.setCells g (m * 5) zero5) := fun ty =>
    run_clear_five W1 ty g (m * 5) (cap - m) (fun j hj => by rw [hW1]; exact World.isSome_setCells g _ _ _ _ (hthere _ (by omega))) (fun j hj => by rw [hW1, World.frozen?_setCells]; exact hfz _)
  have X : Hid (W1 = w.drew.setCells g (i * 5) news) := Lib.hid (by rw [hW1, Nat.zero_add])
  have hW : Hid (W1 = w.drew.setCells g (0 + i * 5) news) := Lib.hid hW1
  have hN : Hid (news = xs.drop ((i + 1) * 5)) := Lib.hid hnews
  have hic : i ≤ cap := by omega
  have hjc : i + 1 ≤ cap := by omega
  have mixed : Tryz.prog.follows Departure.mixedOrders = true := by kernel_rfl
  have hnn : (0 : Int) ≤ (i : Int) + 1 := by omega
  clear hW1 hgh hfz hthere hcells hnews hlen h hone hxl htk hgs
  go_enter Tryz.func82, Tryz.ntmps82
  go_wp2_with fail
  go_region_law_o (refine step_append_room rfl (.tmp 22) (.tmp 25) 24 rfl 27 i0 5 Tryz.underlying24 hi0 hz1 g 0 i cap (by simp [Act.eval, Act.put]) A (m - i) (cap - (i + 1)) news (by simp [Act.eval, Act.put]) s1.out hsrc.out s2.out (by omega) s3.out ?_; rw [← hW.out, show i + (m - i) = m by omega])
  go_wp2
  go_ret
  exact ⟨rfl, by rw [X.out, hN.out]⟩
theorem flat5_erase : ∀ (l : List V) (qs : List (Value × Value)) (i : Nat), i < l.length → i < qs.length → flat5 (l.eraseIdx i) (qs.eraseIdx i) = (flat5 l qs).take (i * 5) ++ (flat5 l qs).drop ((i + 1) * 5)
  | [], _, _, h, _ => absurd h (by simp)
  | _ :: _, [], _, _, h => absurd h (by simp)
  | v :: l, q :: qs, 0, _, _ => by
    rw [List.eraseIdx_cons_zero, List.eraseIdx_cons_zero]
    show flat5 l qs = [] ++ flat5 l qs
    rfl
  | v :: l, q :: qs, i + 1, h1, h2 => by
    rw [List.eraseIdx_cons_succ, List.eraseIdx_cons_succ]
    have ih := flat5_erase l qs i (by simpa using h1) (by simpa using h2)
    have e : ∀ (l : List V) (qs : List (Value × Value)), flat5 (v :: l) (q :: qs) = [Value.int .i64 v.k, .float .f64 v.f, .string v.s, q.1, q.2] ++ flat5 l qs := fun _ _ => rfl
    rw [e, e, ih, show (i + 1 + 1) * 5 = i * 5 + 5 + 5 by omega, show (i + 1) * 5 = i * 5 + 5 by omega]
    rfl
theorem delV_own {B g m cap i : Nat} {xs : List Value} {w : World} (hi : i ≤ m) (h : w.ownsRow B 27 5 (.slice (some ⟨g, 0, none⟩) (m + 1) cap) (m + 1) xs) :
    ((w.drew.setCells g (i * 5) (xs.drop ((i + 1) * 5))).setCells g (m * 5) zero5).ownsRow B 27 5 (.slice (some ⟨g, 0, none⟩) m cap) m (xs.take (i * 5) ++ xs.drop ((i + 1) * 5)) := by
  have hxl := h.1
  rcases id h.2 with ⟨q, _⟩ | ⟨g', cap', cur, q, hgb, hgh, hcap, hcm, hgs, htk⟩
  · cases q
  cases q
  obtain ⟨c1, r1, z1, k1⟩ := setCells_rowV g (xs.drop ((i + 1) * 5)) (i * 5) w.drew cur hgh
  obtain ⟨c2, r2, z2, k2⟩ := setCells_rowV g zero5 (m * 5) _ c1 r1
  have hdl : (xs.drop ((i + 1) * 5)).length = (m - i) * 5 := by rw [List.length_drop, hxl]; omega
  have htl : (xs.take (i * 5)).length = i * 5 := by rw [List.length_take, hxl]; omega
  refine ⟨by rw [List.length_append, htl, hdl]; omega, Or.inr ⟨g, cap, c2, rfl, hgb, r2, by omega, hcm, by omega, ?_⟩⟩
  apply List.ext_getElem?
  intro k
  have hxs : ∀ j, j < (m + 1) * 5 → xs[j]? = cur[j]? := fun j hj => by rw [← htk, List.getElem?_take, if_pos hj, Array.getElem?_toList]
  by_cases hk : k < m * 5
  · rw [List.getElem?_take, if_pos hk, Array.getElem?_toList, k2 k (by omega), if_neg (by omega), k1 k (by omega), hdl]
    by_cases hki : k < i * 5
    · rw [if_neg (by omega), List.getElem?_append_left (by omega), List.getElem?_take, if_pos hki, hxs k (by omega)]
    · rw [if_pos (by omega), List.getElem?_append_right (by omega), htl]
  · rw [List.getElem?_take, if_neg hk, List.getElem?_eq_none (by rw [List.length_append, htl, hdl]; omega)]
theorem delV_other {g m i k : Nat} {xs : List Value} {w : World} (hk : k ≠ g) : ((w.drew.setCells g (i * 5) (xs.drop ((i + 1) * 5))).setCells g (m * 5) zero5).heap[k]? = w.heap[k]? :=
  (setCells_otherV hk _ _ _).trans (setCells_otherV hk _ _ _)
theorem delV_below {B g m i : Nat} {xs : List Value} {a w : World} (hg : B ≤ g) (h : Below B a w) : Below B a ((w.drew.setCells g (i * 5) (xs.drop ((i + 1) * 5))).setCells g (m * 5) zero5) :=
  below_setCellsV hg _ _ _ (below_setCellsV hg _ _ _ h.drew)
end Go.Proofs.YtkklfdfmfdnjoaaGreatDoor
/- The program's Drop. -/
namespace Go.Proofs.YtkklfdfmfdnjoaaGreatDoor
open Go Go.RowKit Go.Sort

theorem strs_are (ks : List ByteArray) : Lib.strsOf (fun i => ks.getD i ⟨#[]⟩) ks.length = ks.map fun a => a.data.toList := by
  unfold Lib.strsOf
  apply List.ext_getElem
  · simp
  · intro i h1 h2
    have h : i < ks.length := by simpa using h2
    simp [List.getD, h]
theorem enc_str (a : ByteArray) : encStr a.data.toList = Value.string a := by
  unfold encStr
  cases a
  rfl
theorem DeleteK_any (B g cap i : Nat) (ks : List ByteArray) (w : World) (hi : i < ks.length) (h : w.ownsRow B 9 1 (.slice (some ⟨g, 0, none⟩) ks.length cap) ks.length (ks.map Value.string)) :
    Calls Tryz.prog 81 #[.slice (some ⟨g, 0, none⟩) ks.length cap, .int .i64 i, .int .i64 (i + 1)] w fun e w' => e = .returned (.slice (some ⟨g, 0, none⟩) (ks.length - 1) cap) ∧ w'.ownsRow B 9 1 (.slice (some ⟨g, 0, none⟩) (ks.length - 1) cap) (ks.length - 1) ((ks.eraseIdx i).map Value.string) ∧
      (∀ k, k ≠ g → w'.heap[k]? = w.heap[k]?) ∧ ∀ (C : Nat) (a : World), C ≤ g → Below C a w → Below C a w' := by
  rcases id h.2 with ⟨q, _⟩ | ⟨g', cap', cur, q, hgb, hgh, hcap, hcm, hgs, htk⟩
  · cases q
  cases q
  have hcells := h.cells (g := g) rfl
  refine (Tryz.slices_Delete_string_cells g 0 ks.length cap i (i + 1) (fun i => ks.getD i ⟨#[]⟩) w hcap (by unfold maxLen at hcm; omega) (by omega) (by omega) (fun j hj => ?_) (fun j hj => by simp [World.frozen?, hgh])).mono ?_
  · have := hcells j (.string ks[j]) (by rw [List.getElem?_map, List.getElem?_eq_getElem hj]; rfl)
    rw [add_zero_off] at this
    rw [Nat.zero_add, this]
    simp [List.getD, hj]
  · rintro e w' ⟨rfl, q, rfl⟩
    have hL : (((Lib.strsOf (fun i => ks.getD i ⟨#[]⟩) ks.length).take i ++ (Lib.strsOf (fun i => ks.getD i ⟨#[]⟩) ks.length).drop (i + 1) ++ List.replicate (i + 1 - i) []).map encStr) = (ks.eraseIdx i).map Value.string ++ [.string ⟨#[]⟩] := by
      rw [strs_are, List.eraseIdx_eq_take_drop_succ, List.map_append, List.map_append, List.map_append, List.map_take, List.map_drop, List.map_map, List.map_take, List.map_drop, show (encStr ∘ fun a : ByteArray => a.data.toList) = Value.string from funext enc_str, show i + 1 - i = 1 by omega]
      rfl
    rw [hL]
    have hel : ((ks.eraseIdx i).map Value.string).length = ks.length - 1 := by rw [List.length_map, List.length_eraseIdx_of_lt hi]
    obtain ⟨c1, r1, z1, k1⟩ := setCells_rowV g ((ks.eraseIdx i).map Value.string ++ [.string ⟨#[]⟩]) 0 (w.drewN q) cur hgh
    have hk' := h.1
    simp only [List.length_map, Nat.mul_one] at hk'
    refine ⟨by rw [show i + 1 - i = 1 by omega], ⟨by rw [hel]; omega, Or.inr ⟨g, cap, c1, rfl, hgb, r1, by omega, hcm, by omega, ?_⟩⟩, fun k hk => setCells_otherV hk _ _ _, fun C a hC hb => below_setCellsV hC _ _ _ (below_drewN hb q)⟩
    apply List.ext_getElem?
    intro k
    by_cases hk : k < ks.length - 1
    · rw [List.getElem?_take, if_pos (by omega), Array.getElem?_toList, k1 k (by omega), if_pos (by rw [List.length_append, hel]; simp; omega), List.getElem?_append_left (by omega)]
      rfl
    · rw [List.getElem?_take, if_neg (by omega), List.getElem?_eq_none (by omega)]
end Go.Proofs.YtkklfdfmfdnjoaaGreatDoor
/- The program's Drop: what its memory holds. -/
namespace Go.Proofs.YtkklfdfmfdnjoaaGreatDoor
open Go Go.RowKit

/-- What Drop makes of an object. -/
def dropV (v : V) (K : ByteArray) : V := if Lib.idxOfS v.ks K < 0 then v else .mk v.k v.f v.s (v.l.eraseIdx (Lib.idxOfS v.ks K).toNat) (v.ks.eraseIdx (Lib.idxOfS v.ks K).toNat)
/-- Behind the copy of the object. -/
structure DropA (w : World) (P m : Nat) (bv : Array Value) (v : V) (lv kv : Value) (ps : List (Value × Value)) (W : World) : Prop where
  h0 : W.heap[w.heap.size]? = some (.cells bv 27 (0, 0))
  h2 : W.heap[w.heap.size + 1]? = some (.cells #[.int .i64 0, .float .f64 0, .string ⟨#[]⟩, .slice none 0 0, .slice none 0 0] 27 (0, 0))
  hP : W.heap[P]? = some (.cells (cellsV v lv kv) 27 (0, 0))
  nP : w.heap.size + 2 ≤ P
  own : OwnH W (w.heap.size + 2) P m v lv kv ps
  at_ : AtP W (fun b => w.heap.size + 2 ≤ b ∧ b < P) (m + 1) v lv kv
  bel : Below w.heap.size w W
theorem DropA.lt {w : World} {P m : Nat} {bv : Array Value} {v : V} {lv kv : Value} {ps : List (Value × Value)} {W : World} (h : DropA w P m bv v lv kv ps W) : P < W.heap.size := (Array.getElem?_eq_some_iff.1 h.hP).1
theorem DropA.below {w : World} {P m : Nat} {bv : Array Value} {v : V} {lv kv : Value} {ps : List (Value × Value)} {W W' : World} (h : DropA w P m bv v lv kv ps W) (hb : Below W.heap.size W W') : DropA w P m bv v lv kv ps W' := by
  have := h.lt
  have := h.nP
  exact ⟨(hb.block _ (by omega)).trans h.h0, (hb.block _ (by omega)).trans h.h2, (hb.block _ (by omega)).trans h.hP, h.nP, h.own.keep (fun k _ hk => hb.block k (by omega)), AtP.keep (fun p hp => cell_of_block (hb.block _ (by have := hp.2; omega))) _ _ _ _ h.at_, h.bel.trans (hb.mono h.bel.size)⟩
/-- Behind the key that is gone. -/
structure DropB (w : World) (P m gl : Nat) (v : V) (ks : List ByteArray) (lv kv : Value) (ps : List (Value × Value)) (W : World) : Prop where
  h2 : W.heap[w.heap.size + 1]? = some (.cells #[.int .i64 0, .float .f64 0, .string ⟨#[]⟩, .slice none 0 0, .slice none 0 0] 27 (0, 0))
  hP : W.heap[P]? = some (.cells #[.int .i64 v.k, .float .f64 v.f, .string v.s, lv, kv] 27 (0, 0))
  nP : w.heap.size + 2 ≤ P
  len : ps.length = v.l.length
  lown : W.ownsRow (w.heap.size + 2) 27 5 lv v.l.length (flat5 v.l ps)
  kown : W.ownsRow (w.heap.size + 2) 9 1 kv ks.length (ks.map Value.string)
  apart : ∀ g, kv.ownBlock = some g → g ≠ gl ∧ g ≠ P
  lH : lv.ownBlock = some gl ∧ gl < P
  each : ∀ i (h : i < v.l.length) (h2 : i < ps.length), AtP W (fun b => w.heap.size + 2 ≤ b ∧ b < P ∧ b ≠ gl) m v.l[i] ps[i].1 ps[i].2
  bel : Below w.heap.size w W
theorem DropB.lt {w : World} {P m gl : Nat} {v : V} {ks : List ByteArray} {lv kv : Value} {ps : List (Value × Value)} {W : World} (h : DropB w P m gl v ks lv kv ps W) : P < W.heap.size := (Array.getElem?_eq_some_iff.1 h.hP).1
theorem dropB_of {w : World} {P m gk gl ck cl i : Nat} {bv : Array Value} {v : V} {ps : List (Value × Value)} {W w' : World} (h : DropA w P m bv v (.slice (some ⟨gl, 0, none⟩) v.l.length cl) (.slice (some ⟨gk, 0, none⟩) v.ks.length ck) ps W) (hi : i < v.ks.length)
    (hown : w'.ownsRow (w.heap.size + 2) 9 1 (.slice (some ⟨gk, 0, none⟩) (v.ks.length - 1) ck) (v.ks.length - 1) ((v.ks.eraseIdx i).map Value.string)) (hoth : ∀ k, k ≠ gk → w'.heap[k]? = W.heap[k]?) (hbel : Below w.heap.size w w') :
    DropB w P m gl v (v.ks.eraseIdx i) (.slice (some ⟨gl, 0, none⟩) v.l.length cl) (.slice (some ⟨gk, 0, none⟩) (v.ks.length - 1) ck) ps (w'.setCell ⟨P, 4, none⟩ (.slice (some ⟨gk, 0, none⟩) (v.ks.length - 1) ck)) := by
  have hlt := h.lt
  have hnP := h.nP
  have hgk : w.heap.size + 2 ≤ gk ∧ gk < P := ⟨(h.own.kown.lt gk rfl).1, h.own.kH gk rfl⟩
  have hgl : w.heap.size + 2 ≤ gl ∧ gl < P := ⟨(h.own.lown.lt gl rfl).1, h.own.lH gl rfl⟩
  have hne : gk ≠ gl := fun e => h.own.apart gk rfl (by rw [e]; rfl)
  have hk' : ∀ k, k ≠ gk → k ≠ P → (w'.setCell ⟨P, 4, none⟩ (.slice (some ⟨gk, 0, none⟩) (v.ks.length - 1) ck)).heap[k]? = W.heap[k]? := fun k h1 h2 => (setCell_other_block _ h2).trans (hoth k h1)
  have hel : (v.ks.eraseIdx i).length = v.ks.length - 1 := List.length_eraseIdx_of_lt hi
  refine ⟨(hk' (w.heap.size + 1) (by omega) (by omega)).trans h.h2, row_setAt ((hoth P (by omega)).trans h.hP) 4 _, hnP, h.own.len, ?_, ?_, ?_, ⟨rfl, hgl.2⟩, ?_, hbel.setCell (p := ⟨P, 4, none⟩) (by show w.heap.size ≤ P; omega) _⟩
  · exact own_keepN h.own.lown (fun g hg => by obtain rfl : gl = g := Option.some.inj hg; exact hk' gl (by omega) (by omega))
  · rw [hel]
    exact own_keepN hown (fun g hg => by obtain rfl : gk = g := Option.some.inj hg; exact setCell_other_block _ (by omega))
  · intro g hg
    obtain rfl : gk = g := Option.some.inj hg
    exact ⟨hne, by omega⟩
  · intro j h1 h2
    exact AtP.more (fun b hb => ⟨hb.1, hb.2.1, fun e => hb.2.2.1 (by rw [e]; rfl)⟩) _ _ _ _ (AtP.keep (fun p hp => cell_of_block (hk' _ (fun e => hp.2.2.2 (by rw [e]; rfl)) (by have := hp.2.1; omega))) _ _ _ _ (h.own.each j h1 h2))
/-- Behind the value that is gone. -/
structure DropC (w : World) (P m : Nat) (r : V) (lv kv : Value) (W : World) : Prop where
  h2 : W.heap[w.heap.size + 1]? = some (.cells #[.int .i64 0, .float .f64 0, .string ⟨#[]⟩, .slice none 0 0, .slice none 0 0] 27 (0, 0))
  hP : W.heap[P]? = some (.cells (cellsV r lv kv) 27 (0, 0))
  nP : w.heap.size + 2 ≤ P
  at_ : AtP W (fun b => w.heap.size + 2 ≤ b ∧ b < W.heap.size) (m + 1) r lv kv
  bel : Below w.heap.size w W
theorem keysLen_erase : ∀ (ks : List ByteArray) (i : Nat), keysLen (ks.eraseIdx i) ≤ keysLen ks
  | [], _ => by simp
  | k :: r, 0 => by
    rw [List.eraseIdx_cons_zero]
    have e : keysLen (k :: r) = k.size + keysLen r := rfl
    omega
  | k :: r, i + 1 => by
    rw [List.eraseIdx_cons_succ]
    have e : ∀ l, keysLen (k :: l) = k.size + keysLen l := fun _ => rfl
    have := keysLen_erase r i
    rw [e, e]
    omega
theorem size_setCellsV (b : Nat) : ∀ (vs : List Value) (o : Nat) (w : World), (w.setCells b o vs).heap.size = w.heap.size
  | [], _, _ => rfl
  | v :: r, o, w => (size_setCellsV b r (o + 1) _).trans (by simp)
theorem dropC_of {w : World} {P m gl cl n i : Nat} {v : V} {ks : List ByteArray} {kv : Value} {ps : List (Value × Value)} {W X : World} (h : DropB w P m gl v ks (.slice (some ⟨gl, 0, none⟩) (n + 1) cl) kv ps W) (hn : v.l.length = n + 1) (hi : i ≤ n) (hs : Small v) (hks : ks.length ≤ v.ks.length) (hkl : keysLen ks ≤ keysLen v.ks)
    (hown : X.ownsRow (w.heap.size + 2) 27 5 (.slice (some ⟨gl, 0, none⟩) n cl) n (flat5 (v.l.eraseIdx i) (ps.eraseIdx i))) (hX : ∀ k, k ≠ gl → X.heap[k]? = W.heap[k]?) (hsz : X.heap.size = W.heap.size) (hbel : Below w.heap.size w X) :
    DropC w P m (.mk v.k v.f v.s (v.l.eraseIdx i) ks) (.slice (some ⟨gl, 0, none⟩) n cl) kv (X.setCell ⟨P, 3, none⟩ (.slice (some ⟨gl, 0, none⟩) n cl)) := by
  have hlt := h.lt
  have hnP := h.nP
  have hgl : w.heap.size + 2 ≤ gl ∧ gl < P := ⟨(hown.lt gl rfl).1, h.lH.2⟩
  have hrP : X.heap[P]? = some (.cells #[.int .i64 v.k, .float .f64 v.f, .string v.s, .slice (some ⟨gl, 0, none⟩) (n + 1) cl, kv] 27 (0, 0)) := (hX P (by omega)).trans h.hP
  have hrow := row_setAt hrP 3 (.slice (some ⟨gl, 0, none⟩) n cl)
  have hoth : ∀ k, k ≠ gl → k ≠ P → (X.setCell ⟨P, 3, none⟩ (.slice (some ⟨gl, 0, none⟩) n cl)).heap[k]? = W.heap[k]? := fun k h1 h2 => (setCell_other_block _ h2).trans (hX k h1)
  have hownY : (X.setCell ⟨P, 3, none⟩ (.slice (some ⟨gl, 0, none⟩) n cl)).ownsRow (w.heap.size + 2) 27 5 (.slice (some ⟨gl, 0, none⟩) n cl) n (flat5 (v.l.eraseIdx i) (ps.eraseIdx i)) := own_keepN hown (fun g hg => by obtain rfl : gl = g := Option.some.inj hg; exact setCell_other_block _ (by omega))
  have hkey : (X.setCell ⟨P, 3, none⟩ (.slice (some ⟨gl, 0, none⟩) n cl)).ownsRow (w.heap.size + 2) 9 1 kv ks.length (ks.map Value.string) := own_keepN h.kown (fun g hg => hoth g (h.apart g hg).1 (h.apart g hg).2)
  have hbY : Below w.heap.size w (X.setCell ⟨P, 3, none⟩ (.slice (some ⟨gl, 0, none⟩) n cl)) := hbel.setCell (p := ⟨P, 3, none⟩) (by show w.heap.size ≤ P; omega) _
  have hszY : (X.setCell ⟨P, 3, none⟩ (.slice (some ⟨gl, 0, none⟩) n cl)).heap.size = W.heap.size := by rw [← hsz]; simp
  have hr2 := (hoth (w.heap.size + 1) (by omega) (by omega)).trans h.h2
  have heach := h.each
  have hpl : ps.length = n + 1 := by rw [h.len, hn]
  clear hown hX hsz hbel h hrP
  generalize X.setCell ⟨P, 3, none⟩ (.slice (some ⟨gl, 0, none⟩) n cl) = Y at hrow hoth hownY hkey hbY hszY hr2 ⊢
  have hqe : (ps.eraseIdx i).length = n := by rw [List.length_eraseIdx_of_lt (by omega)]; omega
  have hle : (v.l.eraseIdx i).length = n := by rw [List.length_eraseIdx_of_lt (by omega)]; omega
  obtain ⟨a, c, b, o, e, hab, h5⟩ := own_five hownY (by omega) hle
  obtain ⟨s1, s2, s3, s4, s5, s6, s7⟩ := hs
  refine ⟨hr2, hrow, hnP, ⟨⟨s1, s2, s3, s4, by show (v.l.eraseIdx i).length ≤ _; omega, by show ks.length ≤ _; omega, by show keysLen ks ≤ _; omega⟩, own_keysP hkey, Caps.of_own hownY, a, c, b, o, e, hab, fun j hj => ?_⟩, hbY⟩
  have hj : j < (v.l.eraseIdx i).length := hj
  have hj2 : j < (ps.eraseIdx i).length := by omega
  refine ⟨_, _, h5 j hj hj2, ?_⟩
  show AtP _ _ m (v.l.eraseIdx i)[j] _ _
  rw [List.getElem_eraseIdx, List.getElem_eraseIdx]
  by_cases hij : j < i
  · rw [dif_pos hij, dif_pos hij]
    exact AtP.more (fun b hb => ⟨hb.1, by have := hb.2.1; omega⟩) _ _ _ _ (AtP.keep (fun p hp => cell_of_block (hoth _ hp.2.2 (by have := hp.2.1; omega))) _ _ _ _ (heach j (by omega) (by omega)))
  · rw [dif_neg hij, dif_neg hij]
    exact AtP.more (fun b hb => ⟨hb.1, by have := hb.2.1; omega⟩) _ _ _ _ (AtP.keep (fun p hp => cell_of_block (hoth _ hp.2.2 (by have := hp.2.1; omega))) _ _ _ _ (heach (j + 1) (by omega) (by omega)))
end Go.Proofs.YtkklfdfmfdnjoaaGreatDoor
/- The program's Drop: its walk. -/
namespace Go.Proofs.YtkklfdfmfdnjoaaGreatDoor
open Go Go.RowKit

set_option maxRecDepth 100000 in
set_option maxHeartbeats 8000000 in
theorem Drop_any (v : V) (m : Nat) (lv kv : Value) (key : ByteArray) (hkey : key.size ≤ 1000000000) (w : World) (h : At w w.heap.size (m + 1) v lv kv) (hlen : v.ks.length ≤ v.l.length) :
    Calls Tryz.prog 36 #[.agg (cellsV v lv kv), .string key] w fun e w' => ∃ lv' kv', e = .returned (.agg (cellsV (dropV v (cleanS key)) lv' kv')) ∧ AtP w' (fun b => w.heap.size ≤ b ∧ b < w'.heap.size) (m + 1) (dropV v (cleanS key)) lv' kv' ∧ Below w.heap.size w w' := by
  have hsf := run_store_float Tryz.prog
  obtain ⟨i0, hi0, hz0, hz1, hz2⟩ := info_parts infoVal
  have HKO := Lib.hid (fun W => keyOf_any key hkey W)
  have hpl := fun W (hb : Below w.heap.size w W) => place_any v (m + 1) lv kv (cleanS key) W ((h.below hb).more hb.size)
  have hco := fun W (hb : Below w.heap.size w W) => copyOf_own (m + 1) v lv kv W ((h.below hb).more hb.size)
  obtain ⟨a1, n1, c1, a2, n2, c2, rfl, rfl⟩ := h.slices
  obtain ⟨K, hK⟩ : ∃ K, cleanS key = K := ⟨_, rfl⟩
  rw [hK] at hpl HKO ⊢
  have hix := idx_cases v.ks K
  have hsm := h.opened.1
  obtain ⟨y, hy⟩ : ∃ y, Lib.idxOfS v.ks K = y := ⟨_, rfl⟩
  obtain ⟨R, hR⟩ : ∃ R, dropV v K = R := ⟨_, rfl⟩
  have HX := Lib.hid (show (y = -1 ∧ R = v) ∨ ∃ i : Nat, i < v.ks.length ∧ y = (i : Int) ∧ R = .mk v.k v.f v.s (v.l.eraseIdx i) (v.ks.eraseIdx i) from by
    rw [← hR, ← hy]
    unfold dropV
    rcases hix with ⟨q, _⟩ | ⟨i, h1, h2, _⟩
    · exact Or.inl ⟨q, by rw [q, if_pos (by omega)]⟩
    · exact Or.inr ⟨i, h1, h2, by rw [h2, if_neg (by omega)]; rfl⟩)
  rw [hy] at hpl
  rw [hR]
  have HPL := Lib.hid hpl
  have HCO := Lib.hid hco
  have HSM := Lib.hid hsm
  clear hpl hco hK hkey h hix hy hR hsm
  unfold cellsV at HPL HCO ⊢
  go_enter Tryz.func36, Tryz.ntmps36
  go_wp2_with fail
  obtain ⟨hr0, hr2⟩ := two_newS w (.cells #[.int .i64 v.k, .float .f64 v.f, .string v.s, .slice a1 n1 c1, .slice a2 n2 c2] 27) (.cells #[.int .i64 0, .float .f64 0, .string ⟨#[]⟩, .slice none 0 0, .slice none 0 0] 27)
  have hb0 : Below w.heap.size w ((w.alloc (.cells #[.int .i64 v.k, .float .f64 v.f, .string v.s, .slice a1 n1 c1, .slice a2 n2 c2] 27)).alloc (.cells #[.int .i64 0, .float .f64 0, .string ⟨#[]⟩, .slice none 0 0, .slice none 0 0] 27)) := ((Below.refl w.heap.size w).alloc (Nat.le_refl _) _).alloc (by simp) _
  have hz0 : w.heap.size + 2 = ((w.alloc (.cells #[.int .i64 v.k, .float .f64 v.f, .string v.s, .slice a1 n1 c1, .slice a2 n2 c2] 27)).alloc (.cells #[.int .i64 0, .float .f64 0, .string ⟨#[]⟩, .slice none 0 0, .slice none 0 0] 27)).heap.size := by simp
  generalize ((w.alloc (.cells #[.int .i64 v.k, .float .f64 v.f, .string v.s, .slice a1 n1 c1, .slice a2 n2 c2] 27)).alloc (.cells #[.int .i64 0, .float .f64 0, .string ⟨#[]⟩, .slice none 0 0, .slice none 0 0] 27)) = W0 at hr0 hr2 hb0 hz0 ⊢
  refine (HCO.out W0 hb0).mono ?_
  rintro e w1 ⟨lv1, kv1, ps, rfl, hov, hat, hb1⟩
  obtain ⟨Al, cl, hl1⟩ := own_slC hov.lown
  obtain ⟨Ak, ck, hk1⟩ := own_slC hov.kown
  subst hl1
  subst hk1
  have hpa : DropA w w1.heap.size m #[.int .i64 v.k, .float .f64 v.f, .string v.s, .slice a1 n1 c1, .slice a2 n2 c2] v (.slice Al v.l.length cl) (.slice Ak v.ks.length ck) ps (w1.alloc (.cells (cellsV v (.slice Al v.l.length cl) (.slice Ak v.ks.length ck)) 27)) := by
    have hz1 := hb1.size
    have q := hov.toH.keep (W' := w1.alloc (.cells (cellsV v (.slice Al v.l.length cl) (.slice Ak v.ks.length ck)) 27)) (fun k _ hk => ((Below.refl w1.heap.size w1).alloc (Nat.le_refl _) _).block k hk)
    rw [← hz0] at q hat
    exact ⟨row_alloc3 ((hb1.block _ (by omega)).trans hr0) _, row_alloc3 ((hb1.block _ (by omega)).trans hr2) _, heap_alloc_new _ _, by omega, q, AtP.keep (fun p hp => cell_old hp.2) _ _ _ _ hat, (hb0.trans (hb1.mono hb0.size)).alloc (by omega) _⟩
  unfold cellsV at hpa
  obtain ⟨x0, x1, x2, x3, x4, _⟩ := row5' hpa.h0
  have HPA := Lib.hid hpa
  clear hpa hov hat hb1 hr0 hr2 hb0 hz0 HCO
  have PD := Lib.hid (HPA.out.below (Below.refl _ _).drew)
  go_wp2_with fail
  go_region_with (first
    | (go_at_call 53; (with_reducible refine (HKO.out _).mono ?_); rintro e w2 ⟨rfl, hb2⟩; have P2 := Lib.hid (PD.out.below hb2); clear hb2; obtain ⟨y0, y1, y2, y3, y4, _⟩ := row5' P2.out.h0)
    | (go_at_call 52; (with_reducible refine (HPL.out _ P2.out.bel).mono ?_); rintro e w3 ⟨rfl, hb3⟩; have P3 := Lib.hid (P2.out.below hb3); clear hb3))
  all_goals
    obtain ⟨p0, p1, p2, p3, p4, q0, q1, q2, q3, q4⟩ := row5 P3.out.hP
    obtain ⟨u0, u1, u2, u3, u4, v0, v1, v2, v3, v4⟩ := row5 P3.out.h2
    have HNP := P3.out.nP
    rcases HX.out with ⟨rfl, hR⟩ | ⟨i, hlt, rfl, hR⟩
    · subst R
      go_wp2_with fail
      refine bodyPost_ret_by (results_cell_row rfl _ _ (w.heap.size + 1) 27 _ (0, 0) _ rfl (set5_row P3.out.h2 (.int .i64 v.k) (.float .f64 v.f) (.string v.s) (.slice Al v.l.length cl) (.slice Ak v.ks.length ck)) Tryz.underlying27 rfl (by rw [hi0]; simp [hz1])) rfl ?_
      exact ⟨_, _, rfl, AtP.more (fun b hb => ⟨by have := hb.1; omega, by have := hb.2; have := P3.out.lt; simp; omega⟩) _ _ _ _ (AtP.keep (fun a ha => cell_of_block (set5_other (by have := ha.1; omega) ..)) _ _ _ _ P3.out.at_), set5_below0 P3.out.bel (by omega) ..⟩
    · rcases id P3.out.own.kown.2 with ⟨_, h0⟩ | ⟨gk, cap, cur, hsl, hgb, hgh, hgc, _, hgs, _⟩
      · omega
      injection hsl with e1 _ e2
      subst e1
      subst e2
      rcases id P3.out.own.lown.2 with ⟨_, h0⟩ | ⟨gl, cap, cur2, hsl, hgb2, hgh2, hgc2, _, hgs2, _⟩
      · omega
      injection hsl with e1 _ e2
      subst e1
      subst e2
      clear hgb hgh hgc hgs hgb2 hgh2 hgc2 hgs2 PD HPA P2 y0 y1 y2 y3 y4 x0 x1 x2 x3 x4
      have hpa := P3.out
      clear P3
      generalize w1.heap.size = P at hpa HNP p0 p1 p2 p3 p4 q0 q1 q2 q3 q4 ⊢
      have hdk := DeleteK_any (w.heap.size + 2) gk ck i v.ks w3 hlt hpa.own.kown
      have hgk : w.heap.size + 2 ≤ gk ∧ gk < P := ⟨(hpa.own.kown.lt gk rfl).1, hpa.own.kH gk rfl⟩
      have HDK := Lib.hid hdk
      have PA := Lib.hid hpa
      have hkm : v.ks.length ≤ 1048576 := HSM.out.2.2.2.2.2.1
      have hi6 : i ≤ 1048576 := by omega
      clear hdk hpa u0 u1 u2 u3 u4 v0 v1 v2 v3 v4
      go_wp2_with fail
      refine HDK.out.mono ?_
      rintro e w4 ⟨rfl, hown, hoth, hbl⟩
      have hpb := dropB_of PA.out hlt hown hoth (hbl _ _ (by omega) PA.out.bel)
      obtain ⟨r0, r1, r2, r3, r4, s0, s1, s2, s3, s4⟩ := row5 ((hoth P (by omega)).trans PA.out.hP)
      have PB := Lib.hid hpb
      clear hpb hown hoth hbl p0 p1 p2 p3 p4 q0 q1 q2 q3 q4 HDK
      go_wp2_with fail
      have hpb := PB.out
      clear PB r0 r1 r2 r3 r4 s0 s1 s2 s3 s4 PA
      generalize w4.setCell ⟨P, 4, none⟩ (.slice (some ⟨gk, 0, none⟩) (v.ks.length - 1) ck) = W5 at hpb ⊢
      obtain ⟨n, hn⟩ : ∃ n, v.l.length = n + 1 := ⟨v.l.length - 1, by omega⟩
      have hsl5 := hpb.lown
      have hpsl : ∀ j (h : j < ps.length), ∃ A n c A' n' c', ps[j].1 = .slice A n c ∧ ps[j].2 = .slice A' n' c' := fun j h => by
        obtain ⟨a, b, c, d, e, f, g1, g2⟩ := AtP.slices (hpb.each j (by rw [← hpb.len]; exact h) h)
        exact ⟨a, b, c, d, e, f, g1, g2⟩
      have hone := flat5_one v.l ps hpsl
      have hin : i ≤ n := by omega
      have hsm := HSM.out
      rw [hn] at hsl5 hpb ⊢
      have hdv := DeleteV_run (w.heap.size + 2) gl n cl i (flat5 v.l ps) W5 hone hin (by have := hsm.2.2.2.2.1; omega) hsl5
      refine hdv.mono ?_
      rintro e w6 ⟨rfl, hw6⟩
      have hgl : gl < P := hpb.lH.2
      have hle : w.heap.size + 2 ≤ gl := (hsl5.lt gl rfl).1
      have hX : ∀ k, k ≠ gl → w6.heap[k]? = W5.heap[k]? := fun k hk => by rw [hw6]; exact delV_other hk
      have hsz : w6.heap.size = W5.heap.size := by rw [hw6, size_setCellsV, size_setCellsV]; rfl
      have hbX : Below w.heap.size w w6 := by rw [hw6]; exact delV_below (by omega) hpb.bel
      have hoX : w6.ownsRow (w.heap.size + 2) 27 5 (.slice (some ⟨gl, 0, none⟩) n cl) n (flat5 (v.l.eraseIdx i) (ps.eraseIdx i)) := by
        have q := delV_own hin hsl5
        rw [← flat5_erase v.l ps i (by omega) (by rw [hpb.len]; omega), ← hw6] at q
        exact q
      have hpc := dropC_of hpb hn hin hsm (by rw [List.length_eraseIdx_of_lt hlt]; omega) (keysLen_erase _ _) hoX hX hsz hbX
      obtain ⟨r0, r1, r2, r3, r4, s0, s1, s2, s3, s4⟩ := row5 ((hX P (by omega)).trans hpb.hP)
      obtain ⟨u0, u1, u2, u3, u4, v0, v1, v2, v3, v4⟩ := row5 ((hX (w.heap.size + 1) (by omega)).trans hpb.h2)
      have HPC := Lib.hid hpc
      clear hpc hoX hbX hsz hX hw6 hsl5 hpb hone hpsl hdv
      go_wp2_with fail
      subst R
      refine bodyPost_ret_by (results_cell_row rfl _ _ (w.heap.size + 1) 27 _ (0, 0) _ rfl (set5_row HPC.out.h2 (.int .i64 v.k) (.float .f64 v.f) (.string v.s) (.slice (some ⟨gl, 0, none⟩) n cl) (.slice (some ⟨gk, 0, none⟩) (v.ks.length - 1) ck)) Tryz.underlying27 rfl (by rw [hi0]; simp [hz1])) rfl ?_
      exact ⟨_, _, rfl, AtP.more (fun b hb => ⟨by have := hb.1; omega, by have := hb.2; simpa using this⟩) _ _ _ _ (AtP.keep (fun a ha => cell_of_block (set5_other (by have := ha.1; omega) ..)) _ _ _ _ HPC.out.at_), set5_below0 HPC.out.bel (by omega) ..⟩
end Go.Proofs.YtkklfdfmfdnjoaaGreatDoor
