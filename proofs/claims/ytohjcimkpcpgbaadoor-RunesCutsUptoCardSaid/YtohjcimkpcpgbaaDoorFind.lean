/- The program's Find. -/
import Derived.Test.YtohjcimkpcpgbaaDoorSplitAny
import Derived.Test.YtohjcimkpcpgbaaDoorFoldB
import Derived.LoopIn
import Derived.Maps.OwnIn
import Derived.OwnWalkIn
import Derived.Lib.RuneCountTail
namespace Go.Proofs.YtohjcimkpcpgbaaDoor
open Go Go.RowKit Go.WideShapes Go.Shelf
attribute [local go_sem] Oper.semAt_some

theorem KpF.below {X : Nat → Prop} {Bo : Nat} {A B : World} (h : Below A.heap.size A B) (hb : Bo < A.heap.size) : KpF X Bo A B := by
  refine ⟨h.size, fun k c t fz hk _ _ => (h.block k (lt_of_heap hk)).trans hk, fun k _ hn v hv => hn v ?_⟩
  rw [← World.cell?_of_block (w := A) (w' := B) (a := ⟨Bo, 0, none⟩) (h.block Bo hb)]
  exact hv
theorem keeps_below {A B : World} (h : Below A.heap.size A B) : KeepsOthers A B := ⟨h.size, fun k _o hk _ => (h.block k (lt_of_heap hk)).trans hk⟩
theorem own_below {A C : World} {base n : Nat} {e : TypeId} {v : Value} {xs : List Value} (h : A.ownsRow base e 1 v n xs) (hb : Below A.heap.size A C) : C.ownsRow base e 1 v n xs := by
  refine ⟨h.1, ?_⟩
  rcases h.2 with h2 | ⟨g, cap, cur, hv, hbs, hh, r⟩
  · exact Or.inl h2
  · exact Or.inr ⟨g, cap, cur, hv, hbs, (hb.block g (lt_of_heap hh)).trans hh, r⟩
theorem heap_set_other {W : World} {b k : Nat} {u : Value} (h : k ≠ b) : (W.setCell ⟨b, 0, none⟩ u).heap[k]? = W.heap[k]? := by
  show (W.heap.modify b _)[k]? = _
  rw [Array.getElem?_modify, if_neg (fun e => h e.symm)]
theorem own_set {A : World} {b base n : Nat} {e : TypeId} {v u : Value} {xs : List Value} (h : A.ownsRow base e 1 v n xs) (hb : b < base) : (A.setCell ⟨b, 0, none⟩ u).ownsRow base e 1 v n xs := by
  refine ⟨h.1, ?_⟩
  rcases h.2 with h2 | ⟨g, cap, cur, hv, hbs, hh, r⟩
  · exact Or.inl h2
  · exact Or.inr ⟨g, cap, cur, hv, hbs, (heap_set_other (by omega)).trans hh, r⟩
theorem dec_tail (s : ByteArray) (pos : Nat) (h : pos < s.size) : Lib.decodeGo (s.extract pos s.size) = Utf8.decode s pos := by
  unfold Lib.decodeGo
  rw [if_neg (by rw [Lib.tail_size]; omega), Lib.tail_decode, Nat.add_zero]
theorem st_drop (s : ByteArray) : ∀ (j pos q : Nat), (st s pos)[j]? = some q → (st s pos).drop j = st s q := by
  intro j
  induction j with
  | zero =>
    intro pos q h
    by_cases hp : pos < s.size
    · rw [st_cons s pos hp] at h
      injection h with h
      subst h
      rfl
    · rw [st_nil s pos hp] at h; cases h
  | succ j ih =>
    intro pos q h
    by_cases hp : pos < s.size
    · rw [st_cons s pos hp] at h ⊢
      exact ih _ _ h
    · rw [st_nil s pos hp] at h; cases h
/-- Where the pieces begin, one by one. -/
theorem atP_next {s : ByteArray} {j : Nat} (h : atP s j < s.size) : atP s (j + 1) = atP s j + (Utf8.decode s (atP s j)).2 := by
  have hj : j < (st s 0).length := by
    by_cases hj : j < (st s 0).length
    · exact hj
    · rw [atP_end (by omega)] at h; omega
  obtain ⟨q, hq⟩ : ∃ q, (st s 0)[j]? = some q := ⟨_, List.getElem?_eq_getElem hj⟩
  have ha : atP s j = q := by unfold atP; rw [hq]; rfl
  rw [ha] at h ⊢
  have hd := st_drop s j 0 q hq
  rw [st_cons s q h] at hd
  have hf := (dec_fits s q h).1
  have hn : (st s 0)[j + 1]? = (st s (q + (Utf8.decode s q).2))[0]? := by
    have := congrArg (fun l => l[1]?) hd
    simpa [List.getElem?_drop] using this
  unfold atP
  rw [hn]
  by_cases hp : q + (Utf8.decode s q).2 < s.size
  · rw [st_cons s _ hp]; rfl
  · rw [st_nil s _ hp]
    show s.size = _
    omega
/-- What stands while pieces are counted. -/
structure Walk (s : ByteArray) (h B : Nat) (w W V : World) (v : Value) (l : List Nat) (j : Nat) (wr : World) : Prop where
  txt : wr.heap[h]? = some (.cells #[.string s] 9 (0, 0))
  out : wr.heap[h + 1]? = some (.cells #[v] 23 (0, 0))
  at_ : wr.heap[h + 2]? = some (.cells #[.int .i64 (atP s j : Int)] 3 (0, 0))
  num : wr.heap[h + 3]? = some (.cells #[.int .i64 (j : Int)] 3 (0, 0))
  row : wr.ownsRow B 3 1 v l.length (cellsN l)
  below : Below w.heap.size w wr
  keeps : KeepsFrom W.heap.size V wr
  kp : KpF (fun k => k = h + 1 ∨ k = h + 2 ∨ k = h + 3) (h + 1) V wr
  size : V.heap.size ≤ wr.heap.size

theorem grown_drew {A B : World} {r : Option Nat} (h : A.grownBy B r) : A.drew.grownBy B r := ⟨h.os, h.tape, h.output, h.size, h.block⟩
/-- The number that the box holds. -/
def numAt (h : Nat) (wr : World) : Nat := match wr.cell? ⟨h + 3, 0, none⟩ with
  | some (.int _ j) => j.toNat
  | _ => 0
theorem Walk.numAt {s : ByteArray} {h B : Nat} {w W V : World} {v : Value} {l : List Nat} {j : Nat} {wr : World} (k : Walk s h B w W V v l j wr) : numAt h wr = j := by
  unfold Go.Proofs.YtohjcimkpcpgbaaDoor.numAt
  rw [cell_of_row _ _ _ _ _ _ k.num]
  rfl
theorem Walk.calls {s : ByteArray} {h B : Nat} {w W V : World} {v : Value} {l : List Nat} {j : Nat} {A C : World} (k : Walk s h B w W V v l j A) (hb : Below A.heap.size A C) (hw : w.heap.size ≤ A.heap.size) : Walk s h B w W V v l j C :=
  ⟨(hb.block _ (lt_of_heap k.txt)).trans k.txt, (hb.block _ (lt_of_heap k.out)).trans k.out, (hb.block _ (lt_of_heap k.at_)).trans k.at_, (hb.block _ (lt_of_heap k.num)).trans k.num,
    own_below k.row hb, k.below.trans (hb.mono hw), k.keeps.trans ((keeps_below hb).from _), k.kp.trans (KpF.below hb (lt_of_heap k.out)), Nat.le_trans k.size hb.size⟩
theorem Walk.step {s : ByteArray} {h B : Nat} {w W V : World} {v : Value} {l : List Nat} {j : Nat} {A : World} (k : Walk s h B w W V v l j A) (hB : h + 3 < B) (hw : w.heap.size = h) (a : Nat) (ha : atP s (j + 1) = a) :
    Walk s h B w W V v l (j + 1) ((A.setCell ⟨h + 2, 0, none⟩ (.int .i64 (a : Int))).setCell ⟨h + 3, 0, none⟩ (.int .i64 ((j + 1 : Nat) : Int))) := by
  subst ha
  exact ⟨(heap_set_other (by omega)).trans ((heap_set_other (by omega)).trans k.txt), (heap_set_other (by omega)).trans ((heap_set_other (by omega)).trans k.out), (heap_set_other (by omega)).trans (heap_set_same k.at_), heap_set_same ((heap_set_other (by omega)).trans k.num),
    own_set (own_set k.row (by omega)) (by omega), k.below.trans ⟨rfl, rfl, rfl, by simp [World.setCell], fun i hi => (heap_set_other (by omega)).trans (heap_set_other (by omega))⟩,
    k.keeps.trans (((KeepsOthers.setCell _ _ _).trans (KeepsOthers.setCell _ _ _)).from _), k.kp.trans ((KpF.setCell _ (Or.inr (Or.inl rfl)) (by omega) _).trans (KpF.setCell _ (Or.inr (Or.inr rfl)) (by omega) _)), Nat.le_trans k.size (by simp [World.setCell])⟩

set_option maxRecDepth 100000 in
set_option maxHeartbeats 4000000 in
theorem Find_any (s p : ByteArray) (hm : s.size ≤ 1000000000) (hpm : p.size ≤ 1000000000) (w : World) (hT : Lib.Utf8Tabs 0 1 w) :
    Calls Tryd.prog 22 #[.string s, .string p] w fun e w' => ∃ v, e = .returned v ∧ w'.ownsRow w.heap.size 3 1 v (findS s p).length (cellsN (findS s p)) ∧ Below w.heap.size w w' := by
  refine (callsIn_wide (n := 6)).1 ?_
  refine callsIn_of_wp_marks Tryd.func22 rfl trivial ?_ rfl
  simp only [Tryd.ntmps22, List.size_toArray, List.length_cons, List.length_nil, Nat.reduceAdd, Nat.reduceSub, Array.replicate_succ, Array.replicate_zero, List.push_toArray, List.append_toArray, List.nil_append, List.cons_append]
  gi_wp2_with fail
  refine ⟨trivial, ?_⟩
  refine (places_in _ s p _).mono ?_
  rintro e w2 ⟨rfl, rfl⟩
  gi_wp2_with fail
  obtain ⟨h, hh⟩ : ∃ h, w.heap.size = h := ⟨_, rfl⟩
  have d0 : (w.alloc (.cells #[.string s] 9)).heap[h]? = some (.cells #[.string s] 9 (0, 0)) := by rw [← hh]; exact heap_alloc_new w _
  obtain ⟨wa, hwa⟩ : ∃ wa, w.alloc (.cells #[.string s] 9) = wa := ⟨_, rfl⟩
  have za : wa.heap.size = h + 1 := by rw [← hwa, World.size_alloc, hh]
  have d1 : (wa.alloc (.cells #[.slice none 0 0] 23)).heap[h + 1]? = some (.cells #[.slice none 0 0] 23 (0, 0)) := by rw [← za]; exact heap_alloc_new wa _
  obtain ⟨wb, hwb⟩ : ∃ wb, wa.alloc (.cells #[.slice none 0 0] 23) = wb := ⟨_, rfl⟩
  have zb : wb.heap.size = h + 2 := by rw [← hwb, World.size_alloc, za]
  have d2 : (wb.alloc (.cells #[.int .i64 0] 3)).heap[h + 2]? = some (.cells #[.int .i64 0] 3 (0, 0)) := by rw [← zb]; exact heap_alloc_new wb _
  obtain ⟨wc, hwc⟩ : ∃ wc, wb.alloc (.cells #[.int .i64 0] 3) = wc := ⟨_, rfl⟩
  have zc : wc.heap.size = h + 3 := by rw [← hwc, World.size_alloc, zb]
  have d3 : (wc.alloc (.cells #[.int .i64 0] 3)).heap[h + 3]? = some (.cells #[.int .i64 0] 3 (0, 0)) := by rw [← zc]; exact heap_alloc_new wc _
  obtain ⟨wd, hwd⟩ : ∃ wd, wc.alloc (.cells #[.int .i64 0] 3) = wd := ⟨_, rfl⟩
  have zd : wd.heap.size = h + 4 := by rw [← hwd, World.size_alloc, zc]
  have d4 : (wd.alloc (.cells #[.string s] 9)).heap[h + 4]? = some (.cells #[.string s] 9 (0, 0)) := by rw [← zd]; exact heap_alloc_new wd _
  obtain ⟨we, hwe⟩ : ∃ we, wd.alloc (.cells #[.string s] 9) = we := ⟨_, rfl⟩
  have ze : we.heap.size = h + 5 := by rw [← hwe, World.size_alloc, zd]
  have d5 : (we.alloc (.cells #[.string p] 9)).heap[h + 5]? = some (.cells #[.string p] 9 (0, 0)) := by rw [← ze]; exact heap_alloc_new we _
  obtain ⟨W, hW⟩ : ∃ W, we.alloc (.cells #[.string p] 9) = W := ⟨_, rfl⟩
  have zW : W.heap.size = h + 6 := by rw [← hW, World.size_alloc, ze]
  rw [hwa] at d0
  rw [hwb] at d1
  rw [hwc] at d2
  rw [hwd] at d3
  rw [hwe] at d4
  rw [hW] at d5
  have D0 : W.heap[h]? = some (.cells #[.string s] 9 (0, 0)) := by rw [← hW, ← hwe, ← hwd, ← hwc, ← hwb]; exact heap_old _ (heap_old _ (heap_old _ (heap_old _ (heap_old _ d0))))
  have D1 : W.heap[h + 1]? = some (.cells #[.slice none 0 0] 23 (0, 0)) := by rw [← hW, ← hwe, ← hwd, ← hwc]; exact heap_old _ (heap_old _ (heap_old _ (heap_old _ d1)))
  have D2 : W.heap[h + 2]? = some (.cells #[.int .i64 0] 3 (0, 0)) := by rw [← hW, ← hwe, ← hwd]; exact heap_old _ (heap_old _ (heap_old _ d2))
  have D3 : W.heap[h + 3]? = some (.cells #[.int .i64 0] 3 (0, 0)) := by rw [← hW, ← hwe]; exact heap_old _ (heap_old _ d3)
  have D4 : W.heap[h + 4]? = some (.cells #[.string s] 9 (0, 0)) := by rw [← hW]; exact heap_old _ d4
  have hbW : Below w.heap.size w W := by
    rw [← hW, ← hwe, ← hwd, ← hwc, ← hwb, ← hwa]
    exact ((((((Below.refl _ w).alloc (Nat.le_refl _) _).alloc (by simp) _).alloc (by simp; omega) _).alloc (by simp; omega) _).alloc (by simp; omega) _).alloc (by simp; omega) _
  rw [hwa, hwb, hwc, hwd, hwe, hW, hh]
  simp only [Nat.add_assoc, Nat.reduceAdd]
  obtain ⟨i0, hi0, hz0, hz1, hz2⟩ := info_parts infoInt
  have hI : OwnFrom W.heap.size (fun (pre : List (Fits s p)) W' => W'.heap[h]? = some (.cells #[.string s] 9 (0, 0)) ∧
      (∃ v, W'.heap[h + 1]? = some (.cells #[v] 23 (0, 0)) ∧ W'.ownsRow W.heap.size 3 1 v ((pre.map Subtype.val).foldl (locStep s) (0, [])).2.length (cellsN ((pre.map Subtype.val).foldl (locStep s) (0, [])).2)) ∧
      W'.heap[h + 2]? = some (.cells #[.int .i64 (atP s ((pre.map Subtype.val).foldl (locStep s) (0, [])).1 : Int)] 3 (0, 0)) ∧ W'.heap[h + 3]? = some (.cells #[.int .i64 (((pre.map Subtype.val).foldl (locStep s) (0, [])).1 : Int)] 3 (0, 0)) ∧ Below w.heap.size w W' ∧ W.heap.size ≤ W'.heap.size) := by
    rintro pre A B row ⟨a2, ⟨v, a3, a4⟩, a5, a8, a6, a7⟩ hg hr
    have hk : ∀ k, k < W.heap.size → k < A.heap.size → B.heap[k]? = A.heap[k]? := fun k hk hA => hg.block k hA (fun e => by have := (hr _ e.symm).1; omega)
    exact ⟨(hk h (by omega) (lt_of_heap a2)).trans a2, ⟨v, (hk _ (by omega) (lt_of_heap a3)).trans a3, own_turn a4 hg (fun r e => (hr r e).2)⟩, (hk _ (by omega) (lt_of_heap a5)).trans a5, (hk _ (by omega) (lt_of_heap a8)).trans a8, a6.grown hg a6.size (fun r e => by have := (hr r e).1; omega), Nat.le_trans a7 hg.size⟩
  have hat0 : atP s 0 = 0 := by
    by_cases h0 : 0 < s.size
    · unfold atP; rw [st_cons s 0 h0]; rfl
    · have := atP_le s 0; omega
  refine wpIn_rangeFunc_ownG rfl (by omega) (gf := 56) (lb := #[.pointer (some ⟨h + 5, 0, none⟩), .pointer (some ⟨h + 4, 0, none⟩)]) rfl trivial (enters_of Tryd.func56 (by kernel_rfl) rfl)
    (places_stops (6 - 1) (by omega) (h + 4) (h + 5) (h + 1) (fun k => k = h + 1 ∨ k = h + 2 ∨ k = h + 3) s p hm W D4 d5 (by omega) (by omega) (by omega) (by omega) (by rw [cell_of_row _ _ _ _ _ _ D1]; rfl))
    (fun a b => KpF.trans a b) (fun V l o o' hl ho hc _ => KpF.putObj V l o o' (by omega) ho hc) (Below.refl _ _) (fun _ => rfl)
    _ (fun _ _ _ => False) hI (fun _ _ _ _ _ hs _ _ => hs) ⟨D0, ⟨_, D1, World.ownsRow_nil _ _ _ _⟩, (by simpa [hat0] using D2), D3, hbW, Nat.le_refl _⟩
    (fun x => { tmps := #[.string s, .string p, .pointer (some ⟨h, 0, none⟩), undef, .slice none 0 0, .pointer (some ⟨h + 1, 0, none⟩), .pointer (some ⟨h + 2, 0, none⟩), .pointer (some ⟨h + 3, 0, none⟩), .int .i64 (x.1 : Int), undef, undef, .string s, .string p, .func (.func 56) #[] #[.pointer (some ⟨h + 5, 0, none⟩), .pointer (some ⟨h + 4, 0, none⟩)], .int .i64 (x.1 : Int), undef, undef, undef, undef, undef, undef, undef, undef, undef, undef, undef, undef, undef, undef, undef, undef, undef, undef, undef, undef, undef, undef, undef], defers := [] }) ?assign ?body ?done ?stop
  case assign =>
    intro l x W K hK
    gi_wp2
    exact hK
  case body =>
    rintro l pre x V ⟨a2, ⟨v, a3, a4⟩, a5, a8, a6, a7⟩ hlen
    obtain ⟨x, hx⟩ := x
    obtain ⟨z, hz⟩ : ∃ z, (pre.map Subtype.val).foldl (locStep s) (0, []) = z := ⟨_, rfl⟩
    have hzs : ((pre ++ [(⟨x, hx⟩ : Fits s p)]).map Subtype.val).foldl (locStep s) (0, []) = locStep s z x := by rw [List.map_append, List.foldl_append, hz]; rfl
    have hzl : z.2.length ≤ s.size + 1 := by have := loc_len s (pre.map Subtype.val) (0, []); rw [hz, List.length_map] at this; simp at this; omega
    have hz1s : z.1 ≤ (st s 0).length := by rw [← hz]; exact loc_le s _ _ (fun y hy => by obtain ⟨q, _, rfl⟩ := List.mem_map.1 hy; have := q.2; omega) (Nat.zero_le _)
    rw [hz] at a4 a5 a8
    obtain ⟨zn, zl⟩ := z
    simp only at a4 a5 a8 hzl hz1s
    have hxs : x ≤ s.size := by have : x + p.size ≤ s.size := hx; omega
    have hW0 : Walk s h W.heap.size w W V v zl zn V := ⟨a2, a3, a5, a8, a4, a6, KeepsFrom.refl _ _, KpF.refl _ _ _, Nat.le_refl _⟩
    have Hzs := Lib.hid hzs
    clear a2 a3 a5 a8 a6 hz hzs
    gi_wp2_with fail
    gi_loopw [] (fun wr => ∃ j, zn ≤ j ∧ j ≤ max zn (cnt s x) ∧ Walk s h W.heap.size w W V v zl j wr) (fun wr => max zn (cnt s x) - numAt h wr)
    case atStart => exact ⟨zn, Nat.le_refl _, by omega, hW0⟩
    case round =>
      obtain ⟨j, hj1, hj2, hw⟩ := hrel
      have cT : wr.cell? ⟨h, 0, none⟩ = some (.string s) := by rw [cell_of_row _ _ _ _ _ _ hw.txt]; rfl
      have cAt : wr.cell? ⟨h + 2, 0, none⟩ = some (.int .i64 (atP s j : Int)) := by rw [cell_of_row _ _ _ _ _ _ hw.at_]; rfl
      have cNum : wr.cell? ⟨h + 3, 0, none⟩ = some (.int .i64 (j : Int)) := by rw [cell_of_row _ _ _ _ _ _ hw.num]; rfl
      have cOut : wr.cell? ⟨h + 1, 0, none⟩ = some v := by rw [cell_of_row _ _ _ _ _ _ hw.out]; rfl
      have hmx : Tryd.prog.follows .mixedOrders = true := by kernel_rfl
      have hale := atP_le s j
      have hnum := hw.numAt
      have Hw := Lib.hid hw
      clear hw
      by_cases hlt : atP s j < x
      · have hjc : j < cnt s x := (cnt_iff hxs).1 hlt
        have hnx := atP_next (s := s) (j := j) (by omega)
        have hfit := dec_fits s (atP s j) (by omega)
        have hjn : j < (st s 0).length := by have := cnt_le_n hxs; omega
        have hsl := st_len s 0
        have hdec := dec_tail s (atP s j) (by omega)
        obtain ⟨a, ha⟩ : ∃ a, atP s j = a := ⟨_, rfl⟩
        rw [ha] at cAt hale hlt hnx hfit hdec
        obtain ⟨d, hd⟩ : ∃ d, Utf8.decode s a = d := ⟨_, rfl⟩
        rw [hd] at hnx hfit hdec
        obtain ⟨d1, d2⟩ := d
        simp only at hnx hfit
        have hT2 : Lib.Utf8Tabs 0 1 wr := Utf8Tabs_below hT Hw.out.below
        have j1 : (a : Int) < (x : Int) := by omega
        have j2 : (a : Int) ≤ (s.size : Int) := by omega
        have j3 : (0 : Int) ≤ (a : Int) := by omega
        have Hnum := Lib.hid hnum
        have cAt2 := fun (C : World) (hb : Below wr.heap.size wr C) => (World.cell?_of_block (w := wr) (w' := C) (a := ⟨h + 2, 0, none⟩) (hb.block _ (lt_of_heap Hw.out.at_))).trans cAt
        clear ha hd hnum
        gi_wp2_with fail
        refine ⟨trivial, ?_⟩
        refine CallsIn.inRound l ((callsIn_wide.2 (Tryd.utf8_DecodeRuneInString _ _ hT2)).mono ?_)
        rintro e w1 ⟨rfl, hb1⟩
        rw [hdec]
        have hw1 := Hw.out.calls hb1 (Hw.out.below.size)
        have cT1 : w1.cell? ⟨h, 0, none⟩ = some (.string s) := by rw [cell_of_row _ _ _ _ _ _ hw1.txt]; rfl
        have cAt1 : w1.cell? ⟨h + 2, 0, none⟩ = some (.int .i64 (a : Int)) := cAt2 _ hb1
        have cNum1 : w1.cell? ⟨h + 3, 0, none⟩ = some (.int .i64 (j : Int)) := by rw [cell_of_row _ _ _ _ _ _ hw1.num]; rfl
        have fAt1 : w1.frozen? ⟨h + 2, 0, none⟩ = false := by simp [World.frozen?, hw1.at_]
        have fNum1 : w1.frozen? ⟨h + 3, 0, none⟩ = false := by simp [World.frozen?, hw1.num]
        have Hw1 := Lib.hid hw1
        clear hw1 cAt2
        gi_wp2_with fail
        have hst1 := Hw1.out.step (by omega) hh _ hnx
        have e1 : ((a + d2 : Nat) : Int) = (a : Int) + (d2 : Int) := by omega
        have e2 : ((j + 1 : Nat) : Int) = (j : Int) + 1 := by omega
        rw [e1, e2] at hst1
        exact ⟨⟨j + 1, by omega, by omega, hst1⟩, by rw [hst1.numAt, Hnum.out]; omega⟩
      · have hje : max zn (cnt s x) = j := by
          have : ¬ j < cnt s x := fun e => hlt ((cnt_iff hxs).2 e)
          omega
        have j1 : ¬ (atP s j : Int) < (x : Int) := by omega
        have hst : locStep s (zn, zl) x = (j, if atP s j = x then zl ++ [j] else zl) := by
          unfold locStep
          simp only [hje]
        have Hst := Lib.hid hst
        clear hst hje
        by_cases heq : atP s j = x
        · have j2 : (atP s j : Int) = (x : Int) := by omega
          gi_wp2_with (gi_at_builtin; refine Classical.byContradiction fun hneg => ?_)
          apply hneg
          refine wpListIn_append_own_at _ rfl _ _ 23 rfl W.heap.size 3 i0 _ 1 8 Tryd.underlying23 hi0 hz0 hz1 hz2 rfl (by decide) v zl.length (cellsN zl) rfl (Hw.out.row.alloc _) ⟨wr.heap.size, 0, none⟩ 1 1 [.int .i64 (j : Int)] rfl rfl (cell_one_new _ _ _) (by simp [Value.oneCell']) ?c1 ?c2 ?c3 ?_
          case c1 => unfold maxLen; omega
          case c2 => omega
          case c3 => have := Hw.out.size; simp only [World.size_alloc]; omega
          clear hneg
          intro v' w1 hown' hgrow _ hat
          obtain ⟨g', cap', rfl⟩ := ownsRow_succ hown'
          have hwrs : W.heap.size ≤ wr.heap.size := by have := Hw.out.size; omega
          have hAp := appended_of (X := fun k => k = h + 1 ∨ k = h + 2 ∨ k = h + 3) (Or.inl rfl) (by omega) hwrs Hw.out.out Hw.out.row (grown_drew hgrow) hown' (hat.imp_right fun e => by rw [e]; right; simp)
          have hvn : ∀ k, k < W.heap.size → some k ≠ v.ownBlock := fun k hk e => by have := (Hw.out.row.lt _ e.symm).1; omega
          have hal : ∀ k, k < W.heap.size → w1.heap[k]? = wr.heap[k]? := fun k hk =>
            (hgrow.block k (show k < (wr.alloc _).heap.size by simp; omega) (hvn k hk)).trans (Below.heap_alloc wr _ k (by omega))
          have cOut' : w1.cell? ⟨h + 1, 0, none⟩ = some v := (World.cell?_of_block (w := wr) (w' := w1) (a := ⟨h + 1, 0, none⟩) (hal (h + 1) (by omega))).trans cOut
          have fOut' : w1.frozen? ⟨h + 1, 0, none⟩ = false := (World.frozen?_of_block (w := wr) (w' := w1) (a := ⟨h + 1, 0, none⟩) (hal (h + 1) (by omega))).trans (by simp [World.frozen?, Hw.out.out])
          have HAp := Lib.hid hAp
          clear hAp hal hvn
          gi_wp2_with fail
          refine ⟨Hw.out.keeps.trans (HAp.out.others.from _), Hw.out.kp.trans HAp.out.kpf, ?_, ⟨.slice (some ⟨g', 0, none⟩) (zl.length + 1) cap', HAp.out.box, ?_⟩, ?_, ?_, ?_, Nat.le_trans hwrs HAp.out.size⟩
          · exact (HAp.out.same _ (by omega) (by omega)).trans Hw.out.txt
          · rw [Hzs.out, Hst.out, if_pos heq]
            simp only [List.length_append, List.length_cons, List.length_nil, cellsN_snoc]
            exact HAp.out.row
          · rw [Hzs.out, Hst.out]
            exact (HAp.out.same _ (by omega) (by omega)).trans Hw.out.at_
          · rw [Hzs.out, Hst.out]
            exact (HAp.out.same _ (by omega) (by omega)).trans Hw.out.num
          · exact Hw.out.below.trans ⟨HAp.out.os, HAp.out.tape, HAp.out.output, HAp.out.size, fun k hk => HAp.out.same k (by omega) (by omega)⟩
        · have j2 : ¬ (atP s j : Int) = (x : Int) := by omega
          have hwrs : W.heap.size ≤ wr.heap.size := by have := Hw.out.size; omega
          have hfin : KeepsFrom W.heap.size V wr ∧ KpF (fun k => k = h + 1 ∨ k = h + 2 ∨ k = h + 3) (h + 1) V wr ∧ (wr.heap[h]? = some (.cells #[.string s] 9 (0, 0)) ∧
              (∃ v, wr.heap[h + 1]? = some (.cells #[v] 23 (0, 0)) ∧ wr.ownsRow W.heap.size 3 1 v (((pre ++ [(⟨x, hx⟩ : Fits s p)]).map Subtype.val).foldl (locStep s) (0, [])).2.length (cellsN (((pre ++ [(⟨x, hx⟩ : Fits s p)]).map Subtype.val).foldl (locStep s) (0, [])).2)) ∧
              wr.heap[h + 2]? = some (.cells #[.int .i64 (atP s (((pre ++ [(⟨x, hx⟩ : Fits s p)]).map Subtype.val).foldl (locStep s) (0, [])).1 : Int)] 3 (0, 0)) ∧ wr.heap[h + 3]? = some (.cells #[.int .i64 ((((pre ++ [(⟨x, hx⟩ : Fits s p)]).map Subtype.val).foldl (locStep s) (0, [])).1 : Int)] 3 (0, 0)) ∧ Below w.heap.size w wr ∧ W.heap.size ≤ wr.heap.size) := by
            rw [Hzs.out, Hst.out, if_neg heq]
            exact ⟨Hw.out.keeps, Hw.out.kp, Hw.out.txt, ⟨v, Hw.out.out, Hw.out.row⟩, Hw.out.at_, Hw.out.num, Hw.out.below, hwrs⟩
          rw [zW, hh] at hfin
          have Hfin := Lib.hid hfin
          clear hfin
          gi_wp2_with fail
          exact Hfin.out
  case done =>
    rintro D ys V hD hys ⟨a2, ⟨v, a3, a4⟩, a5, a8, a6, a7⟩ hK
    have hall : ((ys.map Subtype.val).foldl (locStep s) (0, [])).2 = findS s p := by
      have hys' : ys.map Subtype.val = placesL s p := hys
      by_cases h1 : p.size = 0
      · rw [hys', findS_none h1]
        unfold placesL
        rw [if_pos (Or.inl h1)]
        rfl
      · have hpl : placesL s p = occE s p s.size := by
          unfold placesL
          by_cases hc : p.size = 0 ∨ s.size < p.size
          · rw [if_pos hc]; unfold occE; rw [show s.size + 1 - p.size = 0 from by omega]; rfl
          · rw [if_neg hc]
        rw [hys', hpl]
        exact loc_all s p (by omega)
    rw [hall] at a4
    have cOut : V.cell? ⟨h + 1, 0, none⟩ = some v := by rw [cell_of_row _ _ _ _ _ _ a3]; rfl
    have HK := Lib.hid hK
    clear hall hys hK a2 a3 a5 a8
    gi_wp2_with fail
    refine ⟨by simp, .inl ⟨_, _, rfl, run_takeDeferred HK.out, ?_⟩⟩
    refine ⟨_, results_tmp rfl _ _ _, _, rfl, ?_, a6.trans (belowK_b (w := w) (Nat.le_refl _) V D _ _ (by omega) HK.out rfl rfl)⟩
    refine ownsRow_putObj ?_ _ HK.out rfl
    exact own_lower a4 (by omega)
  case stop =>
    rintro D c pre V _ _ hf _
    exact hf.elim
end Go.Proofs.YtohjcimkpcpgbaaDoor
