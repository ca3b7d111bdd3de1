/- The program's Split. -/
import Derived.Test.YtohjcimkpcpgbaaDoorPlaces
import Derived.Test.YtohjcimkpcpgbaaDoorFold
import Derived.Test.YtohjcimkpcpgbaaDoorRefG
import Derived.Test.YtohjcimkpcpgbaaDoorTrim
import Derived.RangeFuncBox
import Derived.Test.YtohjcimkpcpgbaaDoorBox
import Derived.Maps.AppendAt
namespace Go.Proofs.YtohjcimkpcpgbaaDoor
open Go Go.RowKit Go.WideShapes Go.Shelf
attribute [local go_sem] Oper.semAt_some

/-- What a loop over a function turns of its own is no row of cells. -/
theorem KpF.putObj {X : Nat → Prop} {Bo : Nat} (W : World) (l : Nat) (o o' : Obj) (hl : Bo < l) (ho : W.heap[l]? = some o) (hc : o.isCells = false) : KpF X Bo W (W.putObj l o') := by
  have hg := grownBy_putObj' W l o'
  have hb : ∀ k, k ≠ l → (W.putObj l o').heap[k]? = W.heap[k]? := fun k hk => World.putObj_heap_other hk
  refine ⟨hg.size, fun k c t fz hk _ _ => ?_, fun k _ hn v hv => hn v ?_⟩
  · rw [hb k (by rintro rfl; rw [ho] at hk; injection hk with hk; subst hk; simp [Obj.isCells] at hc)]
    exact hk
  · rw [← World.cell?_of_block (w := W) (w' := W.putObj l o') (a := ⟨Bo, 0, none⟩) (hb Bo (by omega))]
    exact hv
theorem via {G X : Prop} (k : G → X) (h : G) : X := k h
theorem step_append_run {F : Fence} {n : Nat} {P : Program} {ops : Array Oper} {o : Oper} {a : Act} {K : Act → World → Prop} {Q : Exit → Act → World → Prop} {E : Prop} {w w' : World} {v u v' : Value} (hF : ∀ f, F.fn f) (hgd : o.guard = none) (s x : Operand) (t : TypeId)
    (ho : o.op = .call { callee := .builtin .append, args := #[s, x], argTypes := #[t, t] }) (hs : a.eval s = v) (hx : a.eval x = u)
    (hrun : (Builtin.append_ #[t, t] o.type #[v, u]).run P w = .ok v' w') (h : K (a.put o.dst v') w') :
    if Region.wanted o (yielded ops a.tmps) = true then Oper.wpIn F n P o a w K Q else E := by
  have hw : Region.wanted o (yielded ops a.tmps) = true := by simp [Region.wanted, hgd]
  rw [if_pos hw]
  refine ⟨fun f _ => hF f, ?_⟩
  rw [Oper.semAt_eq _ _ _ (fun c hc => by rw [ho] at hc; cases hc)]
  unfold execOp
  simp only [ho, resolve, invoke, builtin, Sem.run_bind, Sem.run_pure, Result.andThen_ok, List.map_toArray, List.map_cons, List.map_nil, hs, hx, hrun]
  exact h
theorem own_turn {A B : World} {base n : Nat} {e : TypeId} {v : Value} {xs : List Value} {row : Option Nat} (h : A.ownsRow base e 1 v n xs) (hg : A.grownBy B row) (hr : ∀ r, row = some r → ∃ o : Obj, A.heap[r]? = some o ∧ o.isCells = false) : B.ownsRow base e 1 v n xs := by
  refine ⟨h.1, ?_⟩
  rcases h.2 with h2 | ⟨g, cap, cur, hv, hb, hh, r⟩
  · exact Or.inl h2
  · refine Or.inr ⟨g, cap, cur, hv, hb, ?_, r⟩
    rw [hg.block g (lt_of_heap hh) ?_]
    · exact hh
    · intro e
      obtain ⟨o, ho, hc⟩ := hr g e.symm
      rw [hh] at ho
      injection ho with ho
      subst ho
      simp [Obj.isCells] at hc
set_option maxHeartbeats 1000000 in
theorem places_in (n : Nat) (s p : ByteArray) (w : World) :
    CallsIn Fence.wide n Tryd.prog 43 #[.string s, .string p] w fun e w' => e = .returned (.func (.func 56) #[] #[.pointer (some ⟨w.heap.size + 1, 0, none⟩), .pointer (some ⟨w.heap.size, 0, none⟩)]) ∧ w' = (w.alloc (.cells #[.string s] 9)).alloc (.cells #[.string p] 9) := by
  refine callsIn_wide.2 ?_
  go_enter Tryd.func43, Tryd.ntmps43
  go_wp2
  go_ret
  exact ⟨by simp, rfl⟩

set_option maxRecDepth 100000 in
set_option maxHeartbeats 4000000 in
theorem Split_parts (s p : ByteArray) (hm : s.size ≤ 1000000000) (hpm : p.size ≤ 1000000000) (h1 : ¬ p.size = 0) (h2 : ¬ s.size = 0) (w : World) :
    Calls Tryd.prog 25 #[.string s, .string p] w fun e w' => ∃ v, e = .returned v ∧ w'.ownsRow w.heap.size 9 1 v (splitS s p).length (cellsT (splitS s p)) ∧ Below w.heap.size w w' := by
  have e1 := nonempty_list h1
  have e2 := nonempty_list h2
  rw [split_parts h1 h2]
  refine (callsIn_wide (n := 6)).1 ?_
  refine callsIn_of_wp_marks Tryd.func25 rfl trivial ?_ rfl
  simp only [Tryd.ntmps25, List.size_toArray, List.length_cons, List.length_nil, Nat.reduceAdd, Nat.reduceSub, Array.replicate_succ, Array.replicate_zero, List.push_toArray, List.append_toArray, List.nil_append, List.cons_append]
  gi_wp2_with fail
  refine ⟨trivial, ?_⟩
  refine (callsIn_wide.2 (Clone_any _ (by omega) _)).mono ?_
  rintro e w1 ⟨rfl, hb1⟩
  have cP : w1.cell? ⟨w.heap.size, 0, none⟩ = some (.string p) := by
    rw [hb1.cell (p := ⟨w.heap.size, 0, none⟩) (by simp)]
    exact cell_box _ _ _
  have hz1 : w.heap.size < w1.heap.size := by
    have := hb1.size
    simp at this
    omega
  have cP2 : (((w1.alloc (.cells #[.string s] 9)).alloc (.cells #[.slice none 0 0] 39)).alloc (.cells #[.int .i64 0] 3)).cell? ⟨w.heap.size, 0, none⟩ = some (.string p) := cell_old _ (cell_old _ (cell_old _ cP))
  gi_wp2_with fail
  refine ⟨trivial, ?_⟩
  refine (places_in _ s p _).mono ?_
  rintro e w2 ⟨rfl, rfl⟩
  gi_wp2_with fail
  obtain ⟨h, hh⟩ : ∃ h, w1.heap.size = h := ⟨_, rfl⟩
  have d0 : (w1.alloc (.cells #[.string s] 9)).heap[h]? = some (.cells #[.string s] 9 (0, 0)) := by rw [← hh]; exact heap_alloc_new w1 _
  obtain ⟨wa, hwa⟩ : ∃ wa, w1.alloc (.cells #[.string s] 9) = wa := ⟨_, rfl⟩
  have za : wa.heap.size = h + 1 := by rw [← hwa, World.size_alloc, hh]
  have d1 : (wa.alloc (.cells #[.slice none 0 0] 39)).heap[h + 1]? = some (.cells #[.slice none 0 0] 39 (0, 0)) := by rw [← za]; exact heap_alloc_new wa _
  obtain ⟨wb, hwb⟩ : ∃ wb, wa.alloc (.cells #[.slice none 0 0] 39) = wb := ⟨_, rfl⟩
  have zb : wb.heap.size = h + 2 := by rw [← hwb, World.size_alloc, za]
  have d2 : (wb.alloc (.cells #[.int .i64 0] 3)).heap[h + 2]? = some (.cells #[.int .i64 0] 3 (0, 0)) := by rw [← zb]; exact heap_alloc_new wb _
  obtain ⟨wc, hwc⟩ : ∃ wc, wb.alloc (.cells #[.int .i64 0] 3) = wc := ⟨_, rfl⟩
  have zc : wc.heap.size = h + 3 := by rw [← hwc, World.size_alloc, zb]
  have d3 : (wc.alloc (.cells #[.string s] 9)).heap[h + 3]? = some (.cells #[.string s] 9 (0, 0)) := by rw [← zc]; exact heap_alloc_new wc _
  obtain ⟨wd, hwd⟩ : ∃ wd, wc.alloc (.cells #[.string s] 9) = wd := ⟨_, rfl⟩
  have zd : wd.heap.size = h + 4 := by rw [← hwd, World.size_alloc, zc]
  have d4 : (wd.alloc (.cells #[.string p] 9)).heap[h + 4]? = some (.cells #[.string p] 9 (0, 0)) := by rw [← zd]; exact heap_alloc_new wd _
  obtain ⟨W, hW⟩ : ∃ W, wd.alloc (.cells #[.string p] 9) = W := ⟨_, rfl⟩
  have zW : W.heap.size = h + 5 := by rw [← hW, World.size_alloc, zd]
  rw [hwa] at d0
  rw [hwb] at d1
  rw [hwc] at d2
  rw [hwd] at d3
  rw [hW] at d4
  have D0 : W.heap[h]? = some (.cells #[.string s] 9 (0, 0)) := by rw [← hW, ← hwd, ← hwc, ← hwb]; exact heap_old _ (heap_old _ (heap_old _ (heap_old _ d0)))
  have D1 : W.heap[h + 1]? = some (.cells #[.slice none 0 0] 39 (0, 0)) := by rw [← hW, ← hwd, ← hwc]; exact heap_old _ (heap_old _ (heap_old _ d1))
  have D2 : W.heap[h + 2]? = some (.cells #[.int .i64 0] 3 (0, 0)) := by rw [← hW, ← hwd]; exact heap_old _ (heap_old _ d2)
  have D3 : W.heap[h + 3]? = some (.cells #[.string s] 9 (0, 0)) := by rw [← hW]; exact heap_old _ d3
  have DP : W.cell? ⟨w.heap.size, 0, none⟩ = some (.string p) := by rw [← hW, ← hwd, ← hwc, ← hwb, ← hwa]; exact cell_old _ (cell_old _ (cell_old _ (cell_old _ (cell_old _ cP))))
  have hbW : Below w1.heap.size w1 W := by
    rw [← hW, ← hwd, ← hwc, ← hwb, ← hwa]
    exact (((((Below.refl _ w1).alloc (Nat.le_refl _) _).alloc (by simp) _).alloc (by simp; omega) _).alloc (by simp; omega) _).alloc (by simp; omega) _
  rw [hwa, hwb, hwc, hwd, hW]
  rw [hh] at hz1 ⊢
  simp only [Nat.add_assoc, Nat.reduceAdd]
  obtain ⟨i0, hi0, hz0, hz1, hz2⟩ := info_parts infoStr
  have hI : OwnFrom W.heap.size (fun (pre : List (Fits s p)) W' => W'.cell? ⟨w.heap.size, 0, none⟩ = some (.string p) ∧ W'.heap[h]? = some (.cells #[.string s] 9 (0, 0)) ∧
      (∃ v, W'.heap[h + 1]? = some (.cells #[v] 39 (0, 0)) ∧ W'.ownsRow W.heap.size 9 1 v ((pre.map Subtype.val).foldl (cutStep s p) (0, [])).2.length (cellsT ((pre.map Subtype.val).foldl (cutStep s p) (0, [])).2)) ∧
      W'.heap[h + 2]? = some (.cells #[.int .i64 (((pre.map Subtype.val).foldl (cutStep s p) (0, [])).1 : Int)] 3 (0, 0)) ∧ Below w1.heap.size w1 W' ∧ W.heap.size ≤ W'.heap.size) := by
    rintro pre A B row ⟨a1, a2, ⟨v, a3, a4⟩, a5, a6, a7⟩ hg hr
    have hk : ∀ k, k < W.heap.size → k < A.heap.size → B.heap[k]? = A.heap[k]? := fun k hk hA => hg.block k hA (fun e => by have := (hr _ e.symm).1; omega)
    refine ⟨?_, (hk h (by omega) (lt_of_heap a2)).trans a2, ⟨v, (hk _ (by omega) (lt_of_heap a3)).trans a3, own_turn a4 hg (fun r e => (hr r e).2)⟩, (hk _ (by omega) (lt_of_heap a5)).trans a5, a6.grown hg a6.size (fun r e => by have := (hr r e).1; omega), Nat.le_trans a7 hg.size⟩
    rw [World.cell?_of_block (w := A) (w' := B) (a := ⟨w.heap.size, 0, none⟩) (hk _ (by simp only; omega) (World.block_lt_of_cell? A _ a1))]
    exact a1
  refine wpIn_rangeFunc_ownG rfl (by omega) (gf := 56) (lb := #[.pointer (some ⟨h + 4, 0, none⟩), .pointer (some ⟨h + 3, 0, none⟩)]) rfl trivial (enters_of Tryd.func56 (by kernel_rfl) rfl)
    (places_stops (6 - 1) (by omega) (h + 3) (h + 4) (h + 1) (fun k => k = h + 1 ∨ k = h + 2) s p hm W D3 d4 (by omega) (by omega) (by omega) (by omega) (by rw [cell_of_row _ _ _ _ _ _ D1]; rfl))
    (fun a b => KpF.trans a b) (fun V l o o' hl ho hc _ => KpF.putObj V l o o' (by omega) ho hc) (Below.refl _ _) (fun _ => rfl)
    _ (fun _ _ _ => False) hI (fun _ _ _ _ _ hs _ _ => hs) ⟨DP, D0, ⟨_, D1, World.ownsRow_nil _ _ _ _⟩, D2, hbW, Nat.le_refl _⟩
    (fun x => { tmps := #[.string s, .string p, undef, .pointer (some ⟨w.heap.size, 0, none⟩), .slice none 0 0, .pointer (some ⟨h, 0, none⟩), .pointer (some ⟨h + 1, 0, none⟩), .pointer (some ⟨h + 2, 0, none⟩), .int .i64 (x.1 : Int), .string s, .bool false, .string s, .string s, .string p, .bool false, undef, undef, .string s, .string p, .func (.func 56) #[] #[.pointer (some ⟨h + 4, 0, none⟩), .pointer (some ⟨h + 3, 0, none⟩)], .int .i64 (x.1 : Int), undef, undef, undef, undef, undef, undef, undef, undef, undef, undef, undef, undef, undef, undef, undef, undef, undef, undef, undef, undef], defers := [] }) ?assign ?body ?done ?stop
  case assign =>
    intro l x W K hK
    gi_wp2
    exact hK
  case body =>
    rintro l pre x V ⟨a1, a2, ⟨v, a3, a4⟩, a5, a6, a7⟩ hlen
    obtain ⟨x, hx⟩ := x
    obtain ⟨z, hz⟩ : ∃ z, (pre.map Subtype.val).foldl (cutStep s p) (0, []) = z := ⟨_, rfl⟩
    have hzs : ((pre ++ [(⟨x, hx⟩ : Fits s p)]).map Subtype.val).foldl (cutStep s p) (0, []) = cutStep s p z x := by rw [List.map_append, List.foldl_append, hz]; rfl
    have hzl : z.2.length ≤ s.size + 1 := by have := cut_len s p (pre.map Subtype.val) (0, []); rw [hz, List.length_map] at this; simp at this; omega
    have hz1s : z.1 ≤ s.size := by rw [← hz]; exact cut_le s p _ _ (fun y hy => by obtain ⟨q, _, rfl⟩ := List.mem_map.1 hy; exact q.2) (Nat.zero_le _)
    rw [hz] at a4 a5
    obtain ⟨zn, zl⟩ := z
    simp only at a4 a5 hzl hz1s
    have cO : V.cell? ⟨h, 0, none⟩ = some (.string s) := by rw [cell_of_row _ _ _ _ _ _ a2]; rfl
    have cOut : V.cell? ⟨h + 1, 0, none⟩ = some v := by rw [cell_of_row _ _ _ _ _ _ a3]; rfl
    have cSt : V.cell? ⟨h + 2, 0, none⟩ = some (.int .i64 (zn : Int)) := by rw [cell_of_row _ _ _ _ _ _ a5]; rfl
    have fOut : V.frozen? ⟨h + 1, 0, none⟩ = false := by simp [World.frozen?, a3]
    have fSt : V.frozen? ⟨h + 2, 0, none⟩ = false := by simp [World.frozen?, a5]
    have A2 := Lib.hid a2
    have A3 := Lib.hid a3
    have A5 := Lib.hid a5
    have Hzs := Lib.hid hzs
    clear a2 a3 a5 hz hzs
    by_cases hlt : x < zn
    · have hst : cutStep s p (zn, zl) x = (zn, zl) := if_pos hlt
      have Hst := Lib.hid hst
      clear hst
      gi_wp2
      refine ⟨KeepsFrom.refl _ _, KpF.refl _ _ _, a1, A2.out, ⟨v, A3.out, ?_⟩, ?_, a6, a7⟩
      · rw [Hzs.out, Hst.out]; exact a4
      · rw [Hzs.out, Hst.out]; exact A5.out
    · have hst : cutStep s p (zn, zl) x = (x + p.size, zl ++ [s.extract zn x]) := if_neg hlt
      have Hst := Lib.hid hst
      clear hst
      have hmx : Tryd.prog.follows .mixedOrders = true := by kernel_rfl
      have hVs : W.heap.size ≤ V.heap.size := by omega
      obtain ⟨v', w', hrun, hown', hgrow, _, hat⟩ := run_append_own_at (P := Tryd.prog) ((V.alloc (.cells #[.string (s.extract zn x)] 9)).drew) W.heap.size 39 39 9 i0 _ 1 16 Tryd.underlying39 hi0 hz0 hz1 hz2 rfl (by omega) v zl.length (cellsT zl) ((a4.alloc _).drew)
        ⟨V.heap.size, 0, none⟩ 1 1 [.string (s.extract zn x)] rfl (cell_one_new _ _ _) (by simp [Value.oneCell']) (by unfold maxLen; omega) (by omega) (by simp; omega)
      obtain ⟨g', cap', rfl⟩ := ownsRow_succ hown'
      have hAp := appended_of (X := fun k => k = h + 1 ∨ k = h + 2) (Or.inl rfl) (by omega) hVs A3.out a4 hgrow hown' (hat.imp_right fun e => by rw [e]; right; simp)
      have hvn : ∀ k, k < W.heap.size → some k ≠ v.ownBlock := fun k hk e => by have := (a4.lt _ e.symm).1; omega
      have hal : ∀ k, k < W.heap.size → w'.heap[k]? = V.heap[k]? := fun k hk =>
        (hgrow.block k (show k < (V.alloc _).heap.size by simp; omega) (hvn k hk)).trans (Below.heap_alloc V _ k (by omega))
      have cP' : w'.cell? ⟨w.heap.size, 0, none⟩ = some (.string p) := (World.cell?_of_block (w := V) (w' := w') (a := ⟨w.heap.size, 0, none⟩) (hal w.heap.size (by omega))).trans a1
      have cOut' : w'.cell? ⟨h + 1, 0, none⟩ = some v := (World.cell?_of_block (w := V) (w' := w') (a := ⟨h + 1, 0, none⟩) (hal (h + 1) (by omega))).trans cOut
      have cSt' : w'.cell? ⟨h + 2, 0, none⟩ = some (.int .i64 (zn : Int)) := (World.cell?_of_block (w := V) (w' := w') (a := ⟨h + 2, 0, none⟩) (hal (h + 2) (by omega))).trans cSt
      have fOut' : w'.frozen? ⟨h + 1, 0, none⟩ = false := (World.frozen?_of_block (w := V) (w' := w') (a := ⟨h + 1, 0, none⟩) (hal (h + 1) (by omega))).trans fOut
      have fSt' : w'.frozen? ⟨h + 2, 0, none⟩ = false := (World.frozen?_of_block (w := V) (w' := w') (a := ⟨h + 2, 0, none⟩) (hal (h + 2) (by omega))).trans fSt
      have HAp := Lib.hid hAp
      have Hal := Lib.hid hal
      clear hAp hal hvn
      have cOutA : (V.alloc (.cells #[.string (s.extract zn x)] 9)).cell? ⟨h + 1, 0, none⟩ = some v := cell_old _ cOut
      have j0 : (0 : Int) ≤ (zn : Int) := by omega
      have j1 : (zn : Int) ≤ (x : Int) := by omega
      have j2 : (x : Int) ≤ (s.size : Int) := by omega
      gi_wp2
      refine wpIn_region_any (by assumption) ?_
      change wpAnyIn _ _ _ _ _ _ _ _ _ (World.drew _)
      apply via
      · intro hfin
        refine wpAnyIn_ready (rs := [0, 1, 2, 3]) (by kernel_rfl) (by simp) ?_
        refine AllReadyIn.cons rfl (fun K hK => ?_) ?_
        · go_simp
          refine hK _ _ ?_
          clear hK K
          refine wpAnyIn_ready (rs := [1, 2, 3]) (by kernel_rfl) (by simp) ?_
          refine AllReadyIn.cons rfl (fun K hK => ?_) ?_
          · go_simp
            refine hK _ _ ?_
            clear hK K
            refine wpAnyIn_ready (rs := [2, 3]) (by kernel_rfl) (by simp) ?_
            refine AllReadyIn.cons rfl (fun K hK => ?_) ?_
            · go_simp
              refine hK _ _ ?_
              clear hK K
              refine wpAnyIn_ready (rs := [3]) (by kernel_rfl) (by simp) ?_
              refine AllReadyIn.cons rfl (fun K hK => ?_) ?_
              · go_simp
                refine hK _ _ ?_
                clear hK K
                refine wpAnyIn_ready (rs := [4]) (by kernel_rfl) (by simp) ?_
                refine AllReadyIn.cons rfl (fun K hK => ?_) ?_
                · go_simp
                  refine hK _ _ ?_
                  clear hK K
                  refine wpAnyIn_ready (rs := [5]) (by kernel_rfl) (by simp) ?_
                  refine AllReadyIn.cons rfl (fun K hK => ?_) ?_
                  · go_simp
                    refine hK _ _ ?_
                    clear hK K
                    exact hfin
                  exact AllReadyIn.nil
                exact AllReadyIn.nil
              exact AllReadyIn.nil
            refine AllReadyIn.cons rfl (fun K hK => ?_) ?_
            · go_simp
              refine hK _ _ ?_
              clear hK K
              refine wpAnyIn_ready (rs := [2]) (by kernel_rfl) (by simp) ?_
              refine AllReadyIn.cons rfl (fun K hK => ?_) ?_
              · go_simp
                refine hK _ _ ?_
                clear hK K
                refine wpAnyIn_ready (rs := [4]) (by kernel_rfl) (by simp) ?_
                refine AllReadyIn.cons rfl (fun K hK => ?_) ?_
                · go_simp
                  refine hK _ _ ?_
                  clear hK K
                  refine wpAnyIn_ready (rs := [5]) (by kernel_rfl) (by simp) ?_
                  refine AllReadyIn.cons rfl (fun K hK => ?_) ?_
                  · go_simp
                    refine hK _ _ ?_
                    clear hK K
                    exact hfin
                  exact AllReadyIn.nil
                exact AllReadyIn.nil
              exact AllReadyIn.nil
            exact AllReadyIn.nil
          refine AllReadyIn.cons rfl (fun K hK => ?_) ?_
          · go_simp
            refine hK _ _ ?_
            clear hK K
            refine wpAnyIn_ready (rs := [1, 3]) (by kernel_rfl) (by simp) ?_
            refine AllReadyIn.cons rfl (fun K hK => ?_) ?_
            · go_simp
              refine hK _ _ ?_
              clear hK K
              refine wpAnyIn_ready (rs := [3]) (by kernel_rfl) (by simp) ?_
              refine AllReadyIn.cons rfl (fun K hK => ?_) ?_
              · go_simp
                refine hK _ _ ?_
                clear hK K
                refine wpAnyIn_ready (rs := [4]) (by kernel_rfl) (by simp) ?_
                refine AllReadyIn.cons rfl (fun K hK => ?_) ?_
                · go_simp
                  refine hK _ _ ?_
                  clear hK K
                  refine wpAnyIn_ready (rs := [5]) (by kernel_rfl) (by simp) ?_
                  refine AllReadyIn.cons rfl (fun K hK => ?_) ?_
                  · go_simp
                    refine hK _ _ ?_
                    clear hK K
                    exact hfin
                  exact AllReadyIn.nil
                exact AllReadyIn.nil
              exact AllReadyIn.nil
            refine AllReadyIn.cons rfl (fun K hK => ?_) ?_
            · go_simp
              refine hK _ _ ?_
              clear hK K
              refine wpAnyIn_ready (rs := [1]) (by kernel_rfl) (by simp) ?_
              refine AllReadyIn.cons rfl (fun K hK => ?_) ?_
              · go_simp
                refine hK _ _ ?_
                clear hK K
                refine wpAnyIn_ready (rs := [4]) (by kernel_rfl) (by simp) ?_
                refine AllReadyIn.cons rfl (fun K hK => ?_) ?_
                · go_simp
                  refine hK _ _ ?_
                  clear hK K
                  refine wpAnyIn_ready (rs := [5]) (by kernel_rfl) (by simp) ?_
                  refine AllReadyIn.cons rfl (fun K hK => ?_) ?_
                  · go_simp
                    refine hK _ _ ?_
                    clear hK K
                    exact hfin
                  exact AllReadyIn.nil
                exact AllReadyIn.nil
              exact AllReadyIn.nil
            exact AllReadyIn.nil
          refine AllReadyIn.cons rfl (fun K hK => ?_) ?_
          · go_simp
            refine hK _ _ ?_
            clear hK K
            refine wpAnyIn_ready (rs := [1, 2]) (by kernel_rfl) (by simp) ?_
            refine AllReadyIn.cons rfl (fun K hK => ?_) ?_
            · go_simp
              refine hK _ _ ?_
              clear hK K
              refine wpAnyIn_ready (rs := [2]) (by kernel_rfl) (by simp) ?_
              refine AllReadyIn.cons rfl (fun K hK => ?_) ?_
              · go_simp
                refine hK _ _ ?_
                clear hK K
                refine wpAnyIn_ready (rs := [4]) (by kernel_rfl) (by simp) ?_
                refine AllReadyIn.cons rfl (fun K hK => ?_) ?_
                · go_simp
                  refine hK _ _ ?_
                  clear hK K
                  refine wpAnyIn_ready (rs := [5]) (by kernel_rfl) (by simp) ?_
                  refine AllReadyIn.cons rfl (fun K hK => ?_) ?_
                  · go_simp
                    refine hK _ _ ?_
                    clear hK K
                    exact hfin
                  exact AllReadyIn.nil
                exact AllReadyIn.nil
              exact AllReadyIn.nil
            refine AllReadyIn.cons rfl (fun K hK => ?_) ?_
            · go_simp
              refine hK _ _ ?_
              clear hK K
              refine wpAnyIn_ready (rs := [1]) (by kernel_rfl) (by simp) ?_
              refine AllReadyIn.cons rfl (fun K hK => ?_) ?_
              · go_simp
                refine hK _ _ ?_
                clear hK K
                refine wpAnyIn_ready (rs := [4]) (by kernel_rfl) (by simp) ?_
                refine AllReadyIn.cons rfl (fun K hK => ?_) ?_
                · go_simp
                  refine hK _ _ ?_
                  clear hK K
                  refine wpAnyIn_ready (rs := [5]) (by kernel_rfl) (by simp) ?_
                  refine AllReadyIn.cons rfl (fun K hK => ?_) ?_
                  · go_simp
                    refine hK _ _ ?_
                    clear hK K
                    exact hfin
                  exact AllReadyIn.nil
                exact AllReadyIn.nil
              exact AllReadyIn.nil
            exact AllReadyIn.nil
          exact AllReadyIn.nil
        refine AllReadyIn.cons rfl (fun K hK => ?_) ?_
        · go_simp
          refine hK _ _ ?_
          clear hK K
          refine wpAnyIn_ready (rs := [0, 2, 3]) (by kernel_rfl) (by simp) ?_
          refine AllReadyIn.cons rfl (fun K hK => ?_) ?_
          · go_simp
            refine hK _ _ ?_
            clear hK K
            refine wpAnyIn_ready (rs := [2, 3]) (by kernel_rfl) (by simp) ?_
            refine AllReadyIn.cons rfl (fun K hK => ?_) ?_
            · go_simp
              refine hK _ _ ?_
              clear hK K
              refine wpAnyIn_ready (rs := [3]) (by kernel_rfl) (by simp) ?_
              refine AllReadyIn.cons rfl (fun K hK => ?_) ?_
              · go_simp
                refine hK _ _ ?_
                clear hK K
                refine wpAnyIn_ready (rs := [4]) (by kernel_rfl) (by simp) ?_
                refine AllReadyIn.cons rfl (fun K hK => ?_) ?_
                · go_simp
                  refine hK _ _ ?_
                  clear hK K
                  refine wpAnyIn_ready (rs := [5]) (by kernel_rfl) (by simp) ?_
                  refine AllReadyIn.cons rfl (fun K hK => ?_) ?_
                  · go_simp
                    refine hK _ _ ?_
                    clear hK K
                    exact hfin
                  exact AllReadyIn.nil
                exact AllReadyIn.nil
              exact AllReadyIn.nil
            refine AllReadyIn.cons rfl (fun K hK => ?_) ?_
            · go_simp
              refine hK _ _ ?_
              clear hK K
              refine wpAnyIn_ready (rs := [2]) (by kernel_rfl) (by simp) ?_
              refine AllReadyIn.cons rfl (fun K hK => ?_) ?_
              · go_simp
                refine hK _ _ ?_
                clear hK K
                refine wpAnyIn_ready (rs := [4]) (by kernel_rfl) (by simp) ?_
                refine AllReadyIn.cons rfl (fun K hK => ?_) ?_
                · go_simp
                  refine hK _ _ ?_
                  clear hK K
                  refine wpAnyIn_ready (rs := [5]) (by kernel_rfl) (by simp) ?_
                  refine AllReadyIn.cons rfl (fun K hK => ?_) ?_
                  · go_simp
                    refine hK _ _ ?_
                    clear hK K
                    exact hfin
                  exact AllReadyIn.nil
                exact AllReadyIn.nil
              exact AllReadyIn.nil
            exact AllReadyIn.nil
          refine AllReadyIn.cons rfl (fun K hK => ?_) ?_
          · go_simp
            refine hK _ _ ?_
            clear hK K
            refine wpAnyIn_ready (rs := [0, 3]) (by kernel_rfl) (by simp) ?_
            refine AllReadyIn.cons rfl (fun K hK => ?_) ?_
            · go_simp
              refine hK _ _ ?_
              clear hK K
              refine wpAnyIn_ready (rs := [3]) (by kernel_rfl) (by simp) ?_
              refine AllReadyIn.cons rfl (fun K hK => ?_) ?_
              · go_simp
                refine hK _ _ ?_
                clear hK K
                refine wpAnyIn_ready (rs := [4]) (by kernel_rfl) (by simp) ?_
                refine AllReadyIn.cons rfl (fun K hK => ?_) ?_
                · go_simp
                  refine hK _ _ ?_
                  clear hK K
                  refine wpAnyIn_ready (rs := [5]) (by kernel_rfl) (by simp) ?_
                  refine AllReadyIn.cons rfl (fun K hK => ?_) ?_
                  · go_simp
                    refine hK _ _ ?_
                    clear hK K
                    exact hfin
                  exact AllReadyIn.nil
                exact AllReadyIn.nil
              exact AllReadyIn.nil
            refine AllReadyIn.cons rfl (fun K hK => ?_) ?_
            · go_simp
              refine hK _ _ ?_
              clear hK K
              refine wpAnyIn_ready (rs := [0, 4]) (by kernel_rfl) (by simp) ?_
              refine AllReadyIn.cons rfl (fun K hK => ?_) ?_
              · go_simp
                refine hK _ _ ?_
                clear hK K
                refine wpAnyIn_ready (rs := [4]) (by kernel_rfl) (by simp) ?_
                refine AllReadyIn.cons rfl (fun K hK => ?_) ?_
                · go_simp
                  refine hK _ _ ?_
                  clear hK K
                  refine wpAnyIn_ready (rs := [5]) (by kernel_rfl) (by simp) ?_
                  refine AllReadyIn.cons rfl (fun K hK => ?_) ?_
                  · go_simp
                    refine hK _ _ ?_
                    clear hK K
                    exact hfin
                  exact AllReadyIn.nil
                exact AllReadyIn.nil
              refine AllReadyIn.cons rfl (fun K hK => ?_) ?_
              · go_simp
                refine hK _ _ ?_
                clear hK K
                refine wpAnyIn_ready (rs := [0, 5]) (by kernel_rfl) (by simp) ?_
                refine AllReadyIn.cons rfl (fun K hK => ?_) ?_
                · go_simp
                  refine hK _ _ ?_
                  clear hK K
                  refine wpAnyIn_ready (rs := [5]) (by kernel_rfl) (by simp) ?_
                  refine AllReadyIn.cons rfl (fun K hK => ?_) ?_
                  · go_simp
                    refine hK _ _ ?_
                    clear hK K
                    exact hfin
                  exact AllReadyIn.nil
                refine AllReadyIn.cons rfl (fun K hK => ?_) ?_
                · go_simp
                  refine hK _ _ ?_
                  clear hK K
                  refine wpAnyIn_ready (rs := [0]) (by kernel_rfl) (by simp) ?_
                  refine AllReadyIn.cons rfl (fun K hK => ?_) ?_
                  · go_simp
                    refine hK _ _ ?_
                    clear hK K
                    exact hfin
                  exact AllReadyIn.nil
                exact AllReadyIn.nil
              exact AllReadyIn.nil
            exact AllReadyIn.nil
          refine AllReadyIn.cons rfl (fun K hK => ?_) ?_
          · go_simp
            refine hK _ _ ?_
            clear hK K
            refine wpAnyIn_ready (rs := [0, 2]) (by kernel_rfl) (by simp) ?_
            refine AllReadyIn.cons rfl (fun K hK => ?_) ?_
            · go_simp
              refine hK _ _ ?_
              clear hK K
              refine wpAnyIn_ready (rs := [2]) (by kernel_rfl) (by simp) ?_
              refine AllReadyIn.cons rfl (fun K hK => ?_) ?_
              · go_simp
                refine hK _ _ ?_
                clear hK K
                refine wpAnyIn_ready (rs := [4]) (by kernel_rfl) (by simp) ?_
                refine AllReadyIn.cons rfl (fun K hK => ?_) ?_
                · go_simp
                  refine hK _ _ ?_
                  clear hK K
                  refine wpAnyIn_ready (rs := [5]) (by kernel_rfl) (by simp) ?_
                  refine AllReadyIn.cons rfl (fun K hK => ?_) ?_
                  · go_simp
                    refine hK _ _ ?_
                    clear hK K
                    exact hfin
                  exact AllReadyIn.nil
                exact AllReadyIn.nil
              exact AllReadyIn.nil
            refine AllReadyIn.cons rfl (fun K hK => ?_) ?_
            · go_simp
              refine hK _ _ ?_
              clear hK K
              refine wpAnyIn_ready (rs := [0, 4]) (by kernel_rfl) (by simp) ?_
              refine AllReadyIn.cons rfl (fun K hK => ?_) ?_
              · go_simp
                refine hK _ _ ?_
                clear hK K
                refine wpAnyIn_ready (rs := [4]) (by kernel_rfl) (by simp) ?_
                refine AllReadyIn.cons rfl (fun K hK => ?_) ?_
                · go_simp
                  refine hK _ _ ?_
                  clear hK K
                  refine wpAnyIn_ready (rs := [5]) (by kernel_rfl) (by simp) ?_
                  refine AllReadyIn.cons rfl (fun K hK => ?_) ?_
                  · go_simp
                    refine hK _ _ ?_
                    clear hK K
                    exact hfin
                  exact AllReadyIn.nil
                exact AllReadyIn.nil
              refine AllReadyIn.cons rfl (fun K hK => ?_) ?_
              · go_simp
                refine hK _ _ ?_
                clear hK K
                refine wpAnyIn_ready (rs := [0, 5]) (by kernel_rfl) (by simp) ?_
                refine AllReadyIn.cons rfl (fun K hK => ?_) ?_
                · go_simp
                  refine hK _ _ ?_
                  clear hK K
                  refine wpAnyIn_ready (rs := [5]) (by kernel_rfl) (by simp) ?_
                  refine AllReadyIn.cons rfl (fun K hK => ?_) ?_
                  · go_simp
                    refine hK _ _ ?_
                    clear hK K
                    exact hfin
                  exact AllReadyIn.nil
                refine AllReadyIn.cons rfl (fun K hK => ?_) ?_
                · go_simp
                  refine hK _ _ ?_
                  clear hK K
                  refine wpAnyIn_ready (rs := [0]) (by kernel_rfl) (by simp) ?_
                  refine AllReadyIn.cons rfl (fun K hK => ?_) ?_
                  · go_simp
                    refine hK _ _ ?_
                    clear hK K
                    exact hfin
                  exact AllReadyIn.nil
                exact AllReadyIn.nil
              exact AllReadyIn.nil
            exact AllReadyIn.nil
          exact AllReadyIn.nil
        refine AllReadyIn.cons rfl (fun K hK => ?_) ?_
        · go_simp
          refine hK _ _ ?_
          clear hK K
          refine wpAnyIn_ready (rs := [0, 1, 3]) (by kernel_rfl) (by simp) ?_
          refine AllReadyIn.cons rfl (fun K hK => ?_) ?_
          · go_simp
            refine hK _ _ ?_
            clear hK K
            refine wpAnyIn_ready (rs := [1, 3]) (by kernel_rfl) (by simp) ?_
            refine AllReadyIn.cons rfl (fun K hK => ?_) ?_
            · go_simp
              refine hK _ _ ?_
              clear hK K
              refine wpAnyIn_ready (rs := [3]) (by kernel_rfl) (by simp) ?_
              refine AllReadyIn.cons rfl (fun K hK => ?_) ?_
              · go_simp
                refine hK _ _ ?_
                clear hK K
                refine wpAnyIn_ready (rs := [4]) (by kernel_rfl) (by simp) ?_
                refine AllReadyIn.cons rfl (fun K hK => ?_) ?_
                · go_simp
                  refine hK _ _ ?_
                  clear hK K
                  refine wpAnyIn_ready (rs := [5]) (by kernel_rfl) (by simp) ?_
                  refine AllReadyIn.cons rfl (fun K hK => ?_) ?_
                  · go_simp
                    refine hK _ _ ?_
                    clear hK K
                    exact hfin
                  exact AllReadyIn.nil
                exact AllReadyIn.nil
              exact AllReadyIn.nil
            refine AllReadyIn.cons rfl (fun K hK => ?_) ?_
            · go_simp
              refine hK _ _ ?_
              clear hK K
              refine wpAnyIn_ready (rs := [1]) (by kernel_rfl) (by simp) ?_
              refine AllReadyIn.cons rfl (fun K hK => ?_) ?_
              · go_simp
                refine hK _ _ ?_
                clear hK K
                refine wpAnyIn_ready (rs := [4]) (by kernel_rfl) (by simp) ?_
                refine AllReadyIn.cons rfl (fun K hK => ?_) ?_
                · go_simp
                  refine hK _ _ ?_
                  clear hK K
                  refine wpAnyIn_ready (rs := [5]) (by kernel_rfl) (by simp) ?_
                  refine AllReadyIn.cons rfl (fun K hK => ?_) ?_
                  · go_simp
                    refine hK _ _ ?_
                    clear hK K
                    exact hfin
                  exact AllReadyIn.nil
                exact AllReadyIn.nil
              exact AllReadyIn.nil
            exact AllReadyIn.nil
          refine AllReadyIn.cons rfl (fun K hK => ?_) ?_
          · go_simp
            refine hK _ _ ?_
            clear hK K
            refine wpAnyIn_ready (rs := [0, 3]) (by kernel_rfl) (by simp) ?_
            refine AllReadyIn.cons rfl (fun K hK => ?_) ?_
            · go_simp
              refine hK _ _ ?_
              clear hK K
              refine wpAnyIn_ready (rs := [3]) (by kernel_rfl) (by simp) ?_
              refine AllReadyIn.cons rfl (fun K hK => ?_) ?_
              · go_simp
                refine hK _ _ ?_
                clear hK K
                refine wpAnyIn_ready (rs := [4]) (by kernel_rfl) (by simp) ?_
                refine AllReadyIn.cons rfl (fun K hK => ?_) ?_
                · go_simp
                  refine hK _ _ ?_
                  clear hK K
                  refine wpAnyIn_ready (rs := [5]) (by kernel_rfl) (by simp) ?_
                  refine AllReadyIn.cons rfl (fun K hK => ?_) ?_
                  · go_simp
                    refine hK _ _ ?_
                    clear hK K
                    exact hfin
                  exact AllReadyIn.nil
                exact AllReadyIn.nil
              exact AllReadyIn.nil
            refine AllReadyIn.cons rfl (fun K hK => ?_) ?_
            · go_simp
              refine hK _ _ ?_
              clear hK K
              refine wpAnyIn_ready (rs := [0, 4]) (by kernel_rfl) (by simp) ?_
              refine AllReadyIn.cons rfl (fun K hK => ?_) ?_
              · go_simp
                refine hK _ _ ?_
                clear hK K
                refine wpAnyIn_ready (rs := [4]) (by kernel_rfl) (by simp) ?_
                refine AllReadyIn.cons rfl (fun K hK => ?_) ?_
                · go_simp
                  refine hK _ _ ?_
                  clear hK K
                  refine wpAnyIn_ready (rs := [5]) (by kernel_rfl) (by simp) ?_
                  refine AllReadyIn.cons rfl (fun K hK => ?_) ?_
                  · go_simp
                    refine hK _ _ ?_
                    clear hK K
                    exact hfin
                  exact AllReadyIn.nil
                exact AllReadyIn.nil
              refine AllReadyIn.cons rfl (fun K hK => ?_) ?_
              · go_simp
                refine hK _ _ ?_
                clear hK K
                refine wpAnyIn_ready (rs := [0, 5]) (by kernel_rfl) (by simp) ?_
                refine AllReadyIn.cons rfl (fun K hK => ?_) ?_
                · go_simp
                  refine hK _ _ ?_
                  clear hK K
                  refine wpAnyIn_ready (rs := [5]) (by kernel_rfl) (by simp) ?_
                  refine AllReadyIn.cons rfl (fun K hK => ?_) ?_
                  · go_simp
                    refine hK _ _ ?_
                    clear hK K
                    exact hfin
                  exact AllReadyIn.nil
                refine AllReadyIn.cons rfl (fun K hK => ?_) ?_
                · go_simp
                  refine hK _ _ ?_
                  clear hK K
                  refine wpAnyIn_ready (rs := [0]) (by kernel_rfl) (by simp) ?_
                  refine AllReadyIn.cons rfl (fun K hK => ?_) ?_
                  · go_simp
                    refine hK _ _ ?_
                    clear hK K
                    exact hfin
                  exact AllReadyIn.nil
                exact AllReadyIn.nil
              exact AllReadyIn.nil
            exact AllReadyIn.nil
          refine AllReadyIn.cons rfl (fun K hK => ?_) ?_
          · go_simp
            refine hK _ _ ?_
            clear hK K
            refine wpAnyIn_ready (rs := [0, 1]) (by kernel_rfl) (by simp) ?_
            refine AllReadyIn.cons rfl (fun K hK => ?_) ?_
            · go_simp
              refine hK _ _ ?_
              clear hK K
              refine wpAnyIn_ready (rs := [1]) (by kernel_rfl) (by simp) ?_
              refine AllReadyIn.cons rfl (fun K hK => ?_) ?_
              · go_simp
                refine hK _ _ ?_
                clear hK K
                refine wpAnyIn_ready (rs := [4]) (by kernel_rfl) (by simp) ?_
                refine AllReadyIn.cons rfl (fun K hK => ?_) ?_
                · go_simp
                  refine hK _ _ ?_
                  clear hK K
                  refine wpAnyIn_ready (rs := [5]) (by kernel_rfl) (by simp) ?_
                  refine AllReadyIn.cons rfl (fun K hK => ?_) ?_
                  · go_simp
                    refine hK _ _ ?_
                    clear hK K
                    exact hfin
                  exact AllReadyIn.nil
                exact AllReadyIn.nil
              exact AllReadyIn.nil
            refine AllReadyIn.cons rfl (fun K hK => ?_) ?_
            · go_simp
              refine hK _ _ ?_
              clear hK K
              refine wpAnyIn_ready (rs := [0, 4]) (by kernel_rfl) (by simp) ?_
              refine AllReadyIn.cons rfl (fun K hK => ?_) ?_
              · go_simp
                refine hK _ _ ?_
                clear hK K
                refine wpAnyIn_ready (rs := [4]) (by kernel_rfl) (by simp) ?_
                refine AllReadyIn.cons rfl (fun K hK => ?_) ?_
                · go_simp
                  refine hK _ _ ?_
                  clear hK K
                  refine wpAnyIn_ready (rs := [5]) (by kernel_rfl) (by simp) ?_
                  refine AllReadyIn.cons rfl (fun K hK => ?_) ?_
                  · go_simp
                    refine hK _ _ ?_
                    clear hK K
                    exact hfin
                  exact AllReadyIn.nil
                exact AllReadyIn.nil
              refine AllReadyIn.cons rfl (fun K hK => ?_) ?_
              · go_simp
                refine hK _ _ ?_
                clear hK K
                refine wpAnyIn_ready (rs := [0, 5]) (by kernel_rfl) (by simp) ?_
                refine AllReadyIn.cons rfl (fun K hK => ?_) ?_
                · go_simp
                  refine hK _ _ ?_
                  clear hK K
                  refine wpAnyIn_ready (rs := [5]) (by kernel_rfl) (by simp) ?_
                  refine AllReadyIn.cons rfl (fun K hK => ?_) ?_
                  · go_simp
                    refine hK _ _ ?_
                    clear hK K
                    exact hfin
                  exact AllReadyIn.nil
                refine AllReadyIn.cons rfl (fun K hK => ?_) ?_
                · go_simp
                  refine hK _ _ ?_
                  clear hK K
                  refine wpAnyIn_ready (rs := [0]) (by kernel_rfl) (by simp) ?_
                  refine AllReadyIn.cons rfl (fun K hK => ?_) ?_
                  · go_simp
                    refine hK _ _ ?_
                    clear hK K
                    exact hfin
                  exact AllReadyIn.nil
                exact AllReadyIn.nil
              exact AllReadyIn.nil
            exact AllReadyIn.nil
          exact AllReadyIn.nil
        refine AllReadyIn.cons rfl (fun K hK => ?_) ?_
        · go_simp
          refine hK _ _ ?_
          clear hK K
          refine wpAnyIn_ready (rs := [0, 1, 2]) (by kernel_rfl) (by simp) ?_
          refine AllReadyIn.cons rfl (fun K hK => ?_) ?_
          · go_simp
            refine hK _ _ ?_
            clear hK K
            refine wpAnyIn_ready (rs := [1, 2]) (by kernel_rfl) (by simp) ?_
            refine AllReadyIn.cons rfl (fun K hK => ?_) ?_
            · go_simp
              refine hK _ _ ?_
              clear hK K
              refine wpAnyIn_ready (rs := [2]) (by kernel_rfl) (by simp) ?_
              refine AllReadyIn.cons rfl (fun K hK => ?_) ?_
              · go_simp
                refine hK _ _ ?_
                clear hK K
                refine wpAnyIn_ready (rs := [4]) (by kernel_rfl) (by simp) ?_
                refine AllReadyIn.cons rfl (fun K hK => ?_) ?_
                · go_simp
                  refine hK _ _ ?_
                  clear hK K
                  refine wpAnyIn_ready (rs := [5]) (by kernel_rfl) (by simp) ?_
                  refine AllReadyIn.cons rfl (fun K hK => ?_) ?_
                  · go_simp
                    refine hK _ _ ?_
                    clear hK K
                    exact hfin
                  exact AllReadyIn.nil
                exact AllReadyIn.nil
              exact AllReadyIn.nil
            refine AllReadyIn.cons rfl (fun K hK => ?_) ?_
            · go_simp
              refine hK _ _ ?_
              clear hK K
              refine wpAnyIn_ready (rs := [1]) (by kernel_rfl) (by simp) ?_
              refine AllReadyIn.cons rfl (fun K hK => ?_) ?_
              · go_simp
                refine hK _ _ ?_
                clear hK K
                refine wpAnyIn_ready (rs := [4]) (by kernel_rfl) (by simp) ?_
                refine AllReadyIn.cons rfl (fun K hK => ?_) ?_
                · go_simp
                  refine hK _ _ ?_
                  clear hK K
                  refine wpAnyIn_ready (rs := [5]) (by kernel_rfl) (by simp) ?_
                  refine AllReadyIn.cons rfl (fun K hK => ?_) ?_
                  · go_simp
                    refine hK _ _ ?_
                    clear hK K
                    exact hfin
                  exact AllReadyIn.nil
                exact AllReadyIn.nil
              exact AllReadyIn.nil
            exact AllReadyIn.nil
          refine AllReadyIn.cons rfl (fun K hK => ?_) ?_
          · go_simp
            refine hK _ _ ?_
            clear hK K
            refine wpAnyIn_ready (rs := [0, 2]) (by kernel_rfl) (by simp) ?_
            refine AllReadyIn.cons rfl (fun K hK => ?_) ?_
            · go_simp
              refine hK _ _ ?_
              clear hK K
              refine wpAnyIn_ready (rs := [2]) (by kernel_rfl) (by simp) ?_
              refine AllReadyIn.cons rfl (fun K hK => ?_) ?_
              · go_simp
                refine hK _ _ ?_
                clear hK K
                refine wpAnyIn_ready (rs := [4]) (by kernel_rfl) (by simp) ?_
                refine AllReadyIn.cons rfl (fun K hK => ?_) ?_
                · go_simp
                  refine hK _ _ ?_
                  clear hK K
                  refine wpAnyIn_ready (rs := [5]) (by kernel_rfl) (by simp) ?_
                  refine AllReadyIn.cons rfl (fun K hK => ?_) ?_
                  · go_simp
                    refine hK _ _ ?_
                    clear hK K
                    exact hfin
                  exact AllReadyIn.nil
                exact AllReadyIn.nil
              exact AllReadyIn.nil
            refine AllReadyIn.cons rfl (fun K hK => ?_) ?_
            · go_simp
              refine hK _ _ ?_
              clear hK K
              refine wpAnyIn_ready (rs := [0, 4]) (by kernel_rfl) (by simp) ?_
              refine AllReadyIn.cons rfl (fun K hK => ?_) ?_
              · go_simp
                refine hK _ _ ?_
                clear hK K
                refine wpAnyIn_ready (rs := [4]) (by kernel_rfl) (by simp) ?_
                refine AllReadyIn.cons rfl (fun K hK => ?_) ?_
                · go_simp
                  refine hK _ _ ?_
                  clear hK K
                  refine wpAnyIn_ready (rs := [5]) (by kernel_rfl) (by simp) ?_
                  refine AllReadyIn.cons rfl (fun K hK => ?_) ?_
                  · go_simp
                    refine hK _ _ ?_
                    clear hK K
                    exact hfin
                  exact AllReadyIn.nil
                exact AllReadyIn.nil
              refine AllReadyIn.cons rfl (fun K hK => ?_) ?_
              · go_simp
                refine hK _ _ ?_
                clear hK K
                refine wpAnyIn_ready (rs := [0, 5]) (by kernel_rfl) (by simp) ?_
                refine AllReadyIn.cons rfl (fun K hK => ?_) ?_
                · go_simp
                  refine hK _ _ ?_
                  clear hK K
                  refine wpAnyIn_ready (rs := [5]) (by kernel_rfl) (by simp) ?_
                  refine AllReadyIn.cons rfl (fun K hK => ?_) ?_
                  · go_simp
                    refine hK _ _ ?_
                    clear hK K
                    exact hfin
                  exact AllReadyIn.nil
                refine AllReadyIn.cons rfl (fun K hK => ?_) ?_
                · go_simp
                  refine hK _ _ ?_
                  clear hK K
                  refine wpAnyIn_ready (rs := [0]) (by kernel_rfl) (by simp) ?_
                  refine AllReadyIn.cons rfl (fun K hK => ?_) ?_
                  · go_simp
                    refine hK _ _ ?_
                    clear hK K
                    exact hfin
                  exact AllReadyIn.nil
                exact AllReadyIn.nil
              exact AllReadyIn.nil
            exact AllReadyIn.nil
          refine AllReadyIn.cons rfl (fun K hK => ?_) ?_
          · go_simp
            refine hK _ _ ?_
            clear hK K
            refine wpAnyIn_ready (rs := [0, 1]) (by kernel_rfl) (by simp) ?_
            refine AllReadyIn.cons rfl (fun K hK => ?_) ?_
            · go_simp
              refine hK _ _ ?_
              clear hK K
              refine wpAnyIn_ready (rs := [1]) (by kernel_rfl) (by simp) ?_
              refine AllReadyIn.cons rfl (fun K hK => ?_) ?_
              · go_simp
                refine hK _ _ ?_
                clear hK K
                refine wpAnyIn_ready (rs := [4]) (by kernel_rfl) (by simp) ?_
                refine AllReadyIn.cons rfl (fun K hK => ?_) ?_
                · go_simp
                  refine hK _ _ ?_
                  clear hK K
                  refine wpAnyIn_ready (rs := [5]) (by kernel_rfl) (by simp) ?_
                  refine AllReadyIn.cons rfl (fun K hK => ?_) ?_
                  · go_simp
                    refine hK _ _ ?_
                    clear hK K
                    exact hfin
                  exact AllReadyIn.nil
                exact AllReadyIn.nil
              exact AllReadyIn.nil
            refine AllReadyIn.cons rfl (fun K hK => ?_) ?_
            · go_simp
              refine hK _ _ ?_
              clear hK K
              refine wpAnyIn_ready (rs := [0, 4]) (by kernel_rfl) (by simp) ?_
              refine AllReadyIn.cons rfl (fun K hK => ?_) ?_
              · go_simp
                refine hK _ _ ?_
                clear hK K
                refine wpAnyIn_ready (rs := [4]) (by kernel_rfl) (by simp) ?_
                refine AllReadyIn.cons rfl (fun K hK => ?_) ?_
                · go_simp
                  refine hK _ _ ?_
                  clear hK K
                  refine wpAnyIn_ready (rs := [5]) (by kernel_rfl) (by simp) ?_
                  refine AllReadyIn.cons rfl (fun K hK => ?_) ?_
                  · go_simp
                    refine hK _ _ ?_
                    clear hK K
                    exact hfin
                  exact AllReadyIn.nil
                exact AllReadyIn.nil
              refine AllReadyIn.cons rfl (fun K hK => ?_) ?_
              · go_simp
                refine hK _ _ ?_
                clear hK K
                refine wpAnyIn_ready (rs := [0, 5]) (by kernel_rfl) (by simp) ?_
                refine AllReadyIn.cons rfl (fun K hK => ?_) ?_
                · go_simp
                  refine hK _ _ ?_
                  clear hK K
                  refine wpAnyIn_ready (rs := [5]) (by kernel_rfl) (by simp) ?_
                  refine AllReadyIn.cons rfl (fun K hK => ?_) ?_
                  · go_simp
                    refine hK _ _ ?_
                    clear hK K
                    exact hfin
                  exact AllReadyIn.nil
                refine AllReadyIn.cons rfl (fun K hK => ?_) ?_
                · go_simp
                  refine hK _ _ ?_
                  clear hK K
                  refine wpAnyIn_ready (rs := [0]) (by kernel_rfl) (by simp) ?_
                  refine AllReadyIn.cons rfl (fun K hK => ?_) ?_
                  · go_simp
                    refine hK _ _ ?_
                    clear hK K
                    exact hfin
                  exact AllReadyIn.nil
                exact AllReadyIn.nil
              exact AllReadyIn.nil
            exact AllReadyIn.nil
          exact AllReadyIn.nil
        exact AllReadyIn.nil
      · refine wpAnyIn_ready (rs := [6]) (by kernel_rfl) (by simp) ?_
        refine AllReadyIn.cons rfl (fun K hK => ?_) AllReadyIn.nil
        refine step_append_run (fun _ => trivial) rfl _ _ 39 rfl rfl rfl hrun ?_
        go_simp
        refine hK _ _ ?_
        clear hK K
        refine wpAnyIn_ready (rs := [7]) (by kernel_rfl) (by simp) ?_
        refine AllReadyIn.cons rfl (fun K hK => ?_) AllReadyIn.nil
        go_simp
        refine hK _ _ ?_
        clear hK K
        refine wpAnyIn_done (by kernel_rfl) ?_ _
        gi_wp2
        refine ⟨(HAp.out.others.trans (KeepsOthers.setCell _ _ _)).from _, HAp.out.kpf.trans (KpF.setCell _ (Or.inr rfl) (by omega) _), ?_, ?_, ⟨.slice (some ⟨g', 0, none⟩) (zl.length + 1) cap', ?_, ?_⟩, ?_, ?_, Nat.le_trans a7 (by simpa [World.setCell] using HAp.out.size)⟩
        · refine (World.cell?_of_block (w := V) (a := ⟨w.heap.size, 0, none⟩) ?_).trans a1
          exact (Below.heap_setCell _ _ _ _ (by simp only; omega)).trans (HAp.out.same w.heap.size (by omega) (by omega))
        · exact ((Below.heap_setCell _ _ _ _ (by simp only; omega)).trans (HAp.out.same _ (by omega) (by omega))).trans A2.out
        · exact (Below.heap_setCell _ _ _ _ (by simp only; omega)).trans HAp.out.box
        · rw [Hzs.out, Hst.out]
          simp only [List.length_append, List.length_cons, List.length_nil, cellsT_snoc]
          exact ownsRow_setCell_below HAp.out.row (a := ⟨h + 2, 0, none⟩) (by simp only; omega) _
        · rw [Hzs.out, Hst.out]
          exact heap_set_same ((HAp.out.same _ (by omega) (by omega)).trans A5.out)
        · rw [hh]
          rw [hh] at a6
          exact ⟨HAp.out.os.trans a6.os, HAp.out.tape.trans a6.tape, HAp.out.output.trans a6.output, Nat.le_trans a6.size (by simpa [World.setCell] using HAp.out.size), fun k hk => ((Below.heap_setCell _ _ _ _ (by simp only; omega)).trans (HAp.out.same _ (by omega) (by omega))).trans (a6.block k hk)⟩
  case done =>
    rintro D ys V hD hys ⟨a1, a2, ⟨v, a3, a4⟩, a5, a6, a7⟩ hK
    have hpl : placesL s p = occE s p s.size := by
      unfold placesL
      by_cases hc : p.size = 0 ∨ s.size < p.size
      · rw [if_pos hc]; unfold occE; rw [show s.size + 1 - p.size = 0 from by omega]; rfl
      · rw [if_neg hc]
    have hys' : ys.map Subtype.val = occE s p s.size := Eq.trans hys hpl
    have hall := cut_all s p (by omega)
    rw [← hys'] at hall
    obtain ⟨z, hz⟩ : ∃ z, (ys.map Subtype.val).foldl (cutStep s p) (0, []) = z := ⟨_, rfl⟩
    have hzl : z.2.length ≤ s.size + 1 := by
      have := cut_len s p (ys.map Subtype.val) (0, [])
      rw [hz, hys'] at this
      have h3 := occE_len s p s.size
      simp at this
      omega
    have hz1s : z.1 ≤ s.size := by rw [← hz]; exact cut_le s p _ _ (fun y hy => by obtain ⟨q, _, rfl⟩ := List.mem_map.1 hy; exact q.2) (Nat.zero_le _)
    rw [hz] at a4 a5 hall
    obtain ⟨zn, zl⟩ := z
    simp only at a4 a5 hzl hz1s hall
    have cO : V.cell? ⟨h, 0, none⟩ = some (.string s) := by rw [cell_of_row _ _ _ _ _ _ a2]; rfl
    have cOut : V.cell? ⟨h + 1, 0, none⟩ = some v := by rw [cell_of_row _ _ _ _ _ _ a3]; rfl
    have cSt : V.cell? ⟨h + 2, 0, none⟩ = some (.int .i64 (zn : Int)) := by rw [cell_of_row _ _ _ _ _ _ a5]; rfl
    have hvn : ∀ k, k < W.heap.size → v.ownBlock ≠ some k := fun k hk e => by have := (a4.lt _ e).1; omega
    have v0 := hvn h (by omega)
    have v1 := hvn (h + 1) (by omega)
    have v2 := hvn (h + 2) (by omega)
    have hvD : v.ownBlock ≠ some D := by
      intro e
      rcases a4.2 with ⟨rfl, _⟩ | ⟨g, cap, cur, rfl, _, hh2, _⟩
      · simp [Value.ownBlock] at e
      · have : g = D := by simpa [Value.ownBlock] using e
        subst this
        rw [hK] at hh2
        cases hh2
    have Hall := Lib.hid hall
    have HK := Lib.hid hK
    clear hall hz hys hys' hpl hK a1 a2 a3 a5 hvn
    have j0 : (0 : Int) ≤ (zn : Int) := by omega
    have j1 : (zn : Int) ≤ (s.size : Int) := by omega
    gi_wp2
    refine wpIn_wide.2 ?_
    go_region_held3 (fun w' => w'.cell? ⟨h, 0, none⟩ = some (.string s) ∧ w'.cell? ⟨h + 1, 0, none⟩ = some v ∧ w'.cell? ⟨h + 2, 0, none⟩ = some (.int .i64 (zn : Int)))
      (first
        | go_keep
        | (go_split_ands
           refine ⟨?_, ?_, ?_⟩
           · (rw [hgrow.cell_far _ (by simp; omega) (Ne.symm v0)]; assumption)
           · (rw [hgrow.cell_far _ (by simp; omega) (Ne.symm v1)]; assumption)
           · (rw [hgrow.cell_far _ (by simp; omega) (Ne.symm v2)]; assumption)))
      ((refine step_append_lies _ (by rfl) _ _ _ (by rfl) W.heap.size 9 i0 _ 1 16 Tryd.underlying39 hi0 hz0 hz1 hz2 rfl (by omega) v zl.length (cellsT zl) (by rfl) ((a4.alloc _).drew)
          ⟨V.heap.size, 0, none⟩ 1 1 [.string (s.extract zn s.size)] (by rfl) (by rfl) (World.news_of_block (cs := #[.string (s.extract zn s.size)]) (t := 9) (fr := (0, 0)) (heap_alloc_new V _)) (by simp [Value.oneCell'])
          (by omega) (by unfold maxLen; omega) (by omega) (by simp; omega) (V.heap.size + 1) (by simp) ?_; intro gg cap w2 hown1 hgrow hat hlt2))
    have hK2 : w2.heap[D]? = some (.deferred (some [])) := (hgrow.block D (by have := lt_of_heap HK.out; simp; omega) (fun e => hvD e.symm)).trans (heap_old _ HK.out)
    have hbw : Below w.heap.size w w1 := ((Below.refl _ w).alloc (Nat.le_refl _) _).trans (hb1.mono (by simp))
    have hb2 : Below w.heap.size w w2 := (((hbw.trans (a6.mono (by omega))).alloc (by omega) _).drew).grown hgrow (by simp; omega) (fun j hj => by have := (a4.lt j hj).1; omega)
    gi_wp2
    refine ⟨by simp, .inl ⟨_, _, rfl, run_takeDeferred hK2, ?_⟩⟩
    refine ⟨_, results_tmp rfl _ _ _, _, rfl, ?_, hb2.trans (belowK_b (w := w) (Nat.le_refl _) w2 D _ _ (by omega) hK2 rfl rfl)⟩
    refine ownsRow_putObj ?_ _ hK2 rfl
    rw [← Hall.out, List.length_append, cellsT_snoc]
    exact own_lower hown1 (by omega)
  case stop =>
    rintro D c pre V _ _ hf _
    exact hf.elim
end Go.Proofs.YtohjcimkpcpgbaaDoor
