/- The document's copy of a value: its walk. -/
import Derived.Test.YtmicpdibnkmekaaGreatDoorUBase
import Derived.Deep.RegionLaw
import Derived.Deep.AppendLies
import Derived.LoopTactic
namespace Go.Proofs.YtmicpdibnkmekaaGreatDoor
open Go Go.RowKit

theorem infoVal : (Tryz.prog.info? 27).map (fun i => (i.zero, i.size, i.bytes)) = some (some (.agg #[.int .i64 0, .float .f64 0, .string ⟨#[]⟩, .slice none 0 0, .slice none 0 0]), 5, 80) := by kernel_rfl
theorem row5 {w : World} {b : Nat} {u0 u1 u2 u3 u4 : Value} {t : TypeId} (hb : w.heap[b]? = some (.cells #[u0, u1, u2, u3, u4] t (0, 0))) :
    w.cell? ⟨b, 0, none⟩ = some u0 ∧ w.cell? ⟨b, 1, none⟩ = some u1 ∧ w.cell? ⟨b, 2, none⟩ = some u2 ∧ w.cell? ⟨b, 3, none⟩ = some u3 ∧ w.cell? ⟨b, 4, none⟩ = some u4 ∧
      w.frozen? ⟨b, 0, none⟩ = false ∧ w.frozen? ⟨b, 1, none⟩ = false ∧ w.frozen? ⟨b, 2, none⟩ = false ∧ w.frozen? ⟨b, 3, none⟩ = false ∧ w.frozen? ⟨b, 4, none⟩ = false := by
  simp [World.cell?, World.frozen?, hb]
theorem copy_mid {w : World} {v : V} {m : Nat} {box : Array Value} {j : Nat} {lvv kvv : Value} {ps : List (Value × Value)} {W w2 w4 : World} {o : Obj} (hI : CopyInv w v m box j lvv kvv ps W) (h2 : Below W.heap.size W w2) (hgrow : (w2.alloc o).grownBy w4 lvv.ownBlock) :
    w4.cell? ⟨w.heap.size + 1 + 1, 3, none⟩ = some lvv ∧ w4.frozen? ⟨w.heap.size + 1 + 1, 3, none⟩ = false := by
  have l2 := (Array.getElem?_eq_some_iff.1 hI.b2).1
  have hsz := h2.size
  have e : w4.heap[w.heap.size + 1 + 1]? = some (.cells (cellsV v lvv kvv) 27 (0, 0)) := by
    rw [hgrow.block _ (by simp; omega) (fun e => by have := (hI.own.lt _ e.symm).1; omega)]
    refine row_alloc3 ?_ _
    rw [h2.block _ l2]
    exact hI.b2
  obtain ⟨_, _, _, c3, _, _, _, _, z3, _⟩ := row5 e
  exact ⟨c3, z3⟩
theorem copy_low {w : World} {v : V} {m : Nat} {box : Array Value} {j : Nat} {lvv kvv : Value} {ps : List (Value × Value)} {W w2 w4 : World} {o : Obj} (hI : CopyInv w v m box j lvv kvv ps W) (h2 : Below W.heap.size W w2) (hgrow : (w2.alloc o).grownBy w4 lvv.ownBlock)
    (p : Addr) (hp : p.block < w.heap.size + 3) : w4.cell? p = W.cell? p := by
  have l2 := (Array.getElem?_eq_some_iff.1 hI.b2).1
  have hsz := h2.size
  have e : w4.heap[p.block]? = W.heap[p.block]? := by
    rw [hgrow.block _ (by simp; omega) (fun e => by have := (hI.own.lt _ e.symm).1; omega), ← h2.block _ (by omega)]
    exact ((Below.refl w2.heap.size w2).alloc (Nat.le_refl _) o).block p.block (by omega)
  unfold World.cell?
  rw [e]
theorem own_slice {w : World} {base : Nat} {e : TypeId} {size : Nat} {v : Value} {n : Nat} {xs : List Value} (h : w.ownsRow base e size v n xs) : ∃ A n c, v = .slice A n c := by
  rcases h.2 with ⟨rfl, _⟩ | ⟨g, cap, cur, rfl, _⟩
  · exact ⟨_, _, _, rfl⟩
  · exact ⟨_, _, _, rfl⟩
theorem AtP.slices {w : World} {p : Nat → Prop} : ∀ {n : Nat} {v : V} {lv kv : Value}, AtP w p n v lv kv → ∃ a1 n1 c1 a2 n2 c2, lv = .slice a1 n1 c1 ∧ kv = .slice a2 n2 c2
  | 0, _, _, _, h => h.elim
  | n + 1, v, lv, kv, h => by
    obtain ⟨_, ⟨⟨a2, c2, e2, _⟩, _⟩, _, a, c, _, _, e, _⟩ := h
    exact ⟨a, _, c, a2, _, c2, e, e2⟩
theorem own_carry {W w2 : World} {base : Nat} {e : TypeId} {size : Nat} {v : Value} {n : Nat} {xs : List Value} (h : W.ownsRow base e size v n xs) (h2 : Below W.heap.size W w2) (o : Obj) : (w2.alloc o).ownsRow base e size v n xs :=
  (h.kept (row := none) ⟨h2.os, h2.tape, h2.output, h2.size, fun k hk _ => h2.block k hk⟩ (by cases v.ownBlock <;> simp)).alloc o
theorem copy_e2 {w : World} {o0 o1 o2 o3 : Obj} {w1 : World} (hgrow : ((((w.alloc o0).alloc o1).alloc o2).alloc o3).grownBy w1 (some (w.heap.size + 1 + 1 + 1))) : w1.heap[w.heap.size + 1 + 1]? = some o2 := by
  rw [hgrow.block _ (by simp) (fun e => by simp at e)]
  have := heap_alloc_new ((w.alloc o0).alloc o1) o2
  rw [World.size_alloc, World.size_alloc] at this
  exact row_alloc3 this _
theorem carry_call {wr w2 : World} {s B q : Nat} {u1 u2 u3 u4 u5 u6 : Value} (hh : Below wr.heap.size wr w2) (hs : s + 1 + 1 < wr.heap.size) (hB : B < wr.heap.size)
    (x : wr.cell? ⟨s, 3, none⟩ = some u1) (f0 : wr.cell? ⟨B, q, none⟩ = some u2) (f1 : wr.cell? ⟨B, q + 1, none⟩ = some u3) (f2 : wr.cell? ⟨B, q + 2, none⟩ = some u4)
    (f3 : wr.cell? ⟨B, q + 3, none⟩ = some u5) (f4 : wr.cell? ⟨B, q + 4, none⟩ = some u6) :
    w2.cell? ⟨s, 3, none⟩ = some u1 ∧ w2.cell? ⟨B, q, none⟩ = some u2 ∧ w2.cell? ⟨B, q + 1, none⟩ = some u3 ∧ w2.cell? ⟨B, q + 2, none⟩ = some u4 ∧
      w2.cell? ⟨B, q + 3, none⟩ = some u5 ∧ w2.cell? ⟨B, q + 4, none⟩ = some u6 := by
  exact ⟨(hh.cell (p := ⟨s, 3, none⟩) (by show s < _; omega)).trans x, (hh.cell (p := ⟨B, q, none⟩) hB).trans f0, (hh.cell (p := ⟨B, q + 1, none⟩) hB).trans f1,
    (hh.cell (p := ⟨B, q + 2, none⟩) hB).trans f2, (hh.cell (p := ⟨B, q + 3, none⟩) hB).trans f3, (hh.cell (p := ⟨B, q + 4, none⟩) hB).trans f4⟩
def set5 (w : World) (R : Nat) (x0 x1 x2 x3 x4 : Value) : World :=
  ((((w.setCell ⟨R, 0, none⟩ x0).setCell ⟨R, 1, none⟩ x1).setCell ⟨R, 2, none⟩ x2).setCell ⟨R, 3, none⟩ x3).setCell ⟨R, 4, none⟩ x4
theorem row_setAt {w : World} {R : Nat} {cs : Array Value} {t : TypeId} {fr : Nat × Nat} (h : w.heap[R]? = some (.cells cs t fr)) (i : Nat) (x : Value) : (w.setCell ⟨R, i, none⟩ x).heap[R]? = some (.cells (cs.setIfInBounds i x) t fr) := by
  simp [World.setCell, Array.getElem?_modify, h]
theorem set5_row {w : World} {R : Nat} {u0 u1 u2 u3 u4 : Value} {t : TypeId} (h : w.heap[R]? = some (.cells #[u0, u1, u2, u3, u4] t (0, 0))) (x0 x1 x2 x3 x4 : Value) : (set5 w R x0 x1 x2 x3 x4).heap[R]? = some (.cells #[x0, x1, x2, x3, x4] t (0, 0)) := by
  exact row_setAt (row_setAt (row_setAt (row_setAt (row_setAt h 0 x0) 1 x1) 2 x2) 3 x3) 4 x4
theorem set5_other {w : World} {R k : Nat} (h : k ≠ R) (x0 x1 x2 x3 x4 : Value) : (set5 w R x0 x1 x2 x3 x4).heap[k]? = w.heap[k]? := by
  unfold set5
  rw [setCell_other_block _ h, setCell_other_block _ h, setCell_other_block _ h, setCell_other_block _ h, setCell_other_block _ h]
theorem set5_size (w : World) (R : Nat) (x0 x1 x2 x3 x4 : Value) : (set5 w R x0 x1 x2 x3 x4).heap.size = w.heap.size := by
  simp only [set5, World.setCell, Array.size_modify]
theorem copy_end {w : World} {v : V} {m : Nat} {box : Array Value} {lvv kvv : Value} {ps : List (Value × Value)} {W : World} (hs : Small v) (hI : CopyInv w v m box v.l.length lvv kvv ps W) (x0 x1 x2 x3 x4 : Value) :
    AtP (set5 W (w.heap.size + 1) x0 x1 x2 x3 x4) (fun b => w.heap.size ≤ b ∧ b < (set5 W (w.heap.size + 1) x0 x1 x2 x3 x4).heap.size) (m + 1) v lvv kvv ∧ Below w.heap.size w (set5 W (w.heap.size + 1) x0 x1 x2 x3 x4) := by
  have hb := hI.bel
  refine ⟨AtP.more (fun b hb => ⟨by have := hb.1; omega, by rw [set5_size]; exact hb.2.1⟩) _ _ _ _ (AtP.keep (fun a ha => cell_of_block (set5_other (by have := ha.1; omega) ..)) _ _ _ _ (copy_done hs hI)), ?_⟩
  have q : w.heap.size ≤ w.heap.size + 1 := by omega
  unfold set5
  exact ((((hb.setCell (p := ⟨w.heap.size + 1, 0, none⟩) q x0).setCell (p := ⟨w.heap.size + 1, 1, none⟩) q x1).setCell (p := ⟨w.heap.size + 1, 2, none⟩) q x2).setCell (p := ⟨w.heap.size + 1, 3, none⟩) q x3).setCell (p := ⟨w.heap.size + 1, 4, none⟩) q x4
set_option maxRecDepth 100000 in
set_option maxHeartbeats 4000000 in
theorem Copy_any (m : Nat) : ∀ (v : V) (lv kv : Value) (w : World), At w w.heap.size m v lv kv →
    Calls Tryz.prog 12 #[.agg (cellsV v lv kv)] w fun e w' => ∃ lv' kv', e = .returned (.agg (cellsV v lv' kv')) ∧ AtP w' (fun b => w.heap.size ≤ b ∧ b < w'.heap.size) m v lv' kv' ∧ Below w.heap.size w w' := by
  induction m with
  | zero => intro v lv kv w h; exact h.elim
  | succ m ih =>
    intro v lv kv w h
    obtain ⟨hsm, ha, _, a, c, B, o, rfl, hab, hi⟩ := h.opened
    obtain ⟨A, ad, ck, rfl, hA, hac⟩ := ha.1.dest
    have hsf := run_store_float Tryz.prog
    rw [List.length_map] at ha
    have HA := Lib.hid ha
    clear ha hac hA
    obtain ⟨i0, hi0, hz0, hz1, hz2⟩ := info_parts infoVal
    rw [List.length_map]
    unfold cellsV
    go_enter Tryz.func12, Tryz.ntmps12
    go_wp2_with (at_builtin; refine app_arr rfl _ _ _ rfl w.heap.size 9 (.string ⟨#[]⟩) 16 Tryz.underlying25 infoStr rfl _ 0 [] rfl ?o1 w.heap.size (.slice A v.ks.length ck) (v.ks.map Value.string) ?o2 ?o3 rfl ?o4 ?o5 ?o6 ?o7 ?_)
    case o1 => exact own_fresh _ _ _ _ (by simp) (by omega)
    case o2 => exact HA.out.1.below (((((Below.refl w.heap.size w).alloc (by simp) _).alloc (by simp) _).alloc (by simp; omega) _).alloc (by simp; omega) _)
    case o3 => exact fun n c e => (HA.out.2 _ _ _ e).2.2 rfl
    case o4 =>
      intro u hu
      obtain ⟨x, _, rfl⟩ := List.mem_map.1 hu
      rfl
    case o5 => rw [List.length_map]; have := hsm.2.2.2.2.2.1; unfold maxLen; omega
    case o6 => rw [List.length_map]; have := hsm.2.2.2.2.2.1; omega
    case o7 => simp; omega
    intro v' w1 hown hgrow hblk
    have hgrow' : ((((w.alloc (.cells (cellsV v (.slice a v.l.length c) (.slice A v.ks.length ck)) 27)).alloc (.cells #[.int .i64 0, .float .f64 0, .string ⟨#[]⟩, .slice none 0 0, .slice none 0 0] 27)).alloc (.cells (cellsV v (.slice a v.l.length c) (.slice A v.ks.length ck)) 27)).alloc (.cells #[] 9)).grownBy w1 (some (w.heap.size + 1 + 1 + 1)) := hgrow
    have hst := copy_start (m := m) (zs := v.ks.map Value.string) rfl (by simpa using hown) hgrow' (by rcases hblk with h | h; exact Or.inl (h.trans (by simp [Value.ownBlock])); exact Or.inr (h.trans (by simp)))
    obtain ⟨x0, x1, x2, x3, x4, y0, y1, y2, y3, y4⟩ := row5 (copy_e2 hgrow)
    obtain ⟨A4, n4, c4, rfl⟩ := own_slice hown
    have HST := Lib.hid hst
    have HSM := Lib.hid hsm
    clear hst hown hgrow hgrow' hblk hsm HA
    go_wp2_with fail
    go_loopw [4] (fun i W => ∃ (j : Nat) (lvv kvv : Value) (ps : List (Value × Value)), i = .int .i64 j ∧ CopyInv w v m (cellsV v (.slice a v.l.length c) (.slice A v.ks.length ck)) j lvv kvv ps W) (fun i _ => v.l.length - (intOf i).toNat)
    case atStart => exact ⟨0, _, _, [], rfl, HST.out⟩
    case round =>
      obtain ⟨j, lvv, kvv, ps, rfl, hI⟩ := hrel
      clear x0 x1 x2 x3 x4 y0 y1 y2 y3 y4 HST
      have CI := Lib.hid hI
      obtain ⟨_, _, _, bx3, _, _, _, _, _, _⟩ := row5 hI.b0
      obtain ⟨_, _, _, rs3, _, _, _, _, _, _⟩ := row5 hI.b2
      have hsl := HSM.out.2.2.2.2.1
      have hjle := hI.le
      have hszw : w.heap.size + 1 + 1 < wr.heap.size := (Array.getElem?_eq_some_iff.1 hI.b2).1
      have HBEL := Lib.hid hI.bel
      obtain ⟨A5, n5, c5, rfl⟩ := own_slice hI.own
      clear hI
      by_cases hlt : j < v.l.length
      · obtain ⟨lv', kv', h5, hAt⟩ := hi j hlt
        obtain ⟨rfl, hBw⟩ := hab (by omega)
        obtain ⟨f0, f1, f2, f3, f4⟩ := h5.keep hBw (fun p hp => HBEL.out.cell hp)
        have hBlo : B < w.heap.size + 3 := by omega
        have hBwr : B < wr.heap.size := by have := HBEL.out.size; omega
        obtain ⟨a1, n1, k1, a2, n2, k2, rfl, rfl⟩ := hAt.slices
        have HAT : Hid (At wr wr.heap.size m v.l[j] (.slice a1 n1 k1) (.slice a2 n2 k2)) := Lib.hid (At.more HBEL.out.size _ _ _ _ (hAt.below HBEL.out))
        have HATD : Hid (At wr.drew wr.drew.heap.size m v.l[j] (.slice a1 n1 k1) (.slice a2 n2 k2)) := Lib.hid (HAT.out.below (Below.refl _ _).drew)
        simp only [cellsV] at ih
        have HIH := Lib.hid ih
        clear hi hab hAt h5 ih
        go_wp2_with fail
        have rs3d : wr.drew.cell? ⟨w.heap.size + 1 + 1, 3, none⟩ = some (.slice A5 n5 c5) := rs3
        have hBne : B ≠ w.heap.size + 1 + 1 := by omega
        go_region_law ((first
            | (go_simp; go_at_call 12; refine (HIH.out v.l[j] (.slice a1 n1 k1) (.slice a2 n2 k2) wr.drew HATD.out).mono ?_; rintro e w2 ⟨aa, bb, he, hat2, hb2⟩; obtain ⟨p1, p2, p3, p4, p5, p6, rfl, rfl⟩ := AtP.slices hat2; subst he; have rs2 := (((((Below.refl _ _).drew).trans hb2).cell (p := ⟨w.heap.size + 1 + 1, 3, none⟩) hszw).trans rs3); have rs2a := fun o => ((((((Below.refl _ _).drew).trans hb2).alloc (by have := hb2.size; simpa using this) o).cell (p := ⟨w.heap.size + 1 + 1, 3, none⟩) hszw).trans rs3))
            | (refine step_append_lies _ (by rfl) _ _ _ (by rfl) (w.heap.size + 3) 27 i0 _ 5 80 Tryz.underlying24 hi0 hz0 hz1 hz2 rfl (by omega) (.slice A5 n5 c5) j (flat5 (v.l.take j) ps) (by rfl) (own_carry CI.out.own (((Below.refl _ _).drew).trans hb2) _) ⟨w2.heap.size, 0, none⟩ 1 1 (cellsV v.l[j] (.slice p1 p2 p3) (.slice p4 p5 p6)).toList (by rfl) (by rfl) (World.news_of_block (cs := cellsV v.l[j] (.slice p1 p2 p3) (.slice p4 p5 p6)) (t := 27) (fr := (0, 0)) (heap_alloc_new w2 _)) (by simp [Value.oneCell', cellsV]) (by omega) (by unfold maxLen; omega) (by omega) (by have := hb2.size; simp at this ⊢; omega) (w2.heap.size + 1) (by simp) ?_; intro gg cap w4 hown4 hgrow4 hat4 hlt4; obtain ⟨c3, z3⟩ := copy_mid CI.out (((Below.refl _ _).drew).trans hb2) hgrow4)))
        all_goals (go_wp2_with fail)
        all_goals go_roundw
        all_goals try (simp only [Go.RowKit.intOf]; omega)
        all_goals exact ⟨j + 1, _, kvv, ps ++ [(.slice p1 p2 p3, .slice p4 p5 p6)], by go_num, copy_step CI.out hlt (((Below.refl _ _).drew).trans hb2) (AtP.more (fun b hb => ⟨Nat.le_trans ((Below.refl 0 wr).drew).size hb.1, hb.2⟩) _ _ _ _ hat2) hown4 hgrow4 hat4⟩
      · have hj : j = v.l.length := by omega
        subst hj
        clear hi hab ih
        obtain ⟨A6, c6, rfl, _⟩ := CI.out.keys.1
        obtain ⟨e10, e11, e12, e13, e14, d10, d11, d12, d13, d14⟩ := row5 CI.out.b1
        go_wp2_with fail
        have hrow := set5_row CI.out.b1 (.int .i64 v.k) (.float .f64 v.f) (.string v.s) (.slice A5 n5 c5) (.slice A6 v.ks.length c6)
        refine bodyPost_ret_by (results_cell_row rfl _ _ (w.heap.size + 1) 27 _ (0, 0) _ rfl hrow Tryz.underlying27 rfl (by rw [hi0]; simp [hz1])) rfl ?_
        have hE := copy_end HSM.out CI.out (.int .i64 v.k) (.float .f64 v.f) (.string v.s) (.slice A5 n5 c5) (.slice A6 v.ks.length c6)
        rw [List.length_map] at hE
        exact ⟨_, _, rfl, hE⟩
end Go.Proofs.YtmicpdibnkmekaaGreatDoor
