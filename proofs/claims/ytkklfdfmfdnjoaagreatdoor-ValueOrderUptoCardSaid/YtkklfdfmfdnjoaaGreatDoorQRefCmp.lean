/- The document's Get: what it answers lies where it lay. -/
import Derived.Test.YtkklfdfmfdnjoaaGreatDoorQRefPut
import Derived.Test.YtkklfdfmfdnjoaaGreatDoorQCompare
namespace Go.Proofs.YtkklfdfmfdnjoaaGreatDoor
open Go Go.RowKit

set_option maxRecDepth 100000 in
set_option maxHeartbeats 4000000 in
/-- .. and where it lies. -/
theorem refGetB_any (v : V) (m B0 : Nat) (lv kv : Value) (x : ByteArray) (w : World) (hB0 : B0 ≤ w.heap.size) (h : At w B0 (m + 1) v lv kv) (hlen : v.ks.length ≤ v.l.length) :
    Calls Tryz.prog 33 #[.agg (cellsV v lv kv), .string x] w fun e w' =>
      ((Lib.idxOfS v.ks x = -1 ∧ e = .returned (.tuple #[.agg zeroA, .bool false])) ∨ ∃ (i : Nat) (hi : i < v.l.length) (lv' kv' : Value), Lib.idxOfS v.ks x = (i : Int) ∧ e = .returned (.tuple #[.agg (cellsV v.l[i] lv' kv'), .bool true]) ∧ At w B0 m v.l[i] lv' kv') ∧ Below w.heap.size w w' := by
  have hsf := run_store_float Tryz.prog
  obtain ⟨i0, hi0, hz0, hz1, hz2⟩ := info_parts infoVal
  have hpl := fun W (hb : Below w.heap.size w W) => refPlace_any v m lv kv x W (((At.more hB0 _ _ _ _ h).below hb).more hb.size)
  have hix := idx_cases v.ks x
  obtain ⟨hsm, ha, hcp, a, c, B, o, rfl, hab, hi⟩ := h.opened
  obtain ⟨A, ad, ck, rfl, _, _⟩ := ha.1.dest
  rw [List.length_map] at *
  have hls := hsm.2.2.2.2.1
  obtain ⟨y, hy⟩ : ∃ y, Lib.idxOfS v.ks x = y := ⟨_, rfl⟩
  rw [hy] at hpl hix ⊢
  have HX := Lib.hid (show y = -1 ∨ ∃ i : Nat, i < v.l.length ∧ y = (i : Int) from by
    rcases hix with ⟨q, _⟩ | ⟨i, h1, h2, _⟩
    · exact Or.inl q
    · exact Or.inr ⟨i, by omega, h2⟩)
  unfold cellsV at hpl
  have HPL := Lib.hid hpl
  have HAB := Lib.hid hab
  have HI := Lib.hid hi
  clear hpl h ha hcp hab hi hix hy hlen hsm
  unfold cellsV
  go_enter Tryz.func33, Tryz.ntmps33
  go_wp2_with fail
  have H := Lib.hid ((HW.start w).two #[.int .i64 v.k, .float .f64 v.f, .string v.s, .slice a v.l.length c, .slice A v.ks.length ck] #[.int .i64 0, .float .f64 0, .string ⟨#[]⟩, .slice none 0 0, .slice none 0 0] 27 27)
  refine (HPL.out _ H.out.bel).mono ?_
  rintro e w1 ⟨rfl, hb⟩
  have H1 := Lib.hid (H.out.below hb)
  clear hb H
  obtain ⟨x0, x1, x2, x3, x4⟩ := row5p (H1.out.rows _ (.tail _ (.head _)))
  obtain ⟨u0, u1, u2, u3, u4, v0, v1, v2, v3, v4⟩ := row5 (H1.out.rows _ (.head _))
  rcases HX.out with rfl | ⟨i, hlt, rfl⟩
  · go_wp2_with fail
    refine bodyPost_ret_by (results_row_tmp rfl _ _ (w.heap.size + 1) 27 _ (0, 0) _ (.bool false) rfl rfl (set5_row (H1.out.rows _ (.head _)) (.int .i64 0) (.float .f64 0) (.string ⟨#[]⟩) (.slice none 0 0) (.slice none 0 0)) Tryz.underlying27 rfl sizeVal) rfl ?_
    exact ⟨rfl, set5_below0 H1.out.bel (by omega) ..⟩
  · obtain ⟨lv', kv', h5, hAt⟩ := HI.out i hlt
    obtain ⟨rfl, hBw⟩ := HAB.out (by omega)
    obtain ⟨f0, f1, f2, f3, f4⟩ := h5.keep hBw (fun p hp => H1.out.bel.cell (by omega))
    obtain ⟨a1, n1, k1, a2, n2, k2, rfl, rfl⟩ := hAt.slices
    have HAT := Lib.hid hAt
    clear hAt h5
    go_wp2_with fail
    refine bodyPost_ret_by (results_row_tmp rfl _ _ (w.heap.size + 1) 27 _ (0, 0) _ (.bool true) rfl rfl (set5_row (H1.out.rows _ (.head _)) (.int .i64 v.l[i].k) (.float .f64 v.l[i].f) (.string v.l[i].s) (.slice a1 n1 k1) (.slice a2 n2 k2)) Tryz.underlying27 rfl sizeVal) rfl ?_
    have hbf : Below w.heap.size w (set5 w1 (w.heap.size + 1) (.int .i64 v.l[i].k) (.float .f64 v.l[i].f) (.string v.l[i].s) (.slice a1 n1 k1) (.slice a2 n2 k2)) := set5_below0 H1.out.bel (by omega) ..
    exact ⟨Or.inr ⟨i, hlt, _, _, rfl, rfl, HAT.out⟩, hbf⟩
end Go.Proofs.YtkklfdfmfdnjoaaGreatDoor
/- The document's Compare: its parts. -/
namespace Go.Proofs.YtkklfdfmfdnjoaaGreatDoor
open Go Go.RowKit

theorem sign_any (a b : Bool) (w : World) : Calls Tryz.prog 66 #[.bool a, .bool b] w fun e w' => e = .returned (.int .i64 (if a = true then -1 else if b = true then 1 else 0)) ∧ w = w' := by
  cases a <;> cases b
  all_goals
    go_enter Tryz.func66, Tryz.ntmps66
    go_wp2_with fail
    go_ret
    exact ⟨rfl, rfl⟩
/-- What the document's Compare does to values of at most m levels. -/
def RefC (m : Nat) : Prop := ∀ (a b : V) (da db : Nat) (la ka lb kb : Value) (w : World), rightV da a = true → rightV db b = true → At w w.heap.size m a la ka → At w w.heap.size m b lb kb →
  Calls Tryz.prog 21 #[.agg (cellsV a la ka), .agg (cellsV b lb kb)] w fun e w' => e = .returned (.int .i64 (cmpV m a b)) ∧ Below w.heap.size w w'
set_option maxRecDepth 100000 in
set_option maxHeartbeats 3000000 in
theorem refLists_any (m : Nat) (ih : RefC m) (xs ys : List V) (d1 d2 : Nat) (hr1 : ∀ i (h : i < xs.length), rightV d1 xs[i] = true) (hr2 : ∀ i (h : i < ys.length), rightV d2 ys[i] = true) (a1 a2 : Option Addr) (c1 c2 : Nat) (hxl : xs.length ≤ 1048576) (hyl : ys.length ≤ 1048576) (w : World)
    (hx : RowAt w w.heap.size m a1 xs) (hy : RowAt w w.heap.size m a2 ys) :
    Calls Tryz.prog 67 #[.slice a1 xs.length c1, .slice a2 ys.length c2] w fun e w' => e = .returned (.int .i64 (cmpRow (cmpV m) xs ys)) ∧ Below w.heap.size w w' := by
  obtain ⟨r, hr⟩ : ∃ r, cmpRow (cmpV m) xs ys = r := ⟨_, rfl⟩
  rw [hr]
  have HR := Lib.hid hr
  have hend : ∀ x : Nat, x = min xs.length ys.length → cmpRow (cmpV m) xs ys = cmpRow (cmpV m) (xs.drop x) (ys.drop x) → cmpI xs.length ys.length = r := fun x h1 h2 => (cmpRow_end h1 h2).symm.trans hr
  have HEND := Lib.hid hend
  have HX := Lib.hid hx
  have HY := Lib.hid hy
  have HIH := Lib.hid ih
  have HR1 := Lib.hid hr1
  have HR2 := Lib.hid hr2
  clear hr hend hx hy ih hr1 hr2
  go_enter Tryz.func67, Tryz.ntmps67
  go_wp2_with fail
  go_loopw [5] (fun k W => ∃ x : Nat, x ≤ min xs.length ys.length ∧ k = .int .i64 x ∧ cmpRow (cmpV m) xs ys = cmpRow (cmpV m) (xs.drop x) (ys.drop x) ∧ Below w.heap.size w W) (fun k _ => min xs.length ys.length - (intOf k).toNat)
  case atStart => exact ⟨0, Nat.zero_le _, rfl, by simp, Below.refl _ _⟩
  case round =>
    obtain ⟨x, hxm, rfl, heq, hbel⟩ := hrel
    have HEQ := Lib.hid heq
    have HBEL := Lib.hid hbel
    have hx1 : x ≤ xs.length := by omega
    have hx2 : x ≤ ys.length := by omega
    clear heq hbel
    by_cases hlt : x < min xs.length ys.length
    · have h1 : x < xs.length := by omega
      have h2 : x < ys.length := by omega
      have hstep := cmpRow_go h1 h2 HEQ.out
      obtain ⟨B1, o1, hab1, hi1⟩ := HX.out
      obtain ⟨B2, o2, hab2, hi2⟩ := HY.out
      obtain ⟨rfl, hB1⟩ := hab1 (by omega)
      obtain ⟨rfl, hB2⟩ := hab2 (by omega)
      obtain ⟨lv1, kv1, h51, hA1⟩ := hi1 x h1
      obtain ⟨lv2, kv2, h52, hA2⟩ := hi2 x h2
      obtain ⟨f0, f1, f2, f3, f4⟩ := h51.keep hB1 (fun p hp => HBEL.out.cell hp)
      obtain ⟨g0, g1, g2, g3, g4⟩ := h52.keep hB2 (fun p hp => HBEL.out.cell hp)
      obtain ⟨A1, n1, m1, A2, n2, m2, rfl, rfl⟩ := hA1.slices
      obtain ⟨A3, n3, m3, A4, n4, m4, rfl, rfl⟩ := hA2.slices
      have hbd : Below w.heap.size w wr.drew := HBEL.out.drew
      have hc := HIH.out xs[x] ys[x] d1 d2 _ _ _ _ wr.drew (HR1.out x h1) (HR2.out x h2) ((hA1.below hbd).more hbd.size) ((hA2.below hbd).more hbd.size)
      unfold cellsV at hc
      clear h51 h52 hA1 hA2 hi1 hi2 hab1 hab2 hbd HX HY
      generalize cmpV m xs[x] ys[x] = q at hstep hc
      have HC := Lib.hid hc
      by_cases hq : q = 0
      · subst hq
        rw [if_pos rfl] at hstep
        have HSTEP := Lib.hid hstep
        clear hstep hc
        go_wp2_with fail
        go_region_with (go_at_call 21; refine HC.out.mono ?_; rintro e w3 ⟨rfl, hb3⟩)
        all_goals
          have HB3 : Hid (Below w.heap.size w w3) := Lib.hid (HBEL.out.drew.trans (hb3.mono HBEL.out.size))
          clear hb3 HC
          go_wp2_with fail
          go_roundw
          case rel => exact ⟨x + 1, by omega, by go_num, HSTEP.out, HB3.out⟩
          case measure => simp [intOf]; omega
      · rw [if_neg hq] at hstep
        have HSTEP := Lib.hid (hstep.symm.trans HR.out)
        have hqb : (q != 0) = true := by simpa using hq
        clear hstep hc
        go_wp2_with fail
        go_region_with (go_at_call 21; refine HC.out.mono ?_; rintro e w3 ⟨rfl, hb3⟩)
        all_goals
          have HB3 : Hid (Below w.heap.size w w3) := Lib.hid (HBEL.out.drew.trans (hb3.mono HBEL.out.size))
          clear hb3 HC
          go_wp2_with fail
          go_ret
          exact ⟨by rw [HSTEP.out]; rfl, HB3.out⟩
    · have he := HEND.out x (by omega) HEQ.out
      rcases Nat.lt_trichotomy xs.length ys.length with q | q | q
      · have hre : r = -1 := by rw [← he]; unfold cmpI; rw [if_pos (by omega)]
        have HRE := Lib.hid hre
        have hxe : x = xs.length := by omega
        have dq : decide (xs.length < ys.length) = true := decide_eq_true q
        clear he hre hlt hxm
        go_wp2_with fail
        refine (sign_any _ _ _).mono ?_
        rintro e w3 ⟨rfl, rfl⟩
        go_wp2_with fail
        go_ret
        exact ⟨by rw [HRE.out]; rfl, HBEL.out⟩
      · have hre : r = 0 := by rw [← he]; unfold cmpI; rw [if_neg (by omega), if_neg (by omega)]
        have HRE := Lib.hid hre
        have hxe : x = xs.length := by omega
        have dq : decide (xs.length < ys.length) = false := decide_eq_false (by omega)
        have dq2 : decide (ys.length < xs.length) = false := decide_eq_false (by omega)
        clear he hre hlt hxm
        go_wp2_with fail
        refine (sign_any _ _ _).mono ?_
        rintro e w3 ⟨rfl, rfl⟩
        go_wp2_with fail
        go_ret
        exact ⟨by rw [HRE.out]; rfl, HBEL.out⟩
      · have hre : r = 1 := by rw [← he]; unfold cmpI; rw [if_neg (by omega), if_pos (by omega)]
        have HRE := Lib.hid hre
        have hxe : x = ys.length := by omega
        have hxl2 : x < xs.length := by omega
        have dq : decide (xs.length < ys.length) = false := decide_eq_false (by omega)
        have dq2 : decide (ys.length < xs.length) = true := decide_eq_true q
        clear he hre hlt hxm
        go_wp2_with fail
        refine (sign_any _ _ _).mono ?_
        rintro e w3 ⟨rfl, rfl⟩
        go_wp2_with fail
        go_ret
        exact ⟨by rw [HRE.out]; rfl, HBEL.out⟩
/-- A string as a value. -/
def asStr (s : ByteArray) : V := .mk 4 0 s [] []
theorem asStr_at (w : World) (B m : Nat) (s : ByteArray) (hs : s.size ≤ 1048576) : At w B (m + 1) (asStr s) (.slice none 0 0) (.slice none 0 0) := by
  refine ⟨⟨by show (-9223372036854775808 : Int) ≤ 4; omega, by show (4 : Int) ≤ _; omega, by show 0 < _; omega, hs, by show (0 : Nat) ≤ _; omega, by show (0 : Nat) ≤ _; omega, by show (0 : Nat) ≤ _; omega⟩, ⟨⟨none, 0, rfl, fun h => absurd h (by simp [asStr, V.ks])⟩, ?_⟩, ?_, none, 0, 0, 0, rfl, fun h => absurd h (by simp [asStr, V.l]), fun i h => absurd h (by simp [asStr, V.l])⟩
  · intro A n c e; cases e; exact ⟨Nat.le_refl _, by unfold maxLen; omega, fun _ => rfl⟩
  · intro A n c e; cases e; exact ⟨Nat.le_refl _, by unfold maxLen; omega, fun _ => rfl⟩
theorem cmpRow_map {α β : Type} (f : β → β → Int) (g : α → β) (h : α → α → Int) (hg : ∀ x y, f (g x) (g y) = h x y) : ∀ xs ys : List α, cmpRow f (xs.map g) (ys.map g) = cmpRow h xs ys
  | [], [] => rfl
  | [], _ :: _ => rfl
  | _ :: _, [] => rfl
  | x :: xs, y :: ys => by
    have ih := cmpRow_map f g h hg xs ys
    simp only [List.map_cons]
    unfold cmpRow
    rw [hg, ih]
theorem cmp_asStr (m : Nat) (a b : ByteArray) : cmpV (m + 1) (asStr a) (asStr b) = cmpS a b := rfl
/-- A row of values of the call's own; its values lie anywhere. -/
structure OwnRow (w W : World) (B m : Nat) (v : Value) (l : List V) (qs : List (Value × Value)) : Prop where
  len : qs.length = l.length
  own : W.ownsRow w.heap.size 27 5 v l.length (flat5 l qs)
  each : ∀ i (h : i < l.length) (h2 : i < qs.length), At w B m l[i] qs[i].1 qs[i].2
  bel : Below w.heap.size w W
theorem OwnRow.row {w W : World} {B m : Nat} {v : Value} {l : List V} {qs : List (Value × Value)} (h : OwnRow w W B m v l qs) (hB : B ≤ w.heap.size) : ∃ A C, v = .slice A l.length C ∧ RowAt W W.heap.size m A l := by
  obtain ⟨a, c, b, o, e, hab, h5⟩ := own_five h.own h.len.symm rfl
  have hs := h.bel.size
  exact ⟨a, c, e, b, o, fun h0 => ⟨(hab h0).1, (hab h0).2.2⟩, fun i hi => ⟨_, _, h5 i hi (by have := h.len; omega), ((At.more hB _ _ _ _ (h.each i hi (by have := h.len; omega))).below h.bel).more hs⟩⟩
theorem OwnRow.below {w W W' : World} {B m : Nat} {v : Value} {l : List V} {qs : List (Value × Value)} (h : OwnRow w W B m v l qs) (hb : Below W.heap.size W W') : OwnRow w W' B m v l qs :=
  ⟨h.len, own_heap h.own (fun k hk => hb.block k hk), h.each, h.bel.trans (hb.mono h.bel.size)⟩
theorem OwnRow.start (w W : World) (B m : Nat) (h : Below w.heap.size w W) : OwnRow w W B m (.slice none 0 0) [] [] :=
  ⟨rfl, ⟨rfl, Or.inl ⟨rfl, rfl⟩⟩, fun i h => absurd h (by simp), h⟩
end Go.Proofs.YtkklfdfmfdnjoaaGreatDoor
/- The document's Compare: strings as values, values by keys. -/
namespace Go.Proofs.YtkklfdfmfdnjoaaGreatDoor
open Go Go.RowKit

/-- The row has grown by one value. -/
theorem OwnRow.snoc {w W W' : World} {B m : Nat} {v v' : Value} {l : List V} {qs : List (Value × Value)} {x : V} {lv kv : Value} {o : Obj} (h : OwnRow w W B m v l qs) (hown : W'.ownsRow w.heap.size 27 5 v' (l.length + 1) (flat5 l qs ++ (cellsV x lv kv).toList))
    (hgrow : (W.alloc o).grownBy W' v.ownBlock) (hx : At w B m x lv kv) : OwnRow w W' B m v' (l ++ [x]) (qs ++ [(lv, kv)]) := by
  refine ⟨by rw [List.length_append, List.length_append, h.len]; rfl, by rw [flat5_snoc _ _ _ _ h.len.symm, List.length_append]; exact hown, fun i h1 h2 => ?_, (h.bel.alloc h.bel.size _).grown hgrow (by have := h.bel.size; simp; omega) (fun k hk => by have := (h.own.lt k hk).1; omega)⟩
  have hl := h.len
  rw [List.length_append] at h1 h2
  by_cases e : i < l.length
  · have e2 : i < qs.length := by omega
    rw [List.getElem_append_left e, List.getElem_append_left e2]
    exact h.each i e e2
  · have e1 : i = l.length := by simp at h1; omega
    subst e1
    have g1 : (l ++ [x])[l.length]'(by simp) = x := by simp
    have g2 : (qs ++ [(lv, kv)])[l.length]'(by simp; omega) = (lv, kv) := by
      rw [List.getElem_append_right (by omega)]
      simp [hl]
    rw [g1, g2]
    exact hx
set_option maxRecDepth 100000 in
set_option maxHeartbeats 1000000 in
theorem refStr9_any (s : ByteArray) (w : World) : Calls Tryz.prog 47 #[.string s] w fun e w' => e = .returned (.agg (cellsV (asStr s) (.slice none 0 0) (.slice none 0 0))) ∧ Below w.heap.size w w' := by
  have hsf := run_store_float Tryz.prog
  obtain ⟨i0, hi0, hz0, hz1, hz2⟩ := info_parts infoVal
  go_enter Tryz.func47, Tryz.ntmps47
  go_wp2_with fail
  refine bodyPost_ret_by (results_cell_row rfl _ _ w.heap.size 27 _ (0, 0) _ rfl (heap_alloc_new w _) Tryz.underlying27 rfl (by rw [hi0]; simp [hz1])) rfl ?_
  exact ⟨rfl, (Below.refl w.heap.size w).alloc (Nat.le_refl _) _⟩
set_option maxRecDepth 100000 in
set_option maxHeartbeats 3000000 in
theorem strs_any (ks : List ByteArray) (m : Nat) (kv : Value) (w : World) (hmax : ks.length ≤ 1048576) (hs : ∀ k ∈ ks, k.size ≤ 1048576) (hk : Arr w w.heap.size kv (ks.map Value.string)) :
    Calls Tryz.prog 68 #[kv] w fun e w' => ∃ A C, e = .returned (.slice A (ks.map asStr).length C) ∧ RowAt w' w'.heap.size (m + 1) A (ks.map asStr) ∧ Below w.heap.size w w' := by
  have hsf := run_store_float Tryz.prog
  obtain ⟨A, ad, c, rfl, hA, hac⟩ := hk.dest
  rw [List.length_map] at hA ⊢
  have HA := Lib.hid hA
  have HC := Lib.hid hac
  have HS := Lib.hid hs
  clear hk hA hac hs
  have h0 := Lib.hid (OwnRow.start w w w.heap.size (m + 1) (Below.refl _ _))
  go_enter Tryz.func68, Tryz.ntmps68
  go_wp2_with fail
  go_loopw [3, 4] (fun o k W => ∃ (t : Nat) (qs : List (Value × Value)), t ≤ ks.length ∧ k = .int .i64 t ∧ OwnRow w W w.heap.size (m + 1) o ((ks.take t).map asStr) qs) (fun _ k _ => ks.length - (intOf k).toNat)
  case atStart => exact ⟨0, [], Nat.zero_le _, rfl, h0.out⟩
  case round =>
    obtain ⟨t, qs, ht, rfl, hI⟩ := hrel
    obtain ⟨Al, Cl, rfl, hrow⟩ := hI.row (Nat.le_refl _)
    by_cases hlt : t < ks.length
    · obtain ⟨rfl, hadb⟩ := HA.out (by omega)
      have hc := (hI.bel.cell (p := ad.add t) (by rw [add_block]; exact hadb)).trans (HC.out t (.string ks[t]) (by simp [hlt]))
      have hsz := HS.out ks[t] (List.getElem_mem hlt)
      have hsn := take_map_snoc asStr hlt
      have hlen : ((ks.take t).map asStr).length ≤ 1048576 := by rw [List.length_map, List.length_take]; omega
      have HSN := Lib.hid hsn
      have HI := Lib.hid hI
      clear hsn hI hrow
      generalize ((ks.take t).map asStr) = Lt at HSN HI hlen ⊢
      go_wp2_with fail
      refine (refStr9_any ks[t] wr).mono ?_
      rintro e w3 ⟨rfl, hb3⟩
      have hI3 := HI.out.below hb3
      have HI3 := Lib.hid hI3
      clear hb3 HI
      have hsz3 := hI3.bel.size
      clear hI3
      unfold cellsV
      go_wp2_with (at_builtin; refine app_five (w := w3.alloc (.cells (cellsV (asStr ks[t]) (.slice none 0 0) (.slice none 0 0)) 27)) rfl _ _ rfl w.heap.size (.slice Al Lt.length Cl) Lt.length (flat5 Lt qs) rfl ?own (some ⟨w3.heap.size, 0, none⟩) 1 1 (cellsV (asStr ks[t]) (.slice none 0 0) (.slice none 0 0)).toList rfl rfl ?A ?nil (by omega) ?one ?h6 ?bs ?_)
      case own => exact HI3.out.own.alloc _
      case A => exact fun _ => ⟨_, rfl, fun j u hu => cell_fresh j u hu⟩
      case nil => exact fun e => by cases e
      case one => simp [Value.oneCell', cellsV]
      case h6 => omega
      case bs => simp; omega
      intro v' w4 hown hgrow hblk
      have hn := HI3.out.snoc hown hgrow (asStr_at w w.heap.size m ks[t] hsz)
      rw [← HSN.out] at hn
      have HN4 := Lib.hid hn
      clear hn hown hgrow hblk HI3
      go_wp2_with fail
      go_roundw
      case rel => exact ⟨t + 1, _, by omega, by go_num, HN4.out⟩
      case measure => simp [intOf]; omega
    · have hte : t = ks.length := by omega
      subst hte
      have e1 : ks.take ks.length = ks := List.take_of_length_le (Nat.le_refl _)
      rw [e1] at hI hrow ⊢
      have HI := Lib.hid hI
      have HROW := Lib.hid hrow
      clear hI hrow e1
      go_wp2_with fail
      go_ret
      exact ⟨_, _, rfl, HROW.out, HI.out.bel⟩
end Go.Proofs.YtkklfdfmfdnjoaaGreatDoor
/- The document's Compare: an object's values in the order of its keys. -/
namespace Go.Proofs.YtkklfdfmfdnjoaaGreatDoor
open Go Go.RowKit

/-- Get of a key that is there. -/
theorem refGet_hit (v : V) (m : Nat) (lv kv : Value) (w : World) (h : At w w.heap.size (m + 1) v lv kv) (hlen : v.ks.length = v.l.length) (t : Nat) (ht : t < (sortK v.ks).length) (W : World) (hb : Below w.heap.size w W) :
    Calls Tryz.prog 33 #[.agg (cellsV v lv kv), .string (sortK v.ks)[t]] W fun e w' => ∃ A n c A' n' c', e = .returned (.tuple #[.agg (cellsV ((byK v)[t]'(by rw [byK_len]; rw [sortK_len] at ht; exact ht)) (.slice A n c) (.slice A' n' c')), .bool true]) ∧ At w w.heap.size m ((byK v)[t]'(by rw [byK_len]; rw [sortK_len] at ht; exact ht)) (.slice A n c) (.slice A' n' c') ∧ Below W.heap.size W w' := by
  have hg := refGetB_any v m w.heap.size lv kv (sortK v.ks)[t] W hb.size (At.keep (fun p hp => hb.cell hp) _ _ _ _ h) (Nat.le_of_eq hlen)
  have hm : (sortK v.ks)[t] ∈ v.ks := (sortK_perm v.ks).subset (List.getElem_mem ht)
  refine hg.mono ?_
  rintro e w' ⟨hcase, hb'⟩
  rcases hcase with ⟨hn, _⟩ | ⟨i, hi, lv', kv', hx, rfl, hat⟩
  · rcases idx_cases v.ks (sortK v.ks)[t] with ⟨_, h2⟩ | ⟨j, _, h2, _⟩
    · exact absurd hm h2
    · rw [hn] at h2; omega
  · have e : (byK v)[t]'(by rw [byK_len]; rw [sortK_len] at ht; exact ht) = v.l[i] := by
      simp only [byK, List.getElem_map]
      rw [hx, Int.toNat_natCast]
      simp [List.getD, hi]
    obtain ⟨A, n, c, A', n', c', rfl, rfl⟩ := hat.slices
    rw [e]
    refine ⟨A, n, c, A', n', c', rfl, ?_, hb'⟩
    exact At.keep (fun p hp => (hb.cell hp).symm) _ _ _ _ hat
/-- The values' row, and the value that was got. -/
structure BK (w1 W : World) (B m : Nat) (o : Value) (l : List V) (qs : List (Value × Value)) (T6 : Nat) (cs : Array Value) : Prop where
  own : OwnRow w1 W B m o l qs
  t6 : W.heap[T6]? = some (.cells cs 27 (0, 0))
theorem bk_one {w1 wr w3 : World} {B m : Nat} {o : Value} {l : List V} {qs : List (Value × Value)} (h : OwnRow w1 wr B m o l qs) (hb : Below wr.heap.size wr w3) (cs : Array Value) : BK w1 (w3.alloc (.cells cs 27)) B m o l qs w3.heap.size cs :=
  ⟨(h.below hb).below ((Below.refl _ _).alloc (Nat.le_refl _) _), heap_alloc_new w3 _⟩
theorem bk_two {w1 wr w3 : World} {B m : Nat} {o : Value} {l : List V} {qs : List (Value × Value)} (h : OwnRow w1 wr B m o l qs) {u0 u1 u2 u3 u4 : Value} (h6 : w3.heap[wr.heap.size]? = some (.cells #[u0, u1, u2, u3, u4] 27 (0, 0))) (hb : Below wr.heap.size wr w3) (x0 x1 x2 x3 x4 : Value) :
    BK w1 (set5 w3 wr.heap.size x0 x1 x2 x3 x4) B m o l qs wr.heap.size #[x0, x1, x2, x3, x4] := by
  refine ⟨⟨h.len, own_keepN h.own fun g hg => ?_, h.each, set5_below0 (h.bel.trans (hb.mono h.bel.size)) h.bel.size ..⟩, set5_row h6 ..⟩
  have hl := (h.own.lt g hg).2
  exact (set5_other (by omega) ..).trans (hb.block g hl)
end Go.Proofs.YtkklfdfmfdnjoaaGreatDoor
/- The document's Compare: an object's values in the order of its keys, walked. -/
namespace Go.Proofs.YtkklfdfmfdnjoaaGreatDoor
open Go Go.RowKit

theorem below_frozen {B : Nat} {w w' : World} (h : Below B w w') {p : Addr} (hp : p.block < B) : w'.frozen? p = w.frozen? p := by
  unfold World.frozen?
  rw [h.block _ hp]
set_option maxRecDepth 100000 in
set_option maxHeartbeats 3000000 in
theorem refByKeys_any (v : V) (m : Nat) (lv kv : Value) (w : World) (h : At w w.heap.size (m + 1) v lv kv) (hlen : v.ks.length = v.l.length) :
    Calls Tryz.prog 69 #[.agg (cellsV v lv kv)] w fun e w' => ∃ A C, e = .returned (.slice A (byK v).length C) ∧ RowAt w' w'.heap.size m A (byK v) ∧ Below w.heap.size w w' := by
  have hsf := run_store_float Tryz.prog
  obtain ⟨i0, hi0, hz0, hz1, hz2⟩ := info_parts infoVal
  have hks := fun W (hb : Below w.heap.size w W) => refKeysV_any v (m + 1) lv kv W ((h.below hb).more hb.size)
  have hget := fun t ht W hb => refGet_hit v m lv kv w h hlen t ht W hb
  have hbl : (byK v).length = (sortK v.ks).length := by rw [byK_len, sortK_len]
  have hsm : (sortK v.ks).length ≤ 1048576 := by rw [sortK_len]; exact h.opened.1.2.2.2.2.2.1
  obtain ⟨a1, c1, a2, c2, rfl, rfl, _, _⟩ := h.shape
  unfold cellsV at hks hget ⊢
  have HKS := Lib.hid hks
  have HGET := Lib.hid hget
  have HLL := Lib.hid hbl
  have hbox := heap_alloc_new w (.cells #[.int .i64 v.k, .float .f64 v.f, .string v.s, .slice a1 v.l.length c1, .slice a2 v.ks.length c2] 27)
  have hb0 : Below w.heap.size w (w.alloc (.cells #[.int .i64 v.k, .float .f64 v.f, .string v.s, .slice a1 v.l.length c1, .slice a2 v.ks.length c2] 27)) := (Below.refl w.heap.size w).alloc (Nat.le_refl _) _
  have HBOX := Lib.hid hbox
  have HB0 := Lib.hid hb0
  clear hks hget h hlen hbl hbox hb0
  go_enter Tryz.func69, Tryz.ntmps69
  go_wp2_with fail
  refine (HKS.out _ HB0.out).mono ?_
  rintro e w1 ⟨kk, rfl, hkey, hb1⟩
  have hb01 : Below w.heap.size w w1 := HB0.out.trans (hb1.mono HB0.out.size)
  have hbx : w1.heap[w.heap.size]? = _ := (hb1.block _ (by simp)).trans HBOX.out
  obtain ⟨A, ad, ck, rfl, hA, hac⟩ := hkey.1.dest
  rw [List.length_map] at hA ⊢
  have HA := Lib.hid hA
  have HAC := Lib.hid hac
  have HB1 := Lib.hid hb01
  have HBX := Lib.hid hbx
  have hlt1 := (Array.getElem?_eq_some_iff.1 hbx).1
  have hst := Lib.hid (OwnRow.start w1 w1 w.heap.size m (Below.refl _ _))
  clear hkey hA hac hb01 hbx hb1 HKS HB0 HBOX
  go_wp2_with fail
  go_loopw [4, 5] (fun o k W => ∃ (t : Nat) (qs : List (Value × Value)), t ≤ (sortK v.ks).length ∧ k = .int .i64 t ∧ OwnRow w1 W w.heap.size m o ((byK v).take t) qs) (fun _ k _ => (sortK v.ks).length - (intOf k).toNat)
  case atStart => exact ⟨0, [], Nat.zero_le _, rfl, hst.out⟩
  case round =>
    obtain ⟨t, qs, ht, rfl, hI⟩ := hrel
    clear hst
    obtain ⟨Al, Cl, rfl, hrow⟩ := hI.row (B := w.heap.size) (by omega)
    by_cases hlt : t < (sortK v.ks).length
    · obtain ⟨rfl, hadb⟩ := HA.out (by omega)
      have hc := (hI.bel.cell (p := ad.add t) (by rw [add_block]; exact hadb)).trans (HAC.out t (.string (sortK v.ks)[t]) (by simp [hlt]))
      have hg := HGET.out t hlt
      have hbt : t < (byK v).length := by rw [HLL.out]; exact hlt
      have hsn : (byK v).take (t + 1) = (byK v).take t ++ [(byK v)[t]] := List.take_succ_eq_append_getElem hbt
      have hll : ((byK v).take t).length ≤ 1048576 := by rw [List.length_take]; omega
      have hbw : Below w.heap.size w wr := HB1.out.trans (hI.bel.mono HB1.out.size)
      have hbxr := (hI.bel.block _ hlt1).trans HBX.out
      obtain ⟨x0, x1, x2, x3, x4⟩ := row5p hbxr
      generalize (byK v)[t] = X at hg hsn
      generalize (sortK v.ks)[t] = KX at hg hc
      generalize (byK v).take t = Lt at hsn hll hI hrow ⊢
      have HG := Lib.hid hg
      have HSN := Lib.hid hsn
      have HI := Lib.hid hI
      have HBW := Lib.hid hbw
      have hwsz := hI.bel.size
      have hab1 : ad.block < wr.heap.size := by omega
      have hab2 : (ad.add t).block < wr.heap.size := by rw [add_block]; exact hab1
      have hab3 : w.heap.size < wr.heap.size := by omega
      have hc2 := fun o => (cell_old (o := o) hab2).trans hc
      have hc3 := fun o => (cell_old (w := wr.drew) (o := o) hab2).trans hc
      clear hg hsn hI hbw hrow hbxr
      go_wp2_with fail
      go_region_law ((go_simp; go_at_call 33; refine (HG.out _ (by first | exact HBW.out.drew | exact HBW.out.drew.alloc HBW.out.size _)).mono ?_; rintro e w3 ⟨g1, g2, g3, g4, g5, g6, rfl, hat, hb3⟩; have hcl := fun (p : Addr) hp => hb3.cell (p := p) hp; have hfz := fun (p : Addr) hp => below_frozen hb3 (p := p) hp))
      all_goals
        first
          | (refine gen_world (F := fun W => Exit.then _ _ _ _ W) (R := fun W => BK w1 W w.heap.size m (.slice Al Lt.length Cl) Lt qs w3.heap.size #[.int .i64 X.k, .float .f64 X.f, .string X.s, .slice g1 g2 g3, .slice g4 g5 g6]) (bk_one HI.out ((Below.refl wr.heap.size wr).drew.trans hb3) _) ?_; obtain ⟨T6, hT6⟩ : ∃ T, T = w3.heap.size := ⟨_, rfl⟩; rw [← hT6]; clear hT6)
          | (refine gen_world (F := fun W => Exit.then _ _ _ _ W) (R := fun W => BK w1 W w.heap.size m (.slice Al Lt.length Cl) Lt qs wr.heap.size #[.int .i64 X.k, .float .f64 X.f, .string X.s, .slice g1 g2 g3, .slice g4 g5 g6]) (bk_two HI.out ((hb3.block wr.heap.size (by simp)).trans (heap_alloc_new wr (.cells #[.int .i64 0, .float .f64 0, .string ⟨#[]⟩, .slice none 0 0, .slice none 0 0] 27))) (((Below.refl wr.heap.size wr).alloc (Nat.le_refl _) _).drew.trans (hb3.mono (by simp))) _ _ _ _ _) ?_; obtain ⟨T6, hT6⟩ : ∃ T, T = wr.heap.size := ⟨_, rfl⟩; rw [← hT6]; clear hT6)
        clear hcl hfz hb3
        intro W6 hbk
        obtain ⟨p0, p1, p2, p3, p4⟩ := row5p hbk.t6
        have HBK := Lib.hid hbk
        have HAT := Lib.hid (At.keep (fun p hp => HB1.out.cell hp) _ _ _ _ hat)
        have hs6 := hbk.own.bel.size
        clear hbk hat x0 x1 x2 x3 x4 hc hc2 hc3 HI HG
        go_wp2_with (at_builtin; refine app_five (w := W6.alloc (.cells #[.int .i64 X.k, .float .f64 X.f, .string X.s, .slice g1 g2 g3, .slice g4 g5 g6] 27)) rfl _ _ rfl w1.heap.size (.slice Al Lt.length Cl) Lt.length (flat5 Lt qs) rfl ?own (some ⟨W6.heap.size, 0, none⟩) 1 1 (cellsV X (.slice g1 g2 g3) (.slice g4 g5 g6)).toList rfl rfl ?A ?nil (by omega) ?one ?h6 ?bs ?_)
        case own => exact HBK.out.own.own.alloc _
        case A => exact fun _ => ⟨_, rfl, fun j u hu => cell_fresh j u hu⟩
        case nil => exact fun e => by cases e
        case one => simp [Value.oneCell', cellsV]
        case h6 => omega
        case bs => simp; omega
        intro v' w4 hown hgrow hblk
        have hn := HBK.out.own.snoc hown hgrow HAT.out
        rw [← HSN.out] at hn
        have HN4 := Lib.hid hn
        clear hn hown hgrow hblk HBK HAT p0 p1 p2 p3 p4
        go_wp2_with fail
        go_roundw
        case rel => exact ⟨t + 1, _, by omega, by go_num, HN4.out⟩
        case measure => simp [intOf]; omega
    · have hte : t = (sortK v.ks).length := by omega
      subst hte
      have e1 : (byK v).take (sortK v.ks).length = byK v := List.take_of_length_le (by rw [HLL.out]; exact Nat.le_refl _)
      rw [e1] at hI hrow ⊢
      have HI := Lib.hid (HB1.out.trans (hI.bel.mono HB1.out.size))
      have HROW := Lib.hid hrow
      clear hI hrow e1
      go_wp2_with fail
      go_ret
      exact ⟨_, _, rfl, HROW.out, HI.out⟩
end Go.Proofs.YtkklfdfmfdnjoaaGreatDoor
