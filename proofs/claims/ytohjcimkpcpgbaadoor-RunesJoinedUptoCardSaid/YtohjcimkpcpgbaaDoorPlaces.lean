/- The program's iterator over the places at which a part stands. -/
import Derived.RangeFuncNested
import Derived.RangeFuncBound
import Derived.RangeFuncCalls
import Derived.RangeFuncLeaves
import Derived.Shelf.Abstract
import Derived.Shelf.RegionOpen
import Derived.WalkKit
import Derived.OwnWalkIn
import Derived.TacticsInMore
import Derived.LoopNIn
import Derived.LoopIn
import Derived.Test.YtohjcimkpcpgbaaDoorOcc
namespace Go.Proofs.YtohjcimkpcpgbaaDoor
open Go Go.RowKit Go.WideShapes Go.Shelf
attribute [local go_sem] Oper.semAt_some

/-- What the iterator reads: the two boxes, the table of borders. -/
def Facts (s p : ByteArray) (Bs Bp g Bo : Nat) (W : World) : Prop :=
  W.heap[Bs]? = some (.cells #[.string s] 9 (0, 0)) ∧ W.heap[Bp]? = some (.cells #[.string p] 9 (0, 0)) ∧ Bords W g p.size (num p) p.size ∧ NotOut Bo W Bs ∧ NotOut Bo W Bp ∧ NotOut Bo W g
theorem Facts.kp {s p : ByteArray} {Bs Bp g Bo : Nat} {X : Nat → Prop} {W W' : World} (h : Facts s p Bs Bp g Bo W) (hs : ¬ X Bs) (hp : ¬ X Bp) (hg : ¬ X g) (hk : KpF X Bo W W') : Facts s p Bs Bp g Bo W' := by
  obtain ⟨h1, h2, h3, h4, h5, h6⟩ := h
  have hgl := h3.lt
  obtain ⟨cur, f, c1, c2⟩ := h3
  exact ⟨hk.kept _ _ _ _ h1 hs h4, hk.kept _ _ _ _ h2 hp h5, ⟨cur, f, hk.kept _ _ _ _ c1 hg h6, c2⟩, hk.out _ (lt_of_heap h1) h4, hk.out _ (lt_of_heap h2) h5, hk.out _ hgl h6⟩
theorem Facts.cellS {s p : ByteArray} {Bs Bp g Bo : Nat} {W : World} (h : Facts s p Bs Bp g Bo W) : W.cell? ⟨Bs, 0, none⟩ = some (.string s) := by rw [cell_of_row _ _ _ _ _ _ h.1]; rfl
theorem Facts.cellP {s p : ByteArray} {Bs Bp g Bo : Nat} {W : World} (h : Facts s p Bs Bp g Bo W) : W.cell? ⟨Bp, 0, none⟩ = some (.string p) := by rw [cell_of_row _ _ _ _ _ _ h.2.1]; rfl
theorem Facts.drewN {s p : ByteArray} {Bs Bp g Bo : Nat} {W : World} (h : Facts s p Bs Bp g Bo W) (n : Nat) : Facts s p Bs Bp g Bo (W.drewN n) := h

set_option maxRecDepth 100000 in
set_option maxHeartbeats 4000000 in
theorem places1_in (n : Nat) (hn : 3 ≤ n) (l Bs Bp Bo : Nat) (X : Nat → Prop) (s p : ByteArray) (hm : s.size ≤ 1000000000) (h0p : 0 < p.size) (hps : p.size ≤ s.size) (N : Nat) (hN : s.size + 1 ≤ N)
    (J Jx : List Nat → World → Prop) (W : World) (hJ : AbidesFrom W.heap.size J)
    (hY : ∀ (pre : List Nat) (x : Nat) (W1 : World), x + p.size ≤ s.size → J pre W1 → pre.length < N → YieldAt Fence.wide (n - 1) Tryd.prog l #[.int .i64 (x : Int)] W1 fun e W' =>
      (e = .returned (.bool true) ∧ J (pre ++ [x]) W' ∧ KpF X Bo W1 W') ∨ (e = .returned (.bool false) ∧ Jx (pre ++ [x]) W'))
    (hs : W.heap[Bs]? = some (.cells #[.string s] 9 (0, 0))) (hp : W.heap[Bp]? = some (.cells #[.string p] 9 (0, 0)))
    (xs : ¬ X Bs) (xp : ¬ X Bp) (xb : ∀ k, X k → k < W.heap.size) (os : NotOut Bo W Bs) (op : NotOut Bo W Bp) (oo : Bo < W.heap.size) (on : ∀ k, W.heap.size ≤ k → NotOut Bo W k) (h0 : J [] W) :
    CallsIn Fence.wide n Tryd.prog 56 #[.func (.yield l) #[] #[], .pointer (some ⟨Bp, 0, none⟩), .pointer (some ⟨Bs, 0, none⟩)] W fun e W' => (∃ v, e = .returned v) ∧
      ((∃ ys, ys = occE s p s.size ∧ J ys W') ∨ (∃ pre, True ∧ Jx pre W')) := by
  have e1 : p.toList.isEmpty = false := nonempty_list (by omega)
  have c1 : W.cell? ⟨Bs, 0, none⟩ = some (.string s) := by rw [cell_of_row _ _ _ _ _ _ hs]; rfl
  have c2 : W.cell? ⟨Bp, 0, none⟩ = some (.string p) := by rw [cell_of_row _ _ _ _ _ _ hp]; rfl
  have hps2 : (p.size : Int) ≤ (s.size : Int) := by omega
  refine callsIn_of_wp Tryd.func56 rfl trivial ?_ rfl
  simp only [Tryd.ntmps56, List.size_toArray, List.length_cons, List.length_nil, Nat.reduceAdd, Nat.reduceSub, Array.replicate_succ, Array.replicate_zero, List.push_toArray, List.append_toArray, List.nil_append, List.cons_append]
  gi_wp2_with fail
  refine ⟨trivial, fun _ => by omega, ?_⟩
  refine (callsIn_wide.2 (borders_any p (by omega) h0p W)).mono ?_
  rintro e W1 ⟨g, rfl, hg, hBd, hb1⟩
  have hF1 : Facts s p Bs Bp g Bo W1 := by
    have hc : ∀ k, NotOut Bo W k → NotOut Bo W1 k := fun k hk v hv => hk v (by rw [← hb1.cell (p := ⟨Bo, 0, none⟩) oo]; exact hv)
    exact ⟨(hb1.block Bs (lt_of_heap hs)).trans hs, (hb1.block Bp (lt_of_heap hp)).trans hp, hBd, hc _ os, hc _ op, hc _ (on g hg)⟩
  have hJ1 : J [] W1 := hJ [] W W1 none h0 ⟨hb1.os, hb1.tape, hb1.output, hb1.size, fun k hk _ => hb1.block k hk⟩ (fun r e => by cases e)
  have xg : ¬ X g := fun h => by have := xb g h; omega
  have HF1 := Lib.hid hF1
  have HJ := Lib.hid hJ
  clear hs hp os op on hBd hF1 hJ c1 c2
  gi_wp2
  gi_loopw [5, 6] (fun sm i wr => ∃ (iN q : Nat), sm = .int .i64 q ∧ i = .int .i64 iN ∧ iN ≤ s.size ∧ Kmp.Lst (num s) (num p) iN (p.size - 1) q ∧ J (occE s p iN) wr ∧ Facts s p Bs Bp g Bo wr ∧ W.heap.size ≤ wr.heap.size) (fun _ i _ => s.size - (intOf i).toNat)
  case atStart => exact ⟨0, 0, rfl, rfl, Nat.zero_le _, Kmp.Lst.zero _, by rw [occE_zero h0p]; exact hJ1, HF1.out, hb1.size⟩
  case round =>
    obtain ⟨iN, q, rfl, rfl, hi, hLs, hJr, hFr, hsz⟩ := hrel
    have c1 := hFr.cellS
    have c2 := hFr.cellP
    obtain ⟨wo, rfl⟩ : ∃ wo : World, wo = wr := ⟨_, rfl⟩
    have HFr := Lib.hid hFr
    have HJw : Hid (∀ k, J (occE s p iN) (wo.drewN k)) := fun k => HJ.out _ _ _ none hJr ⟨rfl, rfl, rfl, Nat.le_refl _, fun _ _ _ => rfl⟩ (fun r e => by cases e)
    clear hFr hJ1
    by_cases hlt : iN < s.size
    · have hInv : Kmp.Inv (num s) (num p) iN p.size q := Kmp.Inv.start h0p hLs
      have HInv := Lib.hid hInv
      have hqm := hLs.1
      clear hInv hLs hJr
      have i0 : (0 : Int) ≤ (iN : Int) := by omega
      have i1 : (iN : Int) < (s.size : Int) := by omega
      gi_wp2
      gi_loopw [5] (fun sm wr2 => ∃ q2 : Nat, sm = .int .i64 q2 ∧ Kmp.Inv (num s) (num p) iN p.size q2 ∧ ∃ d, wr2 = wo.drewN d) (fun sm _ => (intOf sm).toNat)
      case atStart => exact ⟨q, rfl, HInv.out, 0, rfl⟩
      case round =>
        obtain ⟨q2, rfl, hI, d, rfl⟩ := hrel
        have hq2 := hI.1
        have i2 : (0 : Int) ≤ (q2 : Int) := by omega
        have i3 : (q2 : Int) < (p.size : Int) := by omega
        by_cases hq : q2 = 0
        · subst hq
          by_cases he : num s iN = num p 0
          · have HE := Lib.hid he
            clear he
            have y1 : ((s[iN].toNat : Int) == (p[0].toNat : Int)) = true := by rw [← num_at s iN hlt, ← num_at p 0 (by omega), HE.out, beq_self_eq_true]
            have hLst := hI.hit HE.out
            have hocc := occE_lst h0p hlt hLst
            have HL := Lib.hid hLst
            have HO := Lib.hid hocc
            clear hLst hI hocc
            by_cases hfull : 0 + 1 = p.size
            · have f1 : (((1) : Int) == (p.size : Int)) = true := by rw [beq_iff_eq]; omega
              have hx0 := HO.out.1 (by omega)
              have hle0 := hx0.1
              have hx1 : iN + 1 - p.size = iN := by omega
              rw [hx1] at hx0
              have HX := Lib.hid hx0
              have hxm : iN + p.size ≤ s.size := by omega
              clear hx0 hx1
              gi_wp2
              refine wpIn_wide.2 ?_
              go_quiet (fail)
              simp only [World.drewN_drewN]
              generalize d + nq = d2
              gi_wp2
              refine wpIn_wide.2 ?_
              go_quiet (fail)
              simp only [World.drewN_drewN]
              generalize d2 + nq = d3
              obtain ⟨fn, tmps, assign, body, hy, hR⟩ := hY _ iN _ hxm (HJw.out d3) (by have := occE_len s p iN; omega)
              gi_wp2
              refine ⟨fun _ => by omega, hR.mono ?_⟩
              rintro e W3 (⟨rfl, hJ3, hk3⟩ | ⟨rfl, hJx3⟩)
              · have hF3 := (HFr.out.drewN d3).kp xs xp xg hk3
                obtain ⟨r, hr, hbr⟩ := hF3.2.2.1.at_ (p.size - 1) (by omega) (by omega)
                rw [show p.size - 1 = 0 from by omega] at hr
                have HB : Hid (Kmp.Lst (num s) (num p) (iN + 1) (p.size - 1) r) := by
                  have h1 := HL.out
                  rw [hfull] at h1
                  rw [show p.size - 1 + 1 = p.size from by omega] at hbr
                  exact h1.full hbr
                have hsz3 := hk3.size
                have HF3 := Lib.hid hF3
                clear hF3 hk3 hbr
                gi_wp2
                refine ⟨⟨iN + 1, r, rfl, by go_num, by omega, HB.out, by rw [HX.out.2]; exact hJ3, HF3.out, Nat.le_trans hsz hsz3⟩, by simp [intOf]; omega⟩
              · gi_wp2
                refine bodyPost_ret (results_none rfl _ _ _) rfl ?_
                exact ⟨⟨_, rfl⟩, .inr ⟨_, trivial, hJx3⟩⟩
            · have f1 : (((1) : Int) == (p.size : Int)) = false := by rw [beq_eq_false_iff_ne]; omega
              gi_wp2
              refine wpIn_wide.2 ?_
              go_quiet (fail)
              simp only [World.drewN_drewN]
              generalize d + nq = d2
              gi_wp2
              refine wpIn_wide.2 ?_
              go_quiet (fail)
              simp only [World.drewN_drewN]
              generalize d2 + nq = d3
              gi_wp2
              refine ⟨⟨iN + 1, 0 + 1, by first | rfl | go_num, by go_num, by omega, HL.out.short (by omega), ?_, HFr.out.drewN d3, hsz⟩, by simp [intOf]; omega⟩
              rw [HO.out.2 (by omega)]
              exact HJw.out d3
          · have HE := Lib.hid he
            clear he
            have y1 : ((s[iN].toNat : Int) == (p[0].toNat : Int)) = false := by
              rw [← num_at s iN hlt, ← num_at p 0 (by omega), beq_eq_false_iff_ne]; have := HE.out; omega
            have hLst := hI.miss HE.out
            have hocc := occE_lst h0p hlt hLst
            have HL := Lib.hid hLst
            have HO := Lib.hid hocc
            clear hLst hI hocc
            have f1 : (((0) : Int) == (p.size : Int)) = false := by rw [beq_eq_false_iff_ne]; omega
            gi_wp2
            refine wpIn_wide.2 ?_
            go_quiet (fail)
            simp only [World.drewN_drewN]
            generalize d + nq = d2
            gi_wp2
            refine wpIn_wide.2 ?_
            go_quiet (fail)
            simp only [World.drewN_drewN]
            generalize d2 + nq = d3
            gi_wp2
            refine ⟨⟨iN + 1, 0, by first | rfl | go_num, by go_num, by omega, HL.out.short (by omega), ?_, HFr.out.drewN d3, hsz⟩, by simp [intOf]; omega⟩
            rw [HO.out.2 (by omega)]
            exact HJw.out d3
        · have g1 : decide ((0 : Int) < (q2 : Int)) = true := by simp; omega
          have g2 : decide (0 < q2) = true := by simp; omega
          by_cases he : num s iN = num p q2
          · have HE := Lib.hid he
            clear he
            have y1 : ((s[iN].toNat : Int) == (p[q2].toNat : Int)) = true := by rw [← num_at s iN hlt, ← num_at p q2 (by omega), HE.out, beq_self_eq_true]
            have hLst := hI.hit HE.out
            have hocc := occE_lst h0p hlt hLst
            have HL := Lib.hid hLst
            have HO := Lib.hid hocc
            clear hLst hI hocc
            by_cases hfull : q2 + 1 = p.size
            · have f1 : ((((q2 : Int) + 1) : Int) == (p.size : Int)) = true := by rw [beq_iff_eq]; omega
              have hx0 := HO.out.1 (by omega)
              have hle0 := hx0.1
              obtain ⟨x, hx⟩ : ∃ x : Nat, (iN : Int) + 1 - ((q2 : Int) + 1) = (x : Int) := ⟨iN - q2, by have := hx0.1; omega⟩
              have hx1 : iN + 1 - p.size = x := by have := hx0.1; omega
              rw [hx1] at hx0
              have HX := Lib.hid hx0
              have hxm : x + p.size ≤ s.size := by omega
              clear hx0 hx1
              gi_wp2
              refine wpIn_wide.2 ?_
              go_quiet (fail)
              simp only [World.drewN_drewN]
              generalize d + nq = d2
              gi_wp2
              refine wpIn_wide.2 ?_
              go_quiet (fail)
              simp only [World.drewN_drewN]
              generalize d2 + nq = d3
              obtain ⟨fn, tmps, assign, body, hy, hR⟩ := hY _ x _ hxm (HJw.out d3) (by have := occE_len s p iN; omega)
              gi_wp2
              refine ⟨fun _ => by omega, hR.mono ?_⟩
              rintro e W3 (⟨rfl, hJ3, hk3⟩ | ⟨rfl, hJx3⟩)
              · have hF3 := (HFr.out.drewN d3).kp xs xp xg hk3
                obtain ⟨r, hr, hbr⟩ := hF3.2.2.1.at_ (p.size - 1) (by omega) (by omega)
                rw [show p.size - 1 = q2 from by omega] at hr
                have HB : Hid (Kmp.Lst (num s) (num p) (iN + 1) (p.size - 1) r) := by
                  have h1 := HL.out
                  rw [hfull] at h1
                  rw [show p.size - 1 + 1 = p.size from by omega] at hbr
                  exact h1.full hbr
                have hsz3 := hk3.size
                have HF3 := Lib.hid hF3
                clear hF3 hk3 hbr
                gi_wp2
                refine ⟨⟨iN + 1, r, rfl, by go_num, by omega, HB.out, by rw [HX.out.2]; exact hJ3, HF3.out, Nat.le_trans hsz hsz3⟩, by simp [intOf]; omega⟩
              · gi_wp2
                refine bodyPost_ret (results_none rfl _ _ _) rfl ?_
                exact ⟨⟨_, rfl⟩, .inr ⟨_, trivial, hJx3⟩⟩
            · have f1 : ((((q2 : Int) + 1) : Int) == (p.size : Int)) = false := by rw [beq_eq_false_iff_ne]; omega
              gi_wp2
              refine wpIn_wide.2 ?_
              go_quiet (fail)
              simp only [World.drewN_drewN]
              generalize d + nq = d2
              gi_wp2
              refine wpIn_wide.2 ?_
              go_quiet (fail)
              simp only [World.drewN_drewN]
              generalize d2 + nq = d3
              gi_wp2
              refine ⟨⟨iN + 1, q2 + 1, by first | rfl | go_num, by go_num, by omega, HL.out.short (by omega), ?_, HFr.out.drewN d3, hsz⟩, by simp [intOf]; omega⟩
              rw [HO.out.2 (by omega)]
              exact HJw.out d3
          · have y1 : ((s[iN].toNat : Int) == (p[q2].toNat : Int)) = false := by
              rw [← num_at s iN hlt, ← num_at p q2 (by omega), beq_eq_false_iff_ne]; omega
            obtain ⟨r, hr, hbr⟩ := HFr.out.2.2.1.at_ (q2 - 1) (by omega) (by omega)
            have hfall := hI.fall he (by rw [show q2 - 1 + 1 = q2 from by omega] at hbr; exact hbr)
            have HF := Lib.hid hfall
            have hrlt : r < q2 := by have := hbr.1; omega
            clear he hfall hbr hI
            have j1 : (0 : Int) ≤ (q2 : Int) - 1 := by omega
            have j2 : (q2 : Int) - 1 < (p.size : Int) := by omega
            have j3 : ((q2 : Int) - 1).toNat = q2 - 1 := by omega
            gi_wp2
            refine wpIn_wide.2 ?_
            go_quiet (fail)
            gi_wp2
            exact ⟨⟨r, rfl, HF.out, _, rfl⟩, by simp [intOf]; omega⟩
    · obtain rfl : iN = s.size := by omega
      gi_wp2
      go_end0
      exact ⟨⟨_, rfl⟩, .inl ⟨_, rfl, hJr⟩⟩

set_option maxRecDepth 100000 in
set_option maxHeartbeats 4000000 in
theorem places1_none_in (n : Nat) (l Bs Bp : Nat) (s p : ByteArray) (_hm : s.size ≤ 1000000000) (hno : p.size = 0 ∨ s.size < p.size)
    (J : List Nat → World → Prop) (W : World) (c1 : W.cell? ⟨Bs, 0, none⟩ = some (.string s)) (c2 : W.cell? ⟨Bp, 0, none⟩ = some (.string p)) (h0 : J [] W) :
    CallsIn Fence.wide n Tryd.prog 56 #[.func (.yield l) #[] #[], .pointer (some ⟨Bp, 0, none⟩), .pointer (some ⟨Bs, 0, none⟩)] W fun e W' => (∃ v, e = .returned v) ∧ J [] W' := by
  by_cases h : p.size = 0
  · have e1 := empty_list2 h
    clear hno h
    refine callsIn_of_wp Tryd.func56 rfl trivial ?_ rfl
    simp only [Tryd.ntmps56, List.size_toArray, List.length_cons, List.length_nil, Nat.reduceAdd, Nat.reduceSub, Array.replicate_succ, Array.replicate_zero, List.push_toArray, List.append_toArray, List.nil_append, List.cons_append]
    gi_wp2_with fail
    refine bodyPost_ret (results_none rfl _ _ _) rfl ?_
    exact ⟨⟨_, rfl⟩, h0⟩
  · have e1 := nonempty_list h
    have hps2 : (s.size : Int) < (p.size : Int) := by omega
    have hps3 : s.size < p.size := by omega
    clear hno h
    refine callsIn_of_wp Tryd.func56 rfl trivial ?_ rfl
    simp only [Tryd.ntmps56, List.size_toArray, List.length_cons, List.length_nil, Nat.reduceAdd, Nat.reduceSub, Array.replicate_succ, Array.replicate_zero, List.push_toArray, List.append_toArray, List.nil_append, List.cons_append]
    gi_wp2_with fail
    refine bodyPost_ret (results_none rfl _ _ _) rfl ?_
    exact ⟨⟨_, rfl⟩, h0⟩

/-- A place at which a part fits into a text. -/
abbrev Fits (s p : ByteArray) := { x : Nat // x + p.size ≤ s.size }
/-- All places at which a part that is not empty stands. -/
def placesL (s p : ByteArray) : List Nat := if p.size = 0 ∨ s.size < p.size then [] else occE s p s.size
/-- THE ITERATOR's WORD: for every body that keeps all but some boxes and the row of one of them. -/
theorem places_stops (n : Nat) (hn : 3 ≤ n) (Bs Bp Bo : Nat) (X : Nat → Prop) (s p : ByteArray) (hm : s.size ≤ 1000000000) (w0 : World)
    (hs : w0.heap[Bs]? = some (.cells #[.string s] 9 (0, 0))) (hp : w0.heap[Bp]? = some (.cells #[.string p] 9 (0, 0)))
    (xs : ¬ X Bs) (xp : ¬ X Bp) (xb : ∀ k, X k → k < w0.heap.size) (oo : Bo < w0.heap.size) (on : w0.cell? ⟨Bo, 0, none⟩ = some (.slice none 0 0)) :
    SeqStopsK Fence.wide n Tryd.prog 56 #[.pointer (some ⟨Bp, 0, none⟩), .pointer (some ⟨Bs, 0, none⟩)] (fun x : Fits s p => #[.int .i64 (x.1 : Int)]) (KpF X Bo)
      (fun ys => ys.map Subtype.val = placesL s p) (fun _ => True) (s.size + 1) w0 := by
  intro l J Jx W hW hJ hJx hY h0
  have hs1 : W.heap[Bs]? = some (.cells #[.string s] 9 (0, 0)) := (hW.block Bs (lt_of_heap hs)).trans hs
  have hp1 : W.heap[Bp]? = some (.cells #[.string p] 9 (0, 0)) := (hW.block Bp (lt_of_heap hp)).trans hp
  have hno : ∀ k, NotOut Bo W k := fun k v hv => by
    rw [hW.cell (p := ⟨Bo, 0, none⟩) oo, on] at hv
    injection hv with hv
    subst hv
    simp [Value.ownBlock]
  by_cases hc : p.size = 0 ∨ s.size < p.size
  · refine (places1_none_in n l Bs Bp s p hm hc (fun l W => l = [] ∧ J [] W) W (by rw [cell_of_row _ _ _ _ _ _ hs1]; rfl) (by rw [cell_of_row _ _ _ _ _ _ hp1]; rfl) ⟨rfl, h0⟩).mono ?_
    rintro e W' ⟨he, _, hJ0⟩
    exact ⟨he, .inl ⟨[], by unfold placesL; rw [if_pos hc]; rfl, hJ0⟩⟩
  · refine (places1_in n hn l Bs Bp Bo X s p hm (by omega) (by omega) (s.size + 1) (Nat.le_refl _) (fun l W => ∃ la : List (Fits s p), la.map Subtype.val = l ∧ J la W) (fun _ W => ∃ la, Jx la W) W ?_ ?_ hs1 hp1 xs xp
      (fun k hk => Nat.lt_of_lt_of_le (xb k hk) hW.size) (hno _) (hno _) (Nat.lt_of_lt_of_le oo hW.size) (fun k _ => hno k) ⟨[], rfl, h0⟩).mono ?_
    · rintro st A B row ⟨la, hla, hJa⟩ hg hr
      exact ⟨la, hla, hJ la A B row hJa hg hr⟩
    · rintro pre x W1 hx ⟨la, hla, hJa⟩ hlen
      obtain ⟨fn, tmps, assign, body, hy, hR⟩ := hY la ⟨x, hx⟩ W1 hJa (by rw [← hla, List.length_map] at hlen; exact hlen)
      refine ⟨fn, tmps, assign, body, hy, hR.mono ?_⟩
      rintro e W' (⟨he, hJ2, hk⟩ | ⟨he, hJ2⟩)
      · exact .inl ⟨he, ⟨la ++ [⟨x, hx⟩], by rw [List.map_append, hla]; rfl, hJ2⟩, hk⟩
      · exact .inr ⟨he, _, hJ2⟩
    · rintro e W' ⟨he, (⟨ys, rfl, la, hla, hJ2⟩ | ⟨pre, _, la, hJ2⟩)⟩
      · exact ⟨he, .inl ⟨la, by show la.map Subtype.val = _; rw [hla]; unfold placesL; rw [if_neg hc], hJ2⟩⟩
      · exact ⟨he, .inr ⟨la, trivial, hJ2⟩⟩
end Go.Proofs.YtohjcimkpcpgbaaDoor
