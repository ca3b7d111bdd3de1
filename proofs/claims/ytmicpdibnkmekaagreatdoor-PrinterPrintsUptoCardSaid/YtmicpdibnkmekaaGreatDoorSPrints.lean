/- A style that came in. -/
import Derived.Test.YtmicpdibnkmekaaGreatDoorQLaid
import Derived.Test.YtmicpdibnkmekaaGreatDoorSObj
import Derived.Test.YtmicpdibnkmekaaGreatDoorRTg
import Derived.Test.YtmicpdibnkmekaaGreatDoorSSame
namespace Go.Proofs.YtmicpdibnkmekaaGreatDoor
open Go Go.ChangeShapes Go.WideShapes Go.ChangeAt Go.RowKit Go.Lib Go.Deep

set_option maxRecDepth 100000 in
theorem readS : Tryz.prog.readableRec 32 = true := by kernel_rfl
set_option maxRecDepth 100000 in
/-- A style that came in: its fields, and that it reads the same behind the call. -/
theorem open_sty {H : Type} {enc : TypeId × Value → H} {W : World} {v : Value} {d : DataW H} {p : List MemPlace} (hval : Value.okWide Tryz.prog W .any 0 32 v) (h : DataW.Trod enc Tryz.prog W 0 (fun _ => true) true 32 v d p) :
    ∃ (n : Int) (tab srt asc col : Bool), v = .agg #[.int .i64 n, .bool tab, .bool srt, .bool asc, .bool col] ∧ (-9223372036854775808 ≤ n ∧ n ≤ 9223372036854775807) ∧ ∀ W' : World, Below W.heap.size W W' → DataW.Trod enc Tryz.prog W' 0 (fun b => decide (b < W.heap.size)) true 32 v d p := by
  have h' := h
  obtain ⟨cs, rfl, _⟩ := okWide_struct Tryz.underlying32 hval
  obtain ⟨fuel, hf⟩ := h
  have hback : ∀ W' : World, Below W.heap.size W W' → DataW.Trod enc Tryz.prog W' 0 (fun b => decide (b < W.heap.size)) true 32 (.agg cs) d p := fun W' bel => Below.trod laidOutV readS (of_decide_eq_true (by kernel_rfl)) h' bel (fun y hy => DataW.trod_lt _ _ _ _ hf y hy)
  have hf : DataW.trod enc Tryz.prog W 0 (fun _ => true) true fuel 32 cs.toList = some (d, p) := hf
  obtain ⟨xs, n, _, hx, hcl, hxl, hq⟩ := DataW.trod_struct Tryz.underlying32 hf
  have hc5 : Tryz.prog.cellsOf 32 = 5 := by kernel_rfl
  rw [hc5] at hcl
  obtain ⟨cl⟩ := cs
  match cl, hcl with
  | [c0, c1, c2, c3, c4], _ =>
    match xs, hxl with
    | [y0, y1, y2, y3, y4], _ =>
      have g0 := hq 0 _ rfl
      have g1 := hq 1 _ rfl
      have g2 := hq 2 _ rfl
      have g3 := hq 3 _ rfl
      have g4 := hq 4 _ rfl
      have k0 : Tryz.prog.cellsOf 3 = 1 := by kernel_rfl
      have k1 : Tryz.prog.cellsOf 4 = 1 := by kernel_rfl
      replace g0 : DataW.trod enc Tryz.prog W 0 (fun _ => true) true n 3 (List.take (Tryz.prog.cellsOf 3) (List.drop 0 [c0, c1, c2, c3, c4])) = some y0 := g0
      rw [k0] at g0
      replace g0 : DataW.trod enc Tryz.prog W 0 (fun _ => true) true n 3 [c0] = some y0 := g0
      replace g1 : DataW.trod enc Tryz.prog W 0 (fun _ => true) true n 4 (List.take (Tryz.prog.cellsOf 4) (List.drop 1 [c0, c1, c2, c3, c4])) = some y1 := g1
      rw [k1] at g1
      replace g1 : DataW.trod enc Tryz.prog W 0 (fun _ => true) true n 4 [c1] = some y1 := g1
      replace g2 : DataW.trod enc Tryz.prog W 0 (fun _ => true) true n 4 (List.take (Tryz.prog.cellsOf 4) (List.drop 2 [c0, c1, c2, c3, c4])) = some y2 := g2
      rw [k1] at g2
      replace g2 : DataW.trod enc Tryz.prog W 0 (fun _ => true) true n 4 [c2] = some y2 := g2
      replace g3 : DataW.trod enc Tryz.prog W 0 (fun _ => true) true n 4 (List.take (Tryz.prog.cellsOf 4) (List.drop 3 [c0, c1, c2, c3, c4])) = some y3 := g3
      rw [k1] at g3
      replace g3 : DataW.trod enc Tryz.prog W 0 (fun _ => true) true n 4 [c3] = some y3 := g3
      replace g4 : DataW.trod enc Tryz.prog W 0 (fun _ => true) true n 4 (List.take (Tryz.prog.cellsOf 4) (List.drop 4 [c0, c1, c2, c3, c4])) = some y4 := g4
      rw [k1] at g4
      replace g4 : DataW.trod enc Tryz.prog W 0 (fun _ => true) true n 4 [c4] = some y4 := g4
      obtain ⟨k, e0, _, wk⟩ := DataW.trod_int Tryz.underlying3 g0
      obtain ⟨b1, e1, _⟩ := DataW.trod_bool Tryz.underlying4 g1
      obtain ⟨b2, e2, _⟩ := DataW.trod_bool Tryz.underlying4 g2
      obtain ⟨b3, e3, _⟩ := DataW.trod_bool Tryz.underlying4 g3
      obtain ⟨b4, e4, _⟩ := DataW.trod_bool Tryz.underlying4 g4
      cases e0
      cases e1
      cases e2
      cases e3
      cases e4
      have hkk : -9223372036854775808 ≤ k ∧ k ≤ 9223372036854775807 := by
        simp [Lit.wf] at wk
        have e1 : IntKind.i64.min = -9223372036854775808 := by decide
        have e2 : IntKind.i64.max = 9223372036854775807 := by decide
        omega
      exact ⟨k, b1, b2, b3, b4, rfl, hkk, hback⟩
end Go.Proofs.YtmicpdibnkmekaaGreatDoor
namespace Go.Proofs.YtmicpdibnkmekaaGreatDoor
open Go Go.RowKit

set_option maxRecDepth 100000 in
set_option maxHeartbeats 8000000 in
theorem value_Pr (w0 : World) (hN : NumW w0) (b : Nat) (hb : w0.heap.size ≤ b) (y : Sty) (h0 : 0 ≤ y.ind) (h7 : y.ind ≤ 7) (m : Nat) : ValueR w0 b y m := by
  induction m with
  | zero => intro v lv kv d lev st w _ h; exact h.elim
  | succ m ih =>
    intro v lv kv d lev st w hr h hbel hw hlev
    have hA := h
    obtain ⟨hsm, ha, hcp, a, c, B, o, rfl, hab, hi⟩ := h.opened
    have hhead : headOK v = true := by
      cases d with
      | zero => cases hr
      | succ d => have hr : (headOK v && v.l.all (fun x => rightV d x)) = true := hr
                  rw [Bool.and_eq_true] at hr; exact hr.1
    rw [headOK_iff] at hhead
    obtain ⟨⟨hk0, hk6⟩, _, _, _, hkl, _, hvs, hok⟩ := hhead
    have hkg : ∀ key ∈ v.ks, key.size ≤ 1048576 ∧ allGood key 0 = true := fun key hk => ⟨key_small hsm.2.2.2.2.2.2 key hk, ok_good hok key hk⟩
    obtain ⟨a2, n2, k2, hkv⟩ : ∃ a2 n2 k2, kv = .slice a2 n2 k2 := by obtain ⟨_, _, _, a2, n2, k2, _, e⟩ := h.slices; exact ⟨a2, n2, k2, e⟩
    have hNw := hN.below hbel
    by_cases h3 : v.k ≤ 3
    · subst hkv
      rw [printV_sca y _ m v lev h3]
      have hkk : v.k = 0 ∨ v.k = 1 ∨ v.k = 2 ∨ v.k = 3 := by omega
      unfold cellsV
      rcases hkk with hk | hk | hk | hk
      · have ht : textV (m + 1) v = nullT := by show (if v.k = 0 then _ else _) = _; rw [if_pos hk]
        rw [ht, hk]
        exact value_R0 b y st lev v.f hsm.2.2.1 v.s _ _ _ _ _ _ w hNw hw
      · have ht : textV (m + 1) v = falseT := by show (if v.k = 0 then _ else if v.k = 1 then _ else _) = _; rw [if_neg (by omega), if_pos hk]
        rw [ht, hk]
        exact value_R1 b y st lev v.f hsm.2.2.1 v.s _ _ _ _ _ _ w hNw hw
      · have ht : textV (m + 1) v = trueT := by show (if v.k = 0 then _ else if v.k = 1 then _ else if v.k = 2 then _ else _) = _; rw [if_neg (by omega), if_neg (by omega), if_pos hk]
        rw [ht, hk]
        exact value_R2 b y st lev v.f hsm.2.2.1 v.s _ _ _ _ _ _ w hNw hw
      · have ht : textV (m + 1) v = textB v.f := by show (if v.k = 0 then _ else if v.k = 1 then _ else if v.k = 2 then _ else if v.k = 3 then _ else _) = _; rw [if_neg (by omega), if_neg (by omega), if_neg (by omega), if_pos hk]
        rw [ht, hk]
        exact value_R3 b y st lev v.f hsm.2.2.1 v.s _ _ _ _ _ _ w hNw hw
    by_cases h4 : v.k = 4
    · subst hkv
      rw [printV_str y _ m v lev h4]
      unfold cellsV
      rw [h4]
      exact value_strR b y st lev v.f v.s hsm.2.2.2.1 hvs _ _ _ _ _ _ w hNw hw
    have hbl0 : ∀ cs, Below w.heap.size w (w.alloc (.cells cs 27)) := fun cs => (Below.refl w.heap.size w).alloc (Nat.le_refl _) _
    have hsf := run_store_float Tryz.prog
    by_cases h5 : v.k = 5
    · subst hkv
      rw [printV_arr y _ m v lev h5]
      have hmn := fun W hB hW => many_arrR w0 b hb y h0 h7 m ih v d hr v.f v.s a c B o a2 n2 k2 hsm.2.2.2.2.1 hab hi lev (by omega) st W hB hW
      have HMN := Lib.hid hmn
      have HBL := Lib.hid (hbl0 #[.int .i64 5, .float .f64 v.f, .string v.s, .slice a v.l.length c, .slice a2 n2 k2])
      have HBEL := Lib.hid hbel
      have HW := Lib.hid hw
      have hlt := hw.lt
      unfold cellsV
      rw [h5]
      clear hmn hbl0 hbel hw hA h hi hab ha hcp hkg hok hkl hr ih hN hNw hvs h5 h4 h3 hk0 hk6
      go_enter Tryz.func42, Tryz.ntmps42
      go_wp2_with fail
      refine (HMN.out _ (HBEL.out.trans (HBL.out.mono HBEL.out.size)) (HW.out.below HBL.out)).mono ?_
      rintro e w2 ⟨rfl, hw2, hs2⟩
      have HW2 := Lib.hid hw2
      have HS2 := Lib.hid ((WStep.of_below HBL.out (Nat.le_of_lt hlt)).trans hs2)
      clear hw2 hs2
      go_wp2_with fail
      go_end0
      exact ⟨rfl, HW2.out, HS2.out⟩
    · have h6 : v.k = 6 := by omega
      rw [printV_obj y _ m v lev h6]
      have hmn := fun W hB hW => many_objR w0 b hb y h0 h7 m ih v d hr h6 (hkl.resolve_left (by omega)) hok hkg (.slice a v.l.length c) kv hA lev (by omega) st W hB hW
      subst hkv
      unfold cellsV at hmn ⊢
      rw [h6] at hmn ⊢
      have HMN := Lib.hid hmn
      have HBL := Lib.hid (hbl0 #[.int .i64 6, .float .f64 v.f, .string v.s, .slice a v.l.length c, .slice a2 n2 k2])
      have HBEL := Lib.hid hbel
      have HW := Lib.hid hw
      have hlt := hw.lt
      clear hmn hbl0 hbel hw hA h hi hab ha hcp hkg hok hkl hr ih hN hNw hvs h6 h5 h4 h3 hk0 hk6
      go_enter Tryz.func42, Tryz.ntmps42
      go_wp2_with fail
      refine (HMN.out _ (HBEL.out.trans (HBL.out.mono HBEL.out.size)) (HW.out.below HBL.out)).mono ?_
      rintro e w2 ⟨rfl, hw2, hs2⟩
      have HW2 := Lib.hid hw2
      have HS2 := Lib.hid ((WStep.of_below HBL.out (Nat.le_of_lt hlt)).trans hs2)
      clear hw2 hs2
      go_wp2_with fail
      go_end0
      exact ⟨rfl, HW2.out, HS2.out⟩
set_option maxRecDepth 100000 in
set_option maxHeartbeats 4000000 in
theorem refPrint_any (y : Sty) (h0 : 0 ≤ y.ind) (h7 : y.ind ≤ 7) (m : Nat) (hm : m ≤ 1000000) (v : V) (d : Nat) (lv kv : Value) (w : World) (hN : NumW w) (h : At w w.heap.size m v lv kv) (hr : rightV d v = true) :
    Calls Tryz.prog 14 #[.agg (cellsV v lv kv), .agg (styC y)] w fun e w' => e = .returned (.tuple #[.string (outS (prT y m v)).1, .int .i64 (outS (prT y m v)).2]) ∧ Below w.heap.size w w' := by
  have hval := fun b (hb : w.heap.size ≤ b) W hB hW => value_Pr w hN b hb y h0 h7 m v lv kv d 0 (some []) W hr h hB hW (by omega)
  have HVAL := Lib.hid hval
  obtain ⟨a1, n1, k1, a2, n2, k2, rfl, rfl⟩ := h.slices
  have hsf := run_store_float Tryz.prog
  have d0 : decide (y.ind < 0) = false := decide_eq_false (by omega)
  have d7 : decide (7 < y.ind) = false := decide_eq_false (by omega)
  clear hval hN h hr
  unfold cellsV at HVAL ⊢
  unfold styC
  have hwv : ∀ x1 x2, RnAt (((w.alloc x1).alloc x2).alloc (.cells (runC y (.slice none 0 0) false) 76)) (w.heap.size + 1 + 1) y (some []) := fun x1 x2 => by
    refine ⟨.slice none 0 0, [], by simp, ?_, World.ownsRow_nil _ _ _ _, fun m e => by cases e; rfl⟩
    have h1 := heap_alloc_new ((w.alloc x1).alloc x2) (.cells (runC y (.slice none 0 0) false) 76)
    simpa using h1
  have hbl : ∀ x1 x2 x3, Below w.heap.size w (((w.alloc x1).alloc x2).alloc x3) := fun x1 x2 x3 => (((Below.refl w.heap.size w).alloc (Nat.le_refl _) _).alloc (by simp) _).alloc (by simp; omega) _
  have HWV := Lib.hid hwv
  have HBL := Lib.hid hbl
  obtain ⟨S, hS⟩ : ∃ S, prT y m v = S := ⟨_, rfl⟩
  rw [hS]
  have HS := Lib.hid hS
  clear hwv hbl hS
  go_enter Tryz.func14, Tryz.ntmps14
  go_wp2_with fail
  refine (HVAL.out (w.heap.size + 1 + 1) (by omega) _ (HBL.out _ _ _) (HWV.out _ _)).mono ?_
  rintro e w4 ⟨rfl, hw4, hs4⟩
  have hw4 : RnAt w4 (w.heap.size + 1 + 1) y (prT y m v) := hw4
  rw [HS.out] at hw4
  have HB4 := Lib.hid ((HBL.out _ _ _).trans (hs4.1.mono (by omega)))
  obtain ⟨rv, rl, hv⟩ := hw4
  obtain ⟨q0, q1, q2, q3, q4, q5, q6, _⟩ := row7R hv.row
  have hlt4 := hv.lt
  clear hs4 HS q0 q1 q2 q3 q4 HVAL HWV HBL
  cases S with
  | none =>
    clear hv
    go_wp2_with fail
    go_ret2
    exact ⟨rfl, HB4.out⟩
  | some l =>
    obtain rfl := hv.is l rfl
    have hst := arr_string (P := Tryz.prog) (Arr.of_own hv.own (Nat.le_refl _)) 56 9 5 Tryz.underlying56 Tryz.underlying5 Tryz.underlying9
    clear hv
    go_wp2_with fail
    go_ret2
    exact ⟨rfl, HB4.out⟩
set_option maxRecDepth 100000 in
set_option maxHeartbeats 2000000 in
theorem refPrint_bad (y : Sty) (hy : -9223372036854775808 ≤ y.ind ∧ y.ind ≤ 9223372036854775807) (hbad : y.ind < 0 ∨ 7 < y.ind) (k : Int) (f : Nat) (s : ByteArray) (lv kv : Value) (w : World) :
    Calls Tryz.prog 14 #[.agg #[.int .i64 k, .float .f64 f, .string s, lv, kv], .agg (styC y)] w fun e w' => e = .returned (.tuple #[.string ⟨#[]⟩, .int .i64 2]) ∧ Below w.heap.size w w' := by
  have hsf := run_store_float Tryz.prog
  have hd : decide (y.ind < 0) = true ∨ (decide (y.ind < 0) = false ∧ decide (7 < y.ind) = true) := by
    by_cases h : y.ind < 0
    · exact Or.inl (by simpa using h)
    · exact Or.inr ⟨by simpa using h, by simp; omega⟩
  clear hbad hy
  unfold styC
  rcases hd with d0 | ⟨d0, d7⟩
  all_goals
    go_enter Tryz.func14, Tryz.ntmps14
    go_wp2_with fail
    go_ret2
    exact ⟨rfl, ((Below.refl w.heap.size w).alloc (Nat.le_refl _) _).alloc (by simp) _⟩
/-- What both Prints answer: a text and a number. -/
theorem print_both (n : Int) (hn : -9223372036854775808 ≤ n ∧ n ≤ 9223372036854775807) (tab srt asc col : Bool) (v : V) (m : Nat) (lv kv : Value) (w : World) (hN : NumW w) (hA : At w w.heap.size m v lv kv) (hr : rightV 10000 v = true) :
    ∃ (A : ByteArray) (E : Int), (∀ W lx kx, Below w.heap.size w W → At W W.heap.size m v lx kx → Calls Tryz.prog 13 #[.agg (cellsV v lx kx), .agg #[.int .i64 n, .bool tab, .bool srt, .bool asc, .bool col]] W fun e w' => e = .returned (.tuple #[.string A, .int .i64 E]) ∧ Below W.heap.size W w') ∧
      (∀ W, Below w.heap.size w W → Calls Tryz.prog 14 #[.agg (cellsV v lv kv), .agg #[.int .i64 n, .bool tab, .bool srt, .bool asc, .bool col]] W fun e w' => e = .returned (.tuple #[.string A, .int .i64 E]) ∧ Below W.heap.size W w') := by
  have h10 := At.depth 10000 m v _ _ hA hr
  by_cases hin : 0 ≤ n ∧ n ≤ 7
  · refine ⟨(outS (prT ⟨n, tab, srt, asc, col⟩ 10000 v)).1, (outS (prT ⟨n, tab, srt, asc, col⟩ 10000 v)).2, fun W lx kx hW hx => ?_, fun W hW => ?_⟩
    · exact Print_any ⟨n, tab, srt, asc, col⟩ (order_C _) hin.1 hin.2 10000 (by decide) v 10000 _ _ W (hN.below hW) (At.depth 10000 m v _ _ hx hr) hr
    · exact refPrint_any ⟨n, tab, srt, asc, col⟩ hin.1 hin.2 10000 (by decide) v 10000 _ _ W (hN.below hW) ((h10.below hW).more hW.size) hr
  · refine ⟨⟨#[]⟩, 2, fun W lx kx hW hx => ?_, fun W hW => ?_⟩
    · exact Print_bad ⟨n, tab, srt, asc, col⟩ hn (by show n < 0 ∨ 7 < n; omega) v.k v.f v.s lx kx W
    · exact refPrint_bad ⟨n, tab, srt, asc, col⟩ hn (by show n < 0 ∨ 7 < n; omega) v.k v.f v.s lv kv W
end Go.Proofs.YtmicpdibnkmekaaGreatDoor
namespace Go.Proofs.YtmicpdibnkmekaaGreatDoor
open Go Go.RowKit

set_option maxRecDepth 100000 in
set_option maxHeartbeats 8000000 in
theorem printerPrints_true (v : V) (m : Nat) (lv kv : Value) (n : Int) (tab srt asc col : Bool) (w : World) (hN : NumW w) (h : At w w.heap.size m v lv kv) (hn : -9223372036854775808 ≤ n ∧ n ≤ 9223372036854775807) :
    Calls Tryz.prog 4 #[.agg (cellsV v lv kv), .agg #[.int .i64 n, .bool tab, .bool srt, .bool asc, .bool col]] w fun e w' => e = .returned (.bool true) ∧ Below w.heap.size w w' := by
  have hsf := run_store_float Tryz.prog
  have HN := Lib.hid (fun W (hW : Below w.heap.size w W) => hN.below hW)
  have hh := fun W hW => heads_true W hW
  have hrr := fun W (hW : Below w.heap.size w W) => refRightT_any m v _ _ W ((h.below hW).more hW.size)
  have hcp := fun W (hW : Below w.heap.size w W) => Copy_any m v lv kv W ((h.below hW).more hW.size)
  have hsm := fun W lx kx (hW : Below w.heap.size w W) (hx : At W W.heap.size m v lx kx) => Same_refl m v lx kx lv kv W hx ((h.below hW).more hW.size)
  have hpb := fun hr => print_both n hn tab srt asc col v m lv kv w hN h hr
  obtain ⟨a1, n1, k1, a2, n2, k2, rfl, rfl⟩ := h.slices
  unfold cellsV at hrr hcp hsm hpb ⊢
  have HH := Lib.hid hh
  have HRR := Lib.hid hrr
  have HCP := Lib.hid hcp
  have HSM := Lib.hid hsm
  have HPB := Lib.hid hpb
  have H := Lib.hid ((HW.start w).two #[.int .i64 v.k, .float .f64 v.f, .string v.s, .slice a1 n1 k1, .slice a2 n2 k2] #[.int .i64 n, .bool tab, .bool srt, .bool asc, .bool col] 27 32)
  clear hh hrr hcp hsm hpb h hN
  go_enter Tryz.func4, Tryz.ntmps4
  go_wp2_with fail
  refine (HRR.out _ H.out.bel).mono ?_
  rintro e w1 ⟨rfl, hb⟩
  have hx := H.out.below hb
  clear H
  have H := Lib.hid hx
  obtain ⟨i0, i1, i2, i3, i4⟩ := row5p (hx.get _ _ _ (.tail _ (.head _)))
  clear hx hb
  cases hR : rightV 10000 v with
  | false =>
    go_wp2_with fail
    refine (HH.out _ (HN.out _ H.out.bel)).mono ?_
    rintro e w2 ⟨rfl, hb⟩
    have hz := H.out.bel.trans (hb.mono H.out.bel.size)
    go_wp2_with fail
    go_ret
    exact ⟨rfl, hz⟩
  | true =>
    obtain ⟨A, E, hp1, hp2⟩ := HPB.out hR
    have HP1 := Lib.hid hp1
    have HP2 := Lib.hid hp2
    clear hp1 hp2 hR HPB
    go_wp2_with fail
    refine (HCP.out _ H.out.bel).mono ?_
    rintro e w2 ⟨lx, kx, rfl, hat, hb⟩
    have hat2 : At w2 w2.heap.size m v lx kx := AtP.more (fun b hb => hb.2) _ _ _ _ hat
    obtain ⟨b1, m1, l1, b2, m2, l2, rfl, rfl⟩ := hat2.slices
    have hx := H.out.below hb
    have hba : Below w2.heap.size w2 (w2.alloc (.cells #[.int .i64 v.k, .float .f64 v.f, .string v.s, .slice b1 m1 l1, .slice b2 m2 l2] 27)) := (Below.refl _ w2).alloc (Nat.le_refl _) _
    have H3 := Lib.hid (hx.one #[.int .i64 v.k, .float .f64 v.f, .string v.s, .slice b1 m1 l1, .slice b2 m2 l2] 27)
    have HA3 := Lib.hid ((hat2.below hba).more hba.size)
    clear hat hat2 hb hx hba H i0 i1 i2 i3 i4 HCP
    obtain ⟨i0, i1, i2, i3, i4⟩ := row5p (H3.out.get _ _ _ (.tail _ (.tail _ (.head _))))
    obtain ⟨j0, j1, j2, j3, j4⟩ := row5p (H3.out.get _ _ _ (.tail _ (.head _)))
    go_wp2_with fail
    refine (HP1.out _ _ _ H3.out.bel HA3.out).mono ?_
    rintro e w4 ⟨rfl, hb⟩
    have hx := H3.out.below hb
    have ha4 := (HA3.out.below hb).more hb.size
    have HA4 := Lib.hid ha4
    have H4 := Lib.hid hx
    clear H3 HA3 HP1 i0 i1 i2 i3 i4 j0 j1 j2 j3 j4 hb ha4
    obtain ⟨i0, i1, i2, i3, i4⟩ := row5p (hx.get _ _ _ (.tail _ (.tail _ (.head _))))
    obtain ⟨j0, j1, j2, j3, j4⟩ := row5p (hx.get _ _ _ (.tail _ (.head _)))
    clear hx
    go_wp2_with fail
    refine (HP2.out _ H4.out.bel).mono ?_
    rintro e w5 ⟨rfl, hb⟩
    have hx := H4.out.below hb
    have ha5 := (HA4.out.below hb).more hb.size
    have HA5 := Lib.hid ha5
    have H5 := Lib.hid hx
    clear H4 HA4 HP2 i0 i1 i2 i3 i4 j0 j1 j2 j3 j4 hb ha5
    obtain ⟨i0, i1, i2, i3, i4⟩ := row5p (hx.get _ _ _ (.tail _ (.tail _ (.head _))))
    obtain ⟨j0, j1, j2, j3, j4⟩ := row5p (hx.get _ _ _ (.head _))
    clear hx
    go_wp2_with fail
    refine (HSM.out _ _ _ H5.out.bel HA5.out).mono ?_
    rintro e w6 ⟨rfl, hb⟩
    have H6 := Lib.hid (H5.out.bel.trans (hb.mono H5.out.bel.size))
    clear H5 HA5 HSM i0 i1 i2 i3 i4 j0 j1 j2 j3 j4 hb
    go_wp2_with fail
    refine (HH.out _ (HN.out _ H6.out)).mono ?_
    rintro e w7 ⟨rfl, hb⟩
    have hz := H6.out.trans (hb.mono H6.out.size)
    go_wp2_with fail
    go_ret
    exact ⟨rfl, hz⟩
end Go.Proofs.YtmicpdibnkmekaaGreatDoor
