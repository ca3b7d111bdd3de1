/- RunesBack: its walk. -/
import Derived.Test.YtohjcimkpcpgbaaDoorPointsW
import Derived.Deep.QuietTactic
namespace Go.Proofs.YtohjcimkpcpgbaaDoor
open Go Go.RowKit Go.WideShapes Go.Shelf

theorem below_next {w a b : World} (h : Below w.heap.size w a) (h2 : Below a.heap.size a b) : Below w.heap.size w b := h.trans (h2.mono h.size)
theorem BRow.arr {w : World} {e : TypeId} {b n cap : Nat} {l : List UInt8} (h : BRow w e b l) (hn : n = l.length) : Arr w (b + 1) (.slice (some ⟨b, 0, none⟩) n cap) (Lib.byteCells l) := by
  subst hn
  refine ⟨some ⟨b, 0, none⟩, cap, by rw [Lib.byteCells_length], fun _ => ⟨_, rfl, by simp, fun j u hu => ?_⟩⟩
  have hj : j < l.length := by
    have := (List.getElem?_eq_some_iff.1 hu).1
    rw [Lib.byteCells_length] at this
    exact this
  rw [Addr.add_lit, Nat.zero_add, h.cell j hj, ← hu]
  unfold Lib.byteCells
  rw [List.getElem?_map, List.getElem?_eq_getElem hj]
  rfl
theorem encAll_len : ∀ l : List Nat, (encAll l).length ≤ 4 * l.length := by
  intro l
  induction l with
  | nil => exact Nat.le_refl _
  | cons p r ih =>
    have e : encAll (p :: r) = Lib.encodeRune (p : Int) ++ encAll r := rfl
    have := enc_le (p : Int)
    rw [e, List.length_append, List.length_cons]
    omega
theorem clean_size (s : ByteArray) : (cleanS s).size ≤ 4 * s.size := by
  have h1 : (cleanS s).size = (encAll (pts s 0)).length := by unfold cleanS; simp [ByteArray.size]
  have h2 := encAll_len (pts s 0)
  have h3 := pts_len s 0
  omega
theorem same_text (c s : ByteArray) : (c.toList == s.toList) = decide (c = s) := by
  rw [Bool.eq_iff_iff, beq_iff_eq, decide_eq_true_iff, ByteArray.toList_eq, ByteArray.toList_eq]
  exact ⟨fun h => bytes_inj h, fun h => by rw [h]⟩
theorem back_bytes (c : ByteArray) : (⟨c.data.toList.toArray⟩ : ByteArray) = c := by cases c; simp
/-- Behind some of a region's operations: the others only read and call what only reads, in a class of worlds. -/
theorem wpAny_tail {P : Program} {ops : Array Oper} {C : World → Prop} {Q : Exit → Act → World → Prop} {listed : Array Bool} {a : Act} {w : World} (k n : Nat) (l : List Oper) (hl : ops.toList.drop k = l) (hn : l.length = n)
    (hs : Region.noSelect ops = true) (hB : Region.lexFrom .any ops n k listed = true) (hC : C w)
    (h : wpQuiet P ops C (fun a' => ∀ w', C w' → Q .normal a' w') l a) : wpAny P .any ops Q n listed a w := by
  subst hn
  refine wpAny_of_quiet (Q := fun a' => ∀ w', C w' → Q .normal a' w') (fun _ w' hw' h => h w' hw') _ _ _ _ hC ?_
  refine wpAnyQ_lex hs l k listed a (fun j => ?_) hB h
  rw [← hl, List.getElem?_drop]
  simp

set_option maxRecDepth 100000 in
set_option maxHeartbeats 4000000 in
theorem back_true (l : List UInt8) (at_ : Int) (B : Nat) (a : Value) (hl : l.length ≤ 100000000) (hat : -9223372036854775808 ≤ at_ ∧ at_ ≤ 9223372036854775807) (w : World) (ha : Arr w B a (Lib.byteCells l)) (hB : B ≤ w.heap.size) (hT : Lib.Utf8Tabs 0 1 w) :
    Calls Tryd.prog 6 #[a, .int .i64 at_] w fun e w' => e = .returned (.bool true) ∧ Below w.heap.size w w' := by
  have hsz : (⟨l.toArray⟩ : ByteArray).size ≤ 100000000 := by simpa [ByteArray.size] using hl
  obtain ⟨s, hs⟩ : ∃ s : ByteArray, ⟨l.toArray⟩ = s := ⟨_, rfl⟩
  have back : ∀ w' : World, Below w.heap.size w w' → (convert 22 9 a).run Tryd.prog w' = .ok (.string s) w' := fun w' hb => by
    rw [← hs]
    exact arr_string (P := Tryd.prog) (ha.below (hb.mono hB)) 22 9 5 Tryd.underlying22 Tryd.underlying5 Tryd.underlying9
  rw [hs] at hsz
  have g1 := good_clean s
  have g2 := (clean_pts s).2
  have g3 := clean_clean s
  have hcs : (cleanS s).size ≤ 1000000000 := by
    have h1 := clean_size s
    omega
  obtain ⟨c, hc⟩ : ∃ c, cleanS s = c := ⟨_, rfl⟩
  rw [hc] at g1 g2 g3 hcs
  obtain ⟨A, cap, rfl⟩ : ∃ A c, a = .slice A l.length c := by obtain ⟨A, c, e, _⟩ := ha; exact ⟨A, c, by rw [e, Lib.byteCells_length]⟩
  have Hs := Lib.hid hs
  have Hc := Lib.hid hc
  have Ha := Lib.hid ha
  have G1 := Lib.hid g1
  have G2 := Lib.hid g2
  have G3 := Lib.hid g3
  have Hback := Lib.hid back
  clear hs hc ha g1 g2 g3 back
  go_enter Tryd.func6, Tryd.ntmps6
  go_wp2_with fail
  refine (Clean_any l B _ (by omega) _ Ha.out hB).mono ?_
  rintro e w1 ⟨rfl, B1⟩
  rw [Hs.out, Hc.out]
  have z1 := B1.size
  go_wp2_with fail
  refine wp_region_any (by kernel_rfl) ?_
  change wpAny _ _ _ _ _ _ _ (World.drew _)
  obtain ⟨w2, hw2⟩ : ∃ x, w1.drew = x := ⟨_, rfl⟩
  have B2 : Below w.heap.size w w2 := by rw [← hw2]; exact below_drewN B1 1
  rw [hw2]
  clear hw2 B1 z1
  have z2 := B2.size
  refine wpAny_ready (rs := [0]) (by kernel_rfl) (by simp) ?_
  refine AllReady.cons rfl (fun K hK => ?_) AllReady.nil
  go_simp
  refine hK _ _ ?_
  clear hK K
  refine wpAny_ready (rs := [1]) (by kernel_rfl) (by simp) ?_
  refine AllReady.cons rfl (fun K hK => ?_) AllReady.nil
  go_simp
  refine (Valid_any c hcs _).mono ?_
  rintro e w3 ⟨rfl, b3⟩
  rw [G2.out]
  have B3 := below_next B2 b3
  clear b3 B2 z2
  have z3 := B3.size
  refine hK _ _ ?_
  clear hK K
  refine wpAny_ready (rs := [2]) (by kernel_rfl) (by simp) ?_
  refine AllReady.cons rfl (fun K hK => ?_) AllReady.nil
  go_simp
  refine hK _ _ ?_
  clear hK K
  refine wpAny_ready (rs := [3]) (by kernel_rfl) (by simp) ?_
  refine AllReady.cons rfl (fun K hK => ?_) AllReady.nil
  go_simp
  refine hK _ _ ?_
  clear hK K
  refine wpAny_take (i := 7) (v := .string c) rfl (by kernel_rfl) (by kernel_rfl) (by kernel_rfl) (fun _ _ _ h => h) (Or.inl ⟨by rfl, fun _ => by rfl⟩) ?_
  refine wpAny_ready (rs := [4]) (by kernel_rfl) (by simp) ?_
  refine AllReady.cons rfl (fun K hK => ?_) AllReady.nil
  go_simp
  refine hK _ _ ?_
  clear hK K
  have hcv := Lib.run_convert_string_bytes (P := Tryd.prog) w3 9 22 5 c Tryd.underlying9 Tryd.underlying22 Tryd.underlying5
  refine wpAny_ready (rs := [5]) (by kernel_rfl) (by simp) ?_
  refine AllReady.cons rfl (fun K hK => ?_) AllReady.nil
  go_simp
  refine hK _ _ ?_
  clear hK K
  clear hcv
  have r4 := BRow.made w3 5 c
  have b4 := below_bytes w3 5 c
  obtain ⟨w4, hw4⟩ : ∃ x, Lib.bytesWorld w3 5 c = x := ⟨_, rfl⟩
  rw [hw4] at r4 b4 ⊢
  clear hw4
  have B4 := below_next B3 b4
  have z34 := r4.lt
  have z4 := B4.size
  clear b4
  refine wpAny_ready (rs := [6]) (by kernel_rfl) (by simp) ?_
  refine AllReady.cons rfl (fun K hK => ?_) AllReady.nil
  go_simp
  refine (Clean_any c.data.toList (w3.heap.size + 1) _ (by rw [Array.length_toList]; exact hcs) _ (r4.arr (by rw [Array.length_toList]; rfl)) (by omega)).mono ?_
  rintro e w5 ⟨rfl, b5⟩
  rw [back_bytes, G3.out]
  have B5 := below_next B4 b5
  clear b5 r4 z34 z4 z3 B4 B3
  have z5 := B5.size
  refine hK _ _ ?_
  clear hK K
  refine wpAny_ready (rs := [8]) (by kernel_rfl) (by simp) ?_
  refine AllReady.cons rfl (fun K hK => ?_) AllReady.nil
  go_simp
  refine hK _ _ ?_
  clear hK K
  refine wpAny_ready (rs := [9]) (by kernel_rfl) (by simp) ?_
  refine AllReady.cons rfl (fun K hK => ?_) AllReady.nil
  go_simp
  refine hK _ _ ?_
  clear hK K
  refine wpAny_ready (rs := [10]) (by kernel_rfl) (by simp) ?_
  refine AllReady.cons rfl (fun K hK => ?_) AllReady.nil
  go_simp
  refine hK _ _ ?_
  clear hK K
  have hq1 := same_text c s
  have hq2 := G1.out
  obtain ⟨q, hq⟩ : ∃ q, decide (c = s) = q := ⟨_, rfl⟩
  rw [hq] at hq1 hq2
  have Hq2 := Lib.hid hq2
  clear hq hq2
  refine wpAny_tail (C := fun w' => Below w.heap.size w w') 11 9 _ rfl rfl (by kernel_rfl) (by kernel_rfl) B5 ?_
  simp only [List.drop_succ_cons, List.drop_zero]
  refine wpQuiet_step (fun K hK => ?_)
  go_simp
  first | refine hK _ ?_ | refine ⟨_, fun _ _ => rfl, hK _ ?_⟩
  clear hK K
  refine wpQuiet_step (fun K hK => ?_)
  refine (if_pos (by rfl)).mpr ?_
  refine ⟨.string s, fun w' hw' => ?_, hK _ ?_⟩
  · have := Hback.out w' hw'
    go_simp
  clear hK K
  refine wpQuiet_step (fun K hK => ?_)
  refine (if_pos (by rfl)).mpr ?_
  refine ⟨.bool q, fun w' hw' => ?_, hK _ ?_⟩
  · go_simp
    refine (Valid_any s (by omega) _).mono ?_
    rintro e wx ⟨rfl, bx⟩
    exact ⟨by rw [Hq2.out], below_next hw' bx⟩
  clear hK K
  refine wpQuiet_step (fun K hK => ?_)
  go_simp
  first | refine hK _ ?_ | refine ⟨_, fun _ _ => rfl, hK _ ?_⟩
  clear hK K
  refine wpQuiet_step (fun K hK => ?_)
  go_simp
  first | refine hK _ ?_ | refine ⟨_, fun _ _ => rfl, hK _ ?_⟩
  clear hK K
  refine wpQuiet_step (fun K hK => ?_)
  refine (if_pos (by rfl)).mpr ?_
  refine ⟨.string s, fun w' hw' => ?_, hK _ ?_⟩
  · have := Hback.out w' hw'
    go_simp
  clear hK K
  refine wpQuiet_step (fun K hK => ?_)
  go_simp
  first | refine hK _ ?_ | refine ⟨_, fun _ _ => rfl, hK _ ?_⟩
  clear hK K
  refine wpQuiet_step (fun K hK => ?_)
  go_simp
  first | refine hK _ ?_ | refine ⟨_, fun _ _ => rfl, hK _ ?_⟩
  clear hK K
  refine wpQuiet_step (fun K hK => ?_)
  go_simp
  first | refine hK _ ?_ | refine ⟨_, fun _ _ => rfl, hK _ ?_⟩
  clear hK K
  refine wpQuiet_nil ?_
  intro w6 B6
  clear B5 z5
  have z6 := B6.size
  go_wp2_with fail
  refine (Points_any c hcs _).mono ?_
  rintro e w7 ⟨v7, rfl, o7, b7⟩
  have B7 := below_next B6 b7
  clear b7
  have z7 := B7.size
  have a7 := Arr.of_own o7 (Nat.le_refl _)
  rw [cellsN_I] at a7
  have hpl : (pts c 0).length = (st c 0).length := by unfold pts; rw [List.length_map]
  rw [hpl] at o7
  obtain ⟨A7, c7, rfl⟩ := own_form o7
  have hstl := st_len c 0
  have hof := ofS_pts c
  rw [G3.out] at hof
  have Hof := Lib.hid hof
  have hpl2 : ((pts c 0).map fun (n : Nat) => (n : Int)).length ≤ 1000000000 := by rw [List.length_map, hpl]; omega
  clear hof o7 hpl
  go_wp2_with fail
  refine (Of_any _ _ _ hpl2 _ a7 (Nat.le_refl _)).mono ?_
  rintro e w8 ⟨rfl, b8⟩
  rw [Hof.out]
  have B8 := below_next B7 b8
  clear b8 a7
  have z8 := B8.size
  go_wp2_with fail
  refine (Count_any c hcs _).mono ?_
  rintro e w9 ⟨rfl, b9⟩
  have B9 := below_next B8 b9
  clear b9
  have z9 := B9.size
  go_wp2_with fail
  refine (Slice_any c 0 at_ hcs (by omega) hat.2 _).mono ?_
  rintro e w10 ⟨rfl, b10⟩
  have B10 := below_next B9 b10
  clear b10
  have z10 := B10.size
  have hsl := slices c at_
  obtain ⟨x, hx⟩ : ∃ x, sliceS c 0 at_ = x := ⟨_, rfl⟩
  rw [hx] at hsl ⊢
  clear hx
  go_wp2_with fail
  refine (Slice_any c (max 0 at_) ((st c 0).length : Int) hcs (by omega) (by omega) _).mono ?_
  rintro e w11 ⟨rfl, b11⟩
  have B11 := below_next B10 b11
  clear b11
  have z11 := B11.size
  obtain ⟨y, hy⟩ : ∃ y, sliceS c (max 0 at_) ((st c 0).length : Int) = y := ⟨_, rfl⟩
  rw [hy] at hsl ⊢
  clear hy
  have hsum : ¬ (9223372036854775807 < x.size + y.size) := by
    rw [← ByteArray.size_append, hsl]
    omega
  go_wp2_with fail
  refine (heads_true _ (Utf8Tabs_below hT B11)).mono ?_
  rintro e w12 ⟨rfl, b12⟩
  have B12 := below_next B11 b12
  go_wp2_with fail
  go_ret
  exact ⟨rfl, B12⟩
end Go.Proofs.YtohjcimkpcpgbaaDoor
