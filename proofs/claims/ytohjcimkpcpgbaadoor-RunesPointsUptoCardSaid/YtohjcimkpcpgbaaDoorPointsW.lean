/- RunesPoints: its walk. -/
import Derived.Test.YtohjcimkpcpgbaaDoorHeads
import Derived.Test.YtohjcimkpcpgbaaDoorTidy
import Derived.Deep.AppendSrc
namespace Go.Proofs.YtohjcimkpcpgbaaDoor
open Go Go.RowKit Go.WideShapes Go.Shelf

section
variable {P : Program} {w : World}
/-- What an append of a slice that came in gives, on a row of the call's own that is not nil. -/
theorem app_src {ops : Array Oper} {rest : List Oper} {o : Oper} {a : Act} {Q : Exit → Act → World → Prop} (hgd : o.guard = none) (s x : Operand) (t : TypeId)
    (ho : o.op = .call { callee := .builtin .append, args := #[s, x], argTypes := #[t, t] })
    (base : Nat) (e : TypeId) (z : Value) (bytes : Nat) (ht : P.underlying t = some (.slice e)) (hi : (P.info? e).map (fun i => (i.zero, i.size, i.bytes)) = some (some z, 1, bytes))
    (hzs : z.cells.size = 1)
    (g cap n : Nat) (xs : List Value) (hs : a.eval s = .slice (some ⟨g, 0, none⟩) n cap) (hown : w.ownsRow base e 1 (.slice (some ⟨g, 0, none⟩) n cap) n xs)
    (A : Option Addr) (c m : Nat) (ys : List Value) (hx : a.eval x = .slice A m c) (hm : m = ys.length) (hy : 0 < ys.length → ∃ ad : Addr, A = some ad ∧ ∀ j u, ys[j]? = some u → w.cell? (ad.add j) = some u) (hu : ∀ u ∈ ys, u.oneCell' = true)
    (h63 : n + m ≤ maxLen) (hbytes : (n + m) * bytes ≤ 140737488355328) (hbase : base ≤ w.heap.size)
    (h : ∀ v' w', w'.ownsRow base e 1 v' (n + m) (xs ++ ys) → w.grownBy w' (some g) → wpList P ops Q rest (a.put o.dst v') w') :
    wpList P ops Q (o :: rest) a w := by
  obtain ⟨i0, hi0, hz0, hz1, hz2⟩ := info_parts hi
  subst hm
  by_cases h0 : 0 < ys.length
  · obtain ⟨ad, rfl, hc⟩ := hy h0
    exact wpList_append_own _ hgd s x t ho base e i0 z 1 bytes ht hi0 hz0 hz1 hz2 hzs (by omega) _ n xs hs hown ad ys.length c ys hx (by omega) hc hu h63 hbytes hbase (fun v' w' h2 h3 _ => h v' w' h2 h3)
  · obtain rfl : ys = [] := List.eq_nil_of_length_eq_zero (by omega)
    have hcap : n ≤ cap := by
      rcases hown.2 with ⟨h1, _⟩ | ⟨g', cap', cur, h1, _, _, h2, _⟩
      · cases h1
      · injection h1 with _ _ h3; omega
    have hsrc : Src P i0.size t (.slice A 0 c) 0 [] w := by
      cases A with
      | none => exact Src.ofNil w ht c
      | some ad => exact Src.ofSlice w ht ad 0 c [] (by simp) (fun j u hj => by cases hj) (fun u hj => by cases hj)
    have hr := run_append_room_src (P := P) w t t o.type e i0 ht hi0 g 0 n cap (.slice A 0 c) 0 [] hsrc (by omega) (fun j hj => by cases hj) (fun j hj => by cases hj)
    refine wpList_plain hgd fun _ hK => ?_
    have hgo := h (.slice (some ⟨g, 0, none⟩) n cap) w (by rw [List.append_nil]; exact hown) ⟨rfl, rfl, rfl, Nat.le_refl _, fun _ _ _ => rfl⟩
    have hx' : a.eval x = .slice A 0 c := hx
    unfold Oper.wp execOp
    simp only [ho, resolve, invoke, builtin, Sem.run_bind, Sem.run_pure, Result.andThen_ok, List.map_toArray, List.map_cons, List.map_nil, hs, hx', hr]
    exact hK _ _ hgo
end

theorem one_byte (l : List UInt8) : ∀ u ∈ Lib.byteCells l, u.oneCell' = true := by
  intro u hu
  obtain ⟨_, _, rfl⟩ := List.mem_map.1 hu
  rfl
theorem one_int (l : List Int) : ∀ u ∈ cellsI l, u.oneCell' = true := by
  intro u hu
  obtain ⟨_, _, rfl⟩ := List.mem_map.1 hu
  rfl
theorem Arr.at_ {w : World} {B m c : Nat} {A : Option Addr} {ys : List Value} (h : Arr w B (.slice A m c) ys) : m = ys.length ∧ (0 < ys.length → ∃ ad : Addr, A = some ad ∧ ∀ j u, ys[j]? = some u → w.cell? (ad.add j) = some u) := by
  obtain ⟨A', c', e, hc⟩ := h
  injection e with e1 e2 _
  subst e1
  exact ⟨e2, fun hn => by obtain ⟨ad, e1, _, h2⟩ := hc hn; exact ⟨ad, e1, h2⟩⟩

set_option maxRecDepth 100000 in
set_option maxHeartbeats 4000000 in
theorem points_true (l : List UInt8) (ps : List Int) (B : Nat) (a c : Value) (hl : l.length ≤ 100000000) (hpl : ps.length ≤ 100000000) (w : World) (ha : Arr w B a (Lib.byteCells l)) (hc : Arr w B c (cellsI ps)) (hB : B ≤ w.heap.size) (hT : Lib.Utf8Tabs 0 1 w) :
    Calls Tryd.prog 3 #[a, c] w fun e w' => e = .returned (.bool true) ∧ Below w.heap.size w w' := by
  have hst := arr_string (P := Tryd.prog) ha 22 9 5 Tryd.underlying22 Tryd.underlying5 Tryd.underlying9
  have hsz : (⟨l.toArray⟩ : ByteArray).size ≤ 100000000 := by simpa [ByteArray.size] using hl
  obtain ⟨s, hs⟩ : ∃ s : ByteArray, ⟨l.toArray⟩ = s := ⟨_, rfl⟩
  rw [hs] at hst hsz
  have Hs := Lib.hid hs
  clear hs
  have hn1 : (Lib.byteCells l).length = l.length := Lib.byteCells_length l
  have hn2 := cellsI_length ps
  obtain ⟨A1, c1, rfl⟩ : ∃ A c, a = .slice A l.length c := by obtain ⟨A, c, e, _⟩ := ha; exact ⟨A, c, by rw [e, hn1]⟩
  obtain ⟨A2, c2, rfl⟩ : ∃ A d, c = .slice A ps.length d := by obtain ⟨A, c, e, _⟩ := hc; exact ⟨A, c, by rw [e, hn2]⟩
  have Ha := Lib.hid ha
  have Hc := Lib.hid hc
  have Hn1 := Lib.hid hn1
  have Hn2 := Lib.hid hn2
  clear ha hc hn1 hn2
  go_enter Tryd.func3, Tryd.ntmps3
  go_wp2_with (at_builtin; refine app_src rfl (.tmp 14) (.tmp 15) _ rfl w.heap.size 5 _ 1 Tryd.underlying22 infoByte rfl w.heap.size 0 0 [] rfl ?c1 A1 c1 l.length (Lib.byteCells l) rfl Hn1.out.symm ?c2 (one_byte l) ?c3 ?c4 ?c5 ?_)
  case c1 => exact World.ownsRow_made w #[] 0 (Nat.le_refl _) (by unfold maxLen; omega) rfl
  case c2 => exact (Ha.out.below (((Below.refl _ w).alloc (Nat.le_refl _) _).mono hB)).at_.2
  case c3 => unfold maxLen; omega
  case c4 => omega
  case c5 => simp
  intro v1 w1 o1 g1
  have B1 : Below w.heap.size w w1 := ((Below.refl _ w).alloc (Nat.le_refl _) _).grown g1 (by simp) (fun k hk => by injection hk; omega)
  have hc2 : Arr w1 B (.slice A2 ps.length c2) (cellsI ps) := Hc.out.below (B1.mono hB)
  have Hc2 := Lib.hid hc2
  have z1 := B1.size
  clear hc2 g1
  go_wp2_with (at_builtin; refine app_src rfl (.tmp 17) (.tmp 18) _ rfl w1.heap.size 3 _ 8 Tryd.underlying23 infoInt rfl w1.heap.size 0 0 [] rfl ?c6 A2 c2 ps.length (cellsI ps) rfl Hn2.out.symm ?c7 (one_int ps) ?c8 ?c9 ?c10 ?_)
  case c6 => exact World.ownsRow_made w1 #[] 0 (Nat.le_refl _) (by unfold maxLen; omega) rfl
  case c7 => exact (Hc2.out.below (((Below.refl _ w1).alloc (Nat.le_refl _) _).mono (by omega))).at_.2
  case c8 => unfold maxLen; omega
  case c9 => omega
  case c10 => simp
  intro v2 w2 o2 g2
  have b2 : Below w1.heap.size w1 w2 := ((Below.refl _ w1).alloc (Nat.le_refl _) _).grown g2 (by simp) (fun k hk => by injection hk; omega)
  have B2 : Below w.heap.size w w2 := B1.trans (b2.mono z1)
  have a1 : Arr w2 w1.heap.size v1 (Lib.byteCells l) := (Arr.of_own o1 (Nat.le_refl _)).below b2
  have a2 : Arr w2 w2.heap.size v2 (cellsI ps) := Arr.of_own o2 (Nat.le_refl _)
  have z2 := B2.size
  have z12 := b2.size
  clear g2 b2 o1 o2 hst
  have A1' := Lib.hid a1
  have A2' := Lib.hid a2
  clear a1 a2
  go_wp2_with fail
  refine (Of_any ps _ _ (by omega) _ A2'.out (Nat.le_refl _)).mono ?_
  rintro e w3 ⟨rfl, b3⟩
  have B3 : Below w.heap.size w w3 := B2.trans (b3.mono z2)
  have z3 := B3.size
  have b23 := b3
  have z23 := b3.size
  clear b3
  obtain ⟨x, hx⟩ : ∃ x, ofS ps = x := ⟨_, rfl⟩
  have Hx := Lib.hid hx
  rw [hx]
  clear hx
  obtain ⟨x1, x2⟩ := x
  go_wp2_with fail
  refine (refOf_any ps B _ (by omega) _ (Hc.out.below (B3.mono hB)) (by omega)).mono ?_
  rintro e w4 ⟨rfl, b4⟩
  rw [Hx.out]
  have B4 : Below w.heap.size w w4 := B3.trans (b4.mono z3)
  have b24 : Below w2.heap.size w2 w4 := b23.trans (b4.mono z23)
  clear b4 b23
  have z4 := B4.size
  have z24 := b24.size
  go_wp2_with fail
  refine (Clean_any l _ _ (by omega) _ (A1'.out.below (b24.mono z12)) (by omega)).mono ?_
  rintro e w5 ⟨rfl, b5⟩
  have B5 : Below w.heap.size w w5 := B4.trans (b5.mono z4)
  have b25 : Below w2.heap.size w2 w5 := b24.trans (b5.mono z24)
  clear b5 b24
  have z5 := B5.size
  have z25 := b25.size
  obtain ⟨y, hy⟩ : ∃ y, cleanS ⟨l.toArray⟩ = y := ⟨_, rfl⟩
  have Hy := Lib.hid hy
  rw [hy]
  clear hy
  go_wp2_with fail
  refine (refClean_any l B _ (by omega) _ (Ha.out.below (B5.mono hB)) (by omega)).mono ?_
  rintro e w6 ⟨rfl, b6⟩
  rw [Hy.out]
  have B6 : Below w.heap.size w w6 := B5.trans (b6.mono z5)
  have b26 : Below w2.heap.size w2 w6 := b25.trans (b6.mono z25)
  clear b6 b25
  have z6 := B6.size
  have y6 := b26.size
  have hst6 := arr_string (P := Tryd.prog) (A1'.out.below (b26.mono z12)) 22 9 5 Tryd.underlying22 Tryd.underlying5 Tryd.underlying9
  rw [Hs.out] at hst6
  go_wp2_with fail
  refine (Valid_any s (by omega) _).mono ?_
  rintro e w7 ⟨rfl, b7⟩
  have B7 : Below w.heap.size w w7 := B6.trans (b7.mono z6)
  have c7 : Below w2.heap.size w2 w7 := b26.trans (b7.mono y6)
  have y7 := c7.size
  clear b7 hst6
  have z7 := B7.size
  obtain ⟨q, hq⟩ : ∃ q, allGood s 0 = q := ⟨_, rfl⟩
  have Hq := Lib.hid hq
  rw [hq]
  clear hq
  go_wp2_with fail
  refine (refValid_any s (by omega) _).mono ?_
  rintro e w8 ⟨rfl, rfl⟩
  rw [Hq.out]
  go_wp2_with fail
  refine (Count_any s (by omega) _).mono ?_
  rintro e w8 ⟨rfl, b8⟩
  have B8 : Below w.heap.size w w8 := B7.trans (b8.mono z7)
  have c8 : Below w2.heap.size w2 w8 := c7.trans (b8.mono y7)
  have y8 := c8.size
  clear b8
  have z8 := B8.size
  go_wp2_with fail
  refine (refCount_any s (by omega) _).mono ?_
  rintro e w9 ⟨rfl, b9⟩
  have B9 : Below w.heap.size w w9 := B8.trans (b9.mono z8)
  have c9 : Below w2.heap.size w2 w9 := c8.trans (b9.mono y8)
  have y9 := c9.size
  clear b9
  have z9 := B9.size
  go_wp2_with fail
  refine (Points_any s (by omega) _).mono ?_
  rintro e w10 ⟨v10, rfl, o10, b10⟩
  have B10 : Below w.heap.size w w10 := B9.trans (b10.mono z9)
  have c10 : Below w2.heap.size w2 w10 := c9.trans (b10.mono y9)
  have y10 := c10.size
  clear b10
  have z10 := B10.size
  have a10 := Arr.of_own o10 (Nat.le_refl _)
  rw [cellsN_I] at a10
  go_wp2_with fail
  refine (refPoints_any s (by omega) _).mono ?_
  rintro e w11 ⟨v11, rfl, o11, b11⟩
  have a10' := a10.below b11
  have B11 : Below w.heap.size w w11 := B10.trans (b11.mono z10)
  have c11 : Below w2.heap.size w2 w11 := c10.trans (b11.mono y10)
  have y11 := c11.size
  clear b11
  have z11 := B11.size
  have a11 := Arr.of_own o11 (Nat.le_refl _)
  rw [cellsN_I] at a11
  have hpt : ((pts s 0).map fun (n : Nat) => (n : Int)).length ≤ 1000000000 := by have := pts_len s 0; rw [List.length_map]; omega
  go_wp2_with fail
  refine (refInts_any _ _ _ _ _ _ hpt _ a10' a11).mono ?_
  rintro e w' ⟨rfl, r12, hr12⟩
  obtain ⟨w12, e12⟩ : ∃ x, x = w' := ⟨_, rfl⟩
  rw [← e12] at hr12 ⊢
  clear e12 w'
  rw [dec_self]
  have B12 : Below w.heap.size w w12 := by rw [hr12]; exact below_drewN B11 _
  have b12 : Below w2.heap.size w2 w12 := by rw [hr12]; exact below_drewN c11 _
  clear hr12 a10 a10' a11 o10 o11
  have z12 := B12.size
  go_wp2_with fail
  refine (refInts_any ps ps _ _ _ _ (by omega) _ (A2'.out.below b12) (Hc.out.below (B12.mono hB))).mono ?_
  rintro e w' ⟨rfl, r13, hr13⟩
  obtain ⟨w13, e13⟩ : ∃ x, x = w' := ⟨_, rfl⟩
  rw [← e13] at hr13 ⊢
  clear e13 w'
  rw [dec_self]
  have B13 : Below w.heap.size w w13 := by rw [hr13]; exact below_drewN B12 _
  clear hr13
  have z13 := B13.size
  go_wp2_with fail
  refine (heads_true _ (Utf8Tabs_below hT B13)).mono ?_
  rintro e w14 ⟨rfl, b14⟩
  have B14 : Below w.heap.size w w14 := B13.trans (b14.mono z13)
  go_wp2_with fail
  go_ret
  exact ⟨rfl, B14⟩
end Go.Proofs.YtohjcimkpcpgbaaDoor
