/- A strings.Builder at the beginning of a block of any type: its own, or a struct's. -/
import Derived.Test.YtmicpdibnkmekaaGreatDoorUWriter
import Derived.Test.YtmicpdibnkmekaaGreatDoorUWriteB
namespace Go.Proofs.YtmicpdibnkmekaaGreatDoor
open Go Go.RowKit

/-- The builder in block b, of type T, with these cells behind it, has these bytes. -/
def GAt (T : TypeId) (r : List Value) (w : World) (b : Nat) (p : Value) (l : List UInt8) : Prop :=
  ∃ v, w.heap[b]? = some (.cells (p :: v :: r).toArray T (0, 0)) ∧ w.ownsRow (b + 1) 5 1 v l.length (Lib.byteCells l)
def IsG (T : TypeId) (r : List Value) (w : World) (b : Nat) (l : List UInt8) : Prop := ∃ p, selfOr b p ∧ GAt T r w b p l
theorem GAt.is {T : TypeId} {r : List Value} {w : World} {b : Nat} {l : List UInt8} (h : GAt T r w b (.pointer (some ⟨b, 0, none⟩)) l) : IsG T r w b l := ⟨_, Or.inr rfl, h⟩
/-- A builder lies at the beginning of T. -/
def LiesG (T : TypeId) (r : List Value) : Prop := liesAt Tryz.prog Tryz.prog.depth T ((2 + r.length) / Tryz.prog.cellsOf T) 0 58 1 = true
theorem rowG {w : World} {b : Nat} {u0 u1 : Value} {r : List Value} {t : TypeId} (hb : w.heap[b]? = some (.cells (u0 :: u1 :: r).toArray t (0, 0))) :
    w.cell? ⟨b, 0, none⟩ = some u0 ∧ w.cell? ⟨b, 1, none⟩ = some u1 ∧ w.frozen? ⟨b, 0, none⟩ = false ∧ w.frozen? ⟨b, 1, none⟩ = false ∧ w.shape? b = some (t, 2 + r.length) ∧ b < w.heap.size := by
  refine ⟨?_, ?_, ?_, ?_, ?_, (Array.getElem?_eq_some_iff.1 hb).1⟩ <;> simp [World.cell?, World.frozen?, World.shape?, hb]
  omega
theorem rowG_set0 {w : World} {b : Nat} {u0 u1 x : Value} {r : List Value} {t : TypeId} (h : w.heap[b]? = some (.cells (u0 :: u1 :: r).toArray t (0, 0))) : (w.setCell ⟨b, 0, none⟩ x).heap[b]? = some (.cells (x :: u1 :: r).toArray t (0, 0)) := by
  simp [World.setCell, Array.getElem?_modify, h]
theorem rowG_set1 {w : World} {b : Nat} {u0 u1 x : Value} {r : List Value} {t : TypeId} (h : w.heap[b]? = some (.cells (u0 :: u1 :: r).toArray t (0, 0))) : (w.setCell ⟨b, 1, none⟩ x).heap[b]? = some (.cells (u0 :: x :: r).toArray t (0, 0)) := by
  simp [World.setCell, Array.getElem?_modify, h]
theorem IsG.alloc {T : TypeId} {r : List Value} {w : World} {b : Nat} {l : List UInt8} (h : IsG T r w b l) (o : Obj) : IsG T r (w.alloc o) b l := by
  obtain ⟨p, hp, v, hb, hown⟩ := h
  refine ⟨p, hp, v, ?_, hown.alloc o⟩
  have := (Array.getElem?_eq_some_iff.1 hb).1
  show (w.heap.push o)[b]? = _
  rw [Array.getElem?_push, if_neg (by omega)]
  exact hb
theorem IsG.heap {T : TypeId} {r : List Value} {w w' : World} {b : Nat} {l : List UInt8} (h : IsG T r w b l) (e : w'.heap = w.heap) : IsG T r w' b l := by
  obtain ⟨p, hp, v, hb, hown⟩ := h
  refine ⟨p, hp, v, by rw [e]; exact hb, hown.1, ?_⟩
  rcases hown.2 with h1 | ⟨g, cap, cur, h1, h2, h3, h4⟩
  · exact Or.inl h1
  · exact Or.inr ⟨g, cap, cur, h1, h2, by rw [e]; exact h3, h4⟩
theorem IsG.iterAt {T : TypeId} {r : List Value} {w : World} {b : Nat} {l : List UInt8} (h : IsG T r w b l) {k : Nat} {s : ByteArray} {p q : Nat} (hk : w.heap[k]? = some (.stringIter s p)) : IsG T r (w.iterAt k s q) b l := by
  obtain ⟨pp, hp, v, hb, hown⟩ := h
  have hbk : b ≠ k := fun e => by subst e; rw [hk] at hb; cases hb
  refine ⟨pp, hp, v, ?_, hown.1, ?_⟩
  · show (w.heap.setIfInBounds k _)[b]? = _
    rw [Array.getElem?_setIfInBounds_ne (by omega)]
    exact hb
  · rcases hown.2 with h1 | ⟨g, cap, cur, h1, h2, h3, h4⟩
    · exact Or.inl h1
    · refine Or.inr ⟨g, cap, cur, h1, h2, ?_, h4⟩
      have hgk : g ≠ k := fun e => by subst e; rw [hk] at h3; cases h3
      show (w.heap.setIfInBounds k _)[g]? = _
      rw [Array.getElem?_setIfInBounds_ne (by omega)]
      exact h3
set_option maxRecDepth 100000 in
set_option maxHeartbeats 1000000 in
theorem copyCheck_G {T : TypeId} {r : List Value} (hL : LiesG T r) (b : Nat) (l : List UInt8) (w : World) (h : IsG T r w b l) :
    Calls Tryz.prog 110 #[.pointer (some ⟨b, 0, none⟩)] w fun e w' => e = .returned (.tuple #[]) ∧ GAt T r w' b (.pointer (some ⟨b, 0, none⟩)) l ∧ WStep b w w' := by
  obtain ⟨p, hp, v, hb, hown⟩ := h
  obtain ⟨c0, c1, f0, f1, hsh, hlt⟩ := rowG hb
  obtain ⟨j, hj, hjs⟩ := Option.map_eq_some_iff.1 sizeBuilder
  have HO := Lib.hid hown
  have HB := Lib.hid hb
  have HSH := Lib.hid hsh
  have HJ := Lib.hid hj
  have HJS := Lib.hid hjs
  have HL := Lib.hid hL
  have hsz2 : (⟨b, 0, none⟩ : Addr).off < 2 + r.length := by show 0 < 2 + r.length; omega
  clear hown hb hsh hj hjs hL
  rcases hp with rfl | rfl
  · go_enter Tryz.func110, Tryz.ntmps110
    go_wp2_with fail
    rw [Lib.run_to_unsafe w ⟨b, 0, none⟩ Tryz.underlying55 Tryz.underlying162 HJ.out (by rw [HJS.out]; decide) HSH.out hsz2]
    simp only [Result.andThen]
    rw [Oper.upon_value]
    go_wp2_with fail
    rw [run_callFunc_extern Tryz.func165 (by kernel_rfl) (by kernel_rfl) (by kernel_rfl) (e := Extern.AbiNoEscape.same) (by kernel_rfl)]
    rw [Lib.run_noEscape]
    simp only [Result.andThen]
    rw [Oper.upon_value]
    go_wp2_with fail
    rw [Lib.run_from_unsafe w ⟨b, 0, none⟩ Tryz.underlying162 Tryz.underlying55 HJ.out HSH.out HL.out]
    simp only [Result.andThen]
    rw [Oper.upon_value]
    go_wp2_with fail
    try rw [Lib.run_neq_ptr_same _ _ Tryz.underlying55 HJ.out]
    go_wp2_with fail
    go_end0
    exact ⟨rfl, ⟨v, rowG_set0 HB.out, own_set_other HO.out (by omega) _⟩, (Below.refl b w).setCell (p := ⟨b, 0, none⟩) (Nat.le_refl _) _, (Lib.OthersKept.refl _ _ w).setCell ⟨b, 0, none⟩ rfl _⟩
  · go_enter Tryz.func110, Tryz.ntmps110
    go_wp2_with fail
    rw [Lib.run_neq_ptr_same w _ Tryz.underlying55 HJ.out]
    go_wp2_with fail
    go_end0
    exact ⟨rfl, ⟨v, HB.out, HO.out⟩, WStep.refl _ _⟩
theorem GAt.put {T : TypeId} {r : List Value} {w2 : World} {b : Nat} {l m : List UInt8} {v v' : Value} (hb : w2.heap[b]? = some (.cells (Value.pointer (some ⟨b, 0, none⟩) :: v :: r).toArray T (0, 0))) (hown : w2.ownsRow (b + 1) 5 1 v' (l.length + m.length) (Lib.byteCells l ++ Lib.byteCells m)) :
    GAt T r (w2.setCell ⟨b, 1, none⟩ v') b (.pointer (some ⟨b, 0, none⟩)) (l ++ m) := by
  refine ⟨v', rowG_set1 hb, own_set_other ?_ (by omega) _⟩
  rw [List.length_append, Lib.byteCells, List.map_append]
  exact hown
theorem grown_rowG {w w2 : World} {b : Nat} {c : Array Value} {T : TypeId} {v : Value} {n : Nat} {xs : List Value} {o : Obj} (hb : w.heap[b]? = some (.cells c T (0, 0))) (hown : w.ownsRow (b + 1) 5 1 v n xs) (hg : (w.alloc o).grownBy w2 v.ownBlock) :
    w2.heap[b]? = some (.cells c T (0, 0)) := by
  have hlt := (Array.getElem?_eq_some_iff.1 hb).1
  rw [hg.block b (by simp; omega) (fun e => by have := (hown.lt b e.symm).1; omega)]
  exact (show (w.heap.push o)[b]? = _ by rw [Array.getElem?_push, if_neg (by omega)]; exact hb)
theorem grown_rowG0 {w w2 : World} {b : Nat} {c : Array Value} {T : TypeId} {v : Value} {n : Nat} {xs : List Value} (hb : w.heap[b]? = some (.cells c T (0, 0))) (hown : w.ownsRow (b + 1) 5 1 v n xs) (hg : w.grownBy w2 v.ownBlock) :
    w2.heap[b]? = some (.cells c T (0, 0)) := by
  have hlt := (Array.getElem?_eq_some_iff.1 hb).1
  rw [hg.block b hlt (fun e => by have := (hown.lt b e.symm).1; omega)]
  exact hb
set_option maxRecDepth 100000 in
set_option maxHeartbeats 1000000 in
theorem WriteByte_G {T : TypeId} {r : List Value} (hL : LiesG T r) (b : Nat) (l : List UInt8) (c : UInt8) (w : World) (h : IsG T r w b l) (hlen : l.length ≤ 70368744177664) :
    Calls Tryz.prog 69 #[.pointer (some ⟨b, 0, none⟩), .int .u8 c.toNat] w fun e w' => e = .returned .nilIface ∧ GAt T r w' b (.pointer (some ⟨b, 0, none⟩)) (l ++ [c]) ∧ WStep b w w' := by
  have hcc := copyCheck_G hL b l w h
  have HCC := Lib.hid hcc
  have hc8 : ((c.toNat : Nat) : Int) ≤ 255 := by have := c.toNat_lt; omega
  clear hcc
  go_enter Tryz.func69, Tryz.ntmps69
  go_wp2_with fail
  refine HCC.out.mono ?_
  rintro e w1 ⟨rfl, ⟨v, hb1, hown⟩, hst⟩
  obtain ⟨c0, c1, f0, f1, hsh, hlt⟩ := rowG hb1
  obtain ⟨A, cp, rfl⟩ := own_sliceV hown
  have HB := Lib.hid hb1
  have HO := Lib.hid hown
  have HST := Lib.hid hst
  clear hb1 hown hst hsh
  go_wp2_with (at_builtin; refine app_one rfl _ _ _ rfl (b + 1) 5 _ 1 Tryz.underlying56 infoU8 rfl _ _ _ rfl (by exact HO.out) rfl rfl ?c1 ?c2 ?c3 ?_)
  case c1 => unfold maxLen; omega
  case c2 => omega
  case c3 => omega
  intro v' w2 hown2 hg hbl
  obtain ⟨A', cp', rfl⟩ := own_sliceV hown2
  have hb2 := grown_rowG HB.out HO.out hg
  obtain ⟨d0, d1, g0, g1, _, hlt2⟩ := rowG hb2
  have HB2 := Lib.hid hb2
  have HO2 := Lib.hid hown2
  have HG := Lib.hid hg
  clear hb2 hown2 hg hbl c0 c1 f0 f1
  go_wp2_with fail
  go_ret
  exact ⟨rfl, GAt.put (m := [c]) HB2.out HO2.out, HST.out.trans (grown_step HO.out hlt _ HG.out)⟩
set_option maxRecDepth 100000 in
set_option maxHeartbeats 1000000 in
theorem WriteString_G {T : TypeId} {r : List Value} (hL : LiesG T r) (b : Nat) (l : List UInt8) (s : ByteArray) (w : World) (h : IsG T r w b l) (hlen : l.length ≤ 70368744177664) (hs : s.size ≤ 70368744177664) :
    Calls Tryz.prog 63 #[.pointer (some ⟨b, 0, none⟩), .string s] w fun e w' => e = .returned (.tuple #[.int .i64 s.size, .nilIface]) ∧ GAt T r w' b (.pointer (some ⟨b, 0, none⟩)) (l ++ s.data.toList) ∧ WStep b w w' := by
  have hcc := copyCheck_G hL b l w h
  have HCC := Lib.hid hcc
  obtain ⟨i0, hi, hz0, hz1, hz2⟩ := info_parts infoU8
  clear hcc
  go_enter Tryz.func63, Tryz.ntmps63
  go_wp2_with fail
  refine HCC.out.mono ?_
  rintro e w1 ⟨rfl, ⟨v, hb1, hown⟩, hst⟩
  obtain ⟨c0, c1, f0, f1, hsh, hlt⟩ := rowG hb1
  obtain ⟨A, cp, rfl⟩ := own_sliceV hown
  have HB := Lib.hid hb1
  have HO := Lib.hid hown
  have HST := Lib.hid hst
  clear hb1 hown hst hsh
  go_wp2_with (at_builtin; refine Lib.wpList_append_own_string _ rfl _ _ 56 9 rfl (b + 1) 5 i0 Tryz.underlying56 Tryz.underlying9 hi hz0 hz1 hz2 _ _ _ rfl (by exact HO.out) s rfl ?c3 ?c4 ?c5 ?_)
  case c3 => unfold maxLen; omega
  case c4 => omega
  case c5 => omega
  intro v' w2 hown2 hg _
  obtain ⟨A', cp', rfl⟩ := own_sliceV hown2
  have hb2 := grown_rowG0 HB.out HO.out hg
  obtain ⟨d0, d1, g0, g1, _, hlt2⟩ := rowG hb2
  have HB2 := Lib.hid hb2
  have HO2 := Lib.hid hown2
  have HG := Lib.hid hg
  clear hb2 hown2 hg c0 c1 f0 f1 hi hz0 hz1 hz2
  go_wp2_with fail
  go_ret2
  refine ⟨rfl, GAt.put (m := s.data.toList) HB2.out ?_, HST.out.trans (grown_step0 HO.out hlt HG.out)⟩
  have h3 := HO2.out
  rw [str_bytes] at h3
  have e1 : s.data.toList.length = s.size := by simp
  rw [e1]
  exact h3
set_option maxRecDepth 100000 in
set_option maxHeartbeats 2000000 in
theorem BString_G {T : TypeId} {r : List Value} (b : Nat) (l : List UInt8) (h0 : l ≠ []) (w : World) (h : IsG T r w b l) :
    Calls Tryz.prog 31 #[.pointer (some ⟨b, 0, none⟩)] w fun e w' => e = .returned (.string ⟨l.toArray⟩) ∧ Below b w w' := by
  obtain ⟨p, hp, v, hb, hown⟩ := h
  have hl0 : l.length ≠ 0 := by simpa using h0
  obtain ⟨g, cap, cur, rfl, hbg, hg, hnc, hcm, hcs, htake⟩ := hown.2.resolve_left (fun h => hl0 h.2)
  have c1 : w.drew.cell? ⟨b, 1, none⟩ = some (.slice (some ⟨g, 0, none⟩) l.length cap) := (rowG hb).2.1
  have hSD : (Builtin.unsafeSliceData_ #[56] 105 #[.slice (some ⟨g, 0, none⟩) l.length cap]).run Tryz.prog w.drew = .ok (.pointer (some ⟨g, 0, none⟩)) w.drew :=
    Lib.run_unsafeSliceData_row _ _ _ _ _ _ (by omega)
  have hUS : (Builtin.unsafeString_ #[105, 3] 9 #[.pointer (some ⟨g, 0, none⟩), .int .i64 l.length]).run Tryz.prog w.drew = .ok (.string ⟨l.toArray⟩) (w.drew.freeze ⟨g, 0, none⟩ l.length) := by
    refine Lib.run_unsafeString_row w.drew 105 3 9 5 Tryz.underlying105 cellsByte g cur.size (by have hg' : w.drew.heap[g]? = some (.cells cur 5 (0, 0)) := hg; simp [World.shape?, hg']) l h0 (by omega) (by unfold maxLen at hcm; omega) ?_
    intro j x hx
    exact hown.cells (g := g) rfl j (.int .u8 x.toNat) (by simp [Lib.byteCells, hx])
  have HBG : b ≤ g := by omega
  clear hown hb hp hg htake hcs
  go_enter Tryz.func31, Tryz.ntmps31
  go_wp2_with fail
  go_region
  all_goals (go_wp2_with fail; go_ret; exact ⟨rfl, Lib.below_freeze (Below.drew (Below.refl b w)) (p := ⟨g, 0, none⟩) HBG _⟩)
theorem IsG.below {T : TypeId} {r : List Value} {w w' : World} {b : Nat} {l : List UInt8} (h : IsG T r w b l) (hb : Below w.heap.size w w') : IsG T r w' b l := by
  obtain ⟨p, hp, v, h1, h2⟩ := h
  exact ⟨p, hp, v, (hb.block b (Array.getElem?_eq_some_iff.1 h1).1).trans h1, own_belowV h2 hb⟩
end Go.Proofs.YtmicpdibnkmekaaGreatDoor
namespace Go.Proofs.YtmicpdibnkmekaaGreatDoor
open Go Go.RowKit

structure Sty where
  ind : Int
  tab : Bool
  srt : Bool
  asc : Bool
  col : Bool
/-- The cells behind the builder. -/
def shR (room : Int) (full : Bool) (y : Sty) (step : ByteArray) (lev : Int) : List Value := [.int .i64 room, .bool full, .int .i64 y.ind, .bool y.tab, .bool y.srt, .bool y.asc, .bool y.col, .string step, .int .i64 lev]
/-- What has been written: nothing is known, once something found no room. -/
def putS (st : Option (List UInt8)) (t : List UInt8) : Option (List UInt8) := st.bind fun l => if l.length + t.length ≤ 16777216 then some (l ++ t) else none
theorem putS_none (t : List UInt8) : putS none t = none := rfl
theorem putS_fit {l t : List UInt8} (h : l.length + t.length ≤ 16777216) : putS (some l) t = some (l ++ t) := if_pos h
theorem putS_not {l t : List UInt8} (h : ¬ l.length + t.length ≤ 16777216) : putS (some l) t = none := if_neg h
theorem putS_append (st : Option (List UInt8)) (t u : List UInt8) : putS (putS st t) u = putS st (t ++ u) := by
  cases st with
  | none => rfl
  | some l =>
    by_cases h : l.length + t.length ≤ 16777216
    · rw [putS_fit h]
      by_cases h2 : (l ++ t).length + u.length ≤ 16777216
      · rw [putS_fit h2, putS_fit (by rw [List.length_append] at *; omega), List.append_assoc]
      · rw [putS_not h2, putS_not (by rw [List.length_append] at *; omega)]
    · rw [putS_not h, putS_not (by rw [List.length_append]; omega)]; rfl
theorem putS_nil {st : Option (List UInt8)} (h : ∀ l, st = some l → l.length ≤ 16777216) : putS st [] = st := by
  cases st with
  | none => rfl
  | some l => rw [putS_fit (by have := h l rfl; simpa using this), List.append_nil]
theorem putS_more {st : Option (List UInt8)} {t : List UInt8} (h : putS st t = none) (u : List UInt8) : putS st (t ++ u) = none := by rw [← putS_append, h]; rfl
/-- The sheet in block b. -/
def ShAt (w : World) (b : Nat) (y : Sty) (step : ByteArray) (lev : Int) : Option (List UInt8) → Prop
  | some l => l.length ≤ 16777216 ∧ IsG 73 (shR (16777216 - l.length) false y step lev) w b l
  | none => ∃ l room, l.length ≤ 16777216 ∧ 0 ≤ room ∧ room ≤ 16777216 ∧ IsG 73 (shR room true y step lev) w b l
theorem lies_sheet (room : Int) (full : Bool) (y : Sty) (step : ByteArray) (lev : Int) : LiesG 73 (shR room full y step lev) := by
  show liesAt Tryz.prog Tryz.prog.depth 73 (11 / Tryz.prog.cellsOf 73) 0 58 1 = true
  kernel_rfl
theorem ShAt.len {w : World} {b : Nat} {y : Sty} {step : ByteArray} {lev : Int} {st : Option (List UInt8)} (h : ShAt w b y step lev st) : ∀ l, st = some l → l.length ≤ 16777216 := by
  rintro l rfl; exact h.1
theorem ShAt.nil {w : World} {b : Nat} {y : Sty} {step : ByteArray} {lev : Int} {st : Option (List UInt8)} (h : ShAt w b y step lev st) : putS st [] = st := putS_nil h.len
/-- In either state: a room, whether it is full, its bytes. -/
theorem ShAt.parts {w : World} {b : Nat} {y : Sty} {step : ByteArray} {lev : Int} {st : Option (List UInt8)} (h : ShAt w b y step lev st) :
    ∃ l room, l.length ≤ 16777216 ∧ 0 ≤ room ∧ room ≤ 16777216 ∧ IsG 73 (shR room st.isNone y step lev) w b l ∧ (∀ m, st = some m → m = l ∧ room = 16777216 - l.length) := by
  cases st with
  | none => obtain ⟨l, room, h1, h2, h3, h4⟩ := h; exact ⟨l, room, h1, h2, h3, h4, fun m e => by cases e⟩
  | some l => obtain ⟨h1, h2⟩ := h; exact ⟨l, _, h1, by omega, by omega, h2, fun m e => by cases e; exact ⟨rfl, rfl⟩⟩
theorem ShAt.of_parts {w : World} {b : Nat} {y : Sty} {step : ByteArray} {lev : Int} {st : Option (List UInt8)} {l : List UInt8} {room : Int} (h1 : l.length ≤ 16777216) (h2 : 0 ≤ room) (h3 : room ≤ 16777216)
    (h4 : IsG 73 (shR room st.isNone y step lev) w b l) (h5 : ∀ m, st = some m → m = l ∧ room = 16777216 - l.length) : ShAt w b y step lev st := by
  cases st with
  | none => exact ⟨l, room, h1, h2, h3, h4⟩
  | some m => obtain ⟨rfl, rfl⟩ := h5 m rfl; exact ⟨h1, h4⟩
theorem IsG.set {T : TypeId} {r : List Value} {w : World} {b : Nat} {l : List UInt8} (h : IsG T r w b l) (i : Nat) (x : Value) : IsG T (r.set i x) (w.setCell ⟨b, i + 2, none⟩ x) b l := by
  obtain ⟨p, hp, v, h1, h2⟩ := h
  refine ⟨p, hp, v, ?_, own_set_other h2 (by omega) _⟩
  simp [World.setCell, Array.getElem?_modify, h1]
theorem wstep_set {w : World} {b i : Nat} (x : Value) : WStep b w (w.setCell ⟨b, i, none⟩ x) :=
  ⟨(Below.refl b w).setCell (p := ⟨b, i, none⟩) (Nat.le_refl _) _, (Lib.OthersKept.refl _ _ w).setCell ⟨b, i, none⟩ rfl _⟩
/-- What a sheet's cells read as. -/
theorem rowS {w : World} {b : Nat} {l : List UInt8} {room : Int} {full : Bool} {y : Sty} {step : ByteArray} {lev : Int} (h : IsG 73 (shR room full y step lev) w b l) :
    w.cell? ⟨b, 2, none⟩ = some (.int .i64 room) ∧ w.cell? ⟨b, 3, none⟩ = some (.bool full) ∧ w.cell? ⟨b, 4, none⟩ = some (.int .i64 y.ind) ∧ w.cell? ⟨b, 5, none⟩ = some (.bool y.tab) ∧ w.cell? ⟨b, 6, none⟩ = some (.bool y.srt) ∧ w.cell? ⟨b, 7, none⟩ = some (.bool y.asc) ∧
    w.cell? ⟨b, 8, none⟩ = some (.bool y.col) ∧ w.cell? ⟨b, 9, none⟩ = some (.string step) ∧ w.cell? ⟨b, 10, none⟩ = some (.int .i64 lev) ∧ w.frozen? ⟨b, 2, none⟩ = false ∧ w.frozen? ⟨b, 3, none⟩ = false ∧ w.frozen? ⟨b, 10, none⟩ = false ∧ b < w.heap.size := by
  obtain ⟨p, hp, v, hb, _⟩ := h
  refine ⟨?_, ?_, ?_, ?_, ?_, ?_, ?_, ?_, ?_, ?_, ?_, ?_, (Array.getElem?_eq_some_iff.1 hb).1⟩ <;> simp [World.cell?, World.frozen?, hb, shR]
set_option maxRecDepth 100000 in
set_option maxHeartbeats 1000000 in
theorem isFull_S (b : Nat) (y : Sty) (step : ByteArray) (lev : Int) (st : Option (List UInt8)) (w : World) (h : ShAt w b y step lev st) :
    Calls Tryz.prog 128 #[.pointer (some ⟨b, 0, none⟩)] w fun e w' => e = .returned (.bool st.isNone) ∧ w' = w := by
  obtain ⟨l, room, h1, h2, h3, h4, h5⟩ := h.parts
  obtain ⟨c2, c3, c4, c5, c6, c7, c8, c9, c10, f2, f3, f10, hlt⟩ := rowS h4
  clear h h4 h5
  go_enter Tryz.func128, Tryz.ntmps128
  go_wp2_with fail
  go_ret
  exact ⟨rfl, rfl⟩
set_option maxRecDepth 100000 in
set_option maxHeartbeats 1000000 in
theorem hasLines_S (b : Nat) (y : Sty) (step : ByteArray) (lev : Int) (st : Option (List UInt8)) (w : World) (h : ShAt w b y step lev st) :
    Calls Tryz.prog 132 #[.pointer (some ⟨b, 0, none⟩)] w fun e w' => e = .returned (.bool (!step.toList.isEmpty)) ∧ w' = w := by
  obtain ⟨l, room, h1, h2, h3, h4, h5⟩ := h.parts
  obtain ⟨c2, c3, c4, c5, c6, c7, c8, c9, c10, f2, f3, f10, hlt⟩ := rowS h4
  clear h h4 h5
  go_enter Tryz.func132, Tryz.ntmps132
  go_wp2_with fail
  go_ret
  exact ⟨rfl, rfl⟩
set_option maxRecDepth 100000 in
set_option maxHeartbeats 1000000 in
theorem write_S (b : Nat) (y : Sty) (step : ByteArray) (lev : Int) (st : Option (List UInt8)) (s : ByteArray) (hs : s.size ≤ 1099511627776) (w : World) (h : ShAt w b y step lev st) :
    Calls Tryz.prog 133 #[.pointer (some ⟨b, 0, none⟩), .string s] w fun e w' => e = .returned (.tuple #[]) ∧ ShAt w' b y step lev (putS st s.data.toList) ∧ WStep b w w' := by
  have hsz : s.data.toList.length = s.size := by simp
  cases st with
  | none =>
    obtain ⟨l, room, h1, h2, h3, h4⟩ := h
    obtain ⟨c2, c3, c4, c5, c6, c7, c8, c9, c10, f2, f3, f10, hlt⟩ := rowS h4
    have h4s := h4.set 1 (.bool true)
    have H4 := Lib.hid h4
    have H4S := Lib.hid h4s
    clear h4 h4s hsz
    by_cases hbig : room < s.size
    · go_enter Tryz.func133, Tryz.ntmps133
      go_wp2_with fail
      refine bodyPost_ret (results_none rfl _ _ _) rfl ?_
      exact ⟨rfl, ⟨l, room, h1, h2, h3, H4S.out⟩, wstep_set _⟩
    · go_enter Tryz.func133, Tryz.ntmps133
      go_wp2_with fail
      refine bodyPost_ret (results_none rfl _ _ _) rfl ?_
      exact ⟨rfl, ⟨l, room, h1, h2, h3, H4.out⟩, WStep.refl _ _⟩
  | some l =>
    obtain ⟨h1, h4⟩ := h
    obtain ⟨c2, c3, c4, c5, c6, c7, c8, c9, c10, f2, f3, f10, hlt⟩ := rowS h4
    by_cases hbig : l.length + s.size ≤ 16777216
    · have h4s := h4.set 0 (.int .i64 (16777216 - l.length - s.size))
      have hws := WriteString_G (lies_sheet (16777216 - l.length - s.size) false y step lev) b l s _ h4s (by omega) (by omega)
      have HWS := Lib.hid hws
      have HSZ := Lib.hid hsz
      clear h4 h4s hsz hws
      go_enter Tryz.func133, Tryz.ntmps133
      go_wp2_with fail
      refine HWS.out.mono ?_
      rintro e w1 ⟨rfl, hw1, hst⟩
      have HW1 := Lib.hid hw1
      have HST := Lib.hid hst
      clear hw1 hst
      go_wp2_with fail
      go_end0
      rw [putS_fit (by rw [HSZ.out]; exact hbig)]
      refine ⟨rfl, ⟨by rw [List.length_append, HSZ.out]; exact hbig, ?_⟩, (wstep_set _).trans HST.out⟩
      have := HW1.out.is
      rw [List.length_append, HSZ.out]
      have e1 : (16777216 : Int) - ((l.length + s.size : Nat) : Int) = 16777216 - l.length - s.size := by omega
      rw [e1]
      exact this
    · have h4s := h4.set 1 (.bool true)
      have H4S := Lib.hid h4s
      have HSZ := Lib.hid hsz
      clear h4 h4s hsz
      go_enter Tryz.func133, Tryz.ntmps133
      go_wp2_with fail
      refine bodyPost_ret (results_none rfl _ _ _) rfl ?_
      rw [putS_not (by rw [HSZ.out]; exact hbig)]
      exact ⟨rfl, ⟨l, _, h1, by omega, by omega, H4S.out⟩, wstep_set _⟩
end Go.Proofs.YtmicpdibnkmekaaGreatDoor
namespace Go.Proofs.YtmicpdibnkmekaaGreatDoor
open Go Go.RowKit

def tokT (col : Bool) (colour text : List UInt8) : List UInt8 := if col then [27, 91] ++ colour ++ [109] ++ text ++ [27, 91, 48, 109] else text
def sgnT (col : Bool) (text : List UInt8) : List UInt8 := tokT col [49, 59, 51, 57] text
def linT (step : ByteArray) (lev : Nat) : List UInt8 := if step.data.toList.isEmpty then [] else 10 :: Lib.repeatL step.data.toList lev
theorem linT_def (step : ByteArray) (lev : Nat) : linT step lev = if step.toList.isEmpty then [] else 10 :: Lib.repeatL step.toList lev := by unfold linT; rw [ByteArray.toList_eq]
theorem IsG.ext {T : TypeId} {r : List Value} {w w' : World} {b : Nat} {l : List UInt8} (h : IsG T r w b l) (hb : Below w.heap.size w w') : IsG T r w' b l := by
  obtain ⟨p, hp, v, h1, h2⟩ := h
  exact ⟨p, hp, v, (hb.block b (Array.getElem?_eq_some_iff.1 h1).1).trans h1, own_belowV h2 hb⟩
theorem ShAt.ext {w w' : World} {b : Nat} {y : Sty} {step : ByteArray} {lev : Int} {st : Option (List UInt8)} (h : ShAt w b y step lev st) (hb : Below w.heap.size w w') : ShAt w' b y step lev st := by
  obtain ⟨l, room, h1, h2, h3, h4, h5⟩ := h.parts
  exact ShAt.of_parts h1 h2 h3 (h4.ext hb) h5
theorem ShAt.lt {w : World} {b : Nat} {y : Sty} {step : ByteArray} {lev : Int} {st : Option (List UInt8)} (h : ShAt w b y step lev st) : b < w.heap.size := by
  obtain ⟨l, room, h1, h2, h3, h4, h5⟩ := h.parts
  exact (rowS h4).2.2.2.2.2.2.2.2.2.2.2.2
theorem data_append (a b : ByteArray) : (a ++ b).data.toList = a.data.toList ++ b.data.toList := by
  rw [ByteArray.data_append, Array.toList_append]
set_option maxRecDepth 100000 in
set_option maxHeartbeats 2000000 in
theorem token_S (b : Nat) (y : Sty) (step : ByteArray) (lev : Int) (st : Option (List UInt8)) (colour text : ByteArray) (hc : colour.size ≤ 1000) (hs : text.size ≤ 1073741824) (w : World) (h : ShAt w b y step lev st) :
    Calls Tryz.prog 81 #[.pointer (some ⟨b, 0, none⟩), .string colour, .string text] w fun e w' => e = .returned (.tuple #[]) ∧ ShAt w' b y step lev (putS st (tokT y.col colour.data.toList text.data.toList)) ∧ WStep b w w' := by
  obtain ⟨l, room, h1, h2, h3, h4, h5⟩ := h.parts
  obtain ⟨c2, c3, c4, c5, c6, c7, c8, c9, c10, f2, f3, f10, hlt⟩ := rowS h4
  cases hcol : y.col with
  | false =>
    rw [hcol] at c8
    have hw := write_S b y step lev st text (by omega) w h
    have HW := Lib.hid hw
    clear hw h h4 h5
    go_enter Tryz.func81, Tryz.ntmps81
    go_wp2_with fail
    refine HW.out.mono ?_
    rintro e w1 ⟨rfl, hw1, hs1⟩
    have HW1 := Lib.hid hw1
    have HS1 := Lib.hid hs1
    clear hw1 hs1
    go_wp2_with fail
    refine bodyPost_ret (results_none rfl _ _ _) rfl ?_
    exact ⟨rfl, HW1.out, HS1.out⟩
  | true =>
    rw [hcol] at c8
    have hz : ((⟨#[27, 91]⟩ : ByteArray) ++ colour ++ (⟨#[109]⟩ : ByteArray)).size = colour.size + 3 := by rw [ByteArray.size_append, ByteArray.size_append]; show 2 + colour.size + 1 = _; omega
    have hw := write_S b y step lev st (⟨#[27, 91]⟩ ++ colour ++ ⟨#[109]⟩) (by rw [hz]; omega) w h
    have hw2 := fun W hW => write_S b y step lev (putS st ((⟨#[27, 91]⟩ : ByteArray) ++ colour ++ (⟨#[109]⟩ : ByteArray)).data.toList) text (by omega) W hW
    have hw3 := fun W hW => write_S b y step lev (putS (putS st ((⟨#[27, 91]⟩ : ByteArray) ++ colour ++ (⟨#[109]⟩ : ByteArray)).data.toList) text.data.toList) ⟨#[27, 91, 48, 109]⟩ (by decide) W hW
    have he : putS (putS (putS st ((⟨#[27, 91]⟩ : ByteArray) ++ colour ++ (⟨#[109]⟩ : ByteArray)).data.toList) text.data.toList) (⟨#[27, 91, 48, 109]⟩ : ByteArray).data.toList = putS st (tokT true colour.data.toList text.data.toList) := by
      rw [putS_append, putS_append, data_append, data_append]
      have e1 : (⟨#[27, 91]⟩ : ByteArray).data.toList = [27, 91] := rfl
      have e2 : (⟨#[109]⟩ : ByteArray).data.toList = [109] := rfl
      have e3 : (⟨#[27, 91, 48, 109]⟩ : ByteArray).data.toList = [27, 91, 48, 109] := rfl
      unfold tokT
      rw [if_pos rfl, e1, e2, e3]
      simp only [List.append_assoc]
    rw [he] at hw3
    have HW := Lib.hid hw
    have HW2 := Lib.hid hw2
    have HW3 := Lib.hid hw3
    clear hw hw2 hw3 h h4 h5 he hz
    go_enter Tryz.func81, Tryz.ntmps81
    go_wp2_with fail
    refine HW.out.mono ?_
    rintro e w1 ⟨rfl, hw1, hs1⟩
    have HS1 := Lib.hid hs1
    have HX1 := Lib.hid hw1
    clear hw1 hs1
    go_wp2_with fail
    refine (HW2.out w1 HX1.out).mono ?_
    rintro e w2 ⟨rfl, hw2, hs2⟩
    have HS2 := Lib.hid hs2
    have HX2 := Lib.hid hw2
    clear hw2 hs2
    go_wp2_with fail
    refine (HW3.out w2 HX2.out).mono ?_
    rintro e w3 ⟨rfl, hw3, hs3⟩
    have HS3 := Lib.hid hs3
    have HX3 := Lib.hid hw3
    clear hw3 hs3
    go_wp2_with fail
    go_end0
    exact ⟨rfl, HX3.out, HS1.out.trans (HS2.out.trans HS3.out)⟩
set_option maxRecDepth 100000 in
set_option maxHeartbeats 2000000 in
theorem sign_S (b : Nat) (y : Sty) (step : ByteArray) (lev : Int) (st : Option (List UInt8)) (text : ByteArray) (hs : text.size ≤ 1073741824) (w : World) (h : ShAt w b y step lev st) :
    Calls Tryz.prog 127 #[.pointer (some ⟨b, 0, none⟩), .string text] w fun e w' => e = .returned (.tuple #[]) ∧ ShAt w' b y step lev (putS st (sgnT y.col text.data.toList)) ∧ WStep b w w' := by
  have ht := token_S b y step lev st ⟨#[49, 59, 51, 57]⟩ text (by decide) hs w h
  have HT := Lib.hid ht
  clear ht h
  go_enter Tryz.func127, Tryz.ntmps127
  go_wp2_with fail
  refine HT.out.mono ?_
  rintro e w1 ⟨rfl, hw1, hs1⟩
  have HW1 := Lib.hid hw1
  have HS1 := Lib.hid hs1
  clear hw1 hs1
  go_wp2_with fail
  go_end0
  exact ⟨rfl, HW1.out, HS1.out⟩
theorem repeat_len (l : List UInt8) (n : Nat) : (Lib.repeatL l n).length = n * l.length := by rw [Lib.repeatL_length]
set_option maxRecDepth 100000 in
set_option maxHeartbeats 2000000 in
theorem line_S (b : Nat) (y : Sty) (step : ByteArray) (lev : Nat) (hstep : step.size ≤ 7) (hlev : lev ≤ 1000000) (st : Option (List UInt8)) (w : World) (h : ShAt w b y step lev st) :
    Calls Tryz.prog 129 #[.pointer (some ⟨b, 0, none⟩)] w fun e w' => e = .returned (.tuple #[]) ∧ ShAt w' b y step lev (putS st (linT step lev)) ∧ WStep b w w' := by
  have hl := hasLines_S b y step lev st w h
  have hf := fun W hW => isFull_S b y step lev st W hW
  obtain ⟨l, room, h1, h2, h3, h4, h5⟩ := h.parts
  obtain ⟨c2, c3, c4, c5, c6, c7, c8, c9, c10, f2, f3, f10, hlt⟩ := rowS h4
  have HL := Lib.hid hl
  have HF := Lib.hid hf
  have H := Lib.hid h
  clear hl hf h h4 h5
  by_cases hemp : step.toList.isEmpty = true
  · have e1 : linT step lev = [] := by rw [linT_def, if_pos hemp]
    rw [e1, H.out.nil]
    rw [hemp] at HL
    clear e1
    go_enter Tryz.func129, Tryz.ntmps129
    go_wp2_with fail
    refine HL.out.mono ?_
    rintro e w1 ⟨rfl, rfl⟩
    go_wp2_with fail
    go_end0
    exact ⟨rfl, H.out, WStep.refl _ _⟩
  · have hemp' : step.toList.isEmpty = false := by simpa using hemp
    rw [hemp'] at HL
    cases st with
    | none =>
      go_enter Tryz.func129, Tryz.ntmps129
      go_wp2_with fail
      refine HL.out.mono ?_
      rintro e w1 ⟨rfl, rfl⟩
      go_wp2_with fail
      refine (HF.out _ H.out).mono ?_
      rintro e w2 ⟨rfl, rfl⟩
      go_wp2_with fail
      go_end0
      exact ⟨rfl, H.out, WStep.refl _ _⟩
    | some m =>
      have e1 : linT step lev = [10] ++ Lib.repeatL step.toList lev := by rw [linT_def, hemp']; rfl
      have hw := fun W hW => write_S b y step lev (some m) ⟨#[10]⟩ (by decide) W hW
      have hz : (⟨(Lib.repeatL step.data.toList lev).toArray⟩ : ByteArray).size = lev * step.size := by show (Lib.repeatL step.data.toList lev).toArray.size = _; rw [List.size_toArray, Lib.repeatL_length]; simp
      have hle : lev * step.size ≤ 7000000 := by
        have := Nat.mul_le_mul hlev hstep
        omega
      have hw2 := fun W hW => write_S b y step lev (putS (some m) [10]) ⟨(Lib.repeatL step.data.toList lev).toArray⟩ (by rw [hz]; omega) W hW
      have hp : putS (putS (some m) [10]) (⟨(Lib.repeatL step.data.toList lev).toArray⟩ : ByteArray).data.toList = putS (some m) (linT step lev) := by
        rw [putS_append, e1, ByteArray.toList_eq]
      rw [hp] at hw2
      have HW := Lib.hid hw
      have HW2 := Lib.hid hw2
      have HLE := Lib.hid hle
      clear hw hw2 hp hz e1 hle hemp
      go_enter Tryz.func129, Tryz.ntmps129
      go_wp2_with fail
      refine HL.out.mono ?_
      rintro e w1 ⟨rfl, rfl⟩
      go_wp2_with fail
      refine (HF.out _ H.out).mono ?_
      rintro e w2 ⟨rfl, rfl⟩
      go_wp2_with fail
      refine (HW.out _ H.out).mono ?_
      rintro e w3 ⟨rfl, hw3, hs3⟩
      have hw3 : ShAt w3 b y step lev (putS (some m) [10]) := hw3
      obtain ⟨l', room', _, _, _, h4', _⟩ := hw3.parts
      obtain ⟨_, _, _, _, _, _, _, d9, d10, _, _, _, dlt⟩ := rowS h4'
      have HX3 := Lib.hid hw3
      have HS3 := Lib.hid hs3
      clear hw3 hs3 h4' c2 c3 c4 c5 c6 c7 c8 c9 c10 f2 f3 f10
      go_wp2_with fail
      go_region_with (first
        | (go_at_call 75; refine (Tryz.strings_Repeat step lev _ (by omega) (by have := HLE.out; rw [Nat.mul_comm]; omega)).mono ?_; rintro e w4 ⟨rfl, hb4⟩)
        | (go_at_call 133; refine (HW2.out w4 (HX3.out.ext (((Below.refl _ w3).drew).trans hb4))).mono ?_; rintro e w5 ⟨rfl, hw5, hs5⟩))
      all_goals
        have HW5 := Lib.hid hw5
        have HS5 := Lib.hid (HS3.out.trans ((WStep.refl _ w3).drew.trans ((WStep.of_below hb4 (Nat.le_of_lt dlt)).trans hs5)))
        clear hw5 hs5 hb4
        go_wp2_with fail
        go_end0
        exact ⟨rfl, HW5.out, HS5.out⟩
end Go.Proofs.YtmicpdibnkmekaaGreatDoor
