/- A strings.Builder at the beginning of a block of any type: its own, or a struct's. -/
import Derived.Test.YtjhghhjnccjhmaaGreatDoorQWriter
namespace Go.Proofs.YtjhghhjnccjhmaaGreatDoor
open Go Go.RowKit

/-- The builder in block b, of type T, with these cells behind it, has these bytes. -/
def GAt (T : TypeId) (r : List Value) (w : World) (b : Nat) (p : Value) (l : List UInt8) : Prop :=
  ∃ v, w.heap[b]? = some (.cells (p :: v :: r).toArray T (0, 0)) ∧ w.ownsRow (b + 1) 5 1 v l.length (Lib.byteCells l)
def IsG (T : TypeId) (r : List Value) (w : World) (b : Nat) (l : List UInt8) : Prop := ∃ p, selfOr b p ∧ GAt T r w b p l
theorem GAt.is {T : TypeId} {r : List Value} {w : World} {b : Nat} {l : List UInt8} (h : GAt T r w b (.pointer (some ⟨b, 0, none⟩)) l) : IsG T r w b l := ⟨_, Or.inr rfl, h⟩
/-- A builder lies at the beginning of T. -/
def LiesG (T : TypeId) (r : List Value) : Prop := liesAt Tryz.prog Tryz.prog.depth T ((2 + r.length) / Tryz.prog.cellsOf T) 0 57 1 = true
theorem rowG {w : World} {b : Nat} {u0 u1 : Value} {r : List Value} {t : TypeId} (hb : w.heap[b]? = some (.cells (u0 :: u1 :: r).toArray t (0, 0))) :
    w.cell? ⟨b, 0, none⟩ = some u0 ∧ w.cell? ⟨b, 1, none⟩ = some u1 ∧ w.frozen? ⟨b, 0, none⟩ = false ∧ w.frozen? ⟨b, 1, none⟩ = false ∧ w.shape? b = some (t, 2 + r.length) ∧ b < w.heap.size := by
  refine ⟨?_, ?_, ?_, ?_, ?_, (Array.getElem?_eq_some_iff.1 hb).1⟩ <;> simp [World.cell?, World.frozen?, World.shape?, hb]
  omega
theorem rowG_set0 {w : World} {b : Nat} {u0 u1 x : Value} {r : List Value} {t : TypeId} (h : w.heap[b]? = some (.cells (u0 :: u1 :: r).toArray t (0, 0))) : (w.setCell ⟨b, 0, none⟩ x).heap[b]? = some (.cells (x :: u1 :: r).toArray t (0, 0)) := by
  simp [World.setCell, Array.getElem?_modify, h]
theorem rowG_set1 {w : World} {b : Nat} {u0 u1 x : Value} {r : List Value} {t : TypeId} (h : w.heap[b]? = some (.cells (u0 :: u1 :: r).toArray t (0, 0))) : (w.setCell ⟨b, 1, none⟩ x).heap[b]? = some (.cells (u0 :: x :: r).toArray t (0, 0)) := by
  simp [World.setCell, Array.getElem?_modify, h]
theorem IsG.alloc {T : TypeId} {r : List Value} {w : World} {b : Nat} {l : List UInt8} (h : IsG T r w b l) (o : Obj) : IsG T r (w.alloc o) b l := by
  obtain ⟨p, hp, v, hb, hown⟩ := h
  refine ⟨p, hp, v, ?_, hown.alloc o⟩
  have := (Array.getElem?_eq_some_iff.1 hb).1
  show (w.heap.push o)[b]? = _
  rw [Array.getElem?_push, if_neg (by omega)]
  exact hb
theorem IsG.heap {T : TypeId} {r : List Value} {w w' : World} {b : Nat} {l : List UInt8} (h : IsG T r w b l) (e : w'.heap = w.heap) : IsG T r w' b l := by
  obtain ⟨p, hp, v, hb, hown⟩ := h
  refine ⟨p, hp, v, by rw [e]; exact hb, hown.1, ?_⟩
  rcases hown.2 with h1 | ⟨g, cap, cur, h1, h2, h3, h4⟩
  · exact Or.inl h1
  · exact Or.inr ⟨g, cap, cur, h1, h2, by rw [e]; exact h3, h4⟩
theorem IsG.iterAt {T : TypeId} {r : List Value} {w : World} {b : Nat} {l : List UInt8} (h : IsG T r w b l) {k : Nat} {s : ByteArray} {p q : Nat} (hk : w.heap[k]? = some (.stringIter s p)) : IsG T r (w.iterAt k s q) b l := by
  obtain ⟨pp, hp, v, hb, hown⟩ := h
  have hbk : b ≠ k := fun e => by subst e; rw [hk] at hb; cases hb
  refine ⟨pp, hp, v, ?_, hown.1, ?_⟩
  · show (w.heap.setIfInBounds k _)[b]? = _
    rw [Array.getElem?_setIfInBounds_ne (by omega)]
    exact hb
  · rcases hown.2 with h1 | ⟨g, cap, cur, h1, h2, h3, h4⟩
    · exact Or.inl h1
    · refine Or.inr ⟨g, cap, cur, h1, h2, ?_, h4⟩
      have hgk : g ≠ k := fun e => by subst e; rw [hk] at h3; cases h3
      show (w.heap.setIfInBounds k _)[g]? = _
      rw [Array.getElem?_setIfInBounds_ne (by omega)]
      exact h3
set_option maxRecDepth 100000 in
set_option maxHeartbeats 1000000 in
theorem copyCheck_G {T : TypeId} {r : List Value} (hL : LiesG T r) (b : Nat) (l : List UInt8) (w : World) (h : IsG T r w b l) :
    Calls Tryz.prog 59 #[.pointer (some ⟨b, 0, none⟩)] w fun e w' => e = .returned (.tuple #[]) ∧ GAt T r w' b (.pointer (some ⟨b, 0, none⟩)) l ∧ WStep b w w' := by
  obtain ⟨p, hp, v, hb, hown⟩ := h
  obtain ⟨c0, c1, f0, f1, hsh, hlt⟩ := rowG hb
  obtain ⟨j, hj, hjs⟩ := Option.map_eq_some_iff.1 sizeBuilder
  have HO := Lib.hid hown
  have HB := Lib.hid hb
  have HSH := Lib.hid hsh
  have HJ := Lib.hid hj
  have HJS := Lib.hid hjs
  have HL := Lib.hid hL
  have hsz2 : (⟨b, 0, none⟩ : Addr).off < 2 + r.length := by show 0 < 2 + r.length; omega
  clear hown hb hsh hj hjs hL
  rcases hp with rfl | rfl
  · go_enter Tryz.func59, Tryz.ntmps59
    go_wp2_with fail
    rw [Lib.run_to_unsafe w ⟨b, 0, none⟩ Tryz.underlying55 Tryz.underlying123 HJ.out (by rw [HJS.out]; decide) HSH.out hsz2]
    simp only [Result.andThen]
    rw [Oper.upon_value]
    go_wp2_with fail
    rw [run_callFunc_extern Tryz.func90 (by kernel_rfl) (by kernel_rfl) (by kernel_rfl) (e := Extern.AbiNoEscape.same) (by kernel_rfl)]
    rw [Lib.run_noEscape]
    simp only [Result.andThen]
    rw [Oper.upon_value]
    go_wp2_with fail
    rw [Lib.run_from_unsafe w ⟨b, 0, none⟩ Tryz.underlying123 Tryz.underlying55 HJ.out HSH.out HL.out]
    simp only [Result.andThen]
    rw [Oper.upon_value]
    go_wp2_with fail
    try rw [Lib.run_neq_ptr_same _ _ Tryz.underlying55 HJ.out]
    go_wp2_with fail
    go_end0
    exact ⟨rfl, ⟨v, rowG_set0 HB.out, own_set_other HO.out (by omega) _⟩, (Below.refl b w).setCell (p := ⟨b, 0, none⟩) (Nat.le_refl _) _, (Lib.OthersKept.refl _ _ w).setCell ⟨b, 0, none⟩ rfl _⟩
  · go_enter Tryz.func59, Tryz.ntmps59
    go_wp2_with fail
    rw [Lib.run_neq_ptr_same w _ Tryz.underlying55 HJ.out]
    go_wp2_with fail
    go_end0
    exact ⟨rfl, ⟨v, HB.out, HO.out⟩, WStep.refl _ _⟩
theorem GAt.put {T : TypeId} {r : List Value} {w2 : World} {b : Nat} {l m : List UInt8} {v v' : Value} (hb : w2.heap[b]? = some (.cells (Value.pointer (some ⟨b, 0, none⟩) :: v :: r).toArray T (0, 0))) (hown : w2.ownsRow (b + 1) 5 1 v' (l.length + m.length) (Lib.byteCells l ++ Lib.byteCells m)) :
    GAt T r (w2.setCell ⟨b, 1, none⟩ v') b (.pointer (some ⟨b, 0, none⟩)) (l ++ m) := by
  refine ⟨v', rowG_set1 hb, own_set_other ?_ (by omega) _⟩
  rw [List.length_append, Lib.byteCells, List.map_append]
  exact hown
theorem grown_rowG {w w2 : World} {b : Nat} {c : Array Value} {T : TypeId} {v : Value} {n : Nat} {xs : List Value} {o : Obj} (hb : w.heap[b]? = some (.cells c T (0, 0))) (hown : w.ownsRow (b + 1) 5 1 v n xs) (hg : (w.alloc o).grownBy w2 v.ownBlock) :
    w2.heap[b]? = some (.cells c T (0, 0)) := by
  have hlt := (Array.getElem?_eq_some_iff.1 hb).1
  rw [hg.block b (by simp; omega) (fun e => by have := (hown.lt b e.symm).1; omega)]
  exact (show (w.heap.push o)[b]? = _ by rw [Array.getElem?_push, if_neg (by omega)]; exact hb)
theorem grown_rowG0 {w w2 : World} {b : Nat} {c : Array Value} {T : TypeId} {v : Value} {n : Nat} {xs : List Value} (hb : w.heap[b]? = some (.cells c T (0, 0))) (hown : w.ownsRow (b + 1) 5 1 v n xs) (hg : w.grownBy w2 v.ownBlock) :
    w2.heap[b]? = some (.cells c T (0, 0)) := by
  have hlt := (Array.getElem?_eq_some_iff.1 hb).1
  rw [hg.block b hlt (fun e => by have := (hown.lt b e.symm).1; omega)]
  exact hb
set_option maxRecDepth 100000 in
set_option maxHeartbeats 1000000 in
theorem WriteByte_G {T : TypeId} {r : List Value} (hL : LiesG T r) (b : Nat) (l : List UInt8) (c : UInt8) (w : World) (h : IsG T r w b l) (hlen : l.length ≤ 70368744177664) :
    Calls Tryz.prog 34 #[.pointer (some ⟨b, 0, none⟩), .int .u8 c.toNat] w fun e w' => e = .returned .nilIface ∧ GAt T r w' b (.pointer (some ⟨b, 0, none⟩)) (l ++ [c]) ∧ WStep b w w' := by
  have hcc := copyCheck_G hL b l w h
  have HCC := Lib.hid hcc
  have hc8 : ((c.toNat : Nat) : Int) ≤ 255 := by have := c.toNat_lt; omega
  clear hcc
  go_enter Tryz.func34, Tryz.ntmps34
  go_wp2_with fail
  refine HCC.out.mono ?_
  rintro e w1 ⟨rfl, ⟨v, hb1, hown⟩, hst⟩
  obtain ⟨c0, c1, f0, f1, hsh, hlt⟩ := rowG hb1
  obtain ⟨A, cp, rfl⟩ := own_sliceV hown
  have HB := Lib.hid hb1
  have HO := Lib.hid hown
  have HST := Lib.hid hst
  clear hb1 hown hst hsh
  go_wp2_with (at_builtin; refine app_one rfl _ _ _ rfl (b + 1) 5 _ 1 Tryz.underlying42 infoU8 rfl _ _ _ rfl (by exact HO.out) rfl rfl ?c1 ?c2 ?c3 ?_)
  case c1 => unfold maxLen; omega
  case c2 => omega
  case c3 => omega
  intro v' w2 hown2 hg hbl
  obtain ⟨A', cp', rfl⟩ := own_sliceV hown2
  have hb2 := grown_rowG HB.out HO.out hg
  obtain ⟨d0, d1, g0, g1, _, hlt2⟩ := rowG hb2
  have HB2 := Lib.hid hb2
  have HO2 := Lib.hid hown2
  have HG := Lib.hid hg
  clear hb2 hown2 hg hbl c0 c1 f0 f1
  go_wp2_with fail
  go_ret
  exact ⟨rfl, GAt.put (m := [c]) HB2.out HO2.out, HST.out.trans (grown_step HO.out hlt _ HG.out)⟩
set_option maxRecDepth 100000 in
set_option maxHeartbeats 1000000 in
theorem WriteString_G {T : TypeId} {r : List Value} (hL : LiesG T r) (b : Nat) (l : List UInt8) (s : ByteArray) (w : World) (h : IsG T r w b l) (hlen : l.length ≤ 70368744177664) (hs : s.size ≤ 70368744177664) :
    Calls Tryz.prog 64 #[.pointer (some ⟨b, 0, none⟩), .string s] w fun e w' => e = .returned (.tuple #[.int .i64 s.size, .nilIface]) ∧ GAt T r w' b (.pointer (some ⟨b, 0, none⟩)) (l ++ s.data.toList) ∧ WStep b w w' := by
  have hcc := copyCheck_G hL b l w h
  have HCC := Lib.hid hcc
  obtain ⟨i0, hi, hz0, hz1, hz2⟩ := info_parts infoU8
  clear hcc
  go_enter Tryz.func64, Tryz.ntmps64
  go_wp2_with fail
  refine HCC.out.mono ?_
  rintro e w1 ⟨rfl, ⟨v, hb1, hown⟩, hst⟩
  obtain ⟨c0, c1, f0, f1, hsh, hlt⟩ := rowG hb1
  obtain ⟨A, cp, rfl⟩ := own_sliceV hown
  have HB := Lib.hid hb1
  have HO := Lib.hid hown
  have HST := Lib.hid hst
  clear hb1 hown hst hsh
  go_wp2_with (at_builtin; refine Lib.wpList_append_own_string _ rfl _ _ 42 9 rfl (b + 1) 5 i0 Tryz.underlying42 Tryz.underlying9 hi hz0 hz1 hz2 _ _ _ rfl (by exact HO.out) s rfl ?c3 ?c4 ?c5 ?_)
  case c3 => unfold maxLen; omega
  case c4 => omega
  case c5 => omega
  intro v' w2 hown2 hg _
  obtain ⟨A', cp', rfl⟩ := own_sliceV hown2
  have hb2 := grown_rowG0 HB.out HO.out hg
  obtain ⟨d0, d1, g0, g1, _, hlt2⟩ := rowG hb2
  have HB2 := Lib.hid hb2
  have HO2 := Lib.hid hown2
  have HG := Lib.hid hg
  clear hb2 hown2 hg c0 c1 f0 f1 hi hz0 hz1 hz2
  go_wp2_with fail
  go_ret2
  refine ⟨rfl, GAt.put (m := s.data.toList) HB2.out ?_, HST.out.trans (grown_step0 HO.out hlt HG.out)⟩
  have h3 := HO2.out
  rw [str_bytes] at h3
  have e1 : s.data.toList.length = s.size := by simp
  rw [e1]
  exact h3
set_option maxRecDepth 100000 in
set_option maxHeartbeats 2000000 in
theorem BString_G {T : TypeId} {r : List Value} (b : Nat) (l : List UInt8) (h0 : l ≠ []) (w : World) (h : IsG T r w b l) :
    Calls Tryz.prog 35 #[.pointer (some ⟨b, 0, none⟩)] w fun e w' => e = .returned (.string ⟨l.toArray⟩) ∧ Below b w w' := by
  obtain ⟨p, hp, v, hb, hown⟩ := h
  have hl0 : l.length ≠ 0 := by simpa using h0
  obtain ⟨g, cap, cur, rfl, hbg, hg, hnc, hcm, hcs, htake⟩ := hown.2.resolve_left (fun h => hl0 h.2)
  have c1 : w.drew.cell? ⟨b, 1, none⟩ = some (.slice (some ⟨g, 0, none⟩) l.length cap) := (rowG hb).2.1
  have hSD : (Builtin.unsafeSliceData_ #[42] 100 #[.slice (some ⟨g, 0, none⟩) l.length cap]).run Tryz.prog w.drew = .ok (.pointer (some ⟨g, 0, none⟩)) w.drew :=
    Lib.run_unsafeSliceData_row _ _ _ _ _ _ (by omega)
  have hUS : (Builtin.unsafeString_ #[100, 3] 9 #[.pointer (some ⟨g, 0, none⟩), .int .i64 l.length]).run Tryz.prog w.drew = .ok (.string ⟨l.toArray⟩) (w.drew.freeze ⟨g, 0, none⟩ l.length) := by
    refine Lib.run_unsafeString_row w.drew 100 3 9 5 Tryz.underlying100 cellsByte g cur.size (by have hg' : w.drew.heap[g]? = some (.cells cur 5 (0, 0)) := hg; simp [World.shape?, hg']) l h0 (by omega) (by unfold maxLen at hcm; omega) ?_
    intro j x hx
    exact hown.cells (g := g) rfl j (.int .u8 x.toNat) (by simp [Lib.byteCells, hx])
  have HBG : b ≤ g := by omega
  clear hown hb hp hg htake hcs
  go_enter Tryz.func35, Tryz.ntmps35
  go_wp2_with fail
  go_region
  all_goals (go_wp2_with fail; go_ret; exact ⟨rfl, Lib.below_freeze (Below.drew (Below.refl b w)) (p := ⟨g, 0, none⟩) HBG _⟩)
theorem IsG.below {T : TypeId} {r : List Value} {w w' : World} {b : Nat} {l : List UInt8} (h : IsG T r w b l) (hb : Below w.heap.size w w') : IsG T r w' b l := by
  obtain ⟨p, hp, v, h1, h2⟩ := h
  exact ⟨p, hp, v, (hb.block b (Array.getElem?_eq_some_iff.1 h1).1).trans h1, own_belowV h2 hb⟩
end Go.Proofs.YtjhghhjnccjhmaaGreatDoor
