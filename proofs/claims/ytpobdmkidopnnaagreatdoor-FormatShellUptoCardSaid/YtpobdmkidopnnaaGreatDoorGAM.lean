/- The writer: a strings.Builder that lies in a struct of the program's own. -/
import Derived.Test.YtpobdmkidopnnaaGreatDoorGAJ
import Derived.Lib.Builder
import Derived.Lib.AppendStr
import Derived.Lib.OthersKept
import Derived.RegionTactic
import Derived.Test.YtpobdmkidopnnaaGreatDoorShelf
import Derived.Lib.RuneBytes
namespace Go.Proofs.YtpobdmkidopnnaaGreatDoor
open Go Go.RowKit

/-- What a write may turn: the writer's block, rows of bytes, new blocks. -/
def WStep (b : Nat) (w w' : World) : Prop := Below b w w' ∧ Lib.OthersKept 5 (some b) w w'
theorem WStep.refl (b : Nat) (w : World) : WStep b w w := ⟨Below.refl _ _, Lib.OthersKept.refl _ _ _⟩
theorem WStep.trans {b : Nat} {x y z : World} (h : WStep b x y) (k : WStep b y z) : WStep b x z := ⟨h.1.trans k.1, h.2.trans k.2⟩
theorem WStep.alloc {b : Nat} {x y : World} (h : WStep b x y) (hb : b ≤ y.heap.size) (o : Obj) : WStep b x (y.alloc o) := ⟨h.1.alloc hb o, h.2.alloc o⟩
theorem WStep.drew {b : Nat} {x y : World} (h : WStep b x y) : WStep b x y.drew := ⟨h.1.drew, h.2⟩
theorem WStep.block {b k : Nat} {w w' : World} {c : Array Value} {e : TypeId} {fz : Nat × Nat} (h : WStep b w w') (hk : w.heap[k]? = some (.cells c e fz)) (hn : k ≠ b) (he : e ≠ 5) : w'.heap[k]? = some (.cells c e fz) :=
  h.2 k _ hk (fun e1 => hn (Option.some.inj e1)) (fun c' fz' e1 => by injection e1 with _ e2 _; exact he e2)
/-- The writer in block b has these bytes, and this much is enough. -/
def WAt (w : World) (b : Nat) (p : Value) (l : List UInt8) (en : Int) : Prop :=
  ∃ v, w.heap[b]? = some (.cells #[p, v, .int .i64 en] 111 (0, 0)) ∧ w.ownsRow (b + 1) 5 1 v l.length (Lib.byteCells l)
/-- The two things that its first cell may hold. -/
def selfOr (b : Nat) (p : Value) : Prop := p = .pointer none ∨ p = .pointer (some ⟨b, 0, none⟩)
def IsW (w : World) (b : Nat) (l : List UInt8) (en : Int) : Prop := ∃ p, selfOr b p ∧ WAt w b p l en
theorem WAt.is {w : World} {b : Nat} {l : List UInt8} {en : Int} (h : WAt w b (.pointer (some ⟨b, 0, none⟩)) l en) : IsW w b l en := ⟨_, Or.inr rfl, h⟩
theorem row3V {w : World} {b : Nat} {u0 u1 u2 : Value} {t : TypeId} (hb : w.heap[b]? = some (.cells #[u0, u1, u2] t (0, 0))) :
    w.cell? ⟨b, 0, none⟩ = some u0 ∧ w.cell? ⟨b, 1, none⟩ = some u1 ∧ w.cell? ⟨b, 2, none⟩ = some u2 ∧ w.frozen? ⟨b, 0, none⟩ = false ∧ w.frozen? ⟨b, 1, none⟩ = false ∧ w.shape? b = some (t, 3) ∧ b < w.heap.size := by
  refine ⟨?_, ?_, ?_, ?_, ?_, ?_, (Array.getElem?_eq_some_iff.1 hb).1⟩ <;> simp [World.cell?, World.frozen?, World.shape?, hb]
theorem row3_setV {w : World} {b i : Nat} {u0 u1 u2 x : Value} {t : TypeId} (h : w.heap[b]? = some (.cells #[u0, u1, u2] t (0, 0))) : (w.setCell ⟨b, i, none⟩ x).heap[b]? = some (.cells (#[u0, u1, u2].setIfInBounds i x) t (0, 0)) := by
  simp [World.setCell, Array.getElem?_modify, h]
theorem IsW.alloc {w : World} {b : Nat} {l : List UInt8} {en : Int} (h : IsW w b l en) (o : Obj) : IsW (w.alloc o) b l en := by
  obtain ⟨p, hp, v, hb, hown⟩ := h
  refine ⟨p, hp, v, ?_, hown.alloc o⟩
  have := (Array.getElem?_eq_some_iff.1 hb).1
  show (w.heap.push o)[b]? = _
  rw [Array.getElem?_push, if_neg (by omega)]
  exact hb
theorem own_set_other {w : World} {base : Nat} {e : TypeId} {n : Nat} {v : Value} {xs : List Value} {b i : Nat} (h : w.ownsRow base e 1 v n xs) (hb : b < base) (x : Value) : (w.setCell ⟨b, i, none⟩ x).ownsRow base e 1 v n xs := by
  refine ⟨h.1, ?_⟩
  rcases h.2 with h1 | ⟨g, cap, cur, h1, h2, h3, h4⟩
  · exact Or.inl h1
  · refine Or.inr ⟨g, cap, cur, h1, h2, ?_, h4⟩
    simp [World.setCell, Array.getElem?_modify]
    rw [if_neg (by omega)]
    exact h3
theorem infoU8 : (Tryz.prog.info? 5).map (fun i => (i.zero, i.size, i.bytes)) = some (some (.int .u8 0), 1, 1) := by kernel_rfl
theorem sizeBuilder : (Tryz.prog.info? 109).map (·.size) = some 2 := by kernel_rfl
theorem liesBuilder : liesAt Tryz.prog Tryz.prog.depth 111 (3 / Tryz.prog.cellsOf 111) 0 109 1 = true := by kernel_rfl
set_option maxRecDepth 100000 in
set_option maxHeartbeats 1000000 in
theorem copyCheck_any (b : Nat) (l : List UInt8) (en : Int) (w : World) (h : IsW w b l en) :
    Calls Tryz.prog 202 #[.pointer (some ⟨b, 0, none⟩)] w fun e w' => e = .returned (.tuple #[]) ∧ WAt w' b (.pointer (some ⟨b, 0, none⟩)) l en ∧ WStep b w w' := by
  obtain ⟨p, hp, v, hb, hown⟩ := h
  obtain ⟨c0, c1, c2, f0, f1, hsh, hlt⟩ := row3V hb
  obtain ⟨j, hj, hjs⟩ := Option.map_eq_some_iff.1 sizeBuilder
  have HO := Lib.hid hown
  have HB := Lib.hid hb
  have HSH := Lib.hid hsh
  have HJ := Lib.hid hj
  have HJS := Lib.hid hjs
  clear hown hb hsh hj hjs
  rcases hp with rfl | rfl
  · go_enter Tryz.func202, Tryz.ntmps202
    go_wp2_with fail
    rw [Lib.run_to_unsafe w ⟨b, 0, none⟩ Tryz.underlying107 Tryz.underlying249 HJ.out (by rw [HJS.out]; decide) HSH.out (Nat.zero_lt_succ 2)]
    simp only [Result.andThen]
    rw [Oper.upon_value]
    go_wp2_with fail
    rw [run_callFunc_extern Tryz.func276 (by kernel_rfl) (by kernel_rfl) (by kernel_rfl) (e := Extern.AbiNoEscape.same) (by kernel_rfl)]
    rw [Lib.run_noEscape]
    simp only [Result.andThen]
    rw [Oper.upon_value]
    go_wp2_with fail
    rw [Lib.run_from_unsafe w ⟨b, 0, none⟩ Tryz.underlying249 Tryz.underlying107 HJ.out HSH.out liesBuilder]
    simp only [Result.andThen]
    rw [Oper.upon_value]
    go_wp2_with fail
    try rw [Lib.run_neq_ptr_same _ _ Tryz.underlying107 HJ.out]
    go_wp2_with fail
    go_end0
    exact ⟨rfl, ⟨v, row3_setV HB.out, own_set_other HO.out (by omega) _⟩, (Below.refl b w).setCell (p := ⟨b, 0, none⟩) (Nat.le_refl _) _, (Lib.OthersKept.refl _ _ w).setCell ⟨b, 0, none⟩ rfl _⟩
  · go_enter Tryz.func202, Tryz.ntmps202
    go_wp2_with fail
    rw [Lib.run_neq_ptr_same w _ Tryz.underlying107 HJ.out]
    go_wp2_with fail
    go_end0
    exact ⟨rfl, ⟨v, HB.out, HO.out⟩, WStep.refl _ _⟩
theorem str_bytes (s : ByteArray) : Lib.strCells s = Lib.byteCells s.data.toList := by
  unfold Lib.strCells Lib.byteCells
  simp
theorem WAt.put {w2 : World} {b : Nat} {l m : List UInt8} {en : Int} {v v' : Value} (hb : w2.heap[b]? = some (.cells #[.pointer (some ⟨b, 0, none⟩), v, .int .i64 en] 111 (0, 0))) (hown : w2.ownsRow (b + 1) 5 1 v' (l.length + m.length) (Lib.byteCells l ++ Lib.byteCells m)) :
    WAt (w2.setCell ⟨b, 1, none⟩ v') b (.pointer (some ⟨b, 0, none⟩)) (l ++ m) en := by
  refine ⟨v', row3_setV hb, own_set_other ?_ (by omega) _⟩
  rw [List.length_append, Lib.byteCells, List.map_append]
  exact hown
theorem grown_row {w w2 : World} {b : Nat} {p v x : Value} {l : List UInt8} {o : Obj} (hb : w.heap[b]? = some (.cells #[p, v, x] 111 (0, 0))) (hown : w.ownsRow (b + 1) 5 1 v l.length (Lib.byteCells l)) (hg : (w.alloc o).grownBy w2 v.ownBlock) :
    w2.heap[b]? = some (.cells #[p, v, x] 111 (0, 0)) := by
  have hlt := (Array.getElem?_eq_some_iff.1 hb).1
  rw [hg.block b (by simp; omega) (fun e => by have := (hown.lt b e.symm).1; omega)]
  exact (show (w.heap.push o)[b]? = _ by rw [Array.getElem?_push, if_neg (by omega)]; exact hb)
theorem grown_row0 {w w2 : World} {b : Nat} {p v x : Value} {l : List UInt8} (hb : w.heap[b]? = some (.cells #[p, v, x] 111 (0, 0))) (hown : w.ownsRow (b + 1) 5 1 v l.length (Lib.byteCells l)) (hg : w.grownBy w2 v.ownBlock) :
    w2.heap[b]? = some (.cells #[p, v, x] 111 (0, 0)) := by
  have hlt := (Array.getElem?_eq_some_iff.1 hb).1
  rw [hg.block b hlt (fun e => by have := (hown.lt b e.symm).1; omega)]
  exact hb
theorem own_kind {w : World} {B : Nat} {e : TypeId} {v : Value} {n : Nat} {xs : List Value} (h : w.ownsRow B e 1 v n xs) : ∀ g, v.ownBlock = some g → ∃ c fz, w.heap[g]? = some (.cells c e fz) := by
  intro g hg
  rcases h.2 with ⟨rfl, _⟩ | ⟨g', cap, cur, rfl, _, hgg, _⟩
  · simp [Value.ownBlock] at hg
  · simp [Value.ownBlock] at hg
    subst hg
    exact ⟨cur, _, hgg⟩
theorem grown_step {w w2 : World} {b : Nat} {v v' : Value} {n : Nat} {xs : List Value} (hown : w.ownsRow (b + 1) 5 1 v n xs) (hb : b < w.heap.size) (o : Obj) (hg : (w.alloc o).grownBy w2 v.ownBlock) : WStep b w (w2.setCell ⟨b, 1, none⟩ v') := by
  have h1 := (Below.refl b w).alloc (by omega) o
  refine ⟨(h1.grown hg (by simp; omega) (fun k hk => by have := (hown.lt k hk).1; omega)).setCell (p := ⟨b, 1, none⟩) (Nat.le_refl _) _, ?_⟩
  refine ((((Lib.OthersKept.refl _ (some b) w).alloc o).grown hg ?_)).setCell ⟨b, 1, none⟩ rfl _
  intro g hgg
  obtain ⟨c, fz, h⟩ := own_kind hown g hgg
  exact ⟨c, fz, (show (w.heap.push o)[g]? = _ by rw [Array.getElem?_push, if_neg (by have := (Array.getElem?_eq_some_iff.1 h).1; omega)]; exact h)⟩
theorem grown_step0 {w w2 : World} {b : Nat} {v v' : Value} {n : Nat} {xs : List Value} (hown : w.ownsRow (b + 1) 5 1 v n xs) (hb : b < w.heap.size) (hg : w.grownBy w2 v.ownBlock) : WStep b w (w2.setCell ⟨b, 1, none⟩ v') :=
  ⟨((Below.refl b w).grown hg (by omega) (fun k hk => by have := (hown.lt k hk).1; omega)).setCell (p := ⟨b, 1, none⟩) (Nat.le_refl _) _, ((Lib.OthersKept.refl _ (some b) w).grown hg (own_kind hown)).setCell ⟨b, 1, none⟩ rfl _⟩
theorem own_sliceV {w : World} {base : Nat} {e : TypeId} {size : Nat} {v : Value} {n : Nat} {xs : List Value} (h : w.ownsRow base e size v n xs) : ∃ A c, v = .slice A n c := by
  rcases h.2 with ⟨rfl, rfl⟩ | ⟨g, cap, cur, rfl, _⟩
  · exact ⟨_, _, rfl⟩
  · exact ⟨_, _, rfl⟩
set_option maxRecDepth 100000 in
set_option maxHeartbeats 1000000 in
theorem WriteByte_any (b : Nat) (l : List UInt8) (en : Int) (c : UInt8) (w : World) (h : IsW w b l en) (hlen : l.length ≤ 70368744177664) :
    Calls Tryz.prog 139 #[.pointer (some ⟨b, 0, none⟩), .int .u8 c.toNat] w fun e w' => e = .returned .nilIface ∧ WAt w' b (.pointer (some ⟨b, 0, none⟩)) (l ++ [c]) en ∧ WStep b w w' := by
  have hcc := copyCheck_any b l en w h
  have HCC := Lib.hid hcc
  have hc8 : ((c.toNat : Nat) : Int) ≤ 255 := by have := c.toNat_lt; omega
  clear hcc
  go_enter Tryz.func139, Tryz.ntmps139
  go_wp2_with fail
  refine HCC.out.mono ?_
  rintro e w1 ⟨rfl, ⟨v, hb1, hown⟩, hst⟩
  obtain ⟨c0, c1, c2, f0, f1, hsh, hlt⟩ := row3V hb1
  obtain ⟨A, cp, rfl⟩ := own_sliceV hown
  have HB := Lib.hid hb1
  have HO := Lib.hid hown
  have HST := Lib.hid hst
  clear hb1 hown hst hsh
  go_wp2_with (at_builtin; refine app_one rfl _ _ _ rfl (b + 1) 5 _ 1 Tryz.underlying58 infoU8 rfl _ _ _ rfl (by exact HO.out) rfl rfl ?c1 ?c2 ?c3 ?_)
  case c1 => unfold maxLen; omega
  case c2 => omega
  case c3 => omega
  intro v' w2 hown2 hg hbl
  obtain ⟨A', cp', rfl⟩ := own_sliceV hown2
  have hb2 := grown_row HB.out HO.out hg
  obtain ⟨d0, d1, d2, g0, g1, _, hlt2⟩ := row3V hb2
  have HB2 := Lib.hid hb2
  have HO2 := Lib.hid hown2
  have HG := Lib.hid hg
  clear hb2 hown2 hg hbl c0 c1 c2 f0 f1
  go_wp2_with fail
  go_ret
  exact ⟨rfl, WAt.put (m := [c]) HB2.out HO2.out, HST.out.trans (grown_step HO.out hlt _ HG.out)⟩
set_option maxRecDepth 100000 in
set_option maxHeartbeats 1000000 in
theorem WriteString_any (b : Nat) (l : List UInt8) (en : Int) (s : ByteArray) (w : World) (h : IsW w b l en) (hlen : l.length ≤ 70368744177664) (hs : s.size ≤ 70368744177664) :
    Calls Tryz.prog 160 #[.pointer (some ⟨b, 0, none⟩), .string s] w fun e w' => e = .returned (.tuple #[.int .i64 s.size, .nilIface]) ∧ WAt w' b (.pointer (some ⟨b, 0, none⟩)) (l ++ s.data.toList) en ∧ WStep b w w' := by
  have hcc := copyCheck_any b l en w h
  have HCC := Lib.hid hcc
  obtain ⟨i0, hi, hz0, hz1, hz2⟩ := info_parts infoU8
  clear hcc
  go_enter Tryz.func160, Tryz.ntmps160
  go_wp2_with fail
  refine HCC.out.mono ?_
  rintro e w1 ⟨rfl, ⟨v, hb1, hown⟩, hst⟩
  obtain ⟨c0, c1, c2, f0, f1, hsh, hlt⟩ := row3V hb1
  obtain ⟨A, cp, rfl⟩ := own_sliceV hown
  have HB := Lib.hid hb1
  have HO := Lib.hid hown
  have HST := Lib.hid hst
  clear hb1 hown hst hsh
  go_wp2_with (at_builtin; refine Lib.wpList_append_own_string _ rfl _ _ 58 9 rfl (b + 1) 5 i0 Tryz.underlying58 Tryz.underlying9 hi hz0 hz1 hz2 _ _ _ rfl (by exact HO.out) s rfl ?c3 ?c4 ?c5 ?_)
  case c3 => unfold maxLen; omega
  case c4 => omega
  case c5 => omega
  intro v' w2 hown2 hg _
  obtain ⟨A', cp', rfl⟩ := own_sliceV hown2
  have hb2 := grown_row0 HB.out HO.out hg
  obtain ⟨d0, d1, d2, g0, g1, _, hlt2⟩ := row3V hb2
  have HB2 := Lib.hid hb2
  have HO2 := Lib.hid hown2
  have HG := Lib.hid hg
  clear hb2 hown2 hg c0 c1 c2 f0 f1 hi hz0 hz1 hz2
  go_wp2_with fail
  go_ret2
  refine ⟨rfl, WAt.put (m := s.data.toList) HB2.out ?_, HST.out.trans (grown_step0 HO.out hlt HG.out)⟩
  have h3 := HO2.out
  rw [str_bytes] at h3
  have e1 : s.data.toList.length = s.size := by simp
  rw [e1]
  exact h3
set_option maxRecDepth 100000 in
set_option maxHeartbeats 1000000 in
theorem BLen_any (b : Nat) (l : List UInt8) (en : Int) (w : World) (h : IsW w b l en) :
    Calls Tryz.prog 296 #[.pointer (some ⟨b, 0, none⟩)] w fun e w' => e = .returned (.int .i64 l.length) ∧ w' = w := by
  obtain ⟨p, hp, v, hb, hown⟩ := h
  obtain ⟨c0, c1, c2, f0, f1, hsh, hlt⟩ := row3V hb
  obtain ⟨A, cp, rfl⟩ := own_sliceV hown
  clear hown hb hsh hp
  go_enter Tryz.func296, Tryz.ntmps296
  go_wp2_with fail
  go_ret
  exact ⟨rfl, rfl⟩
theorem IsW.heap {w w' : World} {b : Nat} {l : List UInt8} {en : Int} (h : IsW w b l en) (e : w'.heap = w.heap) : IsW w' b l en := by
  obtain ⟨p, hp, v, hb, hown⟩ := h
  refine ⟨p, hp, v, by rw [e]; exact hb, hown.1, ?_⟩
  rcases hown.2 with h1 | ⟨g, cap, cur, h1, h2, h3, h4⟩
  · exact Or.inl h1
  · exact Or.inr ⟨g, cap, cur, h1, h2, by rw [e]; exact h3, h4⟩
set_option maxRecDepth 100000 in
set_option maxHeartbeats 1000000 in
theorem isFull_any (b : Nat) (l : List UInt8) (en : Int) (w : World) (h : IsW w b l en) :
    Calls Tryz.prog 232 #[.pointer (some ⟨b, 0, none⟩)] w fun e w' => e = .returned (.bool (decide (en < (l.length : Int)))) ∧ ∃ n, w' = w.drewN n := by
  have hl := fun W (e : W.heap = w.heap) => BLen_any b l en W (h.heap e)
  obtain ⟨p, hp, v, hb, hown⟩ := h
  obtain ⟨c0, c1, c2, f0, f1, hsh, hlt⟩ := row3V hb
  have HL := Lib.hid hl
  clear hown hb hsh hp hl
  go_enter Tryz.func232, Tryz.ntmps232
  go_wp2_with fail
  go_quiet ((go_at_call 296; exact Calls.quiet_of_same (HL.out _ rfl)))
  go_wp2_with fail
  go_ret
  exact ⟨rfl, _, rfl⟩
set_option maxRecDepth 100000 in
set_option maxHeartbeats 1000000 in
theorem WriteRune_any (b : Nat) (l : List UInt8) (en : Int) (r : Int) (hr0 : -2147483648 ≤ r) (hr1 : r ≤ 2147483647) (w : World) (h : IsW w b l en) (hlen : l.length ≤ 70368744177664) :
    Calls Tryz.prog 127 #[.pointer (some ⟨b, 0, none⟩), .int .i32 r] w fun e w' => e = .returned (.tuple #[.int .i64 (Lib.runeCells r).length, .nilIface]) ∧ WAt w' b (.pointer (some ⟨b, 0, none⟩)) (l ++ Lib.encodeRune r) en ∧ WStep b w w' := by
  have hcc := copyCheck_any b l en w h
  have HCC := Lib.hid hcc
  clear hcc
  have hrl : (Lib.runeCells r).length ≤ 4 := (Lib.runeCells_le r).2
  go_enter Tryz.func127, Tryz.ntmps127
  go_wp2_with fail
  refine HCC.out.mono ?_
  rintro e w1 ⟨rfl, ⟨v, hb1, hown⟩, hst⟩
  obtain ⟨c0, c1, c2, f0, f1, hsh, hlt⟩ := row3V hb1
  have har := Tryz.utf8_AppendRune_plain (b + 1) v l.length _ r hr0 hr1 w1 hown (by omega) (by omega)
  obtain ⟨A, cp, rfl⟩ := own_sliceV hown
  have HB := Lib.hid hb1
  have HO := Lib.hid hown
  have HST := Lib.hid hst
  have HAR := Lib.hid har
  clear hb1 hown hst hsh har
  go_wp2_with fail
  refine HAR.out.mono ?_
  rintro e w2 ⟨v', rfl, hown2, o, hg⟩
  obtain ⟨A', cp', rfl⟩ := own_sliceV hown2
  have hb2 := grown_row HB.out HO.out hg
  obtain ⟨d0, d1, d2, g0, g1, _, hlt2⟩ := row3V hb2
  have HB2 := Lib.hid hb2
  have HO2 := Lib.hid hown2
  have HG := Lib.hid hg
  clear hb2 hown2 hg c0 c1 c2 f0 f1
  go_wp2_with fail
  go_ret2
  refine ⟨?_, WAt.put (m := Lib.encodeRune r) HB2.out ?_, HST.out.trans (grown_step HO.out hlt _ HG.out)⟩
  · have e1 : ((l.length : Int) + (Lib.runeCells r).length - l.length) = (Lib.runeCells r).length := by omega
    show Ending.returned (.tuple #[.int .i64 ((l.length : Int) + (Lib.runeCells r).length - l.length), .nilIface]) = _
    rw [e1]
  · have h3 := HO2.out
    rw [Lib.runeCells_length] at h3 ⊢
    rw [← Lib.byteCells_encodeRune] at h3
    exact h3
theorem cellsByte : Tryz.prog.cellsOf 5 = 1 := by kernel_rfl
set_option maxRecDepth 100000 in
set_option maxHeartbeats 2000000 in
theorem BString_any (b : Nat) (l : List UInt8) (en : Int) (h0 : l ≠ []) (w : World) (h : IsW w b l en) :
    Calls Tryz.prog 101 #[.pointer (some ⟨b, 0, none⟩)] w fun e w' => e = .returned (.string ⟨l.toArray⟩) ∧ Below b w w' := by
  obtain ⟨p, hp, v, hb, hown⟩ := h
  have hl0 : l.length ≠ 0 := by simpa using h0
  obtain ⟨g, cap, cur, rfl, hbg, hg, hnc, hcm, hcs, htake⟩ := hown.2.resolve_left (fun h => hl0 h.2)
  have c1 : w.drew.cell? ⟨b, 1, none⟩ = some (.slice (some ⟨g, 0, none⟩) l.length cap) := (row3V hb).2.1
  have hSD : (Builtin.unsafeSliceData_ #[58] 173 #[.slice (some ⟨g, 0, none⟩) l.length cap]).run Tryz.prog w.drew = .ok (.pointer (some ⟨g, 0, none⟩)) w.drew :=
    Lib.run_unsafeSliceData_row _ _ _ _ _ _ (by omega)
  have hUS : (Builtin.unsafeString_ #[173, 3] 9 #[.pointer (some ⟨g, 0, none⟩), .int .i64 l.length]).run Tryz.prog w.drew = .ok (.string ⟨l.toArray⟩) (w.drew.freeze ⟨g, 0, none⟩ l.length) := by
    refine Lib.run_unsafeString_row w.drew 173 3 9 5 Tryz.underlying173 cellsByte g cur.size (by have hg' : w.drew.heap[g]? = some (.cells cur 5 (0, 0)) := hg; simp [World.shape?, hg']) l h0 (by omega) (by unfold maxLen at hcm; omega) ?_
    intro j x hx
    exact hown.cells (g := g) rfl j (.int .u8 x.toNat) (by simp [Lib.byteCells, hx])
  have HBG : b ≤ g := by omega
  clear hown hb hp hg htake hcs
  go_enter Tryz.func101, Tryz.ntmps101
  go_wp2_with fail
  go_region
  all_goals (go_wp2_with fail; go_ret; exact ⟨rfl, Lib.below_freeze (Below.drew (Below.refl b w)) (p := ⟨g, 0, none⟩) HBG _⟩)
end Go.Proofs.YtpobdmkidopnnaaGreatDoor
namespace Go.Proofs.YtpobdmkidopnnaaGreatDoor
open Go Go.RowKit

def hexC (n : Nat) : UInt8 := if n < 10 then (48 + n).toUInt8 else (87 + n).toUInt8
/-- How a code point stands in a string's text. -/
def escR (r : Int) : List UInt8 :=
  if r = 34 ∨ r = 92 then [92, r.toNat.toUInt8] else if r = 8 then [92, 98] else if r = 12 then [92, 102] else if r = 10 then [92, 110] else if r = 13 then [92, 114] else if r = 9 then [92, 116]
  else if 32 ≤ r ∧ r ≠ 127 then Lib.encodeRune r else [92, 117, 48, 48, hexC (r.toNat / 16), hexC (r.toNat % 16)]
set_option maxRecDepth 100000 in
set_option maxHeartbeats 1000000 in
theorem escape_any (b : Nat) (l : List UInt8) (en : Int) (c : UInt8) (w : World) (h : IsW w b l en) (hlen : l.length ≤ 1099511627776) :
    Calls Tryz.prog 297 #[.pointer (some ⟨b, 0, none⟩), .int .u8 c.toNat] w fun e w' => e = .returned (.tuple #[]) ∧ WAt w' b (.pointer (some ⟨b, 0, none⟩)) (l ++ [92, c]) en ∧ WStep b w w' := by
  have h1 := WriteByte_any b l en 92 w h (by omega)
  have h2 := fun W hW => WriteByte_any b (l ++ [92]) en c W hW (by simp; omega)
  have H1 := Lib.hid h1
  have H2 := Lib.hid h2
  obtain ⟨p, hp, v, hb, hown⟩ := h
  obtain ⟨c0, c1, c2, f0, f1, hsh, hlt⟩ := row3V hb
  clear h1 h2 hown hb hsh hp
  go_enter Tryz.func297, Tryz.ntmps297
  go_wp2_with fail
  refine H1.out.mono ?_
  rintro e w1 ⟨rfl, hw1, hst⟩
  have HW := Lib.hid hw1
  have HST := Lib.hid hst
  clear hw1 hst
  go_wp2_with fail
  refine (H2.out w1 HW.out.is).mono ?_
  rintro e w2 ⟨rfl, hw2, hst2⟩
  have HW2 := Lib.hid hw2
  have HST2 := Lib.hid hst2
  clear hw2 hst2
  go_wp2_with fail
  go_end0
  refine ⟨rfl, ?_, HST.out.trans HST2.out⟩
  have := HW2.out
  rw [List.append_assoc] at this
  exact this
theorem hex_is : ∀ (n : Nat) (h : n < 16), ((⟨#[48, 49, 50, 51, 52, 53, 54, 55, 56, 57, 97, 98, 99, 100, 101, 102]⟩ : ByteArray)[n]'h) = hexC n := by
  intro n h
  have hh : n = 0 ∨ n = 1 ∨ n = 2 ∨ n = 3 ∨ n = 4 ∨ n = 5 ∨ n = 6 ∨ n = 7 ∨ n = 8 ∨ n = 9 ∨ n = 10 ∨ n = 11 ∨ n = 12 ∨ n = 13 ∨ n = 14 ∨ n = 15 := by omega
  rcases hh with rfl | rfl | rfl | rfl | rfl | rfl | rfl | rfl | rfl | rfl | rfl | rfl | rfl | rfl | rfl | rfl <;> rfl
set_option maxRecDepth 100000 in
set_option maxHeartbeats 4000000 in
theorem point_any (b : Nat) (l : List UInt8) (en : Int) (r : Int) (hr0 : 0 ≤ r) (hr1 : r ≤ 1114111) (w : World) (h : IsW w b l en) (hlen : l.length ≤ 1099511627776) :
    Calls Tryz.prog 233 #[.pointer (some ⟨b, 0, none⟩), .int .i32 r] w fun e w' => e = .returned (.tuple #[]) ∧ WAt w' b (.pointer (some ⟨b, 0, none⟩)) (l ++ escR r) en ∧ WStep b w w' := by
  obtain ⟨p, hp, v, hb, hown⟩ := id h
  obtain ⟨c0, c1, c2, f0, f1, hsh, hlt⟩ := row3V hb
  clear hown hb hp
  by_cases e34 : r = 34
  · subst e34
    have h1 := escape_any b l en 34 w h hlen
    have H1 := Lib.hid h1
    clear h1 h hsh
    go_enter Tryz.func233, Tryz.ntmps233
    go_wp2_with fail
    refine H1.out.mono ?_
    rintro e w1 ⟨rfl, hw1, hst⟩
    have HW := Lib.hid hw1
    have HST := Lib.hid hst
    clear hw1 hst
    go_wp2_with fail
    go_end0
    exact ⟨rfl, HW.out, HST.out⟩
  by_cases e92 : r = 92
  · subst e92
    have h1 := escape_any b l en 92 w h hlen
    have H1 := Lib.hid h1
    clear h1 h hsh
    go_enter Tryz.func233, Tryz.ntmps233
    go_wp2_with fail
    refine H1.out.mono ?_
    rintro e w1 ⟨rfl, hw1, hst⟩
    have HW := Lib.hid hw1
    have HST := Lib.hid hst
    clear hw1 hst
    go_wp2_with fail
    go_end0
    exact ⟨rfl, HW.out, HST.out⟩
  by_cases e8 : r = 8
  · subst e8
    have h1 := escape_any b l en 98 w h hlen
    have H1 := Lib.hid h1
    clear h1 h hsh
    go_enter Tryz.func233, Tryz.ntmps233
    go_wp2_with fail
    refine H1.out.mono ?_
    rintro e w1 ⟨rfl, hw1, hst⟩
    have HW := Lib.hid hw1
    have HST := Lib.hid hst
    clear hw1 hst
    go_wp2_with fail
    go_end0
    exact ⟨rfl, HW.out, HST.out⟩
  by_cases e12 : r = 12
  · subst e12
    have h1 := escape_any b l en 102 w h hlen
    have H1 := Lib.hid h1
    clear h1 h hsh
    go_enter Tryz.func233, Tryz.ntmps233
    go_wp2_with fail
    refine H1.out.mono ?_
    rintro e w1 ⟨rfl, hw1, hst⟩
    have HW := Lib.hid hw1
    have HST := Lib.hid hst
    clear hw1 hst
    go_wp2_with fail
    go_end0
    exact ⟨rfl, HW.out, HST.out⟩
  by_cases e10 : r = 10
  · subst e10
    have h1 := escape_any b l en 110 w h hlen
    have H1 := Lib.hid h1
    clear h1 h hsh
    go_enter Tryz.func233, Tryz.ntmps233
    go_wp2_with fail
    refine H1.out.mono ?_
    rintro e w1 ⟨rfl, hw1, hst⟩
    have HW := Lib.hid hw1
    have HST := Lib.hid hst
    clear hw1 hst
    go_wp2_with fail
    go_end0
    exact ⟨rfl, HW.out, HST.out⟩
  by_cases e13 : r = 13
  · subst e13
    have h1 := escape_any b l en 114 w h hlen
    have H1 := Lib.hid h1
    clear h1 h hsh
    go_enter Tryz.func233, Tryz.ntmps233
    go_wp2_with fail
    refine H1.out.mono ?_
    rintro e w1 ⟨rfl, hw1, hst⟩
    have HW := Lib.hid hw1
    have HST := Lib.hid hst
    clear hw1 hst
    go_wp2_with fail
    go_end0
    exact ⟨rfl, HW.out, HST.out⟩
  by_cases e9 : r = 9
  · subst e9
    have h1 := escape_any b l en 116 w h hlen
    have H1 := Lib.hid h1
    clear h1 h hsh
    go_enter Tryz.func233, Tryz.ntmps233
    go_wp2_with fail
    refine H1.out.mono ?_
    rintro e w1 ⟨rfl, hw1, hst⟩
    have HW := Lib.hid hw1
    have HST := Lib.hid hst
    clear hw1 hst
    go_wp2_with fail
    go_end0
    exact ⟨rfl, HW.out, HST.out⟩
  have b34 : (r == 34) = false := by simpa using e34
  have b92 : (r == 92) = false := by simpa using e92
  have b8 : (r == 8) = false := by simpa using e8
  have b12 : (r == 12) = false := by simpa using e12
  have b10 : (r == 10) = false := by simpa using e10
  have b13 : (r == 13) = false := by simpa using e13
  have b9 : (r == 9) = false := by simpa using e9
  by_cases hc : 32 ≤ r ∧ r ≠ 127
  · have hesc : escR r = Lib.encodeRune r := by unfold escR; simp [e34, e92, e8, e12, e10, e13, e9, hc.1, hc.2]
    have d1 : decide (r ≥ 32) = true := by simp; omega
    have d2 : decide (32 ≤ r) = true := by simp; omega
    have d3 : (r != 127) = true := by simp; omega
    have h1 := WriteRune_any b l en r (by omega) (by omega) w h (by omega)
    rw [← hesc] at h1
    have H1 := Lib.hid h1
    clear h1 h hsh e34 e92 e8 e12 e10 e13 e9 hc hesc
    go_enter Tryz.func233, Tryz.ntmps233
    go_wp2_with fail
    refine H1.out.mono ?_
    rintro e w1 ⟨rfl, hw1, hst⟩
    have HW := Lib.hid hw1
    have HST := Lib.hid hst
    clear hw1 hst
    go_wp2_with fail
    refine bodyPost_ret (results_none rfl _ _ _) rfl ?_
    exact ⟨rfl, HW.out, HST.out⟩
  · have hr31 : r ≤ 127 := by omega
    have hesc : escR r = [92, 117, 48, 48, hexC (r.toNat / 16), hexC (r.toNat % 16)] := by unfold escR; rw [if_neg (by omega), if_neg e8, if_neg e12, if_neg e10, if_neg e13, if_neg e9, if_neg hc]
    have h1 := WriteString_any b l en ⟨#[92, 117, 48, 48]⟩ w h (by omega) (by decide)
    have h2 := fun W hW => WriteByte_any b (l ++ [92, 117, 48, 48]) en (hexC (r.toNat / 16)) W hW (by simp; omega)
    have h3 := fun W hW => WriteByte_any b ((l ++ [92, 117, 48, 48]) ++ [hexC (r.toNat / 16)]) en (hexC (r.toNat % 16)) W hW (by simp; omega)
    have H1 := Lib.hid h1
    have H2 := Lib.hid h2
    have H3 := Lib.hid h3
    have HE := Lib.hid hesc
    have HC := Lib.hid hc
    obtain ⟨n, rfl⟩ : ∃ n : Nat, r = n := ⟨r.toNat, by omega⟩
    have hn : n ≤ 127 := by omega
    have hn16 : n / 16 < 16 := by omega
    have hm16 : n % 16 < 16 := by omega
    have hwq : IntKind.i32.wrap ((n : Int) / 16) = ((n / 16 : Nat) : Int) := by
      have e : ((n / 16 : Nat) : Int) = (n : Int) / 16 := by omega
      rw [e]
      exact IntWalk.i32_in _ (by omega)
    have hwm2 : IntKind.i32.wrap ((n : Int) % 16) = ((n % 16 : Nat) : Int) := by
      have e : ((n % 16 : Nat) : Int) = (n : Int) % 16 := by omega
      rw [e]
      exact IntWalk.i32_in _ (by omega)
    clear h1 h2 h3 h hsh e34 e92 e8 e12 e10 e13 e9 hesc
    have HWQ := Lib.hid hwq
    have HWM := Lib.hid hwm2
    clear hwq hwm2
    have hgd : (n = 127 ∧ decide (32 ≤ (n : Int)) = true ∧ ((n : Int) != 127) = false) ∨ (n < 32 ∧ decide (32 ≤ (n : Int)) = false) := by
      by_cases h32 : n = 127
      · exact Or.inl ⟨h32, by simp; omega, by simp; omega⟩
      · exact Or.inr ⟨by omega, by simp; omega⟩
    clear hc hr31
    have e1 : ((n : Int).toNat / 16) = n / 16 := by simp
    have e2 : ((n : Int).toNat % 16) = n % 16 := by simp
    rw [e1] at H2 H3 HE
    rw [e2] at H3 HE
    clear e1 e2
    obtain ⟨q, hq⟩ : ∃ q, n / 16 = q := ⟨_, rfl⟩
    obtain ⟨m, hm⟩ : ∃ m, n % 16 = m := ⟨_, rfl⟩
    rw [hq] at H2 H3 HE HWQ hn16
    rw [hm] at H3 HE HWM hm16
    have hq0 : (0 : Int) ≤ (q : Int) := by omega
    have hq1 : (q : Int) < 16 := by omega
    have hm0 : (0 : Int) ≤ (m : Int) := by omega
    have hm1 : (m : Int) < 16 := by omega
    have hmp : (n : Int).tmod 16 = m := by rw [Int.tmod_eq_emod_of_nonneg (by omega)]; omega
    have hmw : IntKind.i32.wrap (m : Int) = m := IntWalk.i32_in _ (by omega)
    have HMP := Lib.hid hmp
    have HMW := Lib.hid hmw
    clear hq hm hmp hmw
    rw [← hex_is q hn16] at H2 H3 HE
    rw [← hex_is m hm16] at H3 HE
    rcases hgd with ⟨-, d1, d2⟩ | ⟨-, d1⟩
    all_goals
      go_enter Tryz.func233, Tryz.ntmps233
      go_wp2_with fail
      refine H1.out.mono ?_
      rintro e w1 ⟨rfl, hw1, hst⟩
      have HW := Lib.hid hw1
      have HST := Lib.hid hst
      have hwq := HWQ.out
      clear hw1 hst
      go_wp2_with fail
      go_region_with (go_at_call 139; refine (H2.out w1.drew (IsW.heap HW.out.is rfl)).mono ?_; rintro e w2 ⟨rfl, hw2, hst2⟩)
      have HW2 := Lib.hid hw2
      have HST2 := Lib.hid hst2
      have hmp := HMP.out
      have hmw := HMW.out
      clear hw2 hst2 hwq
      go_wp2_with fail
      go_region_with (go_at_call 139; refine (H3.out w2.drew (IsW.heap HW2.out.is rfl)).mono ?_; rintro e w3 ⟨rfl, hw3, hst3⟩)
      have HW3 := Lib.hid hw3
      have HST3 := Lib.hid hst3
      clear hw3 hst3 hmp hmw
      go_wp2_with fail
      go_end0
      refine ⟨rfl, ?_, HST.out.trans ((WStep.drew (WStep.refl _ _)).trans (HST2.out.trans ((WStep.drew (WStep.refl _ _)).trans HST3.out)))⟩
      have := HW3.out
      rw [HE.out]
      simpa [List.append_assoc] using this
end Go.Proofs.YtpobdmkidopnnaaGreatDoor
namespace Go.Proofs.YtpobdmkidopnnaaGreatDoor
open Go Go.RowKit

def bodyR (s : ByteArray) (pos : Nat) : List UInt8 := (pts s pos).flatMap fun p : Nat => escR ((p : Nat) : Int)
/-- A string's text. -/
def quoteR (s : ByteArray) : List UInt8 := 34 :: (bodyR s 0 ++ [34])
theorem bodyR_cons (s : ByteArray) (pos : Nat) (h : pos < s.size) : bodyR s pos = escR (((Utf8.decode s pos).1 : Nat) : Int) ++ bodyR s (pos + (Utf8.decode s pos).2) := by
  unfold bodyR
  rw [pts_cons s pos h]
  rfl
theorem bodyR_nil (s : ByteArray) (pos : Nat) (h : ¬ pos < s.size) : bodyR s pos = [] := by
  unfold bodyR
  rw [pts_nil s pos h]
  rfl
theorem WStep.iterAt {b : Nat} {x y : World} (h : WStep b x y) {k : Nat} {s : ByteArray} {p q : Nat} (_hk : y.heap[k]? = some (.stringIter s p)) (hx : x.heap.size ≤ k) (hb : b ≤ k) : WStep b x (y.iterAt k s q) := by
  refine ⟨Lib.below_iterAt h.1 hb s q, ?_⟩
  intro i o hi hbi ho
  have h1 := h.2 i o hi hbi ho
  have hlt : i < x.heap.size := (Array.getElem?_eq_some_iff.1 hi).1
  show (y.heap.setIfInBounds k _)[i]? = _
  rw [Array.getElem?_setIfInBounds_ne (by omega)]
  exact h1
theorem IsW.iterAt {w : World} {b : Nat} {l : List UInt8} {en : Int} (h : IsW w b l en) {k : Nat} {s : ByteArray} {p q : Nat} (hk : w.heap[k]? = some (.stringIter s p)) : IsW (w.iterAt k s q) b l en := by
  obtain ⟨pp, hp, v, hb, hown⟩ := h
  have hbk : b ≠ k := fun e => by subst e; rw [hk] at hb; cases hb
  refine ⟨pp, hp, v, ?_, hown.1, ?_⟩
  · show (w.heap.setIfInBounds k _)[b]? = _
    rw [Array.getElem?_setIfInBounds_ne (by omega)]
    exact hb
  · rcases hown.2 with h1 | ⟨g, cap, cur, h1, h2, h3, h4⟩
    · exact Or.inl h1
    · refine Or.inr ⟨g, cap, cur, h1, h2, ?_, h4⟩
      have hgk : g ≠ k := fun e => by subst e; rw [hk] at h3; cases h3
      show (w.heap.setIfInBounds k _)[g]? = _
      rw [Array.getElem?_setIfInBounds_ne (by omega)]
      exact h3
theorem WStep.iter {b k : Nat} {w w' : World} {s : ByteArray} {p : Nat} (h : WStep b w w') (hk : w.heap[k]? = some (.stringIter s p)) (hn : k ≠ b) : w'.heap[k]? = some (.stringIter s p) :=
  h.2 k _ hk (fun e1 => hn (Option.some.inj e1)) (fun c' fz' e1 => by cases e1)
theorem WStep.drewN {b : Nat} {x y : World} (h : WStep b x y) (n : Nat) : WStep b x (y.drewN n) := ⟨below_drewN h.1 n, h.2⟩
theorem dec_range (s : ByteArray) (pos : Nat) (_h : pos < s.size) : (Utf8.decode s pos).1 ≤ 1114111 := (dec_point s pos).1
set_option maxRecDepth 100000 in
set_option maxHeartbeats 4000000 in
theorem text_any (b : Nat) (l : List UInt8) (en : Int) (s : ByteArray) (w : World) (h : IsW w b l en) (hfit : ((l ++ quoteR s).length : Int) ≤ en) (hlen : (l ++ quoteR s).length ≤ 1099511627776) :
    Calls Tryz.prog 162 #[.pointer (some ⟨b, 0, none⟩), .string s] w fun e w' => e = .returned (.tuple #[]) ∧ WAt w' b (.pointer (some ⟨b, 0, none⟩)) (l ++ quoteR s) en ∧ WStep b w w' := by
  have hq : (l ++ quoteR s).length = l.length + (bodyR s 0).length + 2 := by unfold quoteR; simp; omega
  rw [hq] at hfit hlen
  have h1 := WriteByte_any b l en 34 w h (by omega)
  have H1 := Lib.hid h1
  have H := Lib.hid h
  clear h1 hq
  obtain ⟨p, hp, v, hb, hown⟩ := h
  obtain ⟨c0, c1, c2, f0, f1, hsh, hlt⟩ := row3V hb
  clear hown hb hp hsh
  go_enter Tryz.func162, Tryz.ntmps162
  go_wp2_with fail
  refine H1.out.mono ?_
  rintro e w1 ⟨rfl, hw1, hst⟩
  have HW := Lib.hid hw1
  have HST := Lib.hid hst
  have hlt1 : b < w1.heap.size := by have := hst.1.size; obtain ⟨v, hb, _⟩ := hw1; exact (Array.getElem?_eq_some_iff.1 hb).1
  clear hw1 hst c0 c1 c2 f0 f1
  go_wp2_with fail
  have hit0 : (w1.iter s 0).heap[w1.heap.size]? = some (.stringIter s 0) := by have := World.iter_heap w1 s 0; simpa using this
  have hs0 : WStep b w1 (w1.iter s 0) := (WStep.refl b w1).alloc (by omega) _
  have hw0 : IsW (w1.iter s 0) b (l ++ [34]) en := HW.out.is.alloc _
  have HIT0 := Lib.hid hit0
  have HS0 := Lib.hid hs0
  have HW0 := Lib.hid hw0
  clear hit0 hs0 hw0
  go_loopw [] (fun wr => ∃ (pos : Nat) (done : List UInt8), pos ≤ s.size ∧ IsW wr b (l ++ [34] ++ done) en ∧ done ++ bodyR s pos = bodyR s 0 ∧ wr.heap[w1.heap.size]? = some (.stringIter s pos) ∧ WStep b w1 wr) (fun wr => s.size - wr.iterPos w1.heap.size)
  case atStart => exact ⟨0, [], Nat.zero_le _, by rw [List.append_nil]; exact HW0.out, rfl, HIT0.out, HS0.out⟩
  case round =>
    obtain ⟨pos, done, hp, hw, hd, hit, hst⟩ := hrel
    have HWR := Lib.hid hw
    have HD := Lib.hid hd
    have HSTR := Lib.hid hst
    clear hw hd hst HIT0 HS0 HW0
    by_cases hltp : pos < s.size
    · have hnx : ∀ ty, (Instr.next (.pointer (some ⟨w1.heap.size, 0, none⟩)) true ty).run Tryz.prog wr = _ := fun ty => Lib.run_next_any_at wr w1.heap.size s pos ty hit hltp
      have hwd := wid s pos hltp
      have hf := dec_fits s pos hltp
      have hr := dec_range s pos hltp
      have hbc := bodyR_cons s pos hltp
      have hit2 := Lib.iterAt_heap wr w1.heap.size s pos (pos + (Utf8.decode s pos).2) hit
      have hw2 : IsW (wr.iterAt w1.heap.size s (pos + (Utf8.decode s pos).2)) b (l ++ [34] ++ done) en := HWR.out.iterAt hit
      have hs2 : WStep b w1 (wr.iterAt w1.heap.size s (pos + (Utf8.decode s pos).2)) := HSTR.out.iterAt hit (Nat.le_refl _) (by omega)
      have hdl : done.length + (bodyR s pos).length = (bodyR s 0).length := by rw [← HD.out, List.length_append]
      have hel : (escR (((Utf8.decode s pos).1 : Nat) : Int)).length ≤ (bodyR s pos).length := by rw [hbc, List.length_append]; omega
      have hfl := isFull_any b _ en _ hw2
      have hfd : decide (en < ((l ++ [34] ++ done).length : Int)) = false := by simp; omega
      rw [hfd] at hfl
      have hpt := fun W hW => point_any b (l ++ [34] ++ done) en (((Utf8.decode s pos).1 : Nat) : Int) (by omega) (by omega) W hW (by simp; omega)
      have HBC := Lib.hid hbc
      have HIT := Lib.hid hit
      have HIT2 := Lib.hid hit2
      have HW2 := Lib.hid hw2
      have HS2 := Lib.hid hs2
      have HFL := Lib.hid hfl
      have HPT := Lib.hid hpt
      clear hbc hit hit2 hw2 hs2 hdl hel hfl hfd hpt
      go_wp2_with fail
      refine HFL.out.mono ?_
      rintro e w3 ⟨rfl, n, rfl⟩
      go_wp2_with fail
      refine (HPT.out ((wr.iterAt w1.heap.size s (pos + (Utf8.decode s pos).2)).drewN n) (HW2.out.heap rfl)).mono ?_
      rintro e w4 ⟨rfl, hw4, hs4⟩
      have HW4 := Lib.hid hw4
      have hs24 : WStep b (wr.iterAt w1.heap.size s (pos + (Utf8.decode s pos).2)) w4 := ((WStep.refl _ _).drewN n).trans hs4
      have hit4 := hs24.iter HIT2.out (by omega)
      have HS4 := Lib.hid hs24
      have HIT4 := Lib.hid hit4
      clear hw4 hs4 hs24 hit4
      go_wp2_with fail
      go_roundw
      case rel => exact ⟨pos + (Utf8.decode s pos).2, done ++ escR (((Utf8.decode s pos).1 : Nat) : Int), hf.1, by rw [← List.append_assoc]; exact HW4.out.is, by rw [List.append_assoc, ← HBC.out]; exact HD.out, HIT4.out, HS2.out.trans HS4.out⟩
      case measure => simp only [World.iterPos, HIT4.out, HIT.out]; omega
    · have hnx : ∀ ty, (Instr.next (.pointer (some ⟨w1.heap.size, 0, none⟩)) true ty).run Tryz.prog wr = _ := fun ty => Lib.run_next_end_at wr w1.heap.size s pos ty hit hltp
      have hdn : done = bodyR s 0 := by have := HD.out; rw [bodyR_nil s pos hltp, List.append_nil] at this; exact this
      have h2 := WriteByte_any b (l ++ [34] ++ done) en 34 wr HWR.out (by rw [hdn]; simp; omega)
      have H2 := Lib.hid h2
      have HDN := Lib.hid hdn
      obtain ⟨p', hp', v', hb', hown'⟩ := HWR.out
      obtain ⟨c0, c1, c2, f0, f1, hsh, hltr⟩ := row3V hb'
      clear hit h2 hdn hb' hown' hp' hsh
      go_wp2_with fail
      refine H2.out.mono ?_
      rintro e w3 ⟨rfl, hw3, hs3⟩
      have HW3 := Lib.hid hw3
      have HS3 := Lib.hid hs3
      clear hw3 hs3
      go_wp2_with fail
      go_end0
      refine ⟨rfl, ?_, HST.out.trans (HSTR.out.trans HS3.out)⟩
      have := HW3.out
      rw [HDN.out] at this
      simpa [quoteR, List.append_assoc] using this
end Go.Proofs.YtpobdmkidopnnaaGreatDoor
