/- Texts of code points, and cleaned texts: of the answers and of the program. -/
import Derived.Test.YtohjcimkpcpgbaaDoorPut
import Derived.Test.YtohjcimkpcpgbaaDoorRangeB
import Derived.Test.YtohjcimkpcpgbaaDoorBuild
import Derived.Laws.BytesArg
namespace Go.Proofs.YtohjcimkpcpgbaaDoor
open Go Go.RowKit Go.WideShapes

theorem arr_string {P : Program} {w : World} {B : Nat} {v : Value} {l : List UInt8} (h : Arr w B v (Lib.byteCells l)) (src dst e : TypeId)
    (hs : P.underlying src = some (.slice e)) (he : P.underlying e = some (.int .u8)) (hd : P.underlying dst = some .string) :
    (convert src dst v).run P w = .ok (.string ⟨l.toArray⟩) w := by
  obtain ⟨A, c, rfl, hc⟩ := h
  rw [Lib.byteCells_length] at *
  rcases A with _ | ad
  · have h0 : l = [] := by
      rcases Nat.eq_zero_or_pos l.length with h | h
      · exact List.eq_nil_of_length_eq_zero h
      · obtain ⟨ad, h2, _⟩ := hc h; cases h2
    subst h0
    exact run_convert_bytes_nil w src e hs he _ _ dst hd
  · have hcell : ∀ j u, (Lib.byteCells l)[j]? = some u → w.cell? (ad.add j) = some u := by
      intro j u hu
      rcases Nat.eq_zero_or_pos l.length with h | h
      · rw [List.eq_nil_of_length_eq_zero h] at hu; cases hu
      · obtain ⟨ae, h2, _, h3⟩ := hc h
        injection h2 with h2
        subst h2
        exact h3 j u hu
    have hl := run_loadCells_list (P := P) w ad (Lib.byteCells l) hcell
    rw [Lib.byteCells_length] at hl
    have e1 : Lib.byteCells l = (l.map fun b => (b.toNat : Int)).map (Value.int .u8) := by unfold Lib.byteCells; rw [List.map_map]; rfl
    rw [e1] at hl
    rw [run_convert_bytes_string w src dst e _ _ _ hs he hd, run_bytesToString w ad _ _ _ hl, foldl_push_bytes, List.map_map]
    have e2 : (l.map ((fun n : Int => UInt8.ofNat n.toNat) ∘ fun b => (b.toNat : Int))) = l := by
      conv => rhs; rw [← List.map_id l]
      apply List.map_congr_left
      intro x _
      simp
    rw [e2]
    simp [ByteArray.empty, ByteArray.emptyWithCapacity]
    rfl

/-- What Of gives: a text and 0, or nothing and 2. -/
def ofS (l : List Int) : ByteArray × Int := match textOf l with
  | none => (⟨#[]⟩, 2)
  | some t => (⟨t.toArray⟩, 0)
theorem textOf_cons (p : Int) (r : List Int) : textOf (p :: r) = if right p then (textOf r).map (Lib.encodeRune p ++ ·) else none := rfl
theorem drop_at {α : Type} {l : List α} {k : Nat} {x : α} (h : l[k]? = some x) : l.drop k = x :: l.drop (k + 1) := by
  obtain ⟨h1, h2⟩ := List.getElem?_eq_some_iff.1 h
  rw [← h2]
  exact (List.getElem_cons_drop h1).symm
theorem enc_le (p : Int) : (Lib.encodeRune p).length ≤ 4 := by
  have := Lib.runeCells_le p
  rw [Lib.runeCells_length] at this
  omega

set_option maxRecDepth 100000 in
set_option maxHeartbeats 1000000 in
theorem refOf_any (l : List Int) (B : Nat) (a : Value) (hl : l.length ≤ 1000000000) (w : World) (ha : Arr w B a (cellsI l)) (hB : B ≤ w.heap.size) :
    Calls Tryd.prog 9 #[a] w fun e w' => e = .returned (.tuple #[.string (ofS l).1, .int .i64 (ofS l).2]) ∧ Below w.heap.size w w' := by
  obtain ⟨A, c, rfl, ha⟩ := ha
  simp only [cellsI_length] at *
  go_enter Tryd.func9, Tryd.ntmps9
  go_wp2
  go_loopw [4, 5] (fun b i wr => ∃ (k : Nat) (acc : List UInt8), i = .int .i64 k ∧ k ≤ l.length ∧ acc.length ≤ 4 * k ∧ textOf l = (textOf (l.drop k)).map (acc ++ ·) ∧ wr.ownsRow w.heap.size 5 1 b acc.length (Lib.byteCells acc) ∧ Below w.heap.size w wr) (fun _ i _ => l.length - (intOf i).toNat)
  case atStart => exact ⟨0, [], rfl, Nat.zero_le _, Nat.le_refl _, by simp, World.ownsRow_nil _ _ _ _, Below.refl _ _⟩
  case round =>
    obtain ⟨k, acc, rfl, hk, hacc, he, hown, hb⟩ := hrel
    by_cases hlt : k < l.length
    · obtain ⟨ad, rfl, hBa, hc⟩ := ha (by omega)
      obtain ⟨x, e1, ex⟩ := cellsI_at l k hlt
      have h1 : wr.cell? (ad.add k) = some (.int .i64 x) := by
        rw [hb.cell (p := ad.add k) (by rw [add_block]; omega)]
        exact hc k _ ex
      rw [drop_at e1, textOf_cons] at he
      clear ha hc e1 ex
      have i0 : (0 : Int) ≤ (k : Int) := by omega
      have i1 : (k : Int) < (l.length : Int) := by omega
      cases hr : right x
      · rw [hr, if_neg (by simp)] at he
        have He := Lib.hid he
        clear he
        go_wp2_with (go_at_call 36; refine (refRight_any _ _).mono ?_; rintro e w' ⟨rfl, rfl⟩)
        go_ret2
        refine ⟨?_, hb⟩
        unfold ofS
        rw [He.out]
        rfl
      · rw [hr, if_pos rfl] at he
        have He := Lib.hid he
        have Hr := Lib.hid hr
        clear he
        go_wp2_with (first | (go_at_call 36; refine (refRight_any _ _).mono ?_; rintro e w' ⟨rfl, rfl⟩) | (go_at_call 37; refine (put_any w.heap.size _ _ _ x Hr.out (by omega) _ hown hb.size).mono ?_; rintro e w' ⟨v', rfl, hown1, hb1⟩))
        go_roundw
        case rel =>
          refine ⟨k + 1, acc ++ Lib.encodeRune x, by go_num, by omega, ?_, ?_, ?_, hb.trans hb1⟩
          · have := enc_le x; rw [List.length_append]; omega
          · rw [He.out, Option.map_map]; congr 1; funext t; simp [Function.comp]
          · rw [Lib.byteCells_append, Lib.byteCells_encodeRune, List.length_append, ← Lib.runeCells_length]; exact hown1
        case measure => simp [intOf]; omega
    · rw [List.drop_of_length_le (by omega)] at he
      have He := Lib.hid he
      have hst := arr_string (P := Tryd.prog) (Arr.of_own hown (Nat.le_refl _)) 22 9 5 Tryd.underlying22 Tryd.underlying5 Tryd.underlying9
      clear he hown
      go_wp2
      go_ret2
      refine ⟨?_, hb⟩
      unfold ofS
      rw [He.out]
      simp [textOf]

set_option maxRecDepth 100000 in
set_option maxHeartbeats 1000000 in
theorem Of_any (l : List Int) (B : Nat) (a : Value) (hl : l.length ≤ 1000000000) (w : World) (ha : Arr w B a (cellsI l)) (hB : B ≤ w.heap.size) :
    Calls Tryd.prog 8 #[a] w fun e w' => e = .returned (.tuple #[.string (ofS l).1, .int .i64 (ofS l).2]) ∧ Below w.heap.size w w' := by
  obtain ⟨A, c, rfl, ha⟩ := ha
  simp only [cellsI_length] at *
  go_enter Tryd.func8, Tryd.ntmps8
  go_wp2
  go_loopw [6, 9] (fun p i wr => ∃ (k : Nat) (acc : List UInt8), i = .int .i64 k ∧ k ≤ l.length ∧ acc.length ≤ 4 * k ∧ textOf l = (textOf (l.drop k)).map (acc ++ ·) ∧ Lib.IsBuilderF 51 5 w.heap.size w.heap.size (Lib.byteCells acc) wr ∧ Below w.heap.size w wr) (fun _ i _ => l.length - (intOf i).toNat)
  case atStart => exact ⟨0, [], rfl, Nat.zero_le _, Nat.le_refl _, by simp, Lib.IsBuilderF.of (Lib.fresh_isBuilder 51 5 w), (Below.refl _ _).alloc (Nat.le_refl _) _⟩
  case round =>
    obtain ⟨k, acc, rfl, hk, hacc, he, hI, hb⟩ := hrel
    by_cases hlt : k < l.length
    · obtain ⟨ad, rfl, hBa, hc⟩ := ha (by omega)
      obtain ⟨x, e1, ex⟩ := cellsI_at l k hlt
      have h1 : wr.cell? (ad.add k) = some (.int .i64 x) := by
        rw [hb.cell (p := ad.add k) (by rw [add_block]; omega)]
        exact hc k _ ex
      rw [drop_at e1, textOf_cons] at he
      clear ha hc e1 ex
      have i0 : (0 : Int) ≤ (k : Int) := by omega
      have i1 : (k : Int) < (l.length : Int) := by omega
      cases hr : right x
      · rw [hr, if_neg (by simp)] at he
        have He := Lib.hid he
        clear he
        go_wp2_with (go_at_call 33; refine (isPoint_any _ _).mono ?_; rintro e w' ⟨rfl, rfl⟩)
        go_ret2
        refine ⟨?_, hb⟩
        unfold ofS
        rw [He.out]
        rfl
      · rw [hr, if_pos rfl] at he
        have He := Lib.hid he
        have Hr := Lib.hid hr
        obtain ⟨x0, x1, x2⟩ := (right_iff x).1 hr
        clear he
        go_wp2_with (first | (go_at_call 33; refine (isPoint_any _ _).mono ?_; rintro e w' ⟨rfl, rfl⟩) | (go_at_call 34; refine (Builder_WriteRune w.heap.size w.heap.size _ x (by omega) (by omega) _ hI (by rw [Lib.byteCells_length]; omega) hb.size).mono ?_; rintro e w' ⟨rfl, hI1, hb1, _⟩))
        go_roundw
        case rel =>
          refine ⟨k + 1, acc ++ Lib.encodeRune x, by go_num, by omega, ?_, ?_, ?_, hb.trans hb1⟩
          · have := enc_le x; rw [List.length_append]; omega
          · rw [He.out, Option.map_map]; congr 1; funext t; simp [Function.comp]
          · rw [Lib.byteCells_append, Lib.byteCells_encodeRune]; exact Or.inr hI1
        case measure => simp [intOf]; omega
    · rw [List.drop_of_length_le (by omega)] at he
      have He := Lib.hid he
      clear he
      go_wp2_with (go_at_call 35; refine (Tryd.Builder_String_any_k w.heap.size w.heap.size acc _ hI hb.size).mono ?_; rintro e w' ⟨rfl, _, hb1, _⟩)
      go_ret2
      refine ⟨?_, hb.trans hb1⟩
      unfold ofS
      rw [He.out]
      simp [textOf]
end Go.Proofs.YtohjcimkpcpgbaaDoor
