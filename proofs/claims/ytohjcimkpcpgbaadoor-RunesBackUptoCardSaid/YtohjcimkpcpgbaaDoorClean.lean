/- Cleaned texts: of the answers and of the program. -/
import Derived.Test.YtohjcimkpcpgbaaDoorOf
namespace Go.Proofs.YtohjcimkpcpgbaaDoor
open Go Go.RowKit Go.WideShapes

theorem right_pt (s : ByteArray) (pos : Nat) : right ((Utf8.decode s pos).1 : Int) = true := by
  rw [right_iff]
  have := dec_point s pos
  omega
theorem textOf_pts (s : ByteArray) : ∀ (k pos : Nat), s.size - pos ≤ k → textOf ((pts s pos).map fun (n : Nat) => (n : Int)) = some (encAll (pts s pos)) := by
  intro k
  induction k with
  | zero => intro pos h; rw [pts_nil s pos (by omega)]; rfl
  | succ k ih =>
    intro pos h
    by_cases hp : pos < s.size
    · have hw := wid s pos hp
      rw [pts_cons s pos hp, List.map_cons, textOf_cons, right_pt, if_pos rfl, ih _ (by omega)]
      rfl
    · rw [pts_nil s pos hp]; rfl
/-- A cleaned text. -/
def cleanS (s : ByteArray) : ByteArray := ⟨(encAll (pts s 0)).toArray⟩
theorem ofS_pts (s : ByteArray) : ofS ((pts s 0).map fun (n : Nat) => (n : Int)) = (cleanS s, 0) := by
  unfold ofS
  rw [textOf_pts s _ 0 (Nat.le_refl _)]
  rfl
theorem cellsN_I (l : List Nat) : cellsN l = cellsI (l.map fun (n : Nat) => (n : Int)) := by unfold cellsN cellsI; rw [List.map_map]; rfl

set_option maxHeartbeats 400000 in
theorem refClean_any (l : List UInt8) (B : Nat) (a : Value) (hl : l.length ≤ 1000000000) (w : World) (ha : Arr w B a (Lib.byteCells l)) (_hB : B ≤ w.heap.size) :
    Calls Tryd.prog 11 #[a] w fun e w' => e = .returned (.string (cleanS ⟨l.toArray⟩)) ∧ Below w.heap.size w w' := by
  have hst := arr_string (P := Tryd.prog) ha 22 9 5 Tryd.underlying22 Tryd.underlying5 Tryd.underlying9
  have hsz : (⟨l.toArray⟩ : ByteArray).size ≤ 1000000000 := by simpa [ByteArray.size] using hl
  obtain ⟨s, hs⟩ : ∃ s : ByteArray, ⟨l.toArray⟩ = s := ⟨_, rfl⟩
  rw [hs] at hst hsz ⊢
  have hpl := pts_len s 0
  have Hs := Lib.hid hs
  clear hs
  go_enter Tryd.func11, Tryd.ntmps11
  go_wp2_with (first
    | (go_at_call 18; refine (refPoints_any s hsz _).mono ?_; rintro e w1 ⟨v, rfl, hown, hb1⟩)
    | (go_at_call 9; refine (refOf_any ((pts s 0).map fun (n : Nat) => (n : Int)) w1.heap.size v (by rw [List.length_map]; omega) _ (by rw [← cellsN_I]; exact Arr.of_own hown (Nat.le_refl _)) (Nat.le_refl _)).mono ?_; rintro e w2 ⟨rfl, hb2⟩; simp only [ofS_pts]))
  go_ret
  exact ⟨rfl, hb1.trans (hb2.mono hb1.size)⟩

set_option maxRecDepth 100000 in
set_option maxHeartbeats 1000000 in
theorem Clean_any (l : List UInt8) (B : Nat) (a : Value) (hl : l.length ≤ 1000000000) (w : World) (ha : Arr w B a (Lib.byteCells l)) (hB : B ≤ w.heap.size) :
    Calls Tryd.prog 10 #[a] w fun e w' => e = .returned (.string (cleanS ⟨l.toArray⟩)) ∧ Below w.heap.size w w' := by
  have hsz : (⟨l.toArray⟩ : ByteArray).size ≤ 1000000000 := by simpa [ByteArray.size] using hl
  have hpl := pts_len ⟨l.toArray⟩ 0
  obtain ⟨s, hs⟩ : ∃ s : ByteArray, ⟨l.toArray⟩ = s := ⟨_, rfl⟩
  rw [hs] at hsz hpl ⊢
  have Hs := Lib.hid hs
  clear hs
  have ha0 := ha
  obtain ⟨A, c, rfl, _⟩ := ha
  rw [Lib.byteCells_length] at *
  have HA := Lib.hid ha0
  clear ha0
  have hb0 : Below w.heap.size w (w.alloc (.cells #[.pointer none, .slice none 0 0] 51)) := (Below.refl _ _).alloc (Nat.le_refl _) _
  have hnew : (w.alloc (.cells #[.pointer none, .slice none 0 0] 51)).heap[w.heap.size]? = some (.cells #[.pointer none, .slice none 0 0] 51 (0, 0)) := heap_alloc_new w _
  have Hnew := Lib.hid hnew
  clear hnew
  go_enter Tryd.func10, Tryd.ntmps10
  go_wp2_with fail
  refine (Tryd.Builder_Grow_fresh w.heap.size w.heap.size l.length _ (Nat.le_refl _) Hnew.out hb0.size (by omega)).mono ?_; rintro e w1 ⟨rfl, hI, hb1⟩; have hst := arr_string (P := Tryd.prog) ((HA.out.below ((hb0.trans hb1).mono hB))) 22 9 5 Tryd.underlying22 Tryd.underlying5 Tryd.underlying9
  have Hb1 := hb0.trans hb1
  have hblt : w.heap.size < w1.heap.size := hI.lt
  rw [Hs.out] at hst
  have HI := Lib.hid hI
  clear hI hb1 hb0
  go_wp2
  go_loopw [] (fun wr => ∃ (pos : Nat) (acc : List UInt8), pos ≤ s.size ∧ acc.length ≤ 4 * pos ∧ acc ++ encAll (pts s pos) = encAll (pts s 0) ∧ Lib.IsBuilderF 51 5 w.heap.size w.heap.size (Lib.byteCells acc) wr ∧ wr.heap[w1.heap.size]? = some (.stringIter s pos) ∧ Below w.heap.size w wr) (fun wr => s.size - wr.iterPos w1.heap.size)
  case atStart =>
    refine ⟨0, [], Nat.zero_le _, Nat.le_refl _, rfl, (Lib.IsBuilderF.of (Or.inr HI.out)).alloc _, ?_, Hb1.alloc Hb1.size _⟩
    have := World.iter_heap w1 s 0
    simpa using this
  case round =>
    obtain ⟨pos, acc, hp, hacc, he, hIr, hit, hb⟩ := hrel
    clear Hb1
    by_cases hlt : pos < s.size
    · have hnx : ∀ ty, (Instr.next (.pointer (some ⟨w1.heap.size, 0, none⟩)) true ty).run Tryd.prog wr = _ := fun ty => Lib.run_next_any_at wr w1.heap.size s pos ty hit hlt
      have hwd := wid s pos hlt
      have hf := dec_fits s pos hlt
      have hpt := (dec_point s pos).1
      have hI2 := hIr.iterAt hit (pos + (Utf8.decode s pos).2)
      have hit2 := Lib.iterAt_heap wr w1.heap.size s pos (pos + (Utf8.decode s pos).2) hit
      have hb2 := Lib.below_iterAt hb (k := w1.heap.size) (by omega) s (pos + (Utf8.decode s pos).2)
      have He := Lib.hid he
      have Hit := Lib.hid hit
      have Hit2 := Lib.hid hit2
      clear he hit hit2
      go_wp2_with (go_at_call 34; refine (Builder_WriteRune w.heap.size w.heap.size _ _ (by omega) (by omega) _ hI2 (by rw [Lib.byteCells_length]; omega) hb2.size).mono ?_; rintro e w' ⟨rfl, hI3, hb3, hk3⟩)
      have Hit3 := Lib.hid (hk3.iter Hit2.out (by omega))
      go_roundw
      case rel =>
        refine ⟨pos + (Utf8.decode s pos).2, acc ++ Lib.encodeRune ((Utf8.decode s pos).1 : Int), hf.1, ?_, ?_, ?_, Hit3.out, hb2.trans hb3⟩
        · have := enc_le ((Utf8.decode s pos).1 : Int); rw [List.length_append]; omega
        · rw [← He.out, pts_cons s pos hlt, List.append_assoc]; rfl
        · rw [Lib.byteCells_append, Lib.byteCells_encodeRune]; exact Or.inr hI3
      case measure => simp only [World.iterPos, Hit3.out, Hit.out]; omega
    · have hnx : ∀ ty, (Instr.next (.pointer (some ⟨w1.heap.size, 0, none⟩)) true ty).run Tryd.prog wr = _ := fun ty => Lib.run_next_end_at wr w1.heap.size s pos ty hit hlt
      rw [pts_nil s pos hlt] at he
      have he2 : acc = encAll (pts s 0) := by rw [← he]; simp [encAll]
      have He := Lib.hid he2
      clear he hit he2
      go_wp2_with (go_at_call 35; refine (Tryd.Builder_String_any_k w.heap.size w.heap.size acc _ hIr hb.size).mono ?_; rintro e w' ⟨rfl, _, hb1, _⟩)
      go_ret
      exact ⟨by unfold cleanS; rw [← He.out]; rfl, hb.trans hb1⟩
end Go.Proofs.YtohjcimkpcpgbaaDoor
