/- A sheet: in which order an object's keys are written; colours. -/
import Derived.Test.YtjhghhjnccjhmaaGreatDoorRTok
import Derived.Test.YtjhghhjnccjhmaaGreatDoorQBase
namespace Go.Proofs.YtjhghhjnccjhmaaGreatDoor
open Go Go.RowKit

/-- Block g is a row of n numbers; the first i of them are 0, 1, .. -/
def Pls (w : World) (g n i : Nat) : Prop :=
  ∃ (cur : Array Value) (f : Nat → Nat), w.heap[g]? = some (.cells cur 3 (0, 0)) ∧ cur.size = n ∧ (∀ j, j < n → cur[j]? = some (.int .i64 ((f j : Nat) : Int))) ∧ ∀ j, j < i → f j = j
section
variable {w w' : World} {g n i : Nat}
theorem Pls.keep (h : Pls w g n i) (hk : w'.heap[g]? = w.heap[g]?) : Pls w' g n i := by
  obtain ⟨cur, f, h1, h2⟩ := h
  exact ⟨cur, f, hk.trans h1, h2⟩
theorem Pls.lt (h : Pls w g n i) : g < w.heap.size := by
  obtain ⟨cur, f, h1, _⟩ := h
  exact (Array.getElem?_eq_some_iff.1 h1).1
theorem Pls.at_ (h : Pls w g n i) (j : Nat) (hj : j < n) (hi : j < i) : w.cell? ⟨g, j, none⟩ = some (.int .i64 (j : Int)) := by
  obtain ⟨cur, f, h1, h2, h3, h4⟩ := h
  rw [cell_of_row w g j cur _ _ h1, h3 j hj, h4 j hi]
theorem Pls.cell_frozen (h : Pls w g n i) (j : Nat) (hj : j < n) : (∃ u, w.cell? ⟨g, j, none⟩ = some u) ∧ w.frozen? ⟨g, j, none⟩ = false := by
  obtain ⟨cur, f, h1, h2, h3, h4⟩ := h
  exact ⟨⟨_, by rw [cell_of_row w g j cur _ _ h1]; exact h3 j hj⟩, by simp [World.frozen?, h1]⟩
theorem Pls.put (h : Pls w g n i) (hi : i < n) : Pls (w.setCell ⟨g, i, none⟩ (.int .i64 (i : Int))) g n (i + 1) := by
  obtain ⟨cur, f, h1, h2, h3, h4⟩ := h
  refine ⟨cur.setIfInBounds i (.int .i64 (i : Int)), fun j => if j = i then i else f j, ?_, by simpa using h2, fun j hj => ?_, fun j hj => ?_⟩
  · simp [World.setCell, Array.getElem?_modify, h1]
  · rw [Array.getElem?_setIfInBounds]
    by_cases hij : i = j
    · subst hij; rw [if_pos rfl, if_pos (by omega)]; simp only [if_true]
    · rw [if_neg hij]; simp only [if_neg (fun e : j = i => hij e.symm)]; exact h3 j hj
  · by_cases hij : j = i
    · subst hij; simp only [if_true]
    · simp only [if_neg hij]; exact h4 j (by omega)
theorem Pls.made (w : World) (n : Nat) : Pls (w.alloc (.cells (madeCells #[.int .i64 0] n) 3)) w.heap.size n 0 := by
  refine ⟨_, fun _ => 0, heap_alloc_new w _, ?_, fun j hj => ?_, fun j hj => absurd hj (Nat.not_lt_zero j)⟩
  · exact size_madeCells _ _
  · rw [← Array.getElem?_toList, toList_madeCells_one, List.getElem?_replicate, if_pos hj]; rfl
end
/-- In which order keys are written. -/
def ordP (srt : Bool) (ks : List ByteArray) (j : Nat) : Nat := if srt then ks.findIdx (fun k => decide (k = (sortK ks).getD j default)) else j
/-- Block g is a row of n numbers: p 0, p 1, .. -/
def Prm (w : World) (g n : Nat) (p : Nat → Nat) : Prop := ∃ cur : Array Value, w.heap[g]? = some (.cells cur 3 (0, 0)) ∧ cur.size = n ∧ ∀ j, j < n → cur[j]? = some (.int .i64 ((p j : Nat) : Int))
theorem Prm.keep {w w' : World} {g n : Nat} {p : Nat → Nat} (h : Prm w g n p) (hk : w'.heap[g]? = w.heap[g]?) : Prm w' g n p := by
  obtain ⟨cur, h1, h2⟩ := h
  exact ⟨cur, hk.trans h1, h2⟩
theorem Prm.lt {w : World} {g n : Nat} {p : Nat → Nat} (h : Prm w g n p) : g < w.heap.size := by
  obtain ⟨cur, h1, _⟩ := h
  exact (Array.getElem?_eq_some_iff.1 h1).1
theorem Prm.at_ {w : World} {g n : Nat} {p : Nat → Nat} (h : Prm w g n p) (j : Nat) (hj : j < n) : w.cell? ⟨g, j, none⟩ = some (.int .i64 (p j : Int)) := by
  obtain ⟨cur, h1, h2, h3⟩ := h
  rw [cell_of_row w g j cur _ _ h1, h3 j hj]
theorem Prm.of_pls {w : World} {g n : Nat} (h : Pls w g n n) : Prm w g n (fun j => j) := by
  obtain ⟨cur, f, h1, h2, h3, h4⟩ := h
  exact ⟨cur, h1, h2, fun j hj => by rw [h3 j hj, h4 j hj]⟩
set_option maxRecDepth 100000 in
set_option maxHeartbeats 2000000 in
theorem order_S (b : Nat) (y : Sty) (hsrt : y.srt = false) (step : ByteArray) (lev : Int) (st : Option (List UInt8)) (A : Option Addr) (n c : Nat) (hn : n ≤ 1048576) (w : World) (h : ShAt w b y step lev st) :
    Calls Tryz.prog 45 #[.pointer (some ⟨b, 0, none⟩), .slice A n c] w fun e w' => ∃ g, e = .returned (.slice (some ⟨g, 0, none⟩) n n) ∧ w.heap.size ≤ g ∧ Pls w' g n n ∧ Below w.heap.size w w' := by
  obtain ⟨i0, hi, hz0, hz1, hz2⟩ := info_parts infoInt
  have hmk : ∀ u : World, (Instr.makeSlice 77 (.int .i64 (n : Int)) (.int .i64 (n : Int))).run Tryz.prog u =
      .ok (.slice (some ⟨u.heap.size, 0, none⟩) n n) (u.alloc (.cells (madeCells #[.int .i64 0] n) 3)) := fun u => by
    have h := run_make (P := Tryz.prog) u 77 3 i0 (.int .i64 0) Tryz.underlying77 hi hz0 .i64 .i64 (n : Int) (n : Int) (by omega) (Int.le_refl _) (by rw [hz2]; omega) (by omega)
    rw [Int.toNat_natCast] at h
    simpa [hz1, Value.cells] using h
  have H := Lib.hid h
  have hlt := h.lt
  clear hi hz0 hz1 hz2 h
  go_enter Tryz.func45, Tryz.ntmps45
  go_wp2_with fail
  go_loopw [12] (fun i W => ∃ j : Nat, j ≤ n ∧ i = .int .i64 j ∧ Pls W (w.heap.size + 1) n j ∧ Below w.heap.size w W) (fun i _ => n - (intOf i).toNat)
  case atStart =>
    refine ⟨0, Nat.zero_le _, rfl, ?_, ?_⟩
    · have := Pls.made (w.alloc (.cells #[.slice A n c] 25)) n
      rw [World.size_alloc] at this
      exact this
    · exact ((Below.refl w.heap.size w).alloc (Nat.le_refl _) _).alloc (by simp) _
  case round =>
    obtain ⟨j, hj, rfl, hp, hb⟩ := hrel
    by_cases hlt2 : j < n
    · obtain ⟨⟨u, hu⟩, hf⟩ := hp.cell_frozen j hlt2
      have HP := Lib.hid (hp.put hlt2)
      have HB := Lib.hid hb
      have dj : decide ((j : Int) < (n : Int)) = true := by simp; omega
      have j0 : (0 : Int) ≤ (j : Int) := by omega
      have j1 : (j : Int) < (n : Int) := by omega
      clear hp hb
      go_wp2_with fail
      go_roundw
      case rel => exact ⟨j + 1, by omega, by go_num, HP.out, HB.out.setCell (p := ⟨w.heap.size + 1, j, none⟩) (by simp) _⟩
      case measure => simp [intOf]; omega
    · obtain rfl : j = n := by omega
      have HX := Lib.hid (H.out.ext (hb.mono (Nat.le_refl _)))
      obtain ⟨l, room, h1, h2, h3, h4, h5⟩ := HX.out.parts
      obtain ⟨c2, c3, c4, c5, c6, c7, c8, c9, c10, f2, f3, f10, _⟩ := rowS h4
      have HP := Lib.hid hp
      have HB := Lib.hid hb
      rw [hsrt] at c6
      have dj : decide ((j : Int) < (j : Int)) = false := by simp
      clear hp hb h4 h5
      go_wp2_with fail
      go_ret
      exact ⟨_, rfl, by omega, HP.out, HB.out⟩
set_option maxHeartbeats 1000000 in
/-- The colour of a kind. -/
def colT (k : Int) : ByteArray := if k = 0 then ⟨#[49, 59, 51, 48]⟩ else if k = 4 then ⟨#[48, 59, 51, 50]⟩ else if 5 ≤ k then ⟨#[49, 59, 51, 57]⟩ else ⟨#[48, 59, 51, 57]⟩
set_option maxRecDepth 100000 in
set_option maxHeartbeats 1000000 in
theorem Colour_any (k : Int) (h0 : 0 ≤ k) (h6 : k ≤ 6) (x1 x2 x3 x4 : Value) (w : World) : Calls Tryz.prog 16 #[.agg #[.int .i64 k, x1, x2, x3, x4]] w fun e w' => e = .returned (.string (colT k)) ∧ Below w.heap.size w w' := by
  have hk : k = 0 ∨ k = 1 ∨ k = 2 ∨ k = 3 ∨ k = 4 ∨ k = 5 ∨ k = 6 := by omega
  clear h0 h6
  rcases hk with rfl | rfl | rfl | rfl | rfl | rfl | rfl
  all_goals
    go_enter Tryz.func16, Tryz.ntmps16
    go_wp2_with fail
    go_ret
    first | exact ⟨rfl, Below.refl _ _⟩ | exact ⟨rfl, (Below.refl _ _).alloc (Nat.le_refl _) _⟩ | exact ⟨rfl, (Below.refl w.heap.size w).drew⟩
end Go.Proofs.YtjhghhjnccjhmaaGreatDoor
