/- The program's table of borders. -/
import Derived.Test.YtohjcimkpcpgbaaDoorRefB
import Derived.Test.YtohjcimkpcpgbaaDoorKmp
import Derived.Deep.QuietTactic
import Derived.BigQuiet
namespace Go.Proofs.YtohjcimkpcpgbaaDoor
open Go Go.RowKit

/-- A text as a function from places to numbers. -/
def num (s : ByteArray) (i : Nat) : Nat := (s.get! i).toNat
theorem num_at (s : ByteArray) (i : Nat) (h : i < s.size) : num s i = s[i].toNat := by unfold num; rw [get_at s i h]

/-- Block g is a row of n numbers; the first i of them are the borders of P's beginnings. -/
def Bords (w : World) (g n : Nat) (P : Nat → Nat) (i : Nat) : Prop :=
  ∃ (cur : Array Value) (f : Nat → Nat), w.heap[g]? = some (.cells cur 3 (0, 0)) ∧ cur.size = n ∧ (∀ j, j < n → cur[j]? = some (.int .i64 ((f j : Nat) : Int))) ∧ ∀ j, j < i → Kmp.Bd P (j + 1) (f j)
section
variable {w w' : World} {g n i : Nat} {P : Nat → Nat}
theorem Bords.keep (h : Bords w g n P i) (hk : w'.heap[g]? = w.heap[g]?) : Bords w' g n P i := by
  obtain ⟨cur, f, h1, h2⟩ := h
  exact ⟨cur, f, hk.trans h1, h2⟩
theorem Bords.lt (h : Bords w g n P i) : g < w.heap.size := by
  obtain ⟨cur, f, h1, _⟩ := h
  rcases Nat.lt_or_ge g w.heap.size with h' | h'
  · exact h'
  · rw [Array.getElem?_eq_none h'] at h1; cases h1
theorem Bords.at_ (h : Bords w g n P i) (j : Nat) (hj : j < n) (hi : j < i) : ∃ r : Nat, w.cell? ⟨g, j, none⟩ = some (.int .i64 (r : Int)) ∧ Kmp.Bd P (j + 1) r := by
  obtain ⟨cur, f, h1, h2, h3, h4⟩ := h
  exact ⟨f j, by rw [cell_of_row w g j cur _ _ h1]; exact h3 j hj, h4 j hi⟩
theorem Bords.cell_frozen (h : Bords w g n P i) (j : Nat) (hj : j < n) : (∃ u, w.cell? ⟨g, j, none⟩ = some u) ∧ w.frozen? ⟨g, j, none⟩ = false := by
  obtain ⟨cur, f, h1, h2, h3, h4⟩ := h
  exact ⟨⟨_, by rw [cell_of_row w g j cur _ _ h1]; exact h3 j hj⟩, by simp [World.frozen?, h1]⟩
theorem Bords.put (h : Bords w g n P i) (hi : i < n) {r : Nat} (hr : Kmp.Bd P (i + 1) r) : Bords (w.setCell ⟨g, i, none⟩ (.int .i64 (r : Int))) g n P (i + 1) := by
  obtain ⟨cur, f, h1, h2, h3, h4⟩ := h
  refine ⟨cur.setIfInBounds i (.int .i64 (r : Int)), fun j => if j = i then r else f j, ?_, by simpa using h2, fun j hj => ?_, fun j hj => ?_⟩
  · simp [World.setCell, Array.getElem?_modify, h1]
  · rw [Array.getElem?_setIfInBounds]
    by_cases hij : i = j
    · subst hij; rw [if_pos rfl, if_pos (by omega)]; simp only [if_true]
    · rw [if_neg hij]; simp only [if_neg (fun e : j = i => hij e.symm)]; exact h3 j hj
  · by_cases hij : j = i
    · subst hij; simp only [if_true]; exact hr
    · simp only [if_neg hij]; exact h4 j (by omega)
theorem Bords.made (w : World) (n : Nat) : Bords (w.alloc (.cells (madeCells #[.int .i64 0] n) 3)) w.heap.size n P 0 := by
  refine ⟨_, fun _ => 0, heap_alloc_new w _, ?_, fun j hj => ?_, fun j hj => absurd hj (Nat.not_lt_zero j)⟩
  · exact size_madeCells _ _
  · rw [← Array.getElem?_toList, toList_madeCells_one, List.getElem?_replicate, if_pos hj]; rfl
end
theorem num_lt (s : ByteArray) (i : Nat) : num s i < 256 := (s.get! i).toNat_lt

set_option maxRecDepth 100000 in
set_option maxHeartbeats 2000000 in
theorem borders_any (p : ByteArray) (hp : p.size ≤ 1000000000) (h0 : 0 < p.size) (w : World) :
    Calls Tryd.prog 57 #[.string p] w fun e w' => ∃ g, e = .returned (.slice (some ⟨g, 0, none⟩) p.size p.size) ∧ w.heap.size ≤ g ∧ Bords w' g p.size (num p) p.size ∧ Below w.heap.size w w' := by
  obtain ⟨i0, hi, hz0, hz1, hz2⟩ := info_parts infoInt
  have hmk : ∀ u : World, (Instr.makeSlice 23 (.int .i64 (p.size : Int)) (.int .i64 (p.size : Int))).run Tryd.prog u =
      .ok (.slice (some ⟨u.heap.size, 0, none⟩) p.size p.size) (u.alloc (.cells (madeCells #[.int .i64 0] p.size) 3)) := fun u => by
    have h := run_make (P := Tryd.prog) u 23 3 i0 (.int .i64 0) Tryd.underlying23 hi hz0 .i64 .i64 (p.size : Int) (p.size : Int) (by omega) (Int.le_refl _) (by rw [hz2]; omega) (by omega)
    rw [Int.toNat_natCast] at h
    simpa [hz1, Value.cells] using h
  have hB0 : Bords (w.alloc (.cells (madeCells #[.int .i64 0] p.size) 3)) w.heap.size p.size (num p) 0 := Bords.made w p.size
  have hB1 : Bords (w.alloc (.cells (madeCells #[.int .i64 0] p.size) 3)) w.heap.size p.size (num p) 1 := by
    obtain ⟨cur, f, h1, h2, h3, _⟩ := hB0
    have hf : f 0 = 0 := by
      have e1 := h3 0 h0
      have e2 : (w.alloc (.cells (madeCells #[.int .i64 0] p.size) 3)).heap[w.heap.size]? = some (.cells (madeCells #[.int .i64 0] p.size) 3 (0, 0)) := heap_alloc_new w _
      rw [e2] at h1
      injection h1 with h1
      injection h1 with h1 _
      rw [← h1, ← Array.getElem?_toList, toList_madeCells_one, List.getElem?_replicate, if_pos h0] at e1
      injection e1 with e1
      injection e1 with _ e1
      omega
    exact ⟨cur, f, h1, h2, h3, fun j hj => by
      have hj0 : j = 0 := by omega
      subst hj0
      rw [hf]
      exact Kmp.Bd.one _⟩
  have hbl : Below w.heap.size w (w.alloc (.cells (madeCells #[.int .i64 0] p.size) 3)) := (Below.refl _ _).alloc (Nat.le_refl _) _
  clear hB0
  obtain ⟨W, hW⟩ : ∃ W, w.alloc (.cells (madeCells #[.int .i64 0] p.size) 3) = W := ⟨_, rfl⟩
  have hmk2 : ∀ u : World, u = w → (Instr.makeSlice 23 (.int .i64 (p.size : Int)) (.int .i64 (p.size : Int))).run Tryd.prog u = .ok (.slice (some ⟨w.heap.size, 0, none⟩) p.size p.size) W := fun u hu => by subst hu; rw [← hW]; exact hmk _
  have hmk3 := hmk2 w rfl
  rw [hW] at hB1 hbl
  have HB1 := Lib.hid hB1
  clear hW hmk hmk2 hB1
  go_enter Tryd.func57, Tryd.ntmps57
  go_wp2
  go_loopw [4, 5] (fun sm i wr => ∃ (iN q : Nat), sm = .int .i64 q ∧ i = .int .i64 iN ∧ 1 ≤ iN ∧ iN ≤ p.size ∧ Kmp.Bd (num p) iN q ∧ Bords wr w.heap.size p.size (num p) iN ∧ Below w.heap.size w wr) (fun _ i _ => p.size - (intOf i).toNat)
  case atStart => exact ⟨1, 0, rfl, rfl, Nat.le_refl _, h0, Kmp.Bd.one _, HB1.out, hbl⟩
  case round =>
    obtain ⟨iN, q, rfl, rfl, h1, h2, hBd, hBo, hb⟩ := hrel
    clear hbl HB1
    obtain ⟨wo, rfl⟩ : ∃ wo : World, wo = wr := ⟨_, rfl⟩
    by_cases hlt : iN < p.size
    · have hInv : Kmp.Inv (num p) (num p) iN iN q := Kmp.Inv.start (by omega) hBd.lst
      have HInv := Lib.hid hInv
      have HBo := Lib.hid hBo
      have hqi := hBd.1
      clear hInv hBo hBd
      have i0 : (0 : Int) ≤ (iN : Int) := by omega
      have i1 : (iN : Int) < (p.size : Int) := by omega
      go_wp2
      go_loopw [4] (fun sm wr2 => ∃ q2 : Nat, sm = .int .i64 q2 ∧ Kmp.Inv (num p) (num p) iN iN q2 ∧ ∃ d, wr2 = wo.drewN d) (fun sm _ => (intOf sm).toNat)
      case atStart => exact ⟨q, rfl, HInv.out, 0, rfl⟩
      case round =>
        obtain ⟨q2, rfl, hI, d, rfl⟩ := hrel
        have hq2 := hI.1
        have i2 : (0 : Int) ≤ (q2 : Int) := by omega
        have i3 : (q2 : Int) < (p.size : Int) := by omega
        by_cases hq : q2 = 0
        · subst hq
          by_cases he : num p iN = num p 0
          · have HE := Lib.hid he
            clear he
            have y1 : ((p[iN].toNat : Int) == (p[0].toNat : Int)) = true := by rw [← num_at p iN hlt, ← num_at p 0 (by omega), HE.out, beq_self_eq_true]
            have hLst := hI.hit HE.out
            have hfz := HBo.out.cell_frozen iN (by omega)
            obtain ⟨⟨uo, huo⟩, hfo⟩ := hfz
            have HL := Lib.hid hLst
            clear hLst hI
            go_wp2
            go_quiet (fail)
            go_wp2
            go_quiet (fail)
            go_wp2
            refine ⟨⟨iN + 1, 0 + 1, by first | rfl | go_num, by go_num, by omega, by omega, Kmp.Bd.of_lst HL.out, ?_, ?_⟩, by simp [intOf]; omega⟩
            · exact (HBo.out.keep (w' := wo.drewN _) rfl).put (by omega) (Kmp.Bd.of_lst HL.out)
            · exact (below_drewN hb _).setCell (p := ⟨w.heap.size, iN, none⟩) (Nat.le_refl _) _
          · have HE := Lib.hid he
            clear he
            have y1 : ((p[iN].toNat : Int) == (p[0].toNat : Int)) = false := by
              rw [← num_at p iN hlt, ← num_at p 0 (by omega), beq_eq_false_iff_ne]; have := HE.out; omega
            have hLst := hI.miss HE.out
            have hfz := HBo.out.cell_frozen iN (by omega)
            obtain ⟨⟨uo, huo⟩, hfo⟩ := hfz
            have HL := Lib.hid hLst
            clear hLst hI
            go_wp2
            go_quiet (fail)
            go_wp2
            go_quiet (fail)
            go_wp2
            refine ⟨⟨iN + 1, 0, by first | rfl | go_num, by go_num, by omega, by omega, Kmp.Bd.of_lst HL.out, ?_, ?_⟩, by simp [intOf]; omega⟩
            · exact (HBo.out.keep (w' := wo.drewN _) rfl).put (by omega) (Kmp.Bd.of_lst HL.out)
            · exact (below_drewN hb _).setCell (p := ⟨w.heap.size, iN, none⟩) (Nat.le_refl _) _
        · have g1 : decide ((0 : Int) < (q2 : Int)) = true := by simp; omega
          have g2 : decide (0 < q2) = true := by simp; omega
          by_cases he : num p iN = num p q2
          · have HE := Lib.hid he
            clear he
            have y1 : ((p[iN].toNat : Int) == (p[q2].toNat : Int)) = true := by rw [← num_at p iN hlt, ← num_at p q2 (by omega), HE.out, beq_self_eq_true]
            have hLst := hI.hit HE.out
            have hfz := HBo.out.cell_frozen iN (by omega)
            obtain ⟨⟨uo, huo⟩, hfo⟩ := hfz
            have HL := Lib.hid hLst
            clear hLst hI
            go_wp2
            go_quiet (fail)
            go_wp2
            go_quiet (fail)
            go_wp2
            refine ⟨⟨iN + 1, q2 + 1, by first | rfl | go_num, by go_num, by omega, by omega, Kmp.Bd.of_lst HL.out, ?_, ?_⟩, by simp [intOf]; omega⟩
            · exact (HBo.out.keep (w' := wo.drewN _) rfl).put (by omega) (Kmp.Bd.of_lst HL.out)
            · exact (below_drewN hb _).setCell (p := ⟨w.heap.size, iN, none⟩) (Nat.le_refl _) _
          · have y1 : ((p[iN].toNat : Int) == (p[q2].toNat : Int)) = false := by
              rw [← num_at p iN hlt, ← num_at p q2 (by omega), beq_eq_false_iff_ne]; omega
            obtain ⟨r, hr, hbr⟩ := HBo.out.at_ (q2 - 1) (by omega) (by omega)
            have hfall := hI.fall he (by rw [show q2 - 1 + 1 = q2 from by omega] at hbr; exact hbr)
            have HF := Lib.hid hfall
            have hrlt : r < q2 := by have := hbr.1; omega
            clear he hfall hbr hI
            have j1 : (0 : Int) ≤ (q2 : Int) - 1 := by omega
            have j2 : (q2 : Int) - 1 < (p.size : Int) := by omega
            have j3 : ((q2 : Int) - 1).toNat = q2 - 1 := by omega
            go_wp2
            go_quiet (fail)
            go_wp2
            exact ⟨⟨r, rfl, HF.out, _, rfl⟩, by simp [intOf]; omega⟩
    · obtain rfl : iN = p.size := by omega
      go_wp2
      go_ret
      exact ⟨w.heap.size, rfl, Nat.le_refl _, hBo, hb⟩
end Go.Proofs.YtohjcimkpcpgbaaDoor
