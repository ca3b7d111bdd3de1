/- Rows of cells that a call makes or is handed: what is read of them; the text of a row of bytes. No program stands here. -/
import Derived.WalkKit
import Derived.Below
import Derived.Laws.OwnMore
import Derived.Maps.AppendAt
import Derived.Deep.AppendLies
import Derived.Deep.Draws
import Derived.Lib.OthersKept
import Derived.Handy
import Derived.Laws.BytesArg
namespace Go.Proofs.YtamgdmmijlbjjaaGreatDoor
open Go Go.RowKit Go.WideShapes

theorem add_block (a : Addr) (n : Nat) : (a.add n).block = a.block := by unfold Addr.add; split <;> rfl

/-- 'v' is a slice whose elements (a cell each) are xs; they lie below block B. -/
def Arr (w : World) (B : Nat) (v : Value) (xs : List Value) : Prop :=
  ∃ A c, v = .slice A xs.length c ∧ (0 < xs.length → ∃ ad : Addr, A = some ad ∧ ad.block < B ∧ ∀ j u, xs[j]? = some u → w.cell? (ad.add j) = some u)

theorem below_drewN {B : Nat} {a w : World} (h : Below B a w) (n : Nat) : Below B a (w.drewN n) := ⟨h.os, h.tape, h.output, h.size, h.block⟩

section
variable {w w' : World} {B B' : Nat} {v : Value} {xs : List Value}
theorem Arr.keep (h : Arr w B v xs) (hk : ∀ p : Addr, p.block < B → w'.cell? p = w.cell? p) : Arr w' B v xs := by
  obtain ⟨A, c, rfl, h⟩ := h
  refine ⟨A, c, rfl, fun hn => ?_⟩
  obtain ⟨ad, e, hb, hc⟩ := h hn
  exact ⟨ad, e, hb, fun j u hu => (hk _ (by rw [add_block]; exact hb)).trans (hc j u hu)⟩
theorem Arr.below (h : Arr w B v xs) (hb : Below B w w') : Arr w' B v xs := h.keep fun _ hp => hb.cell hp
theorem Arr.more (h : Arr w B v xs) (hB : B ≤ B') : Arr w B' v xs := by
  obtain ⟨A, c, rfl, h⟩ := h
  refine ⟨A, c, rfl, fun hn => ?_⟩
  obtain ⟨ad, e, hb, hc⟩ := h hn
  exact ⟨ad, e, by omega, hc⟩
theorem Arr.nil (w : World) (B : Nat) : Arr w B (.slice none 0 0) [] := ⟨none, 0, rfl, fun h => absurd h (by simp)⟩
theorem Arr.of_own {base : Nat} {e : TypeId} {n : Nat} (h : w.ownsRow base e 1 v n xs) (hB : w.heap.size ≤ B) : Arr w B v xs := by
  have hl : xs.length = n := by have := h.1; omega
  rcases h.2 with ⟨rfl, h0⟩ | ⟨g, cap, cur, rfl, _, hh, _⟩
  · exact ⟨none, 0, by rw [hl, h0], fun hn => by omega⟩
  · refine ⟨some ⟨g, 0, none⟩, cap, by rw [hl], fun _ => ⟨_, rfl, ?_, h.cells (g := g) rfl⟩⟩
    have := (h.lt g rfl).2
    simp only
    omega
end

theorem arr_string {P : Program} {w : World} {B : Nat} {v : Value} {l : List UInt8} (h : Arr w B v (Lib.byteCells l)) (src dst e : TypeId)
    (hs : P.underlying src = some (.slice e)) (he : P.underlying e = some (.int .u8)) (hd : P.underlying dst = some .string) :
    (convert src dst v).run P w = .ok (.string ⟨l.toArray⟩) w := by
  obtain ⟨A, c, rfl, hc⟩ := h
  rw [Lib.byteCells_length] at *
  rcases A with _ | ad
  · have h0 : l = [] := by
      rcases Nat.eq_zero_or_pos l.length with h | h
      · exact List.eq_nil_of_length_eq_zero h
      · obtain ⟨ad, h2, _⟩ := hc h; cases h2
    subst h0
    exact run_convert_bytes_nil w src e hs he _ _ dst hd
  · have hcell : ∀ j u, (Lib.byteCells l)[j]? = some u → w.cell? (ad.add j) = some u := by
      intro j u hu
      rcases Nat.eq_zero_or_pos l.length with h | h
      · rw [List.eq_nil_of_length_eq_zero h] at hu; cases hu
      · obtain ⟨ae, h2, _, h3⟩ := hc h
        injection h2 with h2
        subst h2
        exact h3 j u hu
    have hl := run_loadCells_list (P := P) w ad (Lib.byteCells l) hcell
    rw [Lib.byteCells_length] at hl
    have e1 : Lib.byteCells l = (l.map fun b => (b.toNat : Int)).map (Value.int .u8) := by unfold Lib.byteCells; rw [List.map_map]; rfl
    rw [e1] at hl
    rw [run_convert_bytes_string w src dst e _ _ _ hs he hd, run_bytesToString w ad _ _ _ hl, foldl_push_bytes, List.map_map]
    have e2 : (l.map ((fun n : Int => UInt8.ofNat n.toNat) ∘ fun b => (b.toNat : Int))) = l := by
      conv => rhs; rw [← List.map_id l]
      apply List.map_congr_left
      intro x _
      simp
    rw [e2]
    simp [ByteArray.empty, ByteArray.emptyWithCapacity]
    rfl
end Go.Proofs.YtamgdmmijlbjjaaGreatDoor
