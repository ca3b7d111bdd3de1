/- Slices of integers that came in: what the walks take of them, and how they read behind the call. -/
import Derived.Test.YtohjcimkpcpgbaaDoorRows
import Derived.Test.YtohjcimkpcpgbaaDoorRow
import Derived.Test.YtohjcimkpcpgbaaDoorOf
import Derived.OpenShut
import Derived.WideShapes
namespace Go.Proofs.YtohjcimkpcpgbaaDoor
open Go Go.ChangeShapes Go.WideShapes Go.ChangeAt Go.RowKit Go.Lib

theorem bulk_lits {H : Type} (k : IntKind) : ∀ l : List Int, l.length ≤ Rows.uptoBulkAll (H := H) (lits k l) := by
  intro l
  induction l with
  | nil => exact Nat.zero_le _
  | cons n r ih =>
    have e : lits (H := H) k (n :: r) = .lit (.int k n) :: lits k r := rfl
    have e2 : Rows.uptoBulk (H := H) (.lit (.int k n)) = 1 := rfl
    rw [e, Rows.uptoBulkAll, e2, List.length_cons]
    omega
theorem cell_block {w : World} {a : Addr} {v : Value} (h : w.cell? a = some v) : a.block < w.heap.size := by
  rcases Nat.lt_or_ge a.block w.heap.size with h1 | h1
  · exact h1
  · exfalso
    unfold World.cell? at h
    rw [Array.getElem?_eq_none h1] at h
    cases h
theorem open_row {H : Type} {enc : TypeId × Value → H} {P : Program} {W : World} {base : Nat} {t e : TypeId} {k : IntKind} {v : Value} {d : DataW H} {p : List MemPlace}
    (ht : P.underlying t = some (.slice e)) (he : P.underlying e = some (.int k)) (hc : P.cellsOf e = 1)
    (hval : Value.okWide P W .any base t v) (h : DataW.Trod enc P W 0 (fun _ => true) true t v d p) :
    ∃ zs : List Int, Arr W W.heap.size v (zs.map (Value.int k)) ∧ (∀ n ∈ zs, (Lit.int k n).wf = true) ∧ zs.length ≤ Rows.uptoBulk d ∧
      ∀ W' : World, Below W.heap.size W W' → DataW.Trod enc P W' 0 (fun b => decide (b < W.heap.size)) true t v d p := by
  obtain ⟨A, len, cap, rfl⟩ := okWide_slice ht hval
  obtain ⟨fuel, hf⟩ := h
  rcases open_ints ht he hc hf with ⟨hcs, hx⟩ | ⟨a, len', cap', zs, hcs, _, hl, hm, hz, hx, hcell, hwf⟩
  · simp [Value.cells] at hcs
    obtain ⟨rfl, rfl, rfl⟩ := hcs
    injection hx with h1 h2
    subst h1
    subst h2
    refine ⟨[], Arr.nil _ _, (fun _ h => by cases h), Nat.zero_le _, fun W' _ => ⟨1, ?_⟩⟩
    rw [DataW.trod_step]
    unfold DataW.trodStep
    simp [ht, Value.cells]
  · simp [Value.cells] at hcs
    obtain ⟨rfl, rfl, rfl⟩ := hcs
    injection hx with h1 h2
    subst h1
    subst h2
    simp only [if_true] at hz
    have hlt : (zs.take len).length = len := by rw [List.length_take]; omega
    refine ⟨zs.take len, ⟨some a, cap, by rw [List.length_map, hlt], fun hn => ⟨a, rfl, ?_, fun j u hu => ?_⟩⟩, fun n hn => hwf n (List.mem_of_mem_take hn), ?_, fun W' hb => ⟨0 + 2, ?_⟩⟩
    · rw [List.length_map, hlt] at hn
      have := cell_block (hcell 0 (by omega))
      rw [add_block] at this
      exact this
    · have hj : j < len := by
        have := (List.getElem?_eq_some_iff.1 hu).1
        rw [List.length_map, hlt] at this
        exact this
      rw [List.getElem?_map, List.getElem?_take, if_pos hj, List.getElem?_eq_getElem (by omega : j < zs.length)] at hu
      rw [hcell j (by omega), ← hu, List.getD_eq_getElem?_getD, List.getElem?_eq_getElem (by omega : j < zs.length)]
      rfl
    · rw [Rows.uptoBulk]
      have := bulk_lits (H := H) k (zs.take len)
      omega
    · refine shut_ints 0 ht he hc (Nat.zero_le _) hl hm ?_ (fun i hi => ?_) hwf
      · by_cases h0 : cap = 0
        · split <;> omega
        · have := cell_block (hcell 0 (by omega))
          rw [add_block] at this
          rw [if_pos (by exact decide_eq_true this)]
          exact hz
      · rw [hb.cell (p := a.add i) (by
          have := cell_block (hcell i hi)
          exact this)]
        exact hcell i hi
theorem bytes_of (zs : List Int) (h : ∀ n ∈ zs, (Lit.int .u8 n).wf = true) : zs.map (Value.int .u8) = Lib.byteCells (zs.map fun n => UInt8.ofNat n.toNat) := by
  unfold Lib.byteCells
  rw [List.map_map]
  refine List.map_congr_left fun n hn => ?_
  have := bounds_u8 (h n hn)
  simp only [Function.comp]
  congr 1
  rw [UInt8.toNat_ofNat']
  omega
end Go.Proofs.YtohjcimkpcpgbaaDoor
