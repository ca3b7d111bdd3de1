/- Objects merged: what one round of the program's loops does. -/
import Derived.Test.YtdlighmnlcklnaaGreatDoorMRS
namespace Go.Proofs.YtdlighmnlcklnaaGreatDoor
open Go Go.RowKit

theorem run_makeMapH (n : Int) (w : World) : (Instr.makeMap 125 (some (.int .i64 n))).run Tryz.prog w = .ok (.map (some w.heap.size)) (w.alloc (.map #[] 0)) := by
  simp [Instr.makeMap, run_underlying Tryz.underlying125, asInt, asIntOf, Result.andThen]
theorem mergeTo_mono (J : V → V → V) (a b : V) {t u : Nat} (h : t ≤ u) : (mergeTo J a b t).1.length ≤ (mergeTo J a b u).1.length ∧ (mergeTo J a b t).2.length ≤ (mergeTo J a b u).2.length := by
  induction u with
  | zero =>
    obtain rfl : t = 0 := by omega
    exact ⟨Nat.le_refl _, Nat.le_refl _⟩
  | succ u ih =>
    by_cases e : t = u + 1
    · subst e
      exact ⟨Nat.le_refl _, Nat.le_refl _⟩
    · have h1 := ih (by omega)
      have h2 : (mergeTo J a b u).1.length ≤ (mergeTo J a b (u + 1)).1.length ∧ (mergeTo J a b u).2.length ≤ (mergeTo J a b (u + 1)).2.length := by
        have e : mergeTo J a b (u + 1) = if Lib.idxOfS a.ks (b.ks.getD u default) = -1 then ((mergeTo J a b u).1 ++ [b.l.getD u default], (mergeTo J a b u).2 ++ [b.ks.getD u default]) else ((mergeTo J a b u).1.set (Lib.idxOfS a.ks (b.ks.getD u default)).toNat (J (a.l.getD (Lib.idxOfS a.ks (b.ks.getD u default)).toNat default) (b.l.getD u default)), (mergeTo J a b u).2) := rfl
        rw [e]
        split <;> simp
      exact ⟨Nat.le_trans h1.1 h2.1, Nat.le_trans h1.2 h2.2⟩
theorem mergeTo_len (J : V → V → V) {a b : V} (hla : a.ks.length = a.l.length) : ∀ t, (mergeTo J a b t).1.length = (mergeTo J a b t).2.length
  | 0 => hla.symm
  | t + 1 => by
    have := mergeTo_len J (b := b) hla t
    have e : mergeTo J a b (t + 1) = if Lib.idxOfS a.ks (b.ks.getD t default) = -1 then ((mergeTo J a b t).1 ++ [b.l.getD t default], (mergeTo J a b t).2 ++ [b.ks.getD t default]) else ((mergeTo J a b t).1.set (Lib.idxOfS a.ks (b.ks.getD t default)).toNat (J (a.l.getD (Lib.idxOfS a.ks (b.ks.getD t default)).toNat default) (b.l.getD t default)), (mergeTo J a b t).2) := rfl
    rw [e]
    split <;> simp [this]
theorem mergeTo_long (J : V → V → V) (a b : V) (t : Nat) : a.l.length ≤ (mergeTo J a b t).1.length := (mergeTo_mono J a b (Nat.zero_le t)).1
/-- Three blocks, one behind the other. -/
theorem threeM (w : World) (o1 o2 o3 : Obj) : (((w.alloc o1).alloc o2).alloc o3).heap[w.heap.size]? = some o1 ∧ (((w.alloc o1).alloc o2).alloc o3).heap[w.heap.size + 1]? = some o2 ∧ (((w.alloc o1).alloc o2).alloc o3).heap[w.heap.size + 1 + 1]? = some o3 ∧ (((w.alloc o1).alloc o2).alloc o3).heap.size = w.heap.size + 1 + 1 + 1 ∧ Below w.heap.size w (((w.alloc o1).alloc o2).alloc o3) := by
  have h1 := row_alloc3 (row_alloc3 (heap_alloc_new w o1) o2) o3
  have h2 := row_alloc3 (heap_alloc_new (w.alloc o1) o2) o3
  have h3 := heap_alloc_new ((w.alloc o1).alloc o2) o3
  rw [World.size_alloc] at h2 h3
  rw [World.size_alloc] at h3
  exact ⟨h1, h2, h3, by simp, (((Below.refl w.heap.size w).alloc (Nat.le_refl _) _).alloc (by simp) _).alloc (by simp; omega) _⟩
/-- A map keeps what it has while the world only grows. -/
theorem map_below {w w' : World} {b n : Nat} {D : DataW Unit} (h : w.ownsMap Tryz.prog 9 (plainElem Tryz.prog 3) b n D) {B : Nat} (hb : Below B w w') (hB : b < B) : w'.ownsMap Tryz.prog 9 (plainElem Tryz.prog 3) b n D := by
  obtain ⟨es, clock, h1, r⟩ := h
  exact ⟨es, clock, (hb.block b hB).trans h1, r⟩
theorem EA.start {w W : World} {B0 B1 Q m : Nat} {lv kv : Value} {L : List V} {ps : List (Value × Value)} (hB : B0 ≤ w.heap.size) (hb : Below w.heap.size w W) (h : ∀ i (h : i < L.length) (h2 : i < ps.length), At w B0 m L[i] ps[i].1 ps[i].2) : EA W B0 B1 Q m lv kv L ps :=
  fun i h1 h2 => AtP.more (fun _ hb => Or.inl hb) _ _ _ _ (At.keep (fun _ hp => hb.cell (Nat.lt_of_lt_of_le hp hB)) _ _ _ _ (h i h1 h2))
/-- What the join has answered lies where an object's value may. -/
theorem fresh_put {w5 : World} {B0 B1 N Q m g n cap : Nat} {r : V} {aa bb kv : Value} (h : AtN w5 B0 N m r aa bb) (hQ : Q < N) (hB : B0 ≤ g) (hQ1 : B1 ≤ Q) (_hB1 : B0 ≤ B1) (hg : g < N) (hk : ∀ k, kv.ownBlock = some k → k < N) (o : Nat) (x0 x1 x2 x3 x4 : Value) :
    AtP (set5at w5 g o x0 x1 x2 x3 x4) (InM B0 B1 Q (.slice (some ⟨g, 0, none⟩) n cap) kv (set5at w5 g o x0 x1 x2 x3 x4)) m r aa bb := by
  refine AtP.more (p := fun b => b < B0 ∨ (N ≤ b ∧ b < w5.heap.size)) (fun b q => ?_) _ _ _ _ (AtP.keep (fun a q => cell_of_block (set5at_other (by rcases q with q | q <;> omega) ..)) _ _ _ _ h)
  rcases q with q | q
  · exact Or.inl q
  · refine Or.inr ⟨by omega, by rw [set5at_size]; exact q.2, by omega, fun e => ?_, fun e => ?_⟩
    · have : b = g := Option.some.inj e
      omega
    · have := hk b e.symm
      omega
end Go.Proofs.YtdlighmnlcklnaaGreatDoor
