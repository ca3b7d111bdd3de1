/- The heads of layer 3: the values that they make. -/
import Derived.Test.YtjhghhjnccjhmaaGreatDoorQCopy
import Derived.Test.YtjhghhjnccjhmaaGreatDoorQWriteB
namespace Go.Proofs.YtjhghhjnccjhmaaGreatDoor
open Go Go.RowKit

/-- Values with nothing in them. -/
def leafV (k : Int) (f : Nat) (s : ByteArray) : V := .mk k f s [] []
def numV (f : Nat) : V := leafV 3 f ⟨#[]⟩
def strV (s : ByteArray) : V := leafV 4 0 s
def nilS : Value := .slice none 0 0
theorem caps_nil : Caps nilS := fun A n c e => by cases e; exact ⟨Nat.le_refl _, by unfold maxLen; omega, fun _ => rfl⟩
theorem leaf_atP (w : World) (p : Nat → Prop) (m : Nat) (k : Int) (f : Nat) (s : ByteArray) (hk : -9223372036854775808 ≤ k ∧ k ≤ 9223372036854775807) (hf : f < 18446744073709551616) (hs : s.size ≤ 1048576) : AtP w p (m + 1) (leafV k f s) nilS nilS :=
  ⟨⟨hk.1, hk.2, hf, hs, Nat.zero_le _, Nat.zero_le _, Nat.zero_le _⟩, ⟨⟨none, 0, rfl, fun h => absurd h (by simp [leafV, V.ks])⟩, caps_nil⟩, caps_nil, none, 0, 0, 0, rfl, fun h => absurd h (by simp [leafV, V.l]), fun i h => absurd h (by simp [leafV, V.l])⟩
theorem leaf_at (w : World) (B m : Nat) (k : Int) (f : Nat) (s : ByteArray) (hk : -9223372036854775808 ≤ k ∧ k ≤ 9223372036854775807) (hf : f < 18446744073709551616) (hs : s.size ≤ 1048576) : At w B (m + 1) (leafV k f s) nilS nilS := leaf_atP w _ m k f s hk hf hs
set_option maxHeartbeats 400000 in
theorem Num_any (f : Nat) (w : World) : Calls Tryz.prog 23 #[.float .f64 f] w fun e w' => e = .returned (.agg #[.int .i64 3, .float .f64 f, .string ⟨#[]⟩, .slice none 0 0, .slice none 0 0]) ∧ Below w.heap.size w w' := by
  have hsf := run_store_float Tryz.prog
  obtain ⟨i0, hi0, hz0, hz1, hz2⟩ := info_parts infoVal
  go_enter Tryz.func23, Tryz.ntmps23
  go_wp2_with fail
  refine bodyPost_ret_by (results_cell_row rfl _ _ w.heap.size 27 _ (0, 0) _ rfl (heap_alloc_new w _) Tryz.underlying27 rfl (by rw [hi0]; simp [hz1])) rfl ?_
  exact ⟨rfl, (Below.refl w.heap.size w).alloc (Nat.le_refl _) _⟩
/-- {s: f} -/
def objV (s : ByteArray) (f : Nat) : V := .mk 6 0 ⟨#[]⟩ [numV f] [s]
theorem set5_below0 {B R : Nat} {w w' : World} (h : Below B w w') (q : B ≤ R) (x0 x1 x2 x3 x4 : Value) : Below B w (set5 w' R x0 x1 x2 x3 x4) := by
  unfold set5
  exact ((((h.setCell (p := ⟨R, 0, none⟩) q x0).setCell (p := ⟨R, 1, none⟩) q x1).setCell (p := ⟨R, 2, none⟩) q x2).setCell (p := ⟨R, 3, none⟩) q x3).setCell (p := ⟨R, 4, none⟩) q x4
theorem obj_at {W : World} {g1 g2 n : Nat} {s : ByteArray} {f : Nat} (hn : W.heap.size = n) (h2 : W.heap[g2]? = some (.cells #[.string s] 9 (0, 0))) (h1 : W.heap[g1]? = some (.cells #[.int .i64 3, .float .f64 f, .string ⟨#[]⟩, .slice none 0 0, .slice none 0 0] 27 (0, 0)))
    (hs : s.size ≤ 1000) (hf : f < 18446744073709551616) (hg : g2 < n ∧ g1 < n) : At W W.heap.size 2 (objV s f) (.slice (some ⟨g1, 0, none⟩) 1 1) (.slice (some ⟨g2, 0, none⟩) 1 1) := by
  obtain ⟨c0, c1, c2, c3, c4, _⟩ := row5 h1
  have hcap : ∀ g, Caps (.slice (some ⟨g, 0, none⟩) 1 1) := fun g A n c e => by cases e; exact ⟨Nat.le_refl _, by unfold maxLen; omega, fun e => by cases e⟩
  refine ⟨⟨by simp [objV, V.k], by simp [objV, V.k], by simp [objV, V.f], by show (⟨#[]⟩ : ByteArray).size ≤ _; decide, by simp [objV, V.l], by simp [objV, V.ks], by simp [objV, V.ks, keysLen]; omega⟩, ⟨⟨some ⟨g2, 0, none⟩, 1, rfl, fun _ => ⟨_, rfl, by show g2 < W.heap.size; omega, ?_⟩⟩, hcap _⟩, hcap _, some ⟨g1, 0, none⟩, 1, g1, 0, rfl, fun _ => ⟨rfl, by show g1 < W.heap.size; omega⟩, ?_⟩
  · intro j u hu
    have hu : ([Value.string s] : List Value)[j]? = some u := hu
    cases j with
    | zero => simp at hu; subst hu; simp [Addr.add, World.cell?, h2]
    | succ j => simp at hu
  · intro i hi
    have hi : i < 1 := hi
    obtain rfl : i = 0 := by omega
    exact ⟨nilS, nilS, ⟨c0, c1, c2, c3, c4⟩, leaf_at W _ 0 3 f ⟨#[]⟩ (by omega) hf (by decide)⟩
end Go.Proofs.YtjhghhjnccjhmaaGreatDoor
