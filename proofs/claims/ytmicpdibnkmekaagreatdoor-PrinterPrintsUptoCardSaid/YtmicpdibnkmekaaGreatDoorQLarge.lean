/- The document's room. -/
import Derived.Test.YtmicpdibnkmekaaGreatDoorQBase
import Derived.LoopTactic
import Derived.ChangeAlike
import Derived.RegionTactic
namespace Go.Proofs.YtmicpdibnkmekaaGreatDoor
open Go Go.RowKit

def roomL (f : V → Int → Int → Int × Int) : List V → Int → Int → Int × Int
  | [], n, b => (n, b)
  | x :: r, n, b => if 0 ≤ n ∧ 0 ≤ b then roomL f r (f x n b).1 (f x n b).2 else (n, b)
def roomV : Nat → V → Int → Int → Int → Int × Int
  | 0, _, _, _, _ => (-1, -1)
  | m + 1, v, n, b, d => if d < 1 then (-1, -1) else roomL (fun x n b => roomV m x n b (d - 1)) v.l (n - 1) (b - v.s.size - keysLen v.ks)
theorem keysLen_up (ks : List ByteArray) (k : Nat) (h : k < ks.length) : keysLen (ks.take (k + 1)) = keysLen (ks.take k) + ks[k].size := by
  unfold keysLen
  rw [List.take_succ_eq_append_getElem h, List.map_append, List.sum_append]
  simp
theorem keysLen_le (ks : List ByteArray) (k : Nat) : keysLen (ks.take k) ≤ keysLen ks := by
  unfold keysLen
  have : ks = ks.take k ++ ks.drop k := (List.take_append_drop k ks).symm
  conv => rhs; rw [this]
  rw [List.map_append, List.sum_append]
  omega
theorem roomL_bd (f : V → Int → Int → Int × Int) : ∀ (l : List V), (∀ x ∈ l, ∀ n b, 0 ≤ n → 0 ≤ b → -1 ≤ (f x n b).1 ∧ (f x n b).1 ≤ n ∧ -4194304 ≤ (f x n b).2 ∧ (f x n b).2 ≤ b) →
    ∀ n b : Int, -1 ≤ n → -4194304 ≤ b → -1 ≤ (roomL f l n b).1 ∧ (roomL f l n b).1 ≤ n ∧ -4194304 ≤ (roomL f l n b).2 ∧ (roomL f l n b).2 ≤ b
  | [], _, n, b, h1, h2 => ⟨h1, Int.le_refl _, h2, Int.le_refl _⟩
  | x :: r, hf, n, b, h1, h2 => by
    unfold roomL
    by_cases hg : 0 ≤ n ∧ 0 ≤ b
    · rw [if_pos hg]
      have h := hf x List.mem_cons_self n b hg.1 hg.2
      have h3 := roomL_bd f r (fun y hy => hf y (List.mem_cons_of_mem _ hy)) (f x n b).1 (f x n b).2 h.1 h.2.2.1
      omega
    · rw [if_neg hg]
      exact ⟨h1, Int.le_refl _, h2, Int.le_refl _⟩
theorem roomL_stop (f : V → Int → Int → Int × Int) (l : List V) (n b : Int) (h : ¬ (0 ≤ n ∧ 0 ≤ b)) : roomL f l n b = (n, b) := by
  cases l with
  | nil => rfl
  | cons x r => unfold roomL; rw [if_neg h]
theorem roomV_bd {w : World} {B : Nat} : ∀ (m : Nat) (v : V) (lv kv : Value) (n b d : Int), At w B m v lv kv → 0 ≤ n → 0 ≤ b → -1 ≤ (roomV m v n b d).1 ∧ (roomV m v n b d).1 ≤ n ∧ -4194304 ≤ (roomV m v n b d).2 ∧ (roomV m v n b d).2 ≤ b
  | 0, _, _, _, _, _, _, h, _, _ => h.elim
  | m + 1, v, lv, kv, n, b, d, h, hn, hb => by
    obtain ⟨⟨_, _, _, hs, _, _, hk⟩, _, _, a, c, b0, o, _, hab, hi⟩ := h.opened
    unfold roomV
    by_cases hd : d < 1
    · rw [if_pos hd]
      exact ⟨Int.le_refl _, by show (-1 : Int) ≤ n; omega, by show (-4194304 : Int) ≤ -1; omega, by show (-1 : Int) ≤ b; omega⟩
    · rw [if_neg hd]
      have := roomL_bd (fun x n b => roomV m x n b (d - 1)) v.l (fun x hx n b hn hb => by
        obtain ⟨i, hi2, rfl⟩ := List.getElem_of_mem hx
        obtain ⟨lv', kv', _, h⟩ := hi i hi2
        exact roomV_bd m _ lv' kv' n b (d - 1) h hn hb) (n - 1) (b - v.s.size - keysLen v.ks) (by omega) (by omega)
      omega
theorem cells_box {w : World} (v : V) (lv kv : Value) (t : TypeId) : (w.alloc (.cells (cellsV v lv kv) t)).cell? ⟨w.heap.size, 4, none⟩ = some kv ∧ (w.alloc (.cells (cellsV v lv kv) t)).cell? ⟨w.heap.size, 3, none⟩ = some lv ∧ (w.alloc (.cells (cellsV v lv kv) t)).cell? ⟨w.heap.size, 2, none⟩ = some (.string v.s) := by
  unfold cellsV
  simp

end Go.Proofs.YtmicpdibnkmekaaGreatDoor
/- The program's room. -/
namespace Go.Proofs.YtmicpdibnkmekaaGreatDoor
open Go Go.RowKit

def holdsL (f : V → Int → Int → Bool × Int × Int) : List V → Int → Int → Bool × Int × Int
  | [], n, b => (true, n, b)
  | x :: r, n, b => if (f x n b).1 then holdsL f r (f x n b).2.1 (f x n b).2.2 else (false, (f x n b).2.1, (f x n b).2.2)
def holdsV : Nat → V → Int → Int → Int → Bool × Int × Int
  | 0, _, n, b, _ => (false, n, b)
  | m + 1, v, n, b, d => if n - 1 < 0 ∨ b - v.s.size - keysLen v.ks < 0 ∨ d = 0 then (false, n - 1, b - v.s.size - keysLen v.ks) else holdsL (fun x n b => holdsV m x n b (d - 1)) v.l (n - 1) (b - v.s.size - keysLen v.ks)
theorem holdsL_bd (f : V → Int → Int → Bool × Int × Int) : ∀ (l : List V), (∀ x ∈ l, ∀ n b, 0 ≤ n → 0 ≤ b → (f x n b).1 = true → 0 ≤ (f x n b).2.1 ∧ (f x n b).2.1 ≤ n ∧ 0 ≤ (f x n b).2.2 ∧ (f x n b).2.2 ≤ b) →
    ∀ n b : Int, 0 ≤ n → 0 ≤ b → (holdsL f l n b).1 = true → 0 ≤ (holdsL f l n b).2.1 ∧ (holdsL f l n b).2.1 ≤ n ∧ 0 ≤ (holdsL f l n b).2.2 ∧ (holdsL f l n b).2.2 ≤ b
  | [], _, n, b, h1, h2, _ => ⟨h1, Int.le_refl _, h2, Int.le_refl _⟩
  | x :: r, hf, n, b, h1, h2, h => by
    unfold holdsL at h ⊢
    by_cases hg : (f x n b).1 = true
    · rw [if_pos hg] at h ⊢
      have h0 := hf x List.mem_cons_self n b h1 h2 hg
      have h3 := holdsL_bd f r (fun y hy => hf y (List.mem_cons_of_mem _ hy)) (f x n b).2.1 (f x n b).2.2 h0.1 h0.2.2.1 h
      omega
    · rw [if_neg hg] at h
      cases h
theorem holdsV_bd : ∀ (m : Nat) (v : V) (n b d : Int), 0 ≤ n → 0 ≤ b → (holdsV m v n b d).1 = true → 0 ≤ (holdsV m v n b d).2.1 ∧ (holdsV m v n b d).2.1 ≤ n ∧ 0 ≤ (holdsV m v n b d).2.2 ∧ (holdsV m v n b d).2.2 ≤ b
  | 0, _, _, _, _, _, _, h => by cases h
  | m + 1, v, n, b, d, hn, hb, h => by
    unfold holdsV at h ⊢
    by_cases hd : n - 1 < 0 ∨ b - v.s.size - keysLen v.ks < 0 ∨ d = 0
    · rw [if_pos hd] at h
      cases h
    · rw [if_neg hd] at h ⊢
      have := holdsL_bd (fun x n b => holdsV m x n b (d - 1)) v.l (fun x _ n b hn hb h => holdsV_bd m x n b (d - 1) hn hb h) (n - 1) (b - v.s.size - keysLen v.ks) (by omega) (by omega) h
      omega
/-- All blocks but R are as they were. -/
def But (R : Nat) (w w' : World) : Prop := Below R w w' ∧ ∀ b, b < w.heap.size → b ≠ R → w'.heap[b]? = w.heap[b]?
theorem But.refl (R : Nat) (w : World) : But R w w := ⟨Below.refl _ _, fun _ _ _ => rfl⟩
theorem But.trans {R : Nat} {a b c : World} (h : But R a b) (k : But R b c) : But R a c :=
  ⟨h.1.trans k.1, fun i hi hn => (k.2 i (Nat.lt_of_lt_of_le hi h.1.size) hn).trans (h.2 i hi hn)⟩
theorem But.cell {R : Nat} {w w' : World} (h : But R w w') {p : Addr} (hp : p.block < w.heap.size) (hn : p.block ≠ R) : w'.cell? p = w.cell? p := by
  unfold World.cell?
  rw [h.2 p.block hp hn]
theorem But.alloc {R : Nat} {w w' : World} (h : But R w w') (hR : R ≤ w'.heap.size) (o : Obj) : But R w (w'.alloc o) :=
  ⟨h.1.alloc hR o, fun i hi hn => by
    have := h.1.size
    rw [← h.2 i hi hn]
    show (w'.heap.push o)[i]? = _
    rw [Array.getElem?_push, if_neg (by omega)]⟩
theorem But.drew {R : Nat} {w w' : World} (h : But R w w') : But R w w'.drew := ⟨h.1.drew, h.2⟩
theorem row2 {w : World} {b : Nat} {u0 u1 : Value} {t : TypeId} (hb : w.heap[b]? = some (.cells #[u0, u1] t (0, 0))) :
    w.cell? ⟨b, 0, none⟩ = some u0 ∧ w.cell? ⟨b, 1, none⟩ = some u1 ∧ w.frozen? ⟨b, 0, none⟩ = false ∧ w.frozen? ⟨b, 1, none⟩ = false := by
  simp [World.cell?, World.frozen?, hb]
theorem row_alloc {w : World} {R : Nat} {x : Obj} (h : w.heap[R]? = some x) (o : Obj) : (w.alloc o).heap[R]? = some x := by
  have := (Array.getElem?_eq_some_iff.1 h).1
  show (w.heap.push o)[R]? = _
  rw [Array.getElem?_push, if_neg (by omega)]
  exact h
theorem row_set0 {w : World} {R : Nat} {u0 u1 x : Value} {t : TypeId} (h : w.heap[R]? = some (.cells #[u0, u1] t (0, 0))) : (w.setCell ⟨R, 0, none⟩ x).heap[R]? = some (.cells #[x, u1] t (0, 0)) := by
  simp [World.setCell, Array.getElem?_modify, h]
theorem row_set1 {w : World} {R : Nat} {u0 u1 x : Value} {t : TypeId} (h : w.heap[R]? = some (.cells #[u0, u1] t (0, 0))) : (w.setCell ⟨R, 1, none⟩ x).heap[R]? = some (.cells #[u0, x] t (0, 0)) := by
  simp [World.setCell, Array.getElem?_modify, h]
theorem But.setR {R i : Nat} {w w' : World} (h : But R w w') (x : Value) : But R w (w'.setCell ⟨R, i, none⟩ x) :=
  ⟨h.1.setCell (Nat.le_refl _) x, fun k hk hn => by
    rw [← h.2 k hk hn]
    simp [World.setCell, Array.getElem?_modify]
    intro h; omega⟩
theorem open_room {w : World} {R : Nat} {u0 u1 x y : Value} {t : TypeId} (hrow : w.heap[R]? = some (.cells #[u0, u1] t (0, 0))) (hR : R < w.heap.size) (v : V) (lv kv : Value) (T : TypeId) :
    ∀ W, (((w.setCell ⟨R, 0, none⟩ x).setCell ⟨R, 1, none⟩ y).alloc (.cells (cellsV v lv kv) T)).drew = W →
    W.heap[R]? = some (.cells #[x, y] t (0, 0)) ∧ But R w W ∧ W.heap.size = w.heap.size + 1 ∧ W.cell? ⟨w.heap.size, 3, none⟩ = some lv := by
  rintro W rfl
  have e0 : ((w.setCell ⟨R, 0, none⟩ x).setCell ⟨R, 1, none⟩ y).heap.size = w.heap.size := by simp
  have hr := row_set1 (x := y) (row_set0 (x := x) hrow)
  have hbut : But R w ((w.setCell ⟨R, 0, none⟩ x).setCell ⟨R, 1, none⟩ y) := ((But.refl R w).setR x).setR y
  refine ⟨?_, (hbut.alloc (by omega) _).drew, by show (Array.push _ _).size = _; rw [Array.size_push, e0], ?_⟩
  · show (Array.push _ _)[R]? = _
    rw [Array.getElem?_push, if_neg (by rw [e0]; omega)]
    exact hr
  · have := (cells_box (w := (w.setCell ⟨R, 0, none⟩ x).setCell ⟨R, 1, none⟩ y) v lv kv T).2.1
    rw [e0] at this
    exact this
end Go.Proofs.YtmicpdibnkmekaaGreatDoor
/- Which values are too large: the program's answer is the document's. -/
namespace Go.Proofs.YtmicpdibnkmekaaGreatDoor
open Go Go.RowKit

def Agree (h : Bool × Int × Int) (r : Int × Int) : Prop := (h.1 = true → r = h.2) ∧ (h.1 = false → r.1 < 0 ∨ r.2 < 0)
theorem agreeL (f : V → Int → Int → Bool × Int × Int) (g : V → Int → Int → Int × Int) (hfg : ∀ x n b, 0 ≤ n → 0 ≤ b → Agree (f x n b) (g x n b) ∧ ((f x n b).1 = true → 0 ≤ (f x n b).2.1 ∧ 0 ≤ (f x n b).2.2)) :
    ∀ (l : List V) (n b : Int), 0 ≤ n → 0 ≤ b → Agree (holdsL f l n b) (roomL g l n b)
  | [], n, b, _, _ => ⟨fun _ => rfl, (fun h => by cases h)⟩
  | x :: r, n, b, hn, hb => by
    obtain ⟨⟨h1, h2⟩, h3⟩ := hfg x n b hn hb
    have eh : holdsL f (x :: r) n b = if (f x n b).1 then holdsL f r (f x n b).2.1 (f x n b).2.2 else (false, (f x n b).2.1, (f x n b).2.2) := rfl
    have er : roomL g (x :: r) n b = roomL g r (g x n b).1 (g x n b).2 := by
      show (if 0 ≤ n ∧ 0 ≤ b then _ else _) = _
      rw [if_pos ⟨hn, hb⟩]
    rw [eh, er]
    cases hg : (f x n b).1
    · have h := h2 hg
      rw [if_neg (by simp), roomL_stop _ _ _ _ (by omega)]
      exact ⟨(fun h => by cases h), fun _ => h⟩
    · rw [if_pos rfl, h1 hg]
      obtain ⟨q1, q2⟩ := h3 hg
      exact agreeL f g hfg r _ _ q1 q2
theorem agreeV : ∀ (m : Nat) (v : V) (n b d : Int), 0 ≤ n → 0 ≤ b → 0 ≤ d → Agree (holdsV m v n b d) (roomV m v n b d)
  | 0, v, n, b, d, _, _, _ => ⟨(fun h => by cases h), fun _ => Or.inl (by show (-1 : Int) < 0; omega)⟩
  | m + 1, v, n, b, d, hn, hb, hd => by
    have eh : holdsV (m + 1) v n b d = if n - 1 < 0 ∨ b - v.s.size - keysLen v.ks < 0 ∨ d = 0 then (false, n - 1, b - v.s.size - keysLen v.ks) else holdsL (fun x n b => holdsV m x n b (d - 1)) v.l (n - 1) (b - v.s.size - keysLen v.ks) := rfl
    have er : roomV (m + 1) v n b d = if d < 1 then (-1, -1) else roomL (fun x n b => roomV m x n b (d - 1)) v.l (n - 1) (b - v.s.size - keysLen v.ks) := rfl
    rw [eh, er]
    by_cases h : n - 1 < 0 ∨ b - v.s.size - keysLen v.ks < 0 ∨ d = 0
    · rw [if_pos h]
      refine ⟨(fun h => by cases h), fun _ => ?_⟩
      by_cases hd1 : d < 1
      · rw [if_pos hd1]
        exact Or.inl (by show (-1 : Int) < 0; omega)
      · rw [if_neg hd1, roomL_stop _ _ _ _ (by omega)]
        show n - 1 < 0 ∨ b - v.s.size - keysLen v.ks < 0
        omega
    · rw [if_neg h, if_neg (by omega : ¬ d < 1)]
      exact agreeL _ _ (fun x n b hn hb => ⟨agreeV m x n b (d - 1) hn hb (by omega), fun ht => by
        have := holdsV_bd m x n b (d - 1) hn hb ht
        exact ⟨this.1, this.2.2.1⟩⟩) v.l _ _ (by omega) (by omega)
def largeV (m : Nat) (v : V) : Bool := !(holdsV m v 65536 1048576 10000).1
theorem large_is (m : Nat) (v : V) : (decide ((roomV m v 65536 1048576 10000).1 < 0) || decide ((roomV m v 65536 1048576 10000).2 < 0)) = largeV m v := by
  obtain ⟨h1, h2⟩ := agreeV m v 65536 1048576 10000 (by omega) (by omega) (by omega)
  unfold largeV
  cases hh : (holdsV m v 65536 1048576 10000).1
  · rcases h2 hh with h | h
    · rw [decide_eq_true h]; rfl
    · rw [decide_eq_true h, Bool.or_true]; rfl
  · obtain ⟨q1, _, q3, _⟩ := holdsV_bd m v 65536 1048576 10000 (by omega) (by omega) hh
    rw [h1 hh, decide_eq_false (by omega), decide_eq_false (by omega)]
    rfl
end Go.Proofs.YtmicpdibnkmekaaGreatDoor
