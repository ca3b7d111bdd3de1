/- The document's room. -/
import Derived.Test.YtjhghhjnccjhmaaGreatDoorQBase
import Derived.LoopTactic
import Derived.ChangeAlike
import Derived.RegionTactic
namespace Go.Proofs.YtjhghhjnccjhmaaGreatDoor
open Go Go.RowKit

def roomL (f : V → Int → Int → Int × Int) : List V → Int → Int → Int × Int
  | [], n, b => (n, b)
  | x :: r, n, b => if 0 ≤ n ∧ 0 ≤ b then roomL f r (f x n b).1 (f x n b).2 else (n, b)
def roomV : Nat → V → Int → Int → Int → Int × Int
  | 0, _, _, _, _ => (-1, -1)
  | m + 1, v, n, b, d => if d < 1 then (-1, -1) else roomL (fun x n b => roomV m x n b (d - 1)) v.l (n - 1) (b - v.s.size - keysLen v.ks)
theorem keysLen_up (ks : List ByteArray) (k : Nat) (h : k < ks.length) : keysLen (ks.take (k + 1)) = keysLen (ks.take k) + ks[k].size := by
  unfold keysLen
  rw [List.take_succ_eq_append_getElem h, List.map_append, List.sum_append]
  simp
theorem keysLen_le (ks : List ByteArray) (k : Nat) : keysLen (ks.take k) ≤ keysLen ks := by
  unfold keysLen
  have : ks = ks.take k ++ ks.drop k := (List.take_append_drop k ks).symm
  conv => rhs; rw [this]
  rw [List.map_append, List.sum_append]
  omega
theorem roomL_bd (f : V → Int → Int → Int × Int) : ∀ (l : List V), (∀ x ∈ l, ∀ n b, 0 ≤ n → 0 ≤ b → -1 ≤ (f x n b).1 ∧ (f x n b).1 ≤ n ∧ -4194304 ≤ (f x n b).2 ∧ (f x n b).2 ≤ b) →
    ∀ n b : Int, -1 ≤ n → -4194304 ≤ b → -1 ≤ (roomL f l n b).1 ∧ (roomL f l n b).1 ≤ n ∧ -4194304 ≤ (roomL f l n b).2 ∧ (roomL f l n b).2 ≤ b
  | [], _, n, b, h1, h2 => ⟨h1, Int.le_refl _, h2, Int.le_refl _⟩
  | x :: r, hf, n, b, h1, h2 => by
    unfold roomL
    by_cases hg : 0 ≤ n ∧ 0 ≤ b
    · rw [if_pos hg]
      have h := hf x List.mem_cons_self n b hg.1 hg.2
      have h3 := roomL_bd f r (fun y hy => hf y (List.mem_cons_of_mem _ hy)) (f x n b).1 (f x n b).2 h.1 h.2.2.1
      omega
    · rw [if_neg hg]
      exact ⟨h1, Int.le_refl _, h2, Int.le_refl _⟩
theorem roomL_stop (f : V → Int → Int → Int × Int) (l : List V) (n b : Int) (h : ¬ (0 ≤ n ∧ 0 ≤ b)) : roomL f l n b = (n, b) := by
  cases l with
  | nil => rfl
  | cons x r => unfold roomL; rw [if_neg h]
theorem roomV_bd {w : World} {B : Nat} : ∀ (m : Nat) (v : V) (lv kv : Value) (n b d : Int), At w B m v lv kv → 0 ≤ n → 0 ≤ b → -1 ≤ (roomV m v n b d).1 ∧ (roomV m v n b d).1 ≤ n ∧ -4194304 ≤ (roomV m v n b d).2 ∧ (roomV m v n b d).2 ≤ b
  | 0, _, _, _, _, _, _, h, _, _ => h.elim
  | m + 1, v, lv, kv, n, b, d, h, hn, hb => by
    obtain ⟨⟨_, _, _, hs, _, _, hk⟩, _, _, a, c, b0, o, _, hab, hi⟩ := h.opened
    unfold roomV
    by_cases hd : d < 1
    · rw [if_pos hd]
      exact ⟨Int.le_refl _, by show (-1 : Int) ≤ n; omega, by show (-4194304 : Int) ≤ -1; omega, by show (-1 : Int) ≤ b; omega⟩
    · rw [if_neg hd]
      have := roomL_bd (fun x n b => roomV m x n b (d - 1)) v.l (fun x hx n b hn hb => by
        obtain ⟨i, hi2, rfl⟩ := List.getElem_of_mem hx
        obtain ⟨lv', kv', _, h⟩ := hi i hi2
        exact roomV_bd m _ lv' kv' n b (d - 1) h hn hb) (n - 1) (b - v.s.size - keysLen v.ks) (by omega) (by omega)
      omega
theorem cells_box {w : World} (v : V) (lv kv : Value) (t : TypeId) : (w.alloc (.cells (cellsV v lv kv) t)).cell? ⟨w.heap.size, 4, none⟩ = some kv ∧ (w.alloc (.cells (cellsV v lv kv) t)).cell? ⟨w.heap.size, 3, none⟩ = some lv ∧ (w.alloc (.cells (cellsV v lv kv) t)).cell? ⟨w.heap.size, 2, none⟩ = some (.string v.s) := by
  unfold cellsV
  simp

set_option maxRecDepth 100000 in
set_option maxHeartbeats 4000000 in
theorem refRoom_any (m : Nat) : ∀ (v : V) (lv kv : Value) (n b d : Int) (w : World), At w w.heap.size m v lv kv → 0 ≤ n → n ≤ 1099511627776 → 0 ≤ b → b ≤ 1099511627776 → 0 ≤ d → d ≤ 1099511627776 →
    Calls Tryz.prog 39 #[.agg (cellsV v lv kv), .int .i64 n, .int .i64 b, .int .i64 d] w fun e w' => e = .returned (.tuple #[.int .i64 (roomV m v n b d).1, .int .i64 (roomV m v n b d).2]) ∧ Below w.heap.size w w' := by
  induction m with
  | zero => intro v lv kv n b d w h; exact h.elim
  | succ m ih =>
    intro v lv kv n b d w h hn0 hn1 hb0 hb1 hd0 hd1
    obtain ⟨hsm, ha, _, a, c, B, o, rfl, hab, hi⟩ := h.opened
    obtain ⟨A, ad, ck, rfl, hA, hac⟩ := ha.1.dest
    rw [List.length_map] at hA
    rw [List.length_map]
    obtain ⟨sk1, sk2, sf, ss, sl, sks, skl⟩ := hsm
    by_cases hd : d < 1
    · have e1 : roomV (m + 1) v n b d = (-1, -1) := by unfold roomV; rw [if_pos hd]
      rw [e1]
      unfold cellsV
      go_enter Tryz.func39, Tryz.ntmps39
      go_wp2_with fail
      go_ret2
      exact ⟨rfl, (Below.refl _ _).alloc (Nat.le_refl _) _⟩
    · unfold cellsV
      go_enter Tryz.func39, Tryz.ntmps39
      go_wp2_with fail
      go_loop [2, 10] (fun x i => ∃ k : Nat, k ≤ v.ks.length ∧ i = .int .i64 k ∧ x = .int .i64 (b - v.s.size - (keysLen (v.ks.take k) : Nat))) (fun _ i => v.ks.length - (intOf i).toNat)
      case atStart => exact ⟨0, Nat.zero_le _, rfl, by simp [keysLen]⟩
      case round =>
        obtain ⟨k, hk, rfl, rfl⟩ := hrel
        have hkl := keysLen_le v.ks k
        by_cases hlt : k < v.ks.length
        · obtain ⟨rfl, hadb⟩ := hA (by omega)
          have hkk := keysLen_up v.ks k hlt
          have hkl2 := keysLen_le v.ks (k + 1)
          have hc0 : (w.alloc (.cells (cellsV v (.slice a v.l.length c) (.slice (some ad) v.ks.length ck)) 27)).cell? (ad.add k) = some (.string v.ks[k]) := by
            rw [cell_old (by rw [add_block]; exact hadb)]
            exact hac k _ (by simp [hlt])
          unfold cellsV at hc0
          have hks1 : v.ks[k].size ≤ 1048576 := by omega
          have HK := Lib.hid hkk
          clear hkk
          go_wp2_with fail
          go_round
          case rel => exact ⟨k + 1, by omega, by go_num, by rw [HK.out, Int.natCast_add]; congr 1; omega⟩
          case measure => simp [intOf]; omega
        · have hk2 : v.ks.take k = v.ks := List.take_of_length_le (by omega)
          rw [hk2]
          have hkz : keysLen v.ks ≤ 1048576 := skl
          go_wp2_with fail
          go_loopw [1, 2, 11] (fun x y i W => ∃ (k : Nat) (n' b' : Int), k ≤ v.l.length ∧ i = .int .i64 k ∧ x = .int .i64 n' ∧ y = .int .i64 b' ∧ -1 ≤ n' ∧ n' ≤ n ∧ -4194304 ≤ b' ∧ b' ≤ b ∧
              roomL (fun x n b => roomV m x n b (d - 1)) v.l (n - 1) (b - v.s.size - keysLen v.ks) = roomL (fun x n b => roomV m x n b (d - 1)) (v.l.drop k) n' b' ∧ Below (w.heap.size + 1) (w.alloc (.cells (cellsV v (.slice a v.l.length c) (.slice A v.ks.length ck)) 27)) W) (fun _ _ i _ => v.l.length - (intOf i).toNat)
          case atStart => exact ⟨0, n - 1, b - v.s.size - keysLen v.ks, Nat.zero_le _, rfl, rfl, rfl, by omega, by omega, by omega, by omega, rfl, Below.refl _ _⟩
          case round =>
            obtain ⟨j, n', b', hj, rfl, rfl, rfl, q1, q2, q3, q4, q5, q6⟩ := hrel
            obtain ⟨bx4, bx3, _⟩ := cells_box (w := w) v (.slice a v.l.length c) (.slice A v.ks.length ck) 27
            have hx3 : wr.cell? ⟨w.heap.size, 3, none⟩ = some (.slice a v.l.length c) := (q6.cell (p := ⟨w.heap.size, 3, none⟩) (Nat.lt_succ_self _)).trans bx3
            have hold : ∀ p : Addr, p.block < w.heap.size → wr.cell? p = w.cell? p := fun p hp => (q6.cell (p := p) (Nat.lt_succ_of_lt hp)).trans (cell_old hp)
            have hsz := q6.size
            rw [World.size_alloc] at hsz
            have Q5 := Lib.hid q5
            have Q6 := Lib.hid q6
            have HOLD := Lib.hid hold
            clear q5 q6 hold bx4 bx3 hk2 hac
            by_cases hlt : j < v.l.length
            · by_cases hn : 0 ≤ n'
              · by_cases hb : 0 ≤ b'
                · obtain ⟨lv', kv', h5, hAt⟩ := hi j hlt
                  obtain ⟨rfl, hBw⟩ := hab (by omega)
                  obtain ⟨f0, f1, f2, f3, f4⟩ := h5.keep hBw HOLD.out
                  have hAt' := At.more (by omega : w.heap.size ≤ wr.heap.size) _ _ _ _ (At.keep HOLD.out _ _ _ _ hAt)
                  have hbd := roomV_bd _ _ _ _ n' b' (d - 1) hAt' hn hb
                  have hdrop : v.l.drop j = v.l[j] :: v.l.drop (j + 1) := List.drop_eq_getElem_cons hlt
                  have hst : roomL (fun x n b => roomV m x n b (d - 1)) (v.l.drop j) n' b' = roomL (fun x n b => roomV m x n b (d - 1)) (v.l.drop (j + 1)) (roomV m v.l[j] n' b' (d - 1)).1 (roomV m v.l[j] n' b' (d - 1)).2 := by
                    rw [hdrop]
                    show (if 0 ≤ n' ∧ 0 ≤ b' then _ else _) = _
                    rw [if_pos ⟨hn, hb⟩]
                  have HST := Lib.hid hst
                  have HAT := Lib.hid hAt'
                  have HIH := Lib.hid ih
                  clear hi hab hAt hAt' h5 ih hdrop hst
                  obtain ⟨r, hr⟩ : ∃ r, roomV m v.l[j] n' b' (d - 1) = r := ⟨_, rfl⟩
                  obtain ⟨r1, r2⟩ := r
                  rw [hr] at hbd
                  simp only at hbd
                  have HR := Lib.hid hr
                  clear hr
                  obtain ⟨hb1, hb2, hb3, hb4⟩ := hbd
                  go_wp2_with fail
                  refine (HIH.out v.l[j] lv' kv' n' b' (d - 1) wr HAT.out hn (by omega) hb (by omega) (by omega) (by omega)).mono ?_
                  rintro e w2 ⟨rfl, b2⟩
                  rw [HR.out]
                  have hsz2 := b2.size
                  go_wp2_with fail
                  go_roundw
                  case rel => exact ⟨j + 1, r1, r2, by omega, by go_num, rfl, rfl, by omega, by omega, by omega, by omega, by rw [Q5.out, HST.out, HR.out], Q6.out.trans (b2.mono (by omega))⟩
                  case measure => simp [intOf]; omega
                · have HS : Hid (roomL (fun x n b => roomV m x n b (d - 1)) (v.l.drop j) n' b' = (n', b')) := Lib.hid (roomL_stop _ _ _ _ (fun h => hb h.2))
                  have hev : roomV (m + 1) v n b d = (n', b') := by unfold roomV; rw [if_neg (by omega : ¬ d < 1), Q5.out, HS.out]
                  have HEV := Lib.hid hev
                  clear hi hab ih hev
                  go_wp2_with fail
                  go_ret2
                  exact ⟨by rw [HEV.out]; rfl, ((Below.refl w.heap.size w).alloc (Nat.le_refl _) _).trans (Q6.out.mono (by omega))⟩
              · have HS : Hid (roomL (fun x n b => roomV m x n b (d - 1)) (v.l.drop j) n' b' = (n', b')) := Lib.hid (roomL_stop _ _ _ _ (fun h => hn h.1))
                have hev : roomV (m + 1) v n b d = (n', b') := by unfold roomV; rw [if_neg (by omega : ¬ d < 1), Q5.out, HS.out]
                have HEV := Lib.hid hev
                clear hi hab ih hev
                go_wp2_with fail
                go_ret2
                exact ⟨by rw [HEV.out]; rfl, ((Below.refl w.heap.size w).alloc (Nat.le_refl _) _).trans (Q6.out.mono (by omega))⟩
            · have hdn : v.l.drop j = [] := List.drop_of_length_le (by omega)
              have HS : Hid (roomL (fun x n b => roomV m x n b (d - 1)) (v.l.drop j) n' b' = (n', b')) := Lib.hid (by rw [hdn]; rfl)
              have hev : roomV (m + 1) v n b d = (n', b') := by unfold roomV; rw [if_neg (by omega : ¬ d < 1), Q5.out, HS.out]
              have HEV := Lib.hid hev
              clear hi hab ih hev hdn
              go_wp2_with fail
              go_ret2
              exact ⟨by rw [HEV.out]; rfl, ((Below.refl w.heap.size w).alloc (Nat.le_refl _) _).trans (Q6.out.mono (by omega))⟩
end Go.Proofs.YtjhghhjnccjhmaaGreatDoor
/- The program's room. -/
namespace Go.Proofs.YtjhghhjnccjhmaaGreatDoor
open Go Go.RowKit

def holdsL (f : V → Int → Int → Bool × Int × Int) : List V → Int → Int → Bool × Int × Int
  | [], n, b => (true, n, b)
  | x :: r, n, b => if (f x n b).1 then holdsL f r (f x n b).2.1 (f x n b).2.2 else (false, (f x n b).2.1, (f x n b).2.2)
def holdsV : Nat → V → Int → Int → Int → Bool × Int × Int
  | 0, _, n, b, _ => (false, n, b)
  | m + 1, v, n, b, d => if n - 1 < 0 ∨ b - v.s.size - keysLen v.ks < 0 ∨ d = 0 then (false, n - 1, b - v.s.size - keysLen v.ks) else holdsL (fun x n b => holdsV m x n b (d - 1)) v.l (n - 1) (b - v.s.size - keysLen v.ks)
theorem holdsL_bd (f : V → Int → Int → Bool × Int × Int) : ∀ (l : List V), (∀ x ∈ l, ∀ n b, 0 ≤ n → 0 ≤ b → (f x n b).1 = true → 0 ≤ (f x n b).2.1 ∧ (f x n b).2.1 ≤ n ∧ 0 ≤ (f x n b).2.2 ∧ (f x n b).2.2 ≤ b) →
    ∀ n b : Int, 0 ≤ n → 0 ≤ b → (holdsL f l n b).1 = true → 0 ≤ (holdsL f l n b).2.1 ∧ (holdsL f l n b).2.1 ≤ n ∧ 0 ≤ (holdsL f l n b).2.2 ∧ (holdsL f l n b).2.2 ≤ b
  | [], _, n, b, h1, h2, _ => ⟨h1, Int.le_refl _, h2, Int.le_refl _⟩
  | x :: r, hf, n, b, h1, h2, h => by
    unfold holdsL at h ⊢
    by_cases hg : (f x n b).1 = true
    · rw [if_pos hg] at h ⊢
      have h0 := hf x List.mem_cons_self n b h1 h2 hg
      have h3 := holdsL_bd f r (fun y hy => hf y (List.mem_cons_of_mem _ hy)) (f x n b).2.1 (f x n b).2.2 h0.1 h0.2.2.1 h
      omega
    · rw [if_neg hg] at h
      cases h
theorem holdsV_bd : ∀ (m : Nat) (v : V) (n b d : Int), 0 ≤ n → 0 ≤ b → (holdsV m v n b d).1 = true → 0 ≤ (holdsV m v n b d).2.1 ∧ (holdsV m v n b d).2.1 ≤ n ∧ 0 ≤ (holdsV m v n b d).2.2 ∧ (holdsV m v n b d).2.2 ≤ b
  | 0, _, _, _, _, _, _, h => by cases h
  | m + 1, v, n, b, d, hn, hb, h => by
    unfold holdsV at h ⊢
    by_cases hd : n - 1 < 0 ∨ b - v.s.size - keysLen v.ks < 0 ∨ d = 0
    · rw [if_pos hd] at h
      cases h
    · rw [if_neg hd] at h ⊢
      have := holdsL_bd (fun x n b => holdsV m x n b (d - 1)) v.l (fun x _ n b hn hb h => holdsV_bd m x n b (d - 1) hn hb h) (n - 1) (b - v.s.size - keysLen v.ks) (by omega) (by omega) h
      omega
/-- All blocks but R are as they were. -/
def But (R : Nat) (w w' : World) : Prop := Below R w w' ∧ ∀ b, b < w.heap.size → b ≠ R → w'.heap[b]? = w.heap[b]?
theorem But.refl (R : Nat) (w : World) : But R w w := ⟨Below.refl _ _, fun _ _ _ => rfl⟩
theorem But.trans {R : Nat} {a b c : World} (h : But R a b) (k : But R b c) : But R a c :=
  ⟨h.1.trans k.1, fun i hi hn => (k.2 i (Nat.lt_of_lt_of_le hi h.1.size) hn).trans (h.2 i hi hn)⟩
theorem But.cell {R : Nat} {w w' : World} (h : But R w w') {p : Addr} (hp : p.block < w.heap.size) (hn : p.block ≠ R) : w'.cell? p = w.cell? p := by
  unfold World.cell?
  rw [h.2 p.block hp hn]
theorem But.alloc {R : Nat} {w w' : World} (h : But R w w') (hR : R ≤ w'.heap.size) (o : Obj) : But R w (w'.alloc o) :=
  ⟨h.1.alloc hR o, fun i hi hn => by
    have := h.1.size
    rw [← h.2 i hi hn]
    show (w'.heap.push o)[i]? = _
    rw [Array.getElem?_push, if_neg (by omega)]⟩
theorem But.drew {R : Nat} {w w' : World} (h : But R w w') : But R w w'.drew := ⟨h.1.drew, h.2⟩
theorem row2 {w : World} {b : Nat} {u0 u1 : Value} {t : TypeId} (hb : w.heap[b]? = some (.cells #[u0, u1] t (0, 0))) :
    w.cell? ⟨b, 0, none⟩ = some u0 ∧ w.cell? ⟨b, 1, none⟩ = some u1 ∧ w.frozen? ⟨b, 0, none⟩ = false ∧ w.frozen? ⟨b, 1, none⟩ = false := by
  simp [World.cell?, World.frozen?, hb]
theorem row_alloc {w : World} {R : Nat} {x : Obj} (h : w.heap[R]? = some x) (o : Obj) : (w.alloc o).heap[R]? = some x := by
  have := (Array.getElem?_eq_some_iff.1 h).1
  show (w.heap.push o)[R]? = _
  rw [Array.getElem?_push, if_neg (by omega)]
  exact h
theorem row_set0 {w : World} {R : Nat} {u0 u1 x : Value} {t : TypeId} (h : w.heap[R]? = some (.cells #[u0, u1] t (0, 0))) : (w.setCell ⟨R, 0, none⟩ x).heap[R]? = some (.cells #[x, u1] t (0, 0)) := by
  simp [World.setCell, Array.getElem?_modify, h]
theorem row_set1 {w : World} {R : Nat} {u0 u1 x : Value} {t : TypeId} (h : w.heap[R]? = some (.cells #[u0, u1] t (0, 0))) : (w.setCell ⟨R, 1, none⟩ x).heap[R]? = some (.cells #[u0, x] t (0, 0)) := by
  simp [World.setCell, Array.getElem?_modify, h]
theorem But.setR {R i : Nat} {w w' : World} (h : But R w w') (x : Value) : But R w (w'.setCell ⟨R, i, none⟩ x) :=
  ⟨h.1.setCell (Nat.le_refl _) x, fun k hk hn => by
    rw [← h.2 k hk hn]
    simp [World.setCell, Array.getElem?_modify]
    intro h; omega⟩
theorem open_room {w : World} {R : Nat} {u0 u1 x y : Value} {t : TypeId} (hrow : w.heap[R]? = some (.cells #[u0, u1] t (0, 0))) (hR : R < w.heap.size) (v : V) (lv kv : Value) (T : TypeId) :
    ∀ W, (((w.setCell ⟨R, 0, none⟩ x).setCell ⟨R, 1, none⟩ y).alloc (.cells (cellsV v lv kv) T)).drew = W →
    W.heap[R]? = some (.cells #[x, y] t (0, 0)) ∧ But R w W ∧ W.heap.size = w.heap.size + 1 ∧ W.cell? ⟨w.heap.size, 3, none⟩ = some lv := by
  rintro W rfl
  have e0 : ((w.setCell ⟨R, 0, none⟩ x).setCell ⟨R, 1, none⟩ y).heap.size = w.heap.size := by simp
  have hr := row_set1 (x := y) (row_set0 (x := x) hrow)
  have hbut : But R w ((w.setCell ⟨R, 0, none⟩ x).setCell ⟨R, 1, none⟩ y) := ((But.refl R w).setR x).setR y
  refine ⟨?_, (hbut.alloc (by omega) _).drew, by show (Array.push _ _).size = _; rw [Array.size_push, e0], ?_⟩
  · show (Array.push _ _)[R]? = _
    rw [Array.getElem?_push, if_neg (by rw [e0]; omega)]
    exact hr
  · have := (cells_box (w := (w.setCell ⟨R, 0, none⟩ x).setCell ⟨R, 1, none⟩ y) v lv kv T).2.1
    rw [e0] at this
    exact this
end Go.Proofs.YtjhghhjnccjhmaaGreatDoor
/- Which values are too large: the program's answer is the document's. -/
namespace Go.Proofs.YtjhghhjnccjhmaaGreatDoor
open Go Go.RowKit

def Agree (h : Bool × Int × Int) (r : Int × Int) : Prop := (h.1 = true → r = h.2) ∧ (h.1 = false → r.1 < 0 ∨ r.2 < 0)
theorem agreeL (f : V → Int → Int → Bool × Int × Int) (g : V → Int → Int → Int × Int) (hfg : ∀ x n b, 0 ≤ n → 0 ≤ b → Agree (f x n b) (g x n b) ∧ ((f x n b).1 = true → 0 ≤ (f x n b).2.1 ∧ 0 ≤ (f x n b).2.2)) :
    ∀ (l : List V) (n b : Int), 0 ≤ n → 0 ≤ b → Agree (holdsL f l n b) (roomL g l n b)
  | [], n, b, _, _ => ⟨fun _ => rfl, (fun h => by cases h)⟩
  | x :: r, n, b, hn, hb => by
    obtain ⟨⟨h1, h2⟩, h3⟩ := hfg x n b hn hb
    have eh : holdsL f (x :: r) n b = if (f x n b).1 then holdsL f r (f x n b).2.1 (f x n b).2.2 else (false, (f x n b).2.1, (f x n b).2.2) := rfl
    have er : roomL g (x :: r) n b = roomL g r (g x n b).1 (g x n b).2 := by
      show (if 0 ≤ n ∧ 0 ≤ b then _ else _) = _
      rw [if_pos ⟨hn, hb⟩]
    rw [eh, er]
    cases hg : (f x n b).1
    · have h := h2 hg
      rw [if_neg (by simp), roomL_stop _ _ _ _ (by omega)]
      exact ⟨(fun h => by cases h), fun _ => h⟩
    · rw [if_pos rfl, h1 hg]
      obtain ⟨q1, q2⟩ := h3 hg
      exact agreeL f g hfg r _ _ q1 q2
theorem agreeV : ∀ (m : Nat) (v : V) (n b d : Int), 0 ≤ n → 0 ≤ b → 0 ≤ d → Agree (holdsV m v n b d) (roomV m v n b d)
  | 0, v, n, b, d, _, _, _ => ⟨(fun h => by cases h), fun _ => Or.inl (by show (-1 : Int) < 0; omega)⟩
  | m + 1, v, n, b, d, hn, hb, hd => by
    have eh : holdsV (m + 1) v n b d = if n - 1 < 0 ∨ b - v.s.size - keysLen v.ks < 0 ∨ d = 0 then (false, n - 1, b - v.s.size - keysLen v.ks) else holdsL (fun x n b => holdsV m x n b (d - 1)) v.l (n - 1) (b - v.s.size - keysLen v.ks) := rfl
    have er : roomV (m + 1) v n b d = if d < 1 then (-1, -1) else roomL (fun x n b => roomV m x n b (d - 1)) v.l (n - 1) (b - v.s.size - keysLen v.ks) := rfl
    rw [eh, er]
    by_cases h : n - 1 < 0 ∨ b - v.s.size - keysLen v.ks < 0 ∨ d = 0
    · rw [if_pos h]
      refine ⟨(fun h => by cases h), fun _ => ?_⟩
      by_cases hd1 : d < 1
      · rw [if_pos hd1]
        exact Or.inl (by show (-1 : Int) < 0; omega)
      · rw [if_neg hd1, roomL_stop _ _ _ _ (by omega)]
        show n - 1 < 0 ∨ b - v.s.size - keysLen v.ks < 0
        omega
    · rw [if_neg h, if_neg (by omega : ¬ d < 1)]
      exact agreeL _ _ (fun x n b hn hb => ⟨agreeV m x n b (d - 1) hn hb (by omega), fun ht => by
        have := holdsV_bd m x n b (d - 1) hn hb ht
        exact ⟨this.1, this.2.2.1⟩⟩) v.l _ _ (by omega) (by omega)
def largeV (m : Nat) (v : V) : Bool := !(holdsV m v 65536 1048576 10000).1
theorem large_is (m : Nat) (v : V) : (decide ((roomV m v 65536 1048576 10000).1 < 0) || decide ((roomV m v 65536 1048576 10000).2 < 0)) = largeV m v := by
  obtain ⟨h1, h2⟩ := agreeV m v 65536 1048576 10000 (by omega) (by omega) (by omega)
  unfold largeV
  cases hh : (holdsV m v 65536 1048576 10000).1
  · rcases h2 hh with h | h
    · rw [decide_eq_true h]; rfl
    · rw [decide_eq_true h, Bool.or_true]; rfl
  · obtain ⟨q1, _, q3, _⟩ := holdsV_bd m v 65536 1048576 10000 (by omega) (by omega) hh
    rw [h1 hh, decide_eq_false (by omega), decide_eq_false (by omega)]
    rfl
set_option maxRecDepth 100000 in
set_option maxHeartbeats 1000000 in
theorem refLarge_any (m : Nat) (v : V) (lv kv : Value) (w : World) (h : At w w.heap.size m v lv kv) :
    Calls Tryz.prog 18 #[.agg (cellsV v lv kv)] w fun e w' => e = .returned (.bool (largeV m v)) ∧ Below w.heap.size w w' := by
  have hl := large_is m v
  have hr := refRoom_any m v lv kv 65536 1048576 10000 (w.alloc (.cells (cellsV v lv kv) 27)) (At.more (by simp) _ _ _ _ (h.below ((Below.refl _ _).alloc (Nat.le_refl _) _))) (by omega) (by omega) (by omega) (by omega) (by omega) (by omega)
  obtain ⟨a1, n1, k1, a2, n2, k2, rfl, rfl⟩ := h.slices
  obtain ⟨r, he⟩ : ∃ r, roomV m v 65536 1048576 10000 = r := ⟨_, rfl⟩
  rw [he] at hr hl
  rw [← hl]
  obtain ⟨r1, r2⟩ := r
  have hsf := run_store_float Tryz.prog
  unfold cellsV at hr ⊢
  clear hl he h
  go_enter Tryz.func18, Tryz.ntmps18
  go_wp2_with fail
  refine hr.mono ?_
  rintro e w1 ⟨rfl, b1⟩
  have hb : Below w.heap.size w w1 := ((Below.refl w.heap.size w).alloc (Nat.le_refl _) _).trans (b1.mono (by simp))
  by_cases q1 : r1 < 0
  · go_wp2_with fail
    go_ret
    exact ⟨by simp [q1], hb⟩
  · go_wp2_with fail
    go_ret
    exact ⟨by simp, hb⟩
end Go.Proofs.YtjhghhjnccjhmaaGreatDoor
