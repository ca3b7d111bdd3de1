/- The document's room. -/
import Derived.Test.YtpobdmkidopnnaaGreatDoorGAA
import Derived.LoopTactic
import Derived.ChangeAlike
import Derived.RegionTactic
import Derived.Test.YtpobdmkidopnnaaGreatDoorShelf
import Derived.Shelf.Strings.Builder1
import Derived.Deep.DeepCutAuto
namespace Go.Proofs.YtpobdmkidopnnaaGreatDoor
open Go Go.RowKit

def roomL (f : V → Int → Int → Int × Int) : List V → Int → Int → Int × Int
  | [], n, b => (n, b)
  | x :: r, n, b => if 0 ≤ n ∧ 0 ≤ b then roomL f r (f x n b).1 (f x n b).2 else (n, b)
def roomV : Nat → V → Int → Int → Int → Int × Int
  | 0, _, _, _, _ => (-1, -1)
  | m + 1, v, n, b, d => if d < 1 then (-1, -1) else roomL (fun x n b => roomV m x n b (d - 1)) v.l (n - 1) (b - v.s.size - keysLen v.ks)
theorem keysLen_up (ks : List ByteArray) (k : Nat) (h : k < ks.length) : keysLen (ks.take (k + 1)) = keysLen (ks.take k) + ks[k].size := by
  unfold keysLen
  rw [List.take_succ_eq_append_getElem h, List.map_append, List.sum_append]
  simp
theorem keysLen_le (ks : List ByteArray) (k : Nat) : keysLen (ks.take k) ≤ keysLen ks := by
  unfold keysLen
  have : ks = ks.take k ++ ks.drop k := (List.take_append_drop k ks).symm
  conv => rhs; rw [this]
  rw [List.map_append, List.sum_append]
  omega
theorem roomL_bd (f : V → Int → Int → Int × Int) : ∀ (l : List V), (∀ x ∈ l, ∀ n b, 0 ≤ n → 0 ≤ b → -1 ≤ (f x n b).1 ∧ (f x n b).1 ≤ n ∧ -4194304 ≤ (f x n b).2 ∧ (f x n b).2 ≤ b) →
    ∀ n b : Int, -1 ≤ n → -4194304 ≤ b → -1 ≤ (roomL f l n b).1 ∧ (roomL f l n b).1 ≤ n ∧ -4194304 ≤ (roomL f l n b).2 ∧ (roomL f l n b).2 ≤ b
  | [], _, n, b, h1, h2 => ⟨h1, Int.le_refl _, h2, Int.le_refl _⟩
  | x :: r, hf, n, b, h1, h2 => by
    unfold roomL
    by_cases hg : 0 ≤ n ∧ 0 ≤ b
    · rw [if_pos hg]
      have h := hf x List.mem_cons_self n b hg.1 hg.2
      have h3 := roomL_bd f r (fun y hy => hf y (List.mem_cons_of_mem _ hy)) (f x n b).1 (f x n b).2 h.1 h.2.2.1
      omega
    · rw [if_neg hg]
      exact ⟨h1, Int.le_refl _, h2, Int.le_refl _⟩
theorem roomL_stop (f : V → Int → Int → Int × Int) (l : List V) (n b : Int) (h : ¬ (0 ≤ n ∧ 0 ≤ b)) : roomL f l n b = (n, b) := by
  cases l with
  | nil => rfl
  | cons x r => unfold roomL; rw [if_neg h]
theorem roomV_bd {w : World} {B : Nat} : ∀ (m : Nat) (v : V) (lv kv : Value) (n b d : Int), At w B m v lv kv → 0 ≤ n → 0 ≤ b → -1 ≤ (roomV m v n b d).1 ∧ (roomV m v n b d).1 ≤ n ∧ -4194304 ≤ (roomV m v n b d).2 ∧ (roomV m v n b d).2 ≤ b
  | 0, _, _, _, _, _, _, h, _, _ => h.elim
  | m + 1, v, lv, kv, n, b, d, h, hn, hb => by
    obtain ⟨⟨_, _, _, hs, _, _, hk⟩, _, _, a, c, b0, o, _, hab, hi⟩ := h.opened
    unfold roomV
    by_cases hd : d < 1
    · rw [if_pos hd]
      exact ⟨Int.le_refl _, by show (-1 : Int) ≤ n; omega, by show (-4194304 : Int) ≤ -1; omega, by show (-1 : Int) ≤ b; omega⟩
    · rw [if_neg hd]
      have := roomL_bd (fun x n b => roomV m x n b (d - 1)) v.l (fun x hx n b hn hb => by
        obtain ⟨i, hi2, rfl⟩ := List.getElem_of_mem hx
        obtain ⟨lv', kv', _, h⟩ := hi i hi2
        exact roomV_bd m _ lv' kv' n b (d - 1) h hn hb) (n - 1) (b - v.s.size - keysLen v.ks) (by omega) (by omega)
      omega
theorem cells_box {w : World} (v : V) (lv kv : Value) (t : TypeId) : (w.alloc (.cells (cellsV v lv kv) t)).cell? ⟨w.heap.size, 4, none⟩ = some kv ∧ (w.alloc (.cells (cellsV v lv kv) t)).cell? ⟨w.heap.size, 3, none⟩ = some lv ∧ (w.alloc (.cells (cellsV v lv kv) t)).cell? ⟨w.heap.size, 2, none⟩ = some (.string v.s) := by
  unfold cellsV
  simp

end Go.Proofs.YtpobdmkidopnnaaGreatDoor
namespace Go.Proofs.YtpobdmkidopnnaaGreatDoor
open Go Go.RowKit

def holdsL (f : V → Int → Int → Bool × Int × Int) : List V → Int → Int → Bool × Int × Int
  | [], n, b => (true, n, b)
  | x :: r, n, b => if (f x n b).1 then holdsL f r (f x n b).2.1 (f x n b).2.2 else (false, (f x n b).2.1, (f x n b).2.2)
def holdsV : Nat → V → Int → Int → Int → Bool × Int × Int
  | 0, _, n, b, _ => (false, n, b)
  | m + 1, v, n, b, d => if n - 1 < 0 ∨ b - v.s.size - keysLen v.ks < 0 ∨ d = 0 then (false, n - 1, b - v.s.size - keysLen v.ks) else holdsL (fun x n b => holdsV m x n b (d - 1)) v.l (n - 1) (b - v.s.size - keysLen v.ks)
theorem holdsL_bd (f : V → Int → Int → Bool × Int × Int) : ∀ (l : List V), (∀ x ∈ l, ∀ n b, 0 ≤ n → 0 ≤ b → (f x n b).1 = true → 0 ≤ (f x n b).2.1 ∧ (f x n b).2.1 ≤ n ∧ 0 ≤ (f x n b).2.2 ∧ (f x n b).2.2 ≤ b) →
    ∀ n b : Int, 0 ≤ n → 0 ≤ b → (holdsL f l n b).1 = true → 0 ≤ (holdsL f l n b).2.1 ∧ (holdsL f l n b).2.1 ≤ n ∧ 0 ≤ (holdsL f l n b).2.2 ∧ (holdsL f l n b).2.2 ≤ b
  | [], _, n, b, h1, h2, _ => ⟨h1, Int.le_refl _, h2, Int.le_refl _⟩
  | x :: r, hf, n, b, h1, h2, h => by
    unfold holdsL at h ⊢
    by_cases hg : (f x n b).1 = true
    · rw [if_pos hg] at h ⊢
      have h0 := hf x List.mem_cons_self n b h1 h2 hg
      have h3 := holdsL_bd f r (fun y hy => hf y (List.mem_cons_of_mem _ hy)) (f x n b).2.1 (f x n b).2.2 h0.1 h0.2.2.1 h
      omega
    · rw [if_neg hg] at h
      cases h
theorem holdsV_bd : ∀ (m : Nat) (v : V) (n b d : Int), 0 ≤ n → 0 ≤ b → (holdsV m v n b d).1 = true → 0 ≤ (holdsV m v n b d).2.1 ∧ (holdsV m v n b d).2.1 ≤ n ∧ 0 ≤ (holdsV m v n b d).2.2 ∧ (holdsV m v n b d).2.2 ≤ b
  | 0, _, _, _, _, _, _, h => by cases h
  | m + 1, v, n, b, d, hn, hb, h => by
    unfold holdsV at h ⊢
    by_cases hd : n - 1 < 0 ∨ b - v.s.size - keysLen v.ks < 0 ∨ d = 0
    · rw [if_pos hd] at h
      cases h
    · rw [if_neg hd] at h ⊢
      have := holdsL_bd (fun x n b => holdsV m x n b (d - 1)) v.l (fun x _ n b hn hb h => holdsV_bd m x n b (d - 1) hn hb h) (n - 1) (b - v.s.size - keysLen v.ks) (by omega) (by omega) h
      omega
/-- All blocks but R are as they were. -/
def But (R : Nat) (w w' : World) : Prop := Below R w w' ∧ ∀ b, b < w.heap.size → b ≠ R → w'.heap[b]? = w.heap[b]?
theorem But.refl (R : Nat) (w : World) : But R w w := ⟨Below.refl _ _, fun _ _ _ => rfl⟩
theorem But.trans {R : Nat} {a b c : World} (h : But R a b) (k : But R b c) : But R a c :=
  ⟨h.1.trans k.1, fun i hi hn => (k.2 i (Nat.lt_of_lt_of_le hi h.1.size) hn).trans (h.2 i hi hn)⟩
theorem But.cell {R : Nat} {w w' : World} (h : But R w w') {p : Addr} (hp : p.block < w.heap.size) (hn : p.block ≠ R) : w'.cell? p = w.cell? p := by
  unfold World.cell?
  rw [h.2 p.block hp hn]
theorem But.alloc {R : Nat} {w w' : World} (h : But R w w') (hR : R ≤ w'.heap.size) (o : Obj) : But R w (w'.alloc o) :=
  ⟨h.1.alloc hR o, fun i hi hn => by
    have := h.1.size
    rw [← h.2 i hi hn]
    show (w'.heap.push o)[i]? = _
    rw [Array.getElem?_push, if_neg (by omega)]⟩
theorem But.drew {R : Nat} {w w' : World} (h : But R w w') : But R w w'.drew := ⟨h.1.drew, h.2⟩
theorem row2 {w : World} {b : Nat} {u0 u1 : Value} {t : TypeId} (hb : w.heap[b]? = some (.cells #[u0, u1] t (0, 0))) :
    w.cell? ⟨b, 0, none⟩ = some u0 ∧ w.cell? ⟨b, 1, none⟩ = some u1 ∧ w.frozen? ⟨b, 0, none⟩ = false ∧ w.frozen? ⟨b, 1, none⟩ = false := by
  simp [World.cell?, World.frozen?, hb]
theorem row_alloc {w : World} {R : Nat} {x : Obj} (h : w.heap[R]? = some x) (o : Obj) : (w.alloc o).heap[R]? = some x := by
  have := (Array.getElem?_eq_some_iff.1 h).1
  show (w.heap.push o)[R]? = _
  rw [Array.getElem?_push, if_neg (by omega)]
  exact h
theorem row_set0 {w : World} {R : Nat} {u0 u1 x : Value} {t : TypeId} (h : w.heap[R]? = some (.cells #[u0, u1] t (0, 0))) : (w.setCell ⟨R, 0, none⟩ x).heap[R]? = some (.cells #[x, u1] t (0, 0)) := by
  simp [World.setCell, Array.getElem?_modify, h]
theorem row_set1 {w : World} {R : Nat} {u0 u1 x : Value} {t : TypeId} (h : w.heap[R]? = some (.cells #[u0, u1] t (0, 0))) : (w.setCell ⟨R, 1, none⟩ x).heap[R]? = some (.cells #[u0, x] t (0, 0)) := by
  simp [World.setCell, Array.getElem?_modify, h]
theorem But.setR {R i : Nat} {w w' : World} (h : But R w w') (x : Value) : But R w (w'.setCell ⟨R, i, none⟩ x) :=
  ⟨h.1.setCell (Nat.le_refl _) x, fun k hk hn => by
    rw [← h.2 k hk hn]
    simp [World.setCell, Array.getElem?_modify]
    intro h; omega⟩
theorem open_room {w : World} {R : Nat} {u0 u1 x y : Value} {t : TypeId} (hrow : w.heap[R]? = some (.cells #[u0, u1] t (0, 0))) (hR : R < w.heap.size) (v : V) (lv kv : Value) (T : TypeId) :
    ∀ W, (((w.setCell ⟨R, 0, none⟩ x).setCell ⟨R, 1, none⟩ y).alloc (.cells (cellsV v lv kv) T)).drew = W →
    W.heap[R]? = some (.cells #[x, y] t (0, 0)) ∧ But R w W ∧ W.heap.size = w.heap.size + 1 ∧ W.cell? ⟨w.heap.size, 3, none⟩ = some lv := by
  rintro W rfl
  have e0 : ((w.setCell ⟨R, 0, none⟩ x).setCell ⟨R, 1, none⟩ y).heap.size = w.heap.size := by simp
  have hr := row_set1 (x := y) (row_set0 (x := x) hrow)
  have hbut : But R w ((w.setCell ⟨R, 0, none⟩ x).setCell ⟨R, 1, none⟩ y) := ((But.refl R w).setR x).setR y
  refine ⟨?_, (hbut.alloc (by omega) _).drew, by show (Array.push _ _).size = _; rw [Array.size_push, e0], ?_⟩
  · show (Array.push _ _)[R]? = _
    rw [Array.getElem?_push, if_neg (by rw [e0]; omega)]
    exact hr
  · have := (cells_box (w := (w.setCell ⟨R, 0, none⟩ x).setCell ⟨R, 1, none⟩ y) v lv kv T).2.1
    rw [e0] at this
    exact this
set_option maxRecDepth 100000 in
set_option maxHeartbeats 4000000 in
theorem holds_any (m : Nat) : ∀ (v : V) (lv kv : Value) (n b d : Int) (R : Nat) (w : World), At w R m v lv kv → R < w.heap.size → w.heap[R]? = some (.cells #[.int .i64 n, .int .i64 b] 166 (0, 0)) → 0 ≤ n → n ≤ 1099511627776 → 0 ≤ b → b ≤ 1099511627776 → 0 ≤ d → d ≤ 1099511627776 →
    Calls Tryz.prog 153 #[.pointer (some ⟨R, 0, none⟩), .agg (cellsV v lv kv), .int .i64 d] w fun e w' => e = .returned (.bool (holdsV m v n b d).1) ∧ w'.heap[R]? = some (.cells #[.int .i64 (holdsV m v n b d).2.1, .int .i64 (holdsV m v n b d).2.2] 166 (0, 0)) ∧ But R w w' := by
  induction m with
  | zero => intro v lv kv n b d R w h; exact h.elim
  | succ m ih =>
    intro v lv kv n b d R w h hR hrow hn0 hn1 hb0 hb1 hd0 hd1
    obtain ⟨hsm, ha, _, a, c, B, o, rfl, hab, hi⟩ := h.opened
    obtain ⟨A, ad, ck, rfl, hA, hac⟩ := ha.1.dest
    rw [List.length_map] at hA
    rw [List.length_map]
    obtain ⟨sk1, sk2, sf, ss, sl, sks, skl⟩ := hsm
    obtain ⟨r0, r1, z0, z1⟩ := row2 hrow
    have hne : ¬ (w.heap.size = R) := by omega
    have hne' : ¬ (R = w.heap.size) := by omega
    unfold cellsV
    go_enter Tryz.func153, Tryz.ntmps153
    go_wp2_with fail
    go_region
    go_wp2_with fail
    have hop := open_room (x := .int .i64 (n - 1)) (y := .int .i64 (b - v.s.size)) hrow hR v (.slice a v.l.length c) (.slice A v.ks.length ck) 27
    unfold cellsV at hop
    generalize hw1 : (((w.setCell ⟨R, 0, none⟩ (.int .i64 (n - 1))).setCell ⟨R, 1, none⟩ (.int .i64 (b - v.s.size))).alloc (Obj.cells #[.int .i64 v.k, .float .f64 v.f, .string v.s, .slice a v.l.length c, .slice A v.ks.length ck] 27)).drew = w1
    obtain ⟨o1, o2, o3, o4⟩ := hop w1 hw1
    have O1 := Lib.hid o1
    have O2 := Lib.hid o2
    clear hop hw1 o1 o2 r0 r1 z0 z1 hrow
    go_loopw [31] (fun i W => ∃ k : Nat, k ≤ v.ks.length ∧ i = .int .i64 k ∧ W.heap[R]? = some (.cells #[.int .i64 (n - 1), .int .i64 (b - v.s.size - (keysLen (v.ks.take k) : Nat))] 166 (0, 0)) ∧ But R w1 W) (fun i _ => v.ks.length - (intOf i).toNat)
    case atStart => exact ⟨0, Nat.zero_le _, rfl, by have := O1.out; simp only [keysLen, List.take_zero, List.map_nil, List.sum_nil, Int.natCast_zero, Int.sub_zero]; exact this, But.refl _ _⟩
    case round =>
      obtain ⟨k, hk, rfl, hrow, q⟩ := hrel
      have hkl := keysLen_le v.ks k
      obtain ⟨r0, r1, z0, z1⟩ := row2 hrow
      have HROW := Lib.hid hrow
      have Q := Lib.hid q
      clear hrow q
      by_cases hlt : k < v.ks.length
      · obtain ⟨rfl, hadb⟩ := hA (by omega)
        have hkk := keysLen_up v.ks k hlt
        have hkl2 := keysLen_le v.ks (k + 1)
        have hks1 : v.ks[k].size ≤ 1048576 := by omega
        have HK := Lib.hid hkk
        have hc0 : wr.cell? (ad.add k) = some (.string v.ks[k]) := by
          rw [Q.out.1.cell (p := ad.add k) (by rw [add_block]; exact hadb), O2.out.1.cell (p := ad.add k) (by rw [add_block]; exact hadb)]
          exact hac k _ (by simp [hlt])
        clear hkk ih hi hab hac
        go_wp2_with fail
        go_roundw
        case rel => exact ⟨k + 1, by omega, by go_num, by rw [HK.out, Int.natCast_add, ← Int.sub_sub]; exact row_set1 HROW.out, Q.out.setR _⟩
        case measure => simp [intOf]; omega
      · have hk2 : v.ks.take k = v.ks := List.take_of_length_le (by omega)
        rw [hk2] at HROW r1
        clear hkl
        have hx3 : wr.cell? ⟨w.heap.size, 3, none⟩ = some (.slice a v.l.length c) := (Q.out.cell (p := ⟨w.heap.size, 3, none⟩) (by show w.heap.size < w1.heap.size; omega) (by show w.heap.size ≠ R; omega)).trans o4
        have hzz := Q.out.1.size
        clear hk2
        by_cases c1 : n - 1 < 0
        · have hev : holdsV (m + 1) v n b d = (false, n - 1, b - v.s.size - keysLen v.ks) := by unfold holdsV; rw [if_pos (Or.inl c1)]
          have HEV := Lib.hid hev
          clear hev ih hi hab hac
          go_wp2_with fail
          go_ret
          exact ⟨by rw [HEV.out]; rfl, by rw [HEV.out]; exact HROW.out, O2.out.trans Q.out⟩
        · by_cases c2 : b - v.s.size - keysLen v.ks < 0
          · have hev : holdsV (m + 1) v n b d = (false, n - 1, b - v.s.size - keysLen v.ks) := by unfold holdsV; rw [if_pos (Or.inr (Or.inl c2))]
            have HEV := Lib.hid hev
            clear hev ih hi hab hac
            go_wp2_with fail
            go_ret
            exact ⟨by rw [HEV.out]; rfl, by rw [HEV.out]; exact HROW.out, O2.out.trans Q.out⟩
          · by_cases c3 : d = 0
            · subst c3
              have hev : holdsV (m + 1) v n b 0 = (false, n - 1, b - v.s.size - keysLen v.ks) := by unfold holdsV; rw [if_pos (Or.inr (Or.inr rfl))]
              have HEV := Lib.hid hev
              clear hev ih hi hab hac
              go_wp2_with fail
              go_ret
              exact ⟨by rw [HEV.out]; rfl, by rw [HEV.out]; exact HROW.out, O2.out.trans Q.out⟩
            · have d3 : (d == 0) = false := by simpa using c3
              have hev : holdsV (m + 1) v n b d = holdsL (fun x n b => holdsV m x n b (d - 1)) v.l (n - 1) (b - v.s.size - keysLen v.ks) := by
                show (if _ then _ else _) = _
                rw [if_neg (by omega)]
              have HEV := Lib.hid hev
              have C3 : 1 ≤ d := by omega
              clear hev c3 hac
              go_wp2_with fail
              go_loopw [64] (fun i W => ∃ (j : Nat) (n' b' : Int), j ≤ v.l.length ∧ i = .int .i64 j ∧ 0 ≤ n' ∧ n' ≤ n ∧ 0 ≤ b' ∧ b' ≤ b ∧ W.heap[R]? = some (.cells #[.int .i64 n', .int .i64 b'] 166 (0, 0)) ∧
                  holdsL (fun x n b => holdsV m x n b (d - 1)) v.l (n - 1) (b - v.s.size - keysLen v.ks) = holdsL (fun x n b => holdsV m x n b (d - 1)) (v.l.drop j) n' b' ∧ But R w1 W) (fun i _ => v.l.length - (intOf i).toNat)
              case atStart => exact ⟨0, n - 1, b - v.s.size - keysLen v.ks, Nat.zero_le _, rfl, by omega, by omega, by omega, by omega, HROW.out, rfl, Q.out⟩
              case round =>
                obtain ⟨j, n', b', hj, rfl, q1, q2, q3, q4, q5, q6, q7⟩ := hrel
                have Q5 := Lib.hid q5
                have Q6 := Lib.hid q6
                have Q7 := Lib.hid q7
                have hz7 := q7.1.size
                clear q5 q6 q7 hx3 r0 r1 z0 z1
                by_cases hlt2 : j < v.l.length
                · obtain ⟨lv', kv', h5, hAt⟩ := hi j hlt2
                  obtain ⟨rfl, hBw⟩ := hab (by omega)
                  have hbelow : Below R w wr := O2.out.1.trans Q7.out.1
                  obtain ⟨f0, f1, f2, f3, f4⟩ := h5.keep hBw (fun p hp => hbelow.cell hp)
                  obtain ⟨a1, n1, k1, a2, n2, k2, rfl, rfl⟩ := hAt.slices
                  have HAT := Lib.hid (hAt.below hbelow)
                  have hsf := run_store_float Tryz.prog
                  have hdrop : v.l.drop j = v.l[j] :: v.l.drop (j + 1) := List.drop_eq_getElem_cons hlt2
                  have HST : Hid (holdsL (fun x n b => holdsV m x n b (d - 1)) (v.l.drop j) n' b' = if (holdsV m v.l[j] n' b' (d - 1)).1 then holdsL (fun x n b => holdsV m x n b (d - 1)) (v.l.drop (j + 1)) (holdsV m v.l[j] n' b' (d - 1)).2.1 (holdsV m v.l[j] n' b' (d - 1)).2.2 else (false, (holdsV m v.l[j] n' b' (d - 1)).2.1, (holdsV m v.l[j] n' b' (d - 1)).2.2)) := Lib.hid (by rw [hdrop]; rfl)
                  have HBD := Lib.hid (holdsV_bd m v.l[j] n' b' (d - 1) q1 q3)
                  have HIH := Lib.hid ih
                  clear hi hab hAt h5 ih hdrop hbelow
                  obtain ⟨r, hr⟩ : ∃ r, holdsV m v.l[j] n' b' (d - 1) = r := ⟨_, rfl⟩
                  obtain ⟨r0, r1, r2⟩ := r
                  have HR := Lib.hid hr
                  rw [hr] at HBD HST
                  clear hr
                  go_wp2_with fail
                  have hRw : R ≤ wr.heap.size := by omega
                  refine (HIH.out v.l[j] _ _ n' b' (d - 1) R _ (HAT.out.below ((Below.refl R wr).alloc hRw _)) (by simp; omega) (row_alloc Q5.out _) q1 (by omega) q3 (by omega) (by omega) (by omega)).mono ?_
                  rintro e w2 ⟨rfl, hrow2, hbut2⟩
                  rw [HR.out] at hrow2 ⊢
                  have HB2 : Hid (But R w1 w2) := Lib.hid ((Q7.out.trans ((But.refl R wr).alloc hRw _)).trans hbut2)
                  have HROW2 := Lib.hid hrow2
                  have hz2 := HB2.out.1.size
                  clear hrow2 hbut2
                  cases r0
                  · go_wp2_with fail
                    go_ret
                    exact ⟨by rw [HEV.out, Q6.out, HST.out]; rfl, by rw [HEV.out, Q6.out, HST.out]; exact HROW2.out, O2.out.trans HB2.out⟩
                  · obtain ⟨g1, g2, g3, g4⟩ := HBD.out rfl
                    have g1 : 0 ≤ r1 := g1
                    have g2 : r1 ≤ n' := g2
                    have g3 : 0 ≤ r2 := g3
                    have g4 : r2 ≤ b' := g4
                    go_wp2_with fail
                    go_roundw
                    case rel => exact ⟨j + 1, r1, r2, by omega, by go_num, by omega, by omega, by omega, by omega, HROW2.out, by rw [Q6.out, HST.out]; rfl, HB2.out⟩
                    case measure => simp [intOf]; omega
                · have hdn : v.l.drop j = [] := List.drop_of_length_le (by omega)
                  have HS : Hid (holdsL (fun x n b => holdsV m x n b (d - 1)) (v.l.drop j) n' b' = (true, n', b')) := Lib.hid (by rw [hdn]; rfl)
                  clear hi hab ih hdn
                  go_wp2_with fail
                  go_ret
                  exact ⟨by rw [HEV.out, Q6.out, HS.out]; rfl, by rw [HEV.out, Q6.out, HS.out]; exact Q5.out, O2.out.trans Q7.out⟩
end Go.Proofs.YtpobdmkidopnnaaGreatDoor
namespace Go.Proofs.YtpobdmkidopnnaaGreatDoor
open Go Go.RowKit

def Agree (h : Bool × Int × Int) (r : Int × Int) : Prop := (h.1 = true → r = h.2) ∧ (h.1 = false → r.1 < 0 ∨ r.2 < 0)
theorem agreeL (f : V → Int → Int → Bool × Int × Int) (g : V → Int → Int → Int × Int) (hfg : ∀ x n b, 0 ≤ n → 0 ≤ b → Agree (f x n b) (g x n b) ∧ ((f x n b).1 = true → 0 ≤ (f x n b).2.1 ∧ 0 ≤ (f x n b).2.2)) :
    ∀ (l : List V) (n b : Int), 0 ≤ n → 0 ≤ b → Agree (holdsL f l n b) (roomL g l n b)
  | [], n, b, _, _ => ⟨fun _ => rfl, (fun h => by cases h)⟩
  | x :: r, n, b, hn, hb => by
    obtain ⟨⟨h1, h2⟩, h3⟩ := hfg x n b hn hb
    have eh : holdsL f (x :: r) n b = if (f x n b).1 then holdsL f r (f x n b).2.1 (f x n b).2.2 else (false, (f x n b).2.1, (f x n b).2.2) := rfl
    have er : roomL g (x :: r) n b = roomL g r (g x n b).1 (g x n b).2 := by
      show (if 0 ≤ n ∧ 0 ≤ b then _ else _) = _
      rw [if_pos ⟨hn, hb⟩]
    rw [eh, er]
    cases hg : (f x n b).1
    · have h := h2 hg
      rw [if_neg (by simp), roomL_stop _ _ _ _ (by omega)]
      exact ⟨(fun h => by cases h), fun _ => h⟩
    · rw [if_pos rfl, h1 hg]
      obtain ⟨q1, q2⟩ := h3 hg
      exact agreeL f g hfg r _ _ q1 q2
theorem agreeV : ∀ (m : Nat) (v : V) (n b d : Int), 0 ≤ n → 0 ≤ b → 0 ≤ d → Agree (holdsV m v n b d) (roomV m v n b d)
  | 0, v, n, b, d, _, _, _ => ⟨(fun h => by cases h), fun _ => Or.inl (by show (-1 : Int) < 0; omega)⟩
  | m + 1, v, n, b, d, hn, hb, hd => by
    have eh : holdsV (m + 1) v n b d = if n - 1 < 0 ∨ b - v.s.size - keysLen v.ks < 0 ∨ d = 0 then (false, n - 1, b - v.s.size - keysLen v.ks) else holdsL (fun x n b => holdsV m x n b (d - 1)) v.l (n - 1) (b - v.s.size - keysLen v.ks) := rfl
    have er : roomV (m + 1) v n b d = if d < 1 then (-1, -1) else roomL (fun x n b => roomV m x n b (d - 1)) v.l (n - 1) (b - v.s.size - keysLen v.ks) := rfl
    rw [eh, er]
    by_cases h : n - 1 < 0 ∨ b - v.s.size - keysLen v.ks < 0 ∨ d = 0
    · rw [if_pos h]
      refine ⟨(fun h => by cases h), fun _ => ?_⟩
      by_cases hd1 : d < 1
      · rw [if_pos hd1]
        exact Or.inl (by show (-1 : Int) < 0; omega)
      · rw [if_neg hd1, roomL_stop _ _ _ _ (by omega)]
        show n - 1 < 0 ∨ b - v.s.size - keysLen v.ks < 0
        omega
    · rw [if_neg h, if_neg (by omega : ¬ d < 1)]
      exact agreeL _ _ (fun x n b hn hb => ⟨agreeV m x n b (d - 1) hn hb (by omega), fun ht => by
        have := holdsV_bd m x n b (d - 1) hn hb ht
        exact ⟨this.1, this.2.2.1⟩⟩) v.l _ _ (by omega) (by omega)
def largeV (m : Nat) (v : V) : Bool := !(holdsV m v 65536 1048576 10000).1
theorem large_is (m : Nat) (v : V) : (decide ((roomV m v 65536 1048576 10000).1 < 0) || decide ((roomV m v 65536 1048576 10000).2 < 0)) = largeV m v := by
  obtain ⟨h1, h2⟩ := agreeV m v 65536 1048576 10000 (by omega) (by omega) (by omega)
  unfold largeV
  cases hh : (holdsV m v 65536 1048576 10000).1
  · rcases h2 hh with h | h
    · rw [decide_eq_true h]; rfl
    · rw [decide_eq_true h, Bool.or_true]; rfl
  · obtain ⟨q1, _, q3, _⟩ := holdsV_bd m v 65536 1048576 10000 (by omega) (by omega) hh
    rw [h1 hh, decide_eq_false (by omega), decide_eq_false (by omega)]
    rfl
set_option maxRecDepth 100000 in
set_option maxHeartbeats 1000000 in
theorem Large_any (m : Nat) (v : V) (lv kv : Value) (w : World) (h : At w w.heap.size m v lv kv) :
    Calls Tryz.prog 89 #[.agg (cellsV v lv kv)] w fun e w' => e = .returned (.bool (largeV m v)) ∧ Below w.heap.size w w' := by
  have hb1 : ∀ o1 o2, Below w.heap.size w ((w.alloc o1).alloc o2) := fun o1 o2 => ((Below.refl w.heap.size w).alloc (Nat.le_refl _) o1).alloc (by simp) o2
  have hh := fun o1 => holds_any m v lv kv 65536 1048576 10000 (w.heap.size + 1) ((w.alloc o1).alloc (.cells #[.int .i64 65536, .int .i64 1048576] 166)) (At.more (Nat.le_succ _) _ _ _ _ (h.below (hb1 _ _))) (by simp) (by have := heap_alloc_new (w.alloc o1) (.cells #[.int .i64 65536, .int .i64 1048576] 166); simpa using this) (by omega) (by omega) (by omega) (by omega) (by omega) (by omega)
  have hh := hh (.cells (cellsV v lv kv) 27)
  obtain ⟨a1, n1, k1, a2, n2, k2, rfl, rfl⟩ := h.slices
  have hsf := run_store_float Tryz.prog
  unfold cellsV at hh ⊢
  unfold largeV
  obtain ⟨r, he⟩ : ∃ r, holdsV m v 65536 1048576 10000 = r := ⟨_, rfl⟩
  rw [he] at hh ⊢
  obtain ⟨r0, r1, r2⟩ := r
  clear he h
  go_enter Tryz.func89, Tryz.ntmps89
  go_wp2_with fail
  refine hh.mono ?_
  rintro e w1 ⟨rfl, _, b1⟩
  go_wp2_with fail
  go_ret
  exact ⟨rfl, (hb1 _ _).trans (b1.1.mono (by omega))⟩
end Go.Proofs.YtpobdmkidopnnaaGreatDoor
namespace Go.Proofs.YtpobdmkidopnnaaGreatDoor
open Go Go.Shelf Go.RowKit

theorem laysWS : Go.Proofs.Lays.n166 Tryz.prog Tryz.lays105_ren := { Tryz.lays105 with }
theorem Builder_WriteString (B b : Nat) (bs : List Value) (s : ByteArray) (w : World) (h : Lib.IsBuilder 109 5 B b bs w) (hlen : bs.length + s.size ≤ 140737488355328) (hBw : B ≤ w.heap.size) :
    Calls Tryz.prog 160 #[.pointer (some ⟨b, 0, none⟩), .string s] w fun e w' => e = .returned (.tuple #[.int .i64 s.size, .nilIface]) ∧ (Lib.BuilderAt 109 5 B b (.pointer (some ⟨b, 0, none⟩)) (bs ++ Lib.strCells s) w' ∧ Below B w w') :=
  Any.Builder_WriteString laysWS Tryz.Builder_Extra_105 B b bs s w h hlen hBw
def renWB : Go.Shelf.Ren := ⟨fun | 167 => 139 | n => Tryz.lays105_ren.f n, Tryz.lays105_ren.t, Tryz.lays105_ren.g⟩
theorem laysWB : Go.Proofs.Lays.n167 Tryz.prog renWB := { Tryz.lays105 with
  f167 := Tryz.func139.trans (congrArg some (by kernel_rfl)) }
theorem extraWB : Builder.Extra Tryz.prog renWB := {
  sizeBuilder := by kernel_rfl
  liesBuilder := by kernel_rfl
  t5 := Tryz.underlying5
  a5 := Tryz.isAgg5
  z5 := Tryz.sizeOf5
  v5 := Tryz.zeroValue5
  infoByte := by kernel_rfl
  cellsByte := by kernel_rfl
  sizeByte := by kernel_rfl
  neB5 := by decide }
theorem Builder_WriteByte (B b : Nat) (bs : List Value) (c : Int) (w : World) (h : Lib.IsBuilder 109 5 B b bs w) (hlen : bs.length + 1 ≤ 140737488355328) (hBw : B ≤ w.heap.size) :
    Calls Tryz.prog 139 #[.pointer (some ⟨b, 0, none⟩), .int .u8 c] w fun e w' => e = .returned .nilIface ∧ (Lib.BuilderAt 109 5 B b (.pointer (some ⟨b, 0, none⟩)) (bs ++ [.int .u8 c]) w' ∧ Below B w w') :=
  Any.Builder_WriteByte laysWB extraWB B b bs c w h hlen hBw
end Go.Proofs.YtpobdmkidopnnaaGreatDoor
namespace Go.Proofs.YtpobdmkidopnnaaGreatDoor
open Go Go.RowKit Go.Shelf

/-- A builder of its own, in block b: these bytes. -/
def Bld (b : Nat) (l : List UInt8) (W : World) : Prop := Lib.IsBuilder 109 5 b b (Lib.byteCells l) W
theorem own_belowF {W w2 : World} {base : Nat} {e : TypeId} {size : Nat} {v : Value} {n : Nat} {xs : List Value} (h : W.ownsRow base e size v n xs) (h2 : Below W.heap.size W w2) : w2.ownsRow base e size v n xs :=
  h.kept (row := none) ⟨h2.os, h2.tape, h2.output, h2.size, fun k hk _ => h2.block k hk⟩ (by cases v.ownBlock <;> simp)
theorem builderAt_belowF {W w2 : World} {t e : TypeId} {B b : Nat} {p : Value} {xs : List Value} (h : Lib.BuilderAt t e B b p xs W) (h2 : Below W.heap.size W w2) : Lib.BuilderAt t e B b p xs w2 := by
  obtain ⟨h1, v, hb, hown, hne⟩ := h
  exact ⟨h1, v, (h2.block b (Array.getElem?_eq_some_iff.1 hb).1).trans hb, own_belowF hown h2, hne⟩
theorem Bld.below {W w2 : World} {b : Nat} {l : List UInt8} (h : Bld b l W) (h2 : Below W.heap.size W w2) : Bld b l w2 :=
  h.elim (fun h => .inl (builderAt_belowF h h2)) (fun h => .inr (builderAt_belowF h h2))
theorem Bld.lt {W : World} {b : Nat} {l : List UInt8} (h : Bld b l W) : b < W.heap.size := by
  rcases h with ⟨_, v, hb, _⟩ | ⟨_, v, hb, _⟩ <;> exact (Array.getElem?_eq_some_iff.1 hb).1
theorem bcells_app (l m : List UInt8) : Lib.byteCells (l ++ m) = Lib.byteCells l ++ Lib.byteCells m := by unfold Lib.byteCells; rw [List.map_append]
theorem bcells_len (l : List UInt8) : (Lib.byteCells l).length = l.length := by unfold Lib.byteCells; rw [List.length_map]
theorem scells (s : ByteArray) : Lib.strCells s = Lib.byteCells s.data.toList := by simp [Lib.strCells, Lib.byteCells]
theorem ret_strF {a b : ByteArray} (h : a = b) : Ending.returned (.string a) = .returned (.string b) := by rw [h]
/-- WriteByte, WriteString. -/
theorem writeByte_B (b : Nat) (l : List UInt8) (c : UInt8) (w : World) (h : Bld b l w) (hl : l.length ≤ 70368744177664) :
    Calls Tryz.prog 139 #[.pointer (some ⟨b, 0, none⟩), .int .u8 c.toNat] w fun e w' => e = .returned .nilIface ∧ Bld b (l ++ [c]) w' ∧ Below b w w' := by
  refine (Builder_WriteByte b b (Lib.byteCells l) c.toNat w h (by rw [bcells_len]; omega) (by have := Bld.lt h; omega)).mono ?_
  rintro e w' ⟨rfl, h1, h2⟩
  exact ⟨rfl, .inr (by rw [bcells_app]; exact h1), h2⟩
theorem writeString_B (b : Nat) (l : List UInt8) (s : ByteArray) (w : World) (h : Bld b l w) (hl : l.length ≤ 70368744177664) (hs : s.size ≤ 35184372088832) :
    Calls Tryz.prog 160 #[.pointer (some ⟨b, 0, none⟩), .string s] w fun e w' => e = .returned (.tuple #[.int .i64 s.size, .nilIface]) ∧ Bld b (l ++ s.data.toList) w' ∧ Below b w w' := by
  refine (Builder_WriteString b b (Lib.byteCells l) s w h (by rw [bcells_len]; omega) (by have := Bld.lt h; omega)).mono ?_
  rintro e w' ⟨rfl, h1, h2⟩
  exact ⟨rfl, .inr (by rw [bcells_app, ← scells]; exact h1), h2⟩
/-- What is written of a text, and what is known behind it. -/
def eachO {σ : Type} (step : σ → UInt8 → σ × List UInt8) : σ → List UInt8 → List UInt8
  | _, [] => []
  | st, c :: r => (step st c).2 ++ eachO step (step st c).1 r
def eachS {σ : Type} (step : σ → UInt8 → σ × List UInt8) : σ → List UInt8 → σ
  | st, [] => st
  | st, c :: r => eachS step (step st c).1 r
/-- A function value that is handed in writes so of each byte. -/
structure PutOK {σ : Type} (n b0 : Nat) (put : Value) (I : σ → World → Prop) (step : σ → UInt8 → σ × List UInt8) : Prop where
  fn : ∃ f c, put = .func (.func f) #[] c ∧ (∀ args w, (callFunc f args).run Tryz.prog w = .ok (.enter f args) w) ∧
    ∀ st x l b W, n ≤ b → I st W → Bld b l W → l.length ≤ 17592186044416 → Calls Tryz.prog f (#[.pointer (some ⟨b, 0, none⟩), .int .u8 x.toNat] ++ c) W fun e W' => e = .returned (.tuple #[]) ∧ I (step st x).1 W' ∧ Bld b (l ++ (step st x).2) W' ∧ Below b0 W W'
  keep : ∀ st W W', I st W → Below n W W' → I st W'
  small : ∀ st x, (step st x).2.length ≤ 10
theorem bld_new (w : World) : Bld w.heap.size [] (w.alloc (.cells #[.pointer none, .slice none 0 0] 109)) := by
  refine .inl ⟨Nat.le_refl _, .slice none 0 0, ?_, ?_, ?_⟩
  · show (w.heap.push _)[w.heap.size]? = _
    simp
  · exact World.ownsRow_nil _ _ _ _
  · simp [Value.ownBlock]
theorem ltF {f : ByteArray} {k : Nat} (h : k < f.size) : k < f.data.toList.length := by simpa using h
set_option maxRecDepth 100000 in
set_option maxHeartbeats 2000000 in
theorem each_any {σ : Type} (b0 : Nat) (put : Value) (I : σ → World → Prop) (step : σ → UInt8 → σ × List UInt8) (s : ByteArray) (hs : s.size ≤ 1099511627776) (st0 : σ) (w : World) (hP : PutOK w.heap.size b0 put I step) (hI : I st0 w) (hb0 : b0 ≤ w.heap.size) :
    Calls Tryz.prog 136 #[.string s, put] w fun e w' => e = .returned (.string ⟨(eachO step st0 s.data.toList).toArray⟩) ∧ I (eachS step st0 s.data.toList) w' ∧ Below b0 w w' := by
  obtain ⟨⟨f, c, rfl, hen, hcl⟩, hkeep, hsmall⟩ := hP
  have HC := Lib.hid hcl
  have HK := Lib.hid hkeep
  have HS := Lib.hid hsmall
  have HI := Lib.hid hI
  have HB0 := Lib.hid hb0
  clear hcl hkeep hsmall hI hb0
  go_enter Tryz.func136, Tryz.ntmps136
  go_wp2_with fail
  have hx0 := heap_alloc_new w (.cells #[.pointer none, .slice none 0 0] 109)
  have hbe := (Below.refl w.heap.size w).alloc (Nat.le_refl _) (.cells #[.pointer none, .slice none 0 0] 109)
  have hsz : w.heap.size + 1 = (w.alloc (.cells #[.pointer none, .slice none 0 0] 109)).heap.size := by simp
  have HZ := Lib.hid hsz
  have HX := Lib.hid hx0
  have HB := Lib.hid hbe
  clear hsz hx0 hbe
  refine (Tryz.Builder_Grow_fresh w.heap.size w.heap.size s.size _ (Nat.le_refl _) HX.out (by have := HZ.out; omega) (by omega)).mono ?_
  rintro e w1 ⟨rfl, hbld, hb⟩
  have HL := Lib.hid (show Bld w.heap.size [] w1 from .inr hbld)
  have HB1 := Lib.hid (HB.out.trans hb)
  clear hbld hb
  go_wp2_with fail
  go_loopw [12] (fun i wr => ∃ (k : Nat) (l : List UInt8) (st : σ), k ≤ s.size ∧ i = .int .i64 k ∧ l.length ≤ 10 * k ∧ Hid (l ++ eachO step st (s.data.toList.drop k) = eachO step st0 s.data.toList) ∧ Hid (eachS step st (s.data.toList.drop k) = eachS step st0 s.data.toList) ∧ Hid (I st wr) ∧ Hid (Bld w.heap.size l wr) ∧ Hid (Below b0 w wr)) (fun i _ => s.size - (intOf i).toNat)
  case atStart =>
    exact ⟨0, [], st0, by omega, rfl, by simp, Lib.hid (by simp), Lib.hid (by simp), Lib.hid (HK.out _ _ _ HI.out HB1.out), HL, Lib.hid (HB1.out.mono HB0.out)⟩
  case round =>
    obtain ⟨k, l, st, hk, rfl, hl, HE, HE2, HIk, HLk, HBk⟩ := hrel
    by_cases hlt : k < s.size
    · obtain ⟨x, hx⟩ : ∃ x, s[k] = x := ⟨_, rfl⟩
      have hx' : s.data.toList[k]'(ltF hlt) = x := hx
      have HD := Lib.hid (show s.data.toList.drop k = x :: s.data.toList.drop (k + 1) by rw [List.drop_eq_getElem_cons (ltF hlt), hx'])
      have HS1 := Lib.hid (HS.out st x)
      have HC1 := Lib.hid (HC.out st x l w.heap.size wr (Nat.le_refl _) HIk.out HLk.out (by omega))
      clear hx'
      go_wp2_with fail
      refine HC1.out.mono ?_
      rintro e w2 ⟨rfl, h1, h2, h3⟩
      have H1 := Lib.hid h1
      have H2 := Lib.hid h2
      have H3 := Lib.hid (HBk.out.trans h3)
      clear h1 h2 h3
      go_wp2_with fail
      go_roundw
      case rel => exact ⟨k + 1, l ++ (step st x).2, (step st x).1, by omega, by go_num, by have := HS1.out; rw [List.length_append]; omega, Lib.hid (by rw [← HE.out, HD.out, List.append_assoc]; rfl), Lib.hid (by rw [← HE2.out, HD.out]; rfl), H1, H2, H3⟩
      case measure => simp [intOf]; omega
    · have hkk : k = s.size := by omega
      have HF := Lib.hid (show s.data.toList.drop k = [] by rw [hkk]; exact List.drop_of_length_le (by simp))
      have HE' := HE.out
      rw [HF.out] at HE'
      have HN := Lib.hid (show l = eachO step st0 s.data.toList by rw [← HE']; simp [eachO])
      have HE2' := HE2.out
      rw [HF.out] at HE2'
      have HM := Lib.hid (show st = eachS step st0 s.data.toList from HE2')
      clear HE' HE2' hkk
      go_wp2_with fail
      refine (Tryz.Builder_String_any w.heap.size w.heap.size l wr HLk.out (by have := Bld.lt HLk.out; omega)).mono ?_
      rintro e w3 ⟨rfl, hb⟩
      have HB := Lib.hid hb
      clear hb
      go_wp2_with fail
      go_ret
      exact ⟨ret_strF (by rw [HN.out]), by rw [← HM.out]; exact HK.out _ _ _ HIk.out HB.out, HBk.out.trans (HB.out.mono HB0.out)⟩
end Go.Proofs.YtpobdmkidopnnaaGreatDoor
namespace Go.Proofs.YtpobdmkidopnnaaGreatDoor
open Go Go.RowKit Go.Shelf

def swapT : List (UInt8 × ByteArray) → UInt8 → List UInt8
  | [], c => [c]
  | p :: r, c => if p.1 = c then p.2.data.toList else swapT r c
def swCells : List (UInt8 × ByteArray) → List Value
  | [] => []
  | p :: r => .int .u8 p.1.toNat :: .string p.2 :: swCells r
theorem swCells_at (L : List (UInt8 × ByteArray)) (k : Nat) (h : k < L.length) : (swCells L)[k * 2]? = some (.int .u8 (L[k]).1.toNat) ∧ (swCells L)[k * 2 + 1]? = some (.string (L[k]).2) := by
  induction L generalizing k with
  | nil => simp at h
  | cons p r ih =>
    cases k with
    | zero => exact ⟨rfl, rfl⟩
    | succ k =>
      have := ih k (by simpa using h)
      have e : (k + 1) * 2 = k * 2 + 1 + 1 := by omega
      rw [e]
      simpa [swCells] using this
theorem swapT_le (L : List (UInt8 × ByteArray)) (hL : ∀ p ∈ L, p.2.size ≤ 10) (c : UInt8) : (swapT L c).length ≤ 10 := by
  induction L with
  | nil => simp [swapT]
  | cons p r ih =>
    unfold swapT
    split
    · have := hL p (by simp)
      simpa using this
    · exact ih fun q hq => hL q (by simp [hq])
/-- What replaced$1 captured. -/
def SwI (L : List (UInt8 × ByteArray)) (x y : Nat) (t : TypeId) (W : World) : Prop :=
  W.heap[x]? = some (.cells #[.slice (some ⟨y, 0, none⟩) L.length L.length] 214 (0, 0)) ∧ W.heap[y]? = some (.cells (swCells L).toArray t (0, 0))
theorem cellF {W : World} {y k : Nat} {l : List Value} {t : TypeId} {u : Value} (h : W.heap[y]? = some (.cells l.toArray t (0, 0))) (hu : l[k]? = some u) : W.cell? ⟨y, k, none⟩ = some u := by
  simp only [World.cell?, h]
  simpa using hu
theorem SwI.below {L : List (UInt8 × ByteArray)} {x y n : Nat} {t : TypeId} {W W' : World} (h : SwI L x y t W) (hx : x < n) (hy : y < n) (hb : Below n W W') : SwI L x y t W' := by
  refine ⟨(hb.block x hx).trans h.1, (hb.block y hy).trans h.2⟩
set_option maxRecDepth 100000 in
set_option maxHeartbeats 2000000 in
theorem put_swap (L : List (UInt8 × ByteArray)) (hL : L.length ≤ 100) (hS : ∀ p ∈ L, p.2.size ≤ 10) (x y : Nat) (t : TypeId) (b : Nat) (l : List UInt8) (c : UInt8) (W : World) (hI : SwI L x y t W) (hB : Bld b l W) (hxb : x < b) (hyb : y < b) (hl : l.length ≤ 17592186044416) :
    Calls Tryz.prog 223 #[.pointer (some ⟨b, 0, none⟩), .int .u8 c.toNat, .pointer (some ⟨x, 0, none⟩)] W fun e W' => e = .returned (.tuple #[]) ∧ Bld b (l ++ swapT L c) W' ∧ Below b W W' := by
  have HI := Lib.hid hI
  have HB := Lib.hid hB
  have HS := Lib.hid hS
  have c0 : W.cell? ⟨x, 0, none⟩ = some (.slice (some ⟨y, 0, none⟩) L.length L.length) := by simp [World.cell?, hI.1]
  clear hI hB hS
  go_enter Tryz.func223, Tryz.ntmps223
  go_wp2_with fail
  go_loopw [9] (fun i wr => ∃ k : Nat, k ≤ L.length ∧ i = .int .i64 k ∧ Hid (swapT (L.drop k) c = swapT L c) ∧ Hid (Below W.heap.size W wr)) (fun i _ => L.length - (intOf i).toNat)
  case atStart => exact ⟨0, by omega, rfl, Lib.hid rfl, Lib.hid (Below.refl _ _)⟩
  case round =>
    obtain ⟨k, hk, rfl, HE, HW⟩ := hrel
    have HB2 := Lib.hid (HB.out.below HW.out)
    have HI2 := Lib.hid (HI.out.below (n := W.heap.size) (by have := HB.out.lt; omega) (by have := HB.out.lt; omega) HW.out)
    have HWb := Lib.hid (HW.out.mono (show b ≤ W.heap.size by have := HB.out.lt; omega))
    by_cases hlt : k < L.length
    · have HD := Lib.hid (List.drop_eq_getElem_cons hlt)
      obtain ⟨s0, s1⟩ := swCells_at L k hlt
      have hmem := HS.out L[k] (List.getElem_mem _)
      obtain ⟨p, hp⟩ : ∃ p, L[k] = p := ⟨_, rfl⟩
      rw [hp] at s0 s1 hmem HD
      have d0 := cellF HI2.out.2 s0
      have d1 := cellF HI2.out.2 s1
      clear s0 s1 hp
      by_cases hc : p.1 = c
      · have HT := Lib.hid (show swapT L c = p.2.data.toList by rw [← HE.out, HD.out]; unfold swapT; rw [if_pos hc])
        rw [hc] at d0
        clear hc
        have HA := Lib.hid ((Below.refl wr.heap.size wr).alloc (Nat.le_refl _) (.cells #[.int .u8 c.toNat, .string p.2] 164))
        go_wp2_with fail
        refine (writeString_B b l p.2 _ (HB2.out.below HA.out) (by omega) (by omega)).mono ?_
        rintro e w3 ⟨rfl, h1, h2⟩
        have H1 := Lib.hid h1
        have H2 := Lib.hid ((HWb.out.trans (HA.out.mono (by have := HB2.out.lt; omega))).trans h2)
        clear h1 h2
        go_wp2_with fail
        exact bodyPost_ret (results_none rfl _ _ _) rfl ⟨rfl, by rw [HT.out]; exact H1.out, H2.out⟩
      · have hT := Lib.hid (show swapT (L.drop (k + 1)) c = swapT L c by
          rw [← HE.out, HD.out]
          conv => rhs; unfold swapT
          rw [if_neg hc])
        have hcc : ((p.1.toNat : Int) == (c.toNat : Int)) = false := by
          rw [beq_eq_false_iff_ne]
          intro e
          exact hc (UInt8.toNat_inj.1 (by omega))
        have HA := Lib.hid ((Below.refl wr.heap.size wr).alloc (Nat.le_refl _) (.cells #[.int .u8 p.1.toNat, .string p.2] 164))
        have HWs := Lib.hid (HW.out.size)
        clear hc
        go_wp2_with fail
        go_roundw
        case rel => exact ⟨k + 1, by omega, by go_num, hT, Lib.hid (HW.out.trans (HA.out.mono HWs.out))⟩
        case measure => simp [intOf]; omega
    · have hkk : k = L.length := by omega
      have HT := Lib.hid (show swapT L c = [c] by rw [← HE.out, hkk, List.drop_length]; rfl)
      clear hkk
      go_wp2_with fail
      refine (writeByte_B b l c _ HB2.out (by omega)).mono ?_
      rintro e w3 ⟨rfl, h1, h2⟩
      have H1 := Lib.hid h1
      have H2 := Lib.hid (HWb.out.trans h2)
      clear h1 h2
      go_wp2_with fail
      go_end0
      exact ⟨rfl, by rw [HT.out]; exact H1.out, H2.out⟩
/-- What is left of a text when some of its bytes are replaced. -/
def replL (L : List (UInt8 × ByteArray)) (s : List UInt8) : List UInt8 := eachO (fun (_ : Unit) c => ((), swapT L c)) () s
set_option maxRecDepth 100000 in
set_option maxHeartbeats 2000000 in
theorem replaced_any (L : List (UInt8 × ByteArray)) (hL : L.length ≤ 100) (hS : ∀ p ∈ L, p.2.size ≤ 10) (s : ByteArray) (hs : s.size ≤ 1099511627776) (y : Nat) (t : TypeId) (w : World) (hy : w.heap[y]? = some (.cells (swCells L).toArray t (0, 0))) :
    Calls Tryz.prog 148 #[.string s, .slice (some ⟨y, 0, none⟩) L.length L.length] w fun e w' => e = .returned (.string ⟨(replL L s.data.toList).toArray⟩) ∧ Below w.heap.size w w' := by
  have hyl := (Array.getElem?_eq_some_iff.1 hy).1
  have HA := Lib.hid ((Below.refl w.heap.size w).alloc (Nat.le_refl _) (.cells #[.slice (some ⟨y, 0, none⟩) L.length L.length] 214))
  have HX := Lib.hid (heap_alloc_new w (.cells #[.slice (some ⟨y, 0, none⟩) L.length L.length] 214))
  have HI : Hid (SwI L w.heap.size y t (w.alloc (.cells #[.slice (some ⟨y, 0, none⟩) L.length L.length] 214))) := Lib.hid ⟨HX.out, (HA.out.block y hyl).trans hy⟩
  have HP : Hid (PutOK (w.heap.size + 1) w.heap.size (.func (.func 223) #[] #[.pointer (some ⟨w.heap.size, 0, none⟩)]) (fun (_ : Unit) W => SwI L w.heap.size y t W) (fun _ c => ((), swapT L c))) := Lib.hid {
    fn := ⟨_, _, rfl, enters_of Tryz.func223 (by kernel_rfl) rfl, fun _ c l b W hb hI hB hl => (put_swap L hL hS w.heap.size y t b l c W hI hB (by omega) (by omega) hl).mono fun e W' ⟨h1, h2, h3⟩ => ⟨h1, hI.below (by omega) (by omega) h3, h2, h3.mono (by omega)⟩⟩
    keep := fun _ W W' h hb => h.below (by omega) (by omega) hb
    small := fun _ c => swapT_le L hS c }
  clear hy hL hS
  go_enter Tryz.func148, Tryz.ntmps148
  go_wp2_with fail
  refine (each_any w.heap.size _ _ _ s hs () _ (by have := HP.out; simpa using this) HI.out (by simp)).mono ?_
  rintro e w1 ⟨rfl, _, hb⟩
  have HB := Lib.hid ((HA.out).trans hb)
  clear hb
  go_wp2_with fail
  go_ret
  exact ⟨rfl, HB.out⟩
end Go.Proofs.YtpobdmkidopnnaaGreatDoor
