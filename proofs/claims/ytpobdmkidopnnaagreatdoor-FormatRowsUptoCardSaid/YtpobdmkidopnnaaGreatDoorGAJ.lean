/- The answers' own functions on pieces: where they begin, their points, are they good, how many. -/
import Derived.Test.YtpobdmkidopnnaaGreatDoorGAI
import Derived.Test.YtpobdmkidopnnaaGreatDoorGAA
import Derived.Deep.QuietTactic
import Derived.BigQuiet
import Derived.Lib.Strings
import Derived.Lib.IndexBytes
import Derived.LoopTactic
import Derived.WalkLawsBesides
import Derived.Outline
import Derived.Deep.Slices
namespace Go.Proofs.YtpobdmkidopnnaaGreatDoor
open Go Go.RowKit

theorem infoInt : (Tryz.prog.info? 3).map (fun i => (i.zero, i.size, i.bytes)) = some (some (.int .i64 0), 1, 8) := by kernel_rfl
theorem infoByteR : (Tryz.prog.info? 5).map (fun i => (i.zero, i.size, i.bytes)) = some (some (.int .u8 0), 1, 1) := by kernel_rfl
/-- Natural numbers as cells. -/
def cellsN (l : List Nat) : List Value := l.map fun (n : Nat) => .int .i64 (n : Int)
theorem cellsN_length (l : List Nat) : (cellsN l).length = l.length := by unfold cellsN; rw [List.length_map]
theorem cellsN_snoc (l : List Nat) (n : Nat) : cellsN (l ++ [n]) = cellsN l ++ [.int .i64 (n : Int)] := by unfold cellsN; rw [List.map_append]; rfl

/-- Where the pieces begin is no place behind the end. -/
theorem pts_small (s : ByteArray) (pos : Nat) : ∀ p ∈ pts s pos, p ≤ 1114111 := by
  intro p hp
  unfold pts at hp
  obtain ⟨x, _, rfl⟩ := List.mem_map.1 hp
  exact (dec_point s x).1

set_option maxHeartbeats 1000000 in
set_option maxRecDepth 100000 in
theorem refValid_any (s : ByteArray) (hm : s.size ≤ 1000000000) (w : World) :
    Calls Tryz.prog 21 #[.string s] w fun e w' => e = .returned (.bool (allGood s 0)) ∧ w = w' := by
  have hml : s.size ≤ maxLen := by unfold maxLen; omega
  go_enter Tryz.func21, Tryz.ntmps21
  go_wp2
  go_loop [3] (fun i => ∃ (pos : Nat), i = .int .i64 pos ∧ pos ≤ s.size ∧ allGood s pos = allGood s 0) (fun i => s.size - (intOf i).toNat)
  case atStart => exact ⟨0, rfl, Nat.zero_le _, rfl⟩
  case round =>
    obtain ⟨pos, rfl, hp, he⟩ := hrel
    by_cases hlt : pos < s.size
    · have hw := wid s pos hlt
      have hf := dec_fits s pos hlt
      rw [allGood_cons s pos hlt] at he
      cases hgd : good s pos
      · rw [hgd, Bool.false_and] at he
        have He := Lib.hid he
        clear he
        go_wp2_with (go_at_call 56; refine (piece_any s pos hlt hml _).mono ?_; rintro e w' ⟨rfl, rfl⟩)
        go_ret
        exact ⟨by rw [← He.out]; rfl, rfl⟩
      · rw [hgd, Bool.true_and] at he
        have He := Lib.hid he
        clear he
        go_wp2_with (go_at_call 56; refine (piece_any s pos hlt hml _).mono ?_; rintro e w' ⟨rfl, rfl⟩)
        go_round
        case rel => exact ⟨pos + (Utf8.decode s pos).2, by go_num, hf.1, He.out⟩
        case measure => simp [intOf]; omega
    · rw [allGood_nil s pos hlt] at he
      have He := Lib.hid he
      clear he
      go_wp2
      go_ret
      exact ⟨by rw [← He.out]; rfl, rfl⟩

/-- Numbers as cells. -/
def cellsI (l : List Int) : List Value := l.map fun (n : Int) => .int .i64 n
theorem cellsI_length (l : List Int) : (cellsI l).length = l.length := by unfold cellsI; rw [List.length_map]
theorem cellsI_at (l : List Int) (k : Nat) (h : k < l.length) : ∃ x, l[k]? = some x ∧ (cellsI l)[k]? = some (.int .i64 x) := by
  refine ⟨l[k], List.getElem?_eq_getElem h, ?_⟩
  unfold cellsI
  rw [List.getElem?_map, List.getElem?_eq_getElem h]
  rfl

end Go.Proofs.YtpobdmkidopnnaaGreatDoor
namespace Go.Proofs.YtpobdmkidopnnaaGreatDoor
open Go Go.RowKit Go.WideShapes

/-- Texts as cells. -/
def cellsT (l : List ByteArray) : List Value := l.map fun (s : ByteArray) => .string s
theorem cellsT_length (l : List ByteArray) : (cellsT l).length = l.length := by unfold cellsT; rw [List.length_map]
theorem cellsT_snoc (l : List ByteArray) (s : ByteArray) : cellsT (l ++ [s]) = cellsT l ++ [.string s] := by unfold cellsT; rw [List.map_append]; rfl
theorem cellsT_at (l : List ByteArray) (k : Nat) (h : k < l.length) : ∃ x, l[k]? = some x ∧ (cellsT l)[k]? = some (.string x) := by
  refine ⟨l[k], List.getElem?_eq_getElem h, ?_⟩
  unfold cellsT
  rw [List.getElem?_map, List.getElem?_eq_getElem h]
  rfl

set_option maxHeartbeats 1000000 in
theorem refTexts_any (l m : List ByteArray) (B C : Nat) (a b : Value) (hl : l.length ≤ 1000000000) (w : World) (ha : Arr w B a (cellsT l)) (hb : Arr w C b (cellsT m)) :
    Calls Tryz.prog 18 #[a, b] w fun e w' => e = .returned (.bool (decide (l = m))) ∧ ∃ n, w' = w.drewN n := by
  obtain ⟨A, c, rfl, ha⟩ := ha
  obtain ⟨D, d, rfl, hb⟩ := hb
  simp only [cellsT_length] at *
  by_cases hlen : l.length = m.length
  · have heq : ((l.length : Int) == (m.length : Int)) = true := by simp; omega
    have heq2 : ((l.length : Int) != (m.length : Int)) = false := by simp; omega
    have Hlen := Lib.hid hlen
    clear hlen
    go_enter Tryz.func18, Tryz.ntmps18
    go_wp2
    clear heq heq2
    go_loopw [5] (fun i wr => ∃ k : Nat, i = .int .i64 k ∧ k ≤ l.length ∧ l.take k = m.take k ∧ ∃ n, wr = w.drewN n) (fun i _ => l.length - (intOf i).toNat)
    case atStart => exact ⟨0, rfl, Nat.zero_le _, by simp, 0, rfl⟩
    case round =>
      obtain ⟨k, rfl, hk, he, n, rfl⟩ := hrel
      have He := Lib.hid he
      clear he
      by_cases hlt : k < l.length
      · have hlt2 : k < m.length := by rw [← Hlen.out]; exact hlt
        obtain ⟨ad, rfl, hB, hc⟩ := ha (by omega)
        obtain ⟨ae, rfl, hC, hd⟩ := hb (by omega)
        obtain ⟨x, e1, ex⟩ := cellsT_at l k hlt
        obtain ⟨y, e2, ey⟩ := cellsT_at m k hlt2
        have h1 := hc k _ ex
        have h2 := hd k _ ey
        have E1 := Lib.hid e1
        have E2 := Lib.hid e2
        clear hc hd ha hb e1 e2 ex ey
        have i0 : (0 : Int) ≤ (k : Int) := by omega
        have i1 : (k : Int) < (l.length : Int) := by omega
        have i2 : (k : Int) < (m.length : Int) := by omega
        by_cases hq : x = y
        · subst hq
          go_wp2
          go_quiet (fail)
          go_wp2
          refine ⟨?_, by simp [intOf]; omega⟩
          refine ⟨k + 1, by go_num, by omega, ?_, _, rfl⟩
          rw [List.take_add_one, List.take_add_one, He.out, E1.out, E2.out]
        · have q1 : (x.toList == y.toList) = false := by
            rw [beq_eq_false_iff_ne, ByteArray.toList_eq, ByteArray.toList_eq]
            exact fun h => hq (bytes_inj h)
          have Hq := Lib.hid hq
          clear hq
          go_wp2
          go_quiet (fail)
          go_wp2
          go_ret
          refine ⟨?_, _, World.drewN_drewN _ _ _⟩
          rw [decide_eq_false (fun h => Hq.out (by have := E1.out; rw [h, E2.out] at this; injection this with h; exact h.symm))]
          rfl
      · have hk2 : k = l.length := by omega
        have Hk := Lib.hid hk2
        clear hk2
        go_wp2
        go_ret
        refine ⟨?_, n, rfl⟩
        have h1 := He.out
        rw [Hk.out, List.take_length, Hlen.out, List.take_length] at h1
        rw [decide_eq_true h1]
        rfl
  · have hne : ((l.length : Int) == (m.length : Int)) = false := by simp; omega
    have hne2 : ((l.length : Int) != (m.length : Int)) = true := by simp; omega
    go_enter Tryz.func18, Tryz.ntmps18
    go_wp2
    go_ret
    exact ⟨by rw [decide_eq_false (fun h => hlen (by rw [h]))]; rfl, 0, rfl⟩

/-- A text without the blanks at its ends. -/
def trimmed (left right : Bool) (l : List UInt8) : List UInt8 :=
  let m := if left then l.dropWhile blank else l
  if right then (m.reverse.dropWhile blank).reverse else m

theorem head_of {t : ByteArray} (h : 0 < t.size) : t.data.toList = t[0] :: (t.extract 1 t.size).data.toList := by
  rw [Lib.extract_to_end]
  have h' : 0 < t.data.toList.length := by simpa using h
  exact (List.getElem_cons_drop h').symm
theorem last_of {t : ByteArray} (h : 0 < t.size) : t.data.toList.reverse = t[t.size - 1] :: (t.extract 0 (t.size - 1)).data.toList.reverse := by
  have e : (t.extract 0 (t.size - 1)).data.toList = t.data.toList.take (t.size - 1) := by
    rw [Lib.extract_data]; simp
  have h' : t.size - 1 < t.data.toList.length := by simp; omega
  have e2 : t.data.toList = t.data.toList.take (t.size - 1) ++ [t.data.toList[t.size - 1]] := by
    rw [List.take_append_getElem h', show t.size - 1 + 1 = t.data.toList.length by simp; omega, List.take_length]
  rw [e]
  conv => lhs; rw [e2]
  simp
  rfl
theorem str_of {u : ByteArray} {l : List UInt8} (h : u.data.toList = l) : Value.string u = .string ⟨l.toArray⟩ := by subst h; rfl
end Go.Proofs.YtpobdmkidopnnaaGreatDoor
namespace Go.Proofs.YtpobdmkidopnnaaGreatDoor
open Go Go.RowKit

theorem bytesLess_is : ∀ (x y : List UInt8), Op.bytesLess x y = decide (x < y)
  | [], [] => by simp [Op.bytesLess]
  | [], _ :: _ => by simp [Op.bytesLess]
  | _ :: _, [] => by simp [Op.bytesLess]
  | a :: x, b :: y => by
    rw [Op.bytesLess, bytesLess_is x y]
    by_cases h : a < b
    · simp [List.cons_lt_cons_iff, h]
    · by_cases h2 : b < a
      · have : ¬ a = b := fun e => by subst e; exact h h2
        simp [List.cons_lt_cons_iff, h, this]
      · have : a = b := by
          rw [UInt8.lt_iff_toNat_lt] at h h2
          exact UInt8.toNat_inj.1 (by omega)
        simp [this]
theorem leK_walk (a b : ByteArray) : (Op.bytesLess a.toList b.toList || a.toList == b.toList) = leK a b := by
  rw [bytesLess_is, Lib.toList_data, Lib.toList_data]
  unfold leK
  by_cases h : a.data.toList < b.data.toList
  · simp [h, List.le_of_lt h]
  · by_cases h2 : a.data.toList = b.data.toList
    · simp [h2]
    · have : ¬ a.data.toList ≤ b.data.toList := fun h3 => by
        rcases List.le_iff_lt_or_eq.1 h3 with h4 | h4
        · exact h h4
        · exact h2 h4
      have h5 : (a.data.toList == b.data.toList) = false := by simpa using fun e => h2 (by rw [e])
      rw [h5]
      simp [h, this]
theorem Arr.take {w : World} {B : Nat} {A : Option Addr} {n c : Nat} {xs : List Value} (h : Arr w B (.slice A n c) xs) (k : Nat) (hk : k ≤ n) : Arr w B (.slice A k c) (xs.take k) := by
  obtain ⟨A', c', e, h⟩ := h
  cases e
  refine ⟨A, c, by rw [List.length_take, Nat.min_eq_left hk], fun h0 => ?_⟩
  obtain ⟨ad, e, hb, hc⟩ := h (by rw [List.length_take] at h0; omega)
  exact ⟨ad, e, hb, fun j u hu => hc j u (by rw [List.getElem?_take] at hu; split at hu; exact hu; cases hu)⟩
theorem Arr.drop {w : World} {B : Nat} {ad : Addr} {n c c' : Nat} {xs : List Value} (h : Arr w B (.slice (some ad) n c) xs) (k : Nat) (hk : k ≤ n) : Arr w B (.slice (some (ad.add k)) (n - k) c') (xs.drop k) := by
  obtain ⟨A', c1, e, h⟩ := h
  cases e
  refine ⟨some (ad.add k), c', by rw [List.length_drop], fun h0 => ?_⟩
  obtain ⟨ad', e, hb, hc⟩ := h (by rw [List.length_drop] at h0; omega)
  cases e
  refine ⟨_, rfl, by rw [add_block]; exact hb, fun j u hu => ?_⟩
  rw [Go.Deep.add_add]
  exact hc (k + j) u (by rw [List.getElem?_drop] at hu; exact hu)
theorem own_belowV {W w2 : World} {base : Nat} {e : TypeId} {size : Nat} {v : Value} {n : Nat} {xs : List Value} (h : W.ownsRow base e size v n xs) (h2 : Below W.heap.size W w2) : w2.ownsRow base e size v n xs :=
  h.kept (row := none) ⟨h2.os, h2.tape, h2.output, h2.size, fun k hk _ => h2.block k hk⟩ (by cases v.ownBlock <;> simp)
theorem own_base {W : World} {base base' : Nat} {e : TypeId} {size : Nat} {v : Value} {n : Nat} {xs : List Value} (h : W.ownsRow base e size v n xs) (hb : base' ≤ base) : W.ownsRow base' e size v n xs := by
  refine ⟨h.1, ?_⟩
  rcases h.2 with h2 | ⟨g, cap, cur, h1, h2, h3⟩
  · exact Or.inl h2
  · exact Or.inr ⟨g, cap, cur, h1, by omega, h3⟩
/-- A row of the call's own that holds these texts. -/
def OwnKeys (w : World) (B : Nat) (v : Value) (ks : List ByteArray) : Prop := w.ownsRow B 9 1 v ks.length (ks.map Value.string)
theorem OwnKeys.at {w : World} {B : Nat} {v : Value} {ks : List ByteArray} (h : OwnKeys w B v ks) : KeysAt w w.heap.size v ks := ⟨Arr.of_own h (Nat.le_refl _), Caps.of_own h⟩
theorem OwnKeys.below {W w2 : World} {B : Nat} {v : Value} {ks : List ByteArray} (h : OwnKeys W B v ks) (h2 : Below W.heap.size W w2) : OwnKeys w2 B v ks := own_belowV h h2
theorem KeysAt.below {w w' : World} {B : Nat} {v : Value} {ks : List ByteArray} (h : KeysAt w B v ks) (hb : Below B w w') : KeysAt w' B v ks := ⟨h.1.below hb, h.2⟩
theorem KeysAt.more {w : World} {B B' : Nat} {v : Value} {ks : List ByteArray} (h : KeysAt w B v ks) (hb : B ≤ B') : KeysAt w B' v ks := ⟨h.1.more hb, h.2⟩
theorem merge_left {done ra rb S : List ByteArray} {x y : Nat} (hx : x < ra.length) (hy : y ≤ rb.length) (h : done ++ mergeK (ra.length - x + (rb.length - y)) (ra.drop x) (rb.drop y) = S)
    (hc : y = rb.length ∨ ∃ _ : y < rb.length, leK ra[x] rb[y] = true) : (done ++ [ra[x]]) ++ mergeK (ra.length - (x + 1) + (rb.length - y)) (ra.drop (x + 1)) (rb.drop y) = S := by
  have e : ra.length - x + (rb.length - y) = ra.length - (x + 1) + (rb.length - y) + 1 := by omega
  rw [← h, e, (mergeK_step _ ra rb x y (by omega) hy (by omega)).1 hx hc, List.append_assoc]
  rfl
theorem merge_right {done ra rb S : List ByteArray} {x y : Nat} (hx : x ≤ ra.length) (hy : y < rb.length) (h : done ++ mergeK (ra.length - x + (rb.length - y)) (ra.drop x) (rb.drop y) = S)
    (hc : x = ra.length ∨ ∃ _ : x < ra.length, leK ra[x] rb[y] = false) : (done ++ [rb[y]]) ++ mergeK (ra.length - x + (rb.length - (y + 1))) (ra.drop x) (rb.drop (y + 1)) = S := by
  have e : ra.length - x + (rb.length - y) = ra.length - x + (rb.length - (y + 1)) + 1 := by omega
  rw [← h, e, (mergeK_step _ ra rb x y hx (by omega) (by omega)).2 hy hc, List.append_assoc]
  rfl
theorem own_snoc {w : World} {B n : Nat} {e : TypeId} {v : Value} {done : List ByteArray} {u : ByteArray} (m : Nat) (hm : m = n + 1) (h : w.ownsRow B e 1 v (n + 1) (done.map Value.string ++ [Value.string u])) : w.ownsRow B e 1 v m ((done ++ [u]).map Value.string) := by
  subst hm
  rw [List.map_append]
  exact h
set_option maxRecDepth 100000 in
set_option maxHeartbeats 1000000 in
theorem sorted_small (ks : List ByteArray) (kv : Value) (w : World) (h2 : ks.length < 2) (hk : KeysAt w w.heap.size kv ks) :
    Calls Tryz.prog 135 #[kv] w fun e w' => ∃ v', e = .returned v' ∧ OwnKeys w' w.heap.size v' (sortK ks) ∧ Below w.heap.size w w' := by
  obtain ⟨A, ad, c, rfl, hA, hac⟩ := hk.1.dest
  rw [List.length_map] at hk hA ⊢
  have HK := Lib.hid hk
  clear hk hac hA
  go_enter Tryz.func135, Tryz.ntmps135
  go_wp2_with (at_builtin; refine app_arr rfl _ _ _ rfl w.heap.size 9 (.string ⟨#[]⟩) 16 Tryz.underlying25 infoStr rfl _ 0 [] rfl ?o1 w.heap.size (.slice A ks.length c) (ks.map Value.string) ?o2 ?o3 rfl ?o4 ?o5 ?o6 ?o7 ?_)
  case o1 => exact own_fresh _ _ _ _ rfl (Nat.le_refl _)
  case o2 => exact HK.out.1.below ((Below.refl w.heap.size w).alloc (Nat.le_refl _) _)
  case o3 => exact fun n c e => (HK.out.2 _ _ _ e).2.2 rfl
  case o4 =>
    intro u hu
    obtain ⟨x, _, rfl⟩ := List.mem_map.1 hu
    rfl
  case o5 => rw [List.length_map]; unfold maxLen; omega
  case o6 => rw [List.length_map]; omega
  case o7 => simp
  intro v' w1 hown hgrow hblk
  have hres : OwnKeys w1 w.heap.size v' (sortK ks) := by
    unfold OwnKeys
    rw [sortK_small ks h2]
    simpa using hown
  have hb : Below w.heap.size w w1 := ((Below.refl w.heap.size w).alloc (Nat.le_refl _) _).grown hgrow (by simp) (fun k hk => by cases hk; exact Nat.le_refl _)
  clear hown hgrow hblk
  go_wp2_with fail
  go_ret
  exact ⟨_, rfl, hres, hb⟩
set_option maxRecDepth 100000 in
set_option maxHeartbeats 4000000 in
theorem Sorted_any : ∀ (N : Nat) (ks : List ByteArray) (kv : Value) (w : World), ks.length ≤ N → ks.length ≤ 1048576 → KeysAt w w.heap.size kv ks →
    Calls Tryz.prog 135 #[kv] w fun e w' => ∃ v', e = .returned v' ∧ OwnKeys w' w.heap.size v' (sortK ks) ∧ Below w.heap.size w w' := by
  intro N
  induction N with
  | zero =>
    intro ks kv w hN hmax hk
    exact sorted_small ks kv w (by omega) hk
  | succ N ih =>
    intro ks kv w hN hmax hk
    by_cases h2 : ks.length < 2
    · exact sorted_small ks kv w h2 hk
    · obtain ⟨A, ad, c, rfl, hA, hac⟩ := hk.1.dest
      rw [List.length_map] at hk hA ⊢
      obtain ⟨hcap, hcm, hnil⟩ := hk.2 _ _ _ rfl
      unfold maxLen at hcm
      have h0 : 0 < ks.length := by omega
      obtain ⟨rfl, hadb⟩ := hA h0
      have hk1 : KeysAt w w.heap.size (.slice (some ad) (ks.length / 2) c) (ks.take (ks.length / 2)) := ⟨by rw [List.map_take]; exact hk.1.take _ (by omega), fun A n c e => by cases e; exact ⟨by omega, by unfold maxLen; omega, fun e => by cases e⟩⟩
      have hk2 : KeysAt w w.heap.size (.slice (some (ad.add (ks.length / 2))) (ks.length - ks.length / 2) (c - ks.length / 2)) (ks.drop (ks.length / 2)) := ⟨by rw [List.map_drop]; exact hk.1.drop _ (by omega), fun A n c e => by cases e; exact ⟨by omega, by unfold maxLen; omega, fun e => by cases e⟩⟩
      have HK1 := Lib.hid hk1
      have HK2 := Lib.hid hk2
      have HIH := Lib.hid ih
      have hlen1 : ks.length / 2 < ks.length := by omega
      clear hk hk1 hk2 ih hA hac hnil
      go_enter Tryz.func135, Tryz.ntmps135
      go_wp2_with fail
      refine (HIH.out (ks.take (ks.length / 2)) _ w (by rw [List.length_take]; omega) (by rw [List.length_take]; omega) HK1.out).mono ?_
      rintro e w1 ⟨va, rfl, hown1, hb1⟩
      have HB1 := Lib.hid hb1
      have HO1 := Lib.hid hown1
      clear hown1 hb1
      go_wp2_with fail
      refine (HIH.out (ks.drop (ks.length / 2)) _ w1 (by rw [List.length_drop]; omega) (by rw [List.length_drop]; omega) ((HK2.out.below HB1.out).more HB1.out.size)).mono ?_
      rintro e w2 ⟨vb, rfl, hown2, hb2⟩
      have HB2 : Hid (Below w.heap.size w w2) := Lib.hid (HB1.out.trans (hb2.mono HB1.out.size))
      have ha := (HO1.out.below hb2).at
      have hb := hown2.at
      obtain ⟨ra, hra⟩ : ∃ ra, sortK (ks.take (ks.length / 2)) = ra := ⟨_, rfl⟩
      obtain ⟨rb, hrb⟩ : ∃ rb, sortK (ks.drop (ks.length / 2)) = rb := ⟨_, rfl⟩
      have hmk := mergeK_halves ks (ks.length / 2)
      have hla : ra.length = ks.length / 2 := by rw [← hra, sortK_len, List.length_take]; omega
      have hlb : rb.length = ks.length - ks.length / 2 := by rw [← hrb, sortK_len, List.length_drop]
      have hsum : ra.length + rb.length = ks.length := by omega
      rw [hra] at ha hmk
      rw [hrb] at hb hmk
      obtain ⟨A1, ad1, c1, rfl, hA1, hac1⟩ := ha.1.dest
      obtain ⟨A2, ad2, c2, rfl, hA2, hac2⟩ := hb.1.dest
      rw [List.length_map] at hA1 hA2
      rw [List.length_map, List.length_map]
      have hla0 : 0 < ra.length := by omega
      have hlb0 : 0 < rb.length := by omega
      obtain ⟨rfl, had1⟩ := hA1 hla0
      obtain ⟨rfl, had2⟩ := hA2 hlb0
      have HM := Lib.hid hmk
      have HSUM := Lib.hid hsum
      have HC1 := Lib.hid hac1
      have HC2 := Lib.hid hac2
      have hlas : ra.length ≤ 1048576 := by omega
      have hlbs : rb.length ≤ 1048576 := by omega
      have hsumle : ra.length + rb.length ≤ 1048576 := by omega
      clear hown2 hb2 ha hb hra hrb hmk hla hlb hsum hac1 hac2 hA1 hA2 HO1 HK1 HK2 HIH HB1
      go_wp2_with fail
      go_loopw [5, 6, 7] (fun v i k W => ∃ (x y : Nat) (done : List ByteArray), x ≤ ra.length ∧ y ≤ rb.length ∧ i = .int .i64 x ∧ k = .int .i64 y ∧ done.length = x + y ∧ W.ownsRow w2.heap.size 9 1 v (x + y) (done.map Value.string) ∧
        done ++ mergeK (ra.length - x + (rb.length - y)) (ra.drop x) (rb.drop y) = sortK ks ∧ Below w2.heap.size w2 W) (fun _ i k _ => ra.length + rb.length - (intOf i).toNat - (intOf k).toNat)
      case atStart => exact ⟨0, 0, [], Nat.zero_le _, Nat.zero_le _, rfl, rfl, rfl, ⟨rfl, Or.inl ⟨rfl, rfl⟩⟩, by rw [Nat.sub_zero, Nat.sub_zero, HSUM.out]; exact HM.out, Below.refl _ _⟩
      case round =>
        obtain ⟨x, y, done, hx, hy, rfl, rfl, hdl, hown, hmk, hbel⟩ := hrel
        have HOWN := Lib.hid hown
        have HMK := Lib.hid hmk
        have HBEL := Lib.hid hbel
        have HDL := Lib.hid hdl
        clear hown hmk hbel hdl
        by_cases hxa : x < ra.length
        · have hcx : wr.cell? (ad1.add x) = some (.string ra[x]) := (HBEL.out.cell (p := ad1.add x) (by rw [add_block]; exact had1)).trans (HC1.out x _ (by simp [hxa]))
          by_cases hyb : y < rb.length
          · have hcy : wr.cell? (ad2.add y) = some (.string rb[y]) := (HBEL.out.cell (p := ad2.add y) (by rw [add_block]; exact had2)).trans (HC2.out y _ (by simp [hyb]))
            have hle := leK_walk ra[x] rb[y]
            have hd1 : ((y : Int) == rb.length) = false := by simp; omega
            have hd2 : decide ((x : Int) < ra.length) = true := by simp; omega
            cases hc : leK ra[x] rb[y]
            · have HC := Lib.hid hc
              rw [hc] at hle
              clear hc
              go_wp2_with fail
              go_quiet (fail)
              go_wp2_with (at_builtin; refine app_one rfl _ _ _ rfl w2.heap.size 9 _ 16 Tryz.underlying25 infoStr rfl _ _ _ rfl (by exact HOWN.out) rfl rfl ?c1 ?c2 ?c3 ?_)
              case c1 => unfold maxLen; omega
              case c2 => omega
              case c3 => exact HBEL.out.size
              intro v' w3 hown3 hg3 hb3
              have HO3 := Lib.hid hown3
              have HB3 : Hid (Below w2.heap.size w2 w3) := Lib.hid ((below_drewN HBEL.out _).trans hb3)
              clear hown3 hg3 hb3
              go_wp2_with fail
              go_roundw
              case rel => exact ⟨x, y + 1, done ++ [rb[y]], by omega, by omega, rfl, by go_num, by rw [List.length_append, HDL.out]; rfl, own_snoc _ (by omega) HO3.out, merge_right hx hyb HMK.out (Or.inr ⟨hxa, HC.out⟩), HB3.out⟩
              case measure => simp [intOf]; omega
            · have HC := Lib.hid hc
              rw [hc] at hle
              clear hc
              go_wp2_with fail
              go_quiet (fail)
              go_wp2_with (at_builtin; refine app_one rfl _ _ _ rfl w2.heap.size 9 _ 16 Tryz.underlying25 infoStr rfl _ _ _ rfl (by exact HOWN.out) rfl rfl ?c1 ?c2 ?c3 ?_)
              case c1 => unfold maxLen; omega
              case c2 => omega
              case c3 => exact HBEL.out.size
              intro v' w3 hown3 hg3 hb3
              have HO3 := Lib.hid hown3
              have HB3 : Hid (Below w2.heap.size w2 w3) := Lib.hid ((below_drewN HBEL.out _).trans hb3)
              clear hown3 hg3 hb3
              go_wp2_with fail
              go_roundw
              case rel => exact ⟨x + 1, y, done ++ [ra[x]], by omega, by omega, by go_num, rfl, by rw [List.length_append, HDL.out]; simp; omega, own_snoc _ (by omega) HO3.out, merge_left hxa hy HMK.out (Or.inr ⟨hyb, HC.out⟩), HB3.out⟩
              case measure => simp [intOf]; omega
          · have hye : y = rb.length := by omega
            have hd1 : ((y : Int) == rb.length) = true := by simp; omega
            have HYE := Lib.hid hye
            clear hye
            go_wp2_with fail
            go_quiet (fail)
            go_wp2_with (at_builtin; refine app_one rfl _ _ _ rfl w2.heap.size 9 _ 16 Tryz.underlying25 infoStr rfl _ _ _ rfl (by exact HOWN.out) rfl rfl ?c1 ?c2 ?c3 ?_)
            case c1 => unfold maxLen; omega
            case c2 => omega
            case c3 => exact HBEL.out.size
            intro v' w3 hown3 hg3 hb3
            have HO3 := Lib.hid hown3
            have HB3 : Hid (Below w2.heap.size w2 w3) := Lib.hid ((below_drewN HBEL.out _).trans hb3)
            clear hown3 hg3 hb3
            go_wp2_with fail
            go_roundw
            case rel => exact ⟨x + 1, y, done ++ [ra[x]], by omega, by omega, by go_num, rfl, by rw [List.length_append, HDL.out]; simp; omega, own_snoc _ (by omega) HO3.out, merge_left hxa hy HMK.out (Or.inl HYE.out), HB3.out⟩
            case measure => simp [intOf]; omega
        · have hd2 : decide ((x : Int) < ra.length) = false := by simp; omega
          by_cases hyb : y < rb.length
          · have hcy : wr.cell? (ad2.add y) = some (.string rb[y]) := (HBEL.out.cell (p := ad2.add y) (by rw [add_block]; exact had2)).trans (HC2.out y _ (by simp [hyb]))
            have hd1 : ((y : Int) == rb.length) = false := by simp; omega
            go_wp2_with fail
            go_quiet (fail)
            go_wp2_with (at_builtin; refine app_one rfl _ _ _ rfl w2.heap.size 9 _ 16 Tryz.underlying25 infoStr rfl _ _ _ rfl (by exact HOWN.out) rfl rfl ?c1 ?c2 ?c3 ?_)
            case c1 => unfold maxLen; omega
            case c2 => omega
            case c3 => exact HBEL.out.size
            intro v' w3 hown3 hg3 hb3
            have HO3 := Lib.hid hown3
            have HB3 : Hid (Below w2.heap.size w2 w3) := Lib.hid ((below_drewN HBEL.out _).trans hb3)
            clear hown3 hg3 hb3
            go_wp2_with fail
            go_roundw
            case rel => exact ⟨x, y + 1, done ++ [rb[y]], by omega, by omega, rfl, by go_num, by rw [List.length_append, HDL.out]; rfl, own_snoc _ (by omega) HO3.out, merge_right hx hyb HMK.out (Or.inl (by omega)), HB3.out⟩
            case measure => simp [intOf]; omega
          · have hd3 : decide ((y : Int) < rb.length) = false := by simp; omega
            go_wp2_with fail
            go_ret
            have hdone : done = sortK ks := by
              have h := HMK.out
              rw [List.drop_of_length_le (by omega : ra.length ≤ x), List.drop_of_length_le (by omega : rb.length ≤ y)] at h
              have e : mergeK (ra.length - x + (rb.length - y)) [] [] = [] := by
                have : ra.length - x + (rb.length - y) = 0 := by omega
                rw [this]; rfl
              rw [e, List.append_nil] at h
              exact h
            refine ⟨_, rfl, ?_, HB2.out.trans (HBEL.out.mono HB2.out.size)⟩
            unfold OwnKeys
            rw [← hdone, HDL.out]
            exact own_base HOWN.out HB2.out.size
end Go.Proofs.YtpobdmkidopnnaaGreatDoor
namespace Go.Proofs.YtpobdmkidopnnaaGreatDoor
open Go Go.RowKit

/-- Is the text at this place valid, and another than the one ahead of it? -/
def okAt (l : List ByteArray) (i : Nat) : Bool := allGood (l.getD i default) 0 && (i == 0 || !((l.getD i default).toList == (l.getD (i - 1) default).toList))
def okK (l : List ByteArray) : Bool := (List.range l.length).all (okAt l)
theorem okK_false {l : List ByteArray} {i : Nat} (hi : i < l.length) (h : okAt l i = false) : okK l = false := by
  unfold okK
  rw [List.all_eq_false]
  exact ⟨i, by simpa using hi, by simp [h]⟩
theorem okK_true {l : List ByteArray} {i : Nat} (hi : l.length ≤ i) (h : ∀ j, j < i → okAt l j = true) : okK l = true := by
  unfold okK
  rw [List.all_eq_true]
  intro j hj
  exact h j (by have := List.mem_range.1 hj; omega)
theorem size_keysLen : ∀ (ks : List ByteArray) (s : ByteArray), s ∈ ks → s.size ≤ keysLen ks
  | k :: ks, s, h => by
    unfold keysLen
    simp only [List.map_cons, List.sum_cons]
    rcases List.mem_cons.1 h with rfl | h
    · omega
    · have := size_keysLen ks s h
      unfold keysLen at this
      omega
set_option maxRecDepth 100000 in
set_option maxHeartbeats 4000000 in
theorem refKeys_any (ks : List ByteArray) (kv : Value) (w : World) (hmax : ks.length ≤ 1048576) (hlen : keysLen ks ≤ 1048576) (hk : KeysAt w w.heap.size kv ks) :
    Calls Tryz.prog 79 #[kv] w fun e w' => e = .returned (.bool (okK (sortK ks))) ∧ Below w.heap.size w w' := by
  have hs := Sorted_any _ ks kv w (Nat.le_refl _) hmax hk
  have hsz : ∀ s ∈ sortK ks, s.size ≤ 1048576 := fun s h => Nat.le_trans (size_keysLen ks s ((sortK_perm ks).subset h)) hlen
  have hl := sortK_len ks
  obtain ⟨so, hso⟩ : ∃ so, sortK ks = so := ⟨_, rfl⟩
  rw [hso] at hs hsz hl ⊢
  obtain ⟨A, ad, c, rfl, _, _⟩ := hk.1.dest
  rw [List.length_map] at hs ⊢
  have HS := Lib.hid hs
  have HZ := Lib.hid hsz
  have hml : so.length ≤ 1048576 := by omega
  clear hs hsz hso hk hl
  go_enter Tryz.func79, Tryz.ntmps79
  go_wp2_with fail
  refine HS.out.mono ?_
  rintro e w1 ⟨v', rfl, hown, hb1⟩
  have hat := hown.at
  obtain ⟨A1, ad1, c1, rfl, hA1, hac1⟩ := hat.1.dest
  rw [List.length_map] at hA1 ⊢
  have HA1 := Lib.hid hA1
  have HC := Lib.hid hac1
  have HB := Lib.hid hb1
  clear hown hat hA1 hac1 hb1
  go_wp2_with fail
  go_loopw [4] (fun i W => ∃ x : Nat, x ≤ so.length ∧ i = .int .i64 x ∧ (∀ j, j < x → okAt so j = true) ∧ Below w1.heap.size w1 W) (fun i _ => so.length - (intOf i).toNat)
  case atStart => exact ⟨0, Nat.zero_le _, rfl, fun j h => absurd h (by omega), Below.refl _ _⟩
  case round =>
    obtain ⟨x, hx, rfl, hok, hbel⟩ := hrel
    have HOK := Lib.hid hok
    have HBEL := Lib.hid hbel
    clear hok hbel
    by_cases hlt : x < so.length
    · obtain ⟨rfl, hadb⟩ := HA1.out (by omega)
      have hcx : wr.cell? (ad1.add x) = some (.string so[x]) := (HBEL.out.cell (p := ad1.add x) (by rw [add_block]; exact hadb)).trans (HC.out x _ (by simp [hlt]))
      have hzx := HZ.out so[x] (List.getElem_mem hlt)
      have hgx : so.getD x default = so[x] := by simp [List.getD, hlt]
      cases hv : allGood so[x] 0
      · have hno : okAt so x = false := by unfold okAt; rw [hgx, hv]; rfl
        have HNO := Lib.hid (okK_false hlt hno)
        have HV := Lib.hid hv
        clear hno hv hgx
        go_wp2_with fail
        go_quiet ((go_at_call 21; exact Calls.quiet_of_same ((refValid_any so[x] (by omega) _).mono (by rintro e w' ⟨he, rfl⟩; exact ⟨by rw [he, HV.out], rfl⟩))))
        go_wp2_with fail
        go_ret
        exact ⟨by rw [HNO.out]; rfl, HB.out.trans ((below_drewN HBEL.out _).mono HB.out.size)⟩
      · have HV := Lib.hid hv
        clear hv
        by_cases hx0 : x = 0
        · have hyes : okAt so x = true := by unfold okAt; rw [hgx, HV.out]; simp [hx0]
          have HYES := Lib.hid hyes
          have hd0 : decide ((0 : Int) < x) = false := by simp; omega
          have hd1 : decide (0 < x) = false := by simp; omega
          have hx0' : x ≤ 0 := by omega
          clear hyes hgx hx0
          go_wp2_with fail
          go_quiet ((go_at_call 21; exact Calls.quiet_of_same ((refValid_any so[x] (by omega) _).mono (by rintro e w' ⟨he, rfl⟩; exact ⟨by rw [he, HV.out], rfl⟩))))
          go_wp2_with fail
          go_roundw
          case rel => exact ⟨x + 1, by omega, by go_num, fun j hj => by by_cases e : j = x; (rw [e]; exact HYES.out); exact HOK.out j (by omega), below_drewN HBEL.out _⟩
          case measure => simp [intOf]; omega
        · have hx1 : 1 ≤ x := by omega
          have hd0 : decide ((0 : Int) < x) = true := by simp; omega
          have hd1 : decide (0 < x) = true := by simp; omega
          have hcp : wr.cell? (ad1.add (x - 1)) = some (.string (so[x - 1]'(by omega))) := (HBEL.out.cell (p := ad1.add (x - 1)) (by rw [add_block]; exact hadb)).trans (HC.out (x - 1) _ (by simp <;> omega))
          have hgp : so.getD (x - 1) default = so[x - 1]'(by omega) := by rw [List.getD, List.getElem?_eq_getElem (by omega)]; rfl
          obtain ⟨p, hp⟩ : ∃ p, so[x - 1]'(by omega) = p := ⟨_, rfl⟩
          rw [hp] at hcp hgp
          cases heq : (so[x].toList == p.toList)
          · have hyes : okAt so x = true := by unfold okAt; rw [hgx, hgp, HV.out, heq]; simp
            have HYES := Lib.hid hyes
            clear hyes hgx hgp hp hx0
            go_wp2_with fail
            go_quiet ((go_at_call 21; exact Calls.quiet_of_same ((refValid_any so[x] (by omega) _).mono (by rintro e w' ⟨he, rfl⟩; exact ⟨by rw [he, HV.out], rfl⟩))))
            go_wp2_with fail
            go_roundw
            case rel => exact ⟨x + 1, by omega, by go_num, fun j hj => by by_cases e : j = x; (rw [e]; exact HYES.out); exact HOK.out j (by omega), below_drewN HBEL.out _⟩
            case measure => simp [intOf]; omega
          · have hno : okAt so x = false := by unfold okAt; rw [hgx, hgp, HV.out, heq]; simp; try omega
            have HNO := Lib.hid (okK_false hlt hno)
            clear hno hgx hgp hp hx0
            go_wp2_with fail
            go_quiet ((go_at_call 21; exact Calls.quiet_of_same ((refValid_any so[x] (by omega) _).mono (by rintro e w' ⟨he, rfl⟩; exact ⟨by rw [he, HV.out], rfl⟩))))
            go_wp2_with fail
            go_ret
            exact ⟨by rw [HNO.out]; rfl, HB.out.trans ((below_drewN HBEL.out _).mono HB.out.size)⟩
    · have HYES := Lib.hid (okK_true (by omega : so.length ≤ x) HOK.out)
      go_wp2_with fail
      go_ret
      exact ⟨by rw [HYES.out]; rfl, HB.out.trans (HBEL.out.mono HB.out.size)⟩
end Go.Proofs.YtpobdmkidopnnaaGreatDoor
