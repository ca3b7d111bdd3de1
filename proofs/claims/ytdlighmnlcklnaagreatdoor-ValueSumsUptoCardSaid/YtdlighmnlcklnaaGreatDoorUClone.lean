/- The library's copies and sorting of rows of texts; the program's look at keys. -/
import Derived.Test.YtdlighmnlcklnaaGreatDoorUKeys
import Derived.Test.YtdlighmnlcklnaaGreatDoorURunes
import Derived.Test.YtdlighmnlcklnaaGreatDoorShelf
import Derived.Test.YtdlighmnlcklnaaGreatDoorUCopy
import Derived.WalkSpells
import Derived.Deep.RegionWith
namespace Go.Proofs.YtdlighmnlcklnaaGreatDoor
open Go Go.RowKit

theorem spot_none {w : World} {a : Addr} {u : Value} (h : w.cell? a = some u) : a = ⟨a.block, a.off, none⟩ := by
  obtain ⟨b, o, s⟩ := a
  unfold World.cell? at h
  cases s with
  | none => rfl
  | some x => simp at h; split at h <;> cases h
theorem Clone_keys (ks : List ByteArray) (kv : Value) (w : World) (hmax : ks.length ≤ 1048576) (hk : KeysAt w w.heap.size kv ks) :
    Calls Tryz.prog 96 #[kv] w fun e w' => ∃ v', e = .returned v' ∧ OwnKeys w' w.heap.size v' ks ∧ Below w.heap.size w w' := by
  obtain ⟨A, ad, c, rfl, hA, hac⟩ := hk.1.dest
  have hcap := hk.2 _ _ _ rfl
  rw [List.length_map] at hcap hA ⊢
  rcases Nat.eq_zero_or_pos ks.length with h0 | h0
  · have e0 : ks = [] := List.eq_nil_of_length_eq_zero h0
    subst e0
    cases A with
    | none =>
      refine (Tryz.slices_Clone_string_nil _ _ w).mono ?_
      rintro e w' ⟨rfl, rfl⟩
      exact ⟨_, rfl, ⟨rfl, Or.inl ⟨rfl, rfl⟩⟩, Below.refl _ _⟩
    | some a =>
      refine (Tryz.slices_Clone_string_zero a c w).mono ?_
      rintro e w' ⟨v', rfl, h1, _, h2⟩
      exact ⟨_, rfl, h1, h2⟩
  · obtain ⟨rfl, hb⟩ := hA h0
    have hc0 := hac 0 (.string ks[0]) (by simp [h0])
    have e := spot_none hc0
    have e1 : ad = ⟨ad.block, ad.off, none⟩ := by
      have : ad.add 0 = ad := by unfold Addr.add; simp
      rw [this] at e
      exact e
    obtain ⟨b, o, s⟩ := ad
    have e2 : s = none := by injection e1
    subst e2
    refine (Tryz.slices_Clone_string b o ks.length c ks w (Nat.le_refl _) (by omega) ?_).mono ?_
    · intro j hj
      have h := hac j (.string ks[j]) (by simp [hj])
      have e3 : (⟨b, o, none⟩ : Addr).add j = ⟨b, o + j, none⟩ := by
        unfold Addr.add
        by_cases hj0 : j = 0
        · subst hj0; simp
        · simp [hj0]
      rw [e3] at h
      rw [h]
      simp [List.getD, hj]
    · rintro e w' ⟨v', rfl, h1, _, h2⟩
      rw [List.take_length] at h1
      exact ⟨_, rfl, h1, h2⟩
theorem sort_lists (ks : List ByteArray) : ((ks.map fun a => a.data.toList).mergeSort fun x y => decide (x ≤ y)).map encStr = (sortK ks).map Value.string := by
  have h := List.map_mergeSort (r := leK) (s := fun x y : List UInt8 => decide (x ≤ y)) (f := fun a : ByteArray => a.data.toList) (l := ks) (fun a _ b _ => rfl)
  rw [← h, List.map_map]
  rfl
theorem Sort_own (ks : List ByteArray) (v : Value) (w : World) (B : Nat) (hmax : ks.length ≤ 1048576) (hB : B ≤ w.heap.size) (h : OwnKeys w B v ks) :
    Calls Tryz.prog 108 #[v] w fun e w' => e = .returned (.tuple #[]) ∧ OwnKeys w' B v (sortK ks) ∧ Below B w w' := by
  have hl := sortK_len ks
  rcases Nat.eq_zero_or_pos ks.length with h0 | h0
  · have e0 : ks = [] := List.eq_nil_of_length_eq_zero h0
    subst e0
    obtain ⟨A, n, c, rfl⟩ : ∃ A n c, v = .slice A n c := by
      rcases h.2 with ⟨rfl, _⟩ | ⟨g, cap, cur, rfl, _⟩ <;> exact ⟨_, _, _, rfl⟩
    have hn : n = 0 := by
      rcases h.2 with ⟨e, _⟩ | ⟨g, cap, cur, e, _⟩
      · cases e; rfl
      · cases e; rfl
    subst hn
    refine (Tryz.slices_Sort_string_none A c w).mono ?_
    rintro e w' ⟨rfl, rfl⟩
    exact ⟨rfl, by rw [sortK_small [] (by simp)]; exact h, Below.refl _ _⟩
  · rcases h.2 with ⟨_, e0⟩ | ⟨g, cap, cur, rfl, hg, hh, hc1, hc2, hcs, htk⟩
    · omega
    have hcur : ∀ j (hj : j < ks.length), cur[j]? = some (.string ks[j]) := by
      intro j hj
      have h1 : (cur.toList.take (ks.length * 1))[j]? = some (.string ks[j]) := by rw [htk]; simp [hj]
      rw [List.getElem?_take, if_pos (by omega)] at h1
      simpa using h1
    have hgs : g < w.heap.size := (Array.getElem?_eq_some_iff.1 hh).1
    have hold : Go.Sort.Holds encStr w g 0 (ks.map fun a => a.data.toList).toArray := by
      intro j hj
      have hj' : j < ks.length := by simpa using hj
      refine ⟨?_, ?_⟩
      · rw [World.cell?]
        simp only [hh, Nat.zero_add]
        rw [hcur j hj']
        simp [hj', encStr]
      · simp [World.frozen?, hh]
    have e1 : (ks.map fun a => a.data.toList).length = ks.length := List.length_map ..
    have hcall := Tryz.slices_Sort_string g 0 cap (ks.map fun a => a.data.toList) w hold hgs (by rw [e1]; omega)
    rw [e1] at hcall
    refine hcall.mono ?_
    rintro e w' ⟨rfl, n, os, rfl⟩
    obtain ⟨so, hso⟩ : ∃ so, ((ks.map fun a => a.data.toList).mergeSort fun x y => decide (x ≤ y)) = so := ⟨_, rfl⟩
    have hsl : so.length = ks.length := by rw [← hso, List.length_mergeSort, e1]
    have hsm : so.map encStr = (sortK ks).map Value.string := by rw [← hso]; exact sort_lists ks
    rw [hso]
    have hblk : ∀ k, k < w.heap.size → k ≠ g → (Go.Sort.grow (Go.Sort.putRow encStr (Go.Sort.ahead w n) g 0 so.toArray) os).heap[k]? = w.heap[k]? := by
      intro k hk hn
      simp only [Go.Sort.grow, Go.Sort.putRow, Go.Sort.mapBlock, Go.Sort.ahead]
      rw [Array.getElem?_append_left (by simpa using hk), Array.getElem?_modify, if_neg (fun e => hn e.symm)]
    have hnew : (Go.Sort.grow (Go.Sort.putRow encStr (Go.Sort.ahead w n) g 0 so.toArray) os).heap[g]? = some (.cells (Go.Sort.putCells encStr 0 so.toArray cur) 9 (0, 0)) := by
      simp only [Go.Sort.grow, Go.Sort.putRow, Go.Sort.mapBlock, Go.Sort.ahead]
      rw [Array.getElem?_append_left (by simpa using hgs), Array.getElem?_modify, if_pos rfl, hh]
      rfl
    refine ⟨rfl, ?_, ⟨rfl, rfl, rfl, by simp [Go.Sort.grow, Go.Sort.putRow, Go.Sort.mapBlock, Go.Sort.ahead], fun k hk => hblk k (by omega) (by omega)⟩⟩
    unfold OwnKeys
    rw [hl]
    refine ⟨by simp [hl], Or.inr ⟨g, cap, _, rfl, hg, hnew, hc1, hc2, by simp [Go.Sort.putCells, hcs], ?_⟩⟩
    rw [← hsm]
    apply List.ext_getElem?
    intro j
    by_cases hj : j < ks.length
    · rw [List.getElem?_take, if_pos (by omega)]
      have h2 := hcur j hj
      simp only [Go.Sort.putCells, Array.getElem?_toList, Array.getElem?_mapIdx, h2, Option.map_some, Nat.zero_le, Nat.zero_add, true_and, Nat.sub_zero, List.size_toArray, hsl, hj, if_true]
      simp [hsl, hj]
    · rw [List.getElem?_take, if_neg (by omega), List.getElem?_eq_none (by simp; omega)]
set_option maxRecDepth 100000 in
set_option maxHeartbeats 4000000 in
theorem rightKeys_any (ks : List ByteArray) (kv : Value) (a : Option Addr) (n c : Nat) (k : Int) (f : Nat) (s : ByteArray) (w : World) (hmax : ks.length ≤ 1048576) (hlen : keysLen ks ≤ 1048576) (_hn : n ≤ 1048576) (hk : KeysAt w w.heap.size kv ks) :
    Calls Tryz.prog 73 #[.agg #[.int .i64 k, .float .f64 f, .string s, .slice a n c, kv]] w fun e w' => e = .returned (.bool (decide (ks.length = n) && okK (sortK ks))) ∧ Below w.heap.size w w' := by
  have hsf := run_store_float Tryz.prog
  have hcl := fun W hW => Clone_keys ks kv W hmax hW
  have HCL := Lib.hid hcl
  have HK := Lib.hid hk
  obtain ⟨A, ad, ck, rfl, _, _⟩ := hk.1.dest
  rw [List.length_map] at HCL HK ⊢
  clear hcl hk
  by_cases hne : ks.length = n
  · have hd : decide (ks.length = n) = true := by simp [hne]
    have hq : ((ks.length : Int) != n) = false := by simp [hne]
    rw [hd, Bool.true_and]
    have hsz : ∀ s ∈ sortK ks, s.size ≤ 1048576 := fun s h => Nat.le_trans (size_keysLen ks s ((sortK_perm ks).subset h)) hlen
    have hl := sortK_len ks
    have hso := fun v W B hB h => Sort_own ks v W B hmax hB h
    obtain ⟨so, e⟩ : ∃ so, sortK ks = so := ⟨_, rfl⟩
    rw [e] at hso hsz hl ⊢
    have HZ := Lib.hid hsz
    have HSO := Lib.hid hso
    have hml : so.length ≤ 1048576 := by omega
    clear hd hne hsz e hso hl
    go_enter Tryz.func73, Tryz.ntmps73
    go_wp2_with fail
    refine (HCL.out _ (KeysAt.more (HK.out.below ((Below.refl w.heap.size w).alloc (Nat.le_refl _) _)) (by simp))).mono ?_
    rintro e w1 ⟨v', rfl, hown, hb1⟩
    have HO := Lib.hid hown
    have HB := Lib.hid hb1
    clear hown hb1
    go_wp2_with fail
    refine (HSO.out _ w1 _ HB.out.size HO.out).mono ?_
    rintro e w2 ⟨rfl, hown2, hb2⟩
    have hat := hown2.at
    obtain ⟨A1, ad1, c1, rfl, hA1, hac1⟩ := hat.1.dest
    rw [List.length_map] at hA1 ⊢
    have HA1 := Lib.hid hA1
    have HC := Lib.hid hac1
    have HB2 : Hid (Below w.heap.size w w2) := Lib.hid (((Below.refl w.heap.size w).alloc (Nat.le_refl _) _).trans ((HB.out.mono (by simp)).trans (hb2.mono (by simp))))
    clear hown2 hat hA1 hac1 hb2 HO HB HSO HCL HK
    go_wp2_with fail
    go_loopw [20] (fun i W => ∃ x : Nat, x ≤ so.length ∧ i = .int .i64 x ∧ (∀ j, j < x → okAt so j = true) ∧ Below w2.heap.size w2 W) (fun i _ => so.length - (intOf i).toNat)
    case atStart => exact ⟨0, Nat.zero_le _, rfl, fun j h => absurd h (by omega), Below.refl _ _⟩
    case round =>
      obtain ⟨x, hx, rfl, hok, hbel⟩ := hrel
      have HOK := Lib.hid hok
      have HBEL := Lib.hid hbel
      clear hok hbel
      by_cases hlt : x < so.length
      · obtain ⟨rfl, hadb⟩ := HA1.out (by omega)
        have hcx : wr.cell? (ad1.add x) = some (.string so[x]) := (HBEL.out.cell (p := ad1.add x) (by rw [add_block]; exact hadb)).trans (HC.out x _ (by simp [hlt]))
        have hzx := HZ.out so[x] (List.getElem_mem hlt)
        have hgx : so.getD x default = so[x] := by simp [List.getD, hlt]
        have hva := Valid_any so[x] (by omega) wr
        cases hv : allGood so[x] 0
        · have hno : okAt so x = false := by unfold okAt; rw [hgx, hv]; rfl
          have HNO := Lib.hid (okK_false hlt hno)
          rw [hv] at hva
          have HVA := Lib.hid hva
          clear hno hv hgx hva
          go_wp2_with fail
          refine HVA.out.mono ?_
          rintro e w3 ⟨rfl, hb3⟩
          have HB3 := Lib.hid hb3
          clear hb3
          go_wp2_with fail
          go_ret
          exact ⟨by rw [HNO.out]; rfl, HB2.out.trans ((HBEL.out.trans (HB3.out.mono HBEL.out.size)).mono HB2.out.size)⟩
        · rw [hv] at hva
          have HV := Lib.hid hv
          have HVA := Lib.hid hva
          clear hv hva
          by_cases hx0 : x = 0
          · have hyes : okAt so x = true := by unfold okAt; rw [hgx, HV.out]; simp [hx0]
            have HYES := Lib.hid hyes
            have hd0 : decide ((0 : Int) < x) = false := by simp; omega
            have hd1 : decide (0 < x) = false := by simp; omega
            have hx0' : x ≤ 0 := by omega
            clear hyes hgx hx0
            go_wp2_with fail
            refine HVA.out.mono ?_
            rintro e w3 ⟨rfl, hb3⟩
            have HB3 := Lib.hid hb3
            clear hb3
            go_wp2_with fail
            go_roundw
            case rel => exact ⟨x + 1, by omega, by go_num, fun j hj => by by_cases e : j = x; (rw [e]; exact HYES.out); exact HOK.out j (by omega), HBEL.out.trans (HB3.out.mono HBEL.out.size)⟩
            case measure => simp [intOf]; omega
          · have hx1 : 1 ≤ x := by omega
            have hd0 : decide ((0 : Int) < x) = true := by simp; omega
            have hd1 : decide (0 < x) = true := by simp; omega
            have hcp : wr.cell? (ad1.add (x - 1)) = some (.string (so[x - 1]'(by omega))) := (HBEL.out.cell (p := ad1.add (x - 1)) (by rw [add_block]; exact hadb)).trans (HC.out (x - 1) _ (by simp <;> omega))
            have hwr : (ad1.add (x - 1)).block < wr.heap.size := by rw [add_block]; have := HBEL.out.size; omega
            have hgp : so.getD (x - 1) default = so[x - 1]'(by omega) := by rw [List.getD, List.getElem?_eq_getElem (by omega)]; rfl
            obtain ⟨p, hp⟩ : ∃ p, so[x - 1]'(by omega) = p := ⟨_, rfl⟩
            rw [hp] at hcp hgp
            have HCP := Lib.hid hcp
            have HWR := Lib.hid hwr
            cases heq : (so[x].toList == p.toList)
            · have hyes : okAt so x = true := by unfold okAt; rw [hgx, hgp, HV.out, heq]; simp
              have HYES := Lib.hid hyes
              clear hyes hgx hgp hp hx0 hcp hwr
              go_wp2_with fail
              refine HVA.out.mono ?_
              rintro e w3 ⟨rfl, hb3⟩
              have hcp3 : w3.cell? (ad1.add (x - 1)) = some (.string p) := (hb3.cell HWR.out).trans HCP.out
              have HB3 := Lib.hid hb3
              clear hb3
              go_wp2_with fail
              go_roundw
              case rel => exact ⟨x + 1, by omega, by go_num, fun j hj => by by_cases e : j = x; (rw [e]; exact HYES.out); exact HOK.out j (by omega), HBEL.out.trans (HB3.out.mono HBEL.out.size)⟩
              case measure => simp [intOf]; omega
            · have hno : okAt so x = false := by unfold okAt; rw [hgx, hgp, HV.out, heq]; simp; try omega
              have HNO := Lib.hid (okK_false hlt hno)
              clear hno hgx hgp hp hx0 hcp hwr
              go_wp2_with fail
              refine HVA.out.mono ?_
              rintro e w3 ⟨rfl, hb3⟩
              have hcp3 : w3.cell? (ad1.add (x - 1)) = some (.string p) := (hb3.cell HWR.out).trans HCP.out
              have HB3 := Lib.hid hb3
              clear hb3
              go_wp2_with fail
              go_ret
              exact ⟨by rw [HNO.out]; rfl, HB2.out.trans ((HBEL.out.trans (HB3.out.mono HBEL.out.size)).mono HB2.out.size)⟩
      · have HYES := Lib.hid (okK_true (by omega : so.length ≤ x) HOK.out)
        go_wp2_with fail
        go_ret
        exact ⟨by rw [HYES.out]; rfl, HB2.out.trans (HBEL.out.mono HB2.out.size)⟩
  · have hd : decide (ks.length = n) = false := by simp [hne]
    have hq : ((ks.length : Int) != n) = true := by simp; omega
    rw [hd, Bool.false_and]
    clear hd hne HCL HK
    go_enter Tryz.func73, Tryz.ntmps73
    go_wp2_with fail
    go_ret
    exact ⟨rfl, (Below.refl _ _).alloc (Nat.le_refl _) _⟩
end Go.Proofs.YtdlighmnlcklnaaGreatDoor
namespace Go.Proofs.YtdlighmnlcklnaaGreatDoor
open Go Go.RowKit

set_option maxHeartbeats 400000 in
theorem SClone_any (s : ByteArray) (hs : s.size ≤ 1099511627776) (w : World) :
    Calls Tryz.prog 56 #[.string s] w fun e w' => e = .returned (.string s) ∧ Below w.heap.size w w' := by
  have h1 := Tryz.stringslite_Clone s w (by omega)
  have H1 := Lib.hid h1
  clear h1
  go_enter Tryz.func56, Tryz.ntmps56
  go_wp2_with fail
  refine H1.out.mono ?_
  rintro e w1 ⟨rfl, hb1⟩
  have HB := Lib.hid hb1
  clear hb1
  go_wp2_with fail
  go_ret
  exact ⟨rfl, HB.out⟩
theorem OwnKeys.base {w : World} {B B' : Nat} {v : Value} {ks : List ByteArray} (h : OwnKeys w B v ks) (hb : B' ≤ B) : OwnKeys w B' v ks := own_base h hb
/-- A store of a text in the place where it stands. -/
theorem own_same {w : World} {B g : Nat} {n cap : Nat} {ks : List ByteArray} {i : Nat} (h : w.ownsRow B 9 1 (.slice (some ⟨g, 0, none⟩) n cap) n (ks.map Value.string)) (hi : i < ks.length) :
    w.cell? ⟨g, i, none⟩ = some (.string ks[i]) ∧ w.frozen? ⟨g, i, none⟩ = false ∧ B ≤ g ∧ g < w.heap.size ∧ (w.setCell ⟨g, i, none⟩ (.string ks[i])).ownsRow B 9 1 (.slice (some ⟨g, 0, none⟩) n cap) n (ks.map Value.string) := by
  have hl : ks.length = n := by have := h.1; simpa using this
  rcases h.2 with ⟨e, _⟩ | ⟨g', cap', cur, e, hb, hg, hc1, hc2, hcs, htk⟩
  · cases e
  · cases e
    have hci : cur[i]? = some (.string ks[i]) := by
      have h1 : (cur.toList.take (n * 1))[i]? = some (.string ks[i]) := by rw [htk]; simp [hi]
      rw [List.getElem?_take, if_pos (by omega)] at h1
      simpa using h1
    have hsame : cur.setIfInBounds i (.string ks[i]) = cur := by
      apply Array.ext_getElem?
      intro k
      rw [Array.getElem?_setIfInBounds]
      split
      · rename_i e; subst e
        have hlt := (Array.getElem?_eq_some_iff.1 hci).1
        rw [if_pos hlt, hci]
      · rfl
    refine ⟨by simp [World.cell?, hg, hci], by simp [World.frozen?, hg], hb, (Array.getElem?_eq_some_iff.1 hg).1, h.1, Or.inr ⟨g, cap, cur, rfl, hb, ?_, hc1, hc2, hcs, htk⟩⟩
    simp [World.setCell, Array.getElem?_modify, hg, hsame]
set_option maxRecDepth 100000 in
set_option maxHeartbeats 4000000 in
theorem copyKeys_any (ks : List ByteArray) (kv : Value) (w : World) (hmax : ks.length ≤ 1048576) (hlen : keysLen ks ≤ 1048576) (hk : KeysAt w w.heap.size kv ks) :
    Calls Tryz.prog 57 #[kv] w fun e w' => ∃ v', e = .returned v' ∧ OwnKeys w' w.heap.size v' ks ∧ Below w.heap.size w w' := by
  have hcl := Clone_keys ks kv w hmax hk
  have HCL := Lib.hid hcl
  have hsz : ∀ s ∈ ks, s.size ≤ 1048576 := fun s h => Nat.le_trans (size_keysLen ks s h) hlen
  have HZ := Lib.hid hsz
  obtain ⟨A, ad, ck, rfl, _, _⟩ := hk.1.dest
  rw [List.length_map] at HCL ⊢
  clear hcl hk hsz
  go_enter Tryz.func57, Tryz.ntmps57
  go_wp2_with fail
  refine HCL.out.mono ?_
  rintro e w1 ⟨v', rfl, hown, hb1⟩
  have HB := Lib.hid hb1
  rcases id hown.2 with ⟨rfl, hn0⟩ | ⟨g, cap, cur, rfl, _⟩
  · have HO := Lib.hid hown
    clear hown hb1
    go_wp2_with fail
    refine wp_loop_rounds 1 ?_
    rw [rounds_succ]
    go_wp2_with fail
    go_ret
    exact ⟨_, rfl, HO.out, HB.out⟩
  · have HO := Lib.hid hown
    clear hown hb1
    go_wp2_with fail
    go_loopw [10] (fun i W => ∃ x : Nat, x ≤ ks.length ∧ i = .int .i64 x ∧ W.ownsRow w.heap.size 9 1 (.slice (some ⟨g, 0, none⟩) ks.length cap) ks.length (ks.map Value.string) ∧ Below w.heap.size w W) (fun i _ => ks.length - (intOf i).toNat)
    case atStart => exact ⟨0, Nat.zero_le _, rfl, HO.out, HB.out⟩
    case round =>
      obtain ⟨x, hx, rfl, hown, hbel⟩ := hrel
      have HOW := Lib.hid hown
      have HBEL := Lib.hid hbel
      clear hown hbel
      by_cases hlt : x < ks.length
      · obtain ⟨hc, hf, hgb, hgl, _⟩ := own_same HOW.out hlt
        have hsc := fun W => SClone_any ks[x] (by have := HZ.out ks[x] (List.getElem_mem hlt); omega) W
        have HSC := Lib.hid hsc
        clear hsc
        go_wp2_with fail
        refine (HSC.out _).mono ?_
        rintro e w2 ⟨rfl, hb2⟩
        have ho2 : w2.ownsRow w.heap.size 9 1 (.slice (some ⟨g, 0, none⟩) ks.length cap) ks.length (ks.map Value.string) := own_belowV HOW.out hb2
        obtain ⟨hc2, hf2, _, hgl2, ho3⟩ := own_same ho2 hlt
        have HO3 := Lib.hid ho3
        have HB2 := Lib.hid hb2
        clear ho2 ho3 hb2 hc hf
        go_wp2_with fail
        go_roundw
        case rel => exact ⟨x + 1, by omega, by go_num, HO3.out, (HBEL.out.trans (HB2.out.mono HBEL.out.size)).setCell (p := ⟨g, x, none⟩) hgb _⟩
        case measure => simp [intOf]; omega
      · go_wp2_with fail
        go_ret
        exact ⟨_, rfl, HOW.out, HBEL.out⟩
end Go.Proofs.YtdlighmnlcklnaaGreatDoor
namespace Go.Proofs.YtdlighmnlcklnaaGreatDoor
open Go Go.RowKit

theorem pairs_of {n : Nat} {P : Nat → Value → Value → Prop} (h : ∀ i, i < n → ∃ a b, P i a b) : ∃ ps : List (Value × Value), ps.length = n ∧ ∀ i (h : i < ps.length), P i ps[i].1 ps[i].2 := by
  induction n with
  | zero => exact ⟨[], rfl, fun i h => absurd h (by simp)⟩
  | succ n ih =>
    obtain ⟨ps, hl, hp⟩ := ih (fun i hi => h i (by omega))
    obtain ⟨a, b, hab⟩ := h n (by omega)
    refine ⟨ps ++ [(a, b)], by simp [hl], fun i hi => ?_⟩
    by_cases e : i < ps.length
    · rw [List.getElem_append_left e]; exact hp i e
    · have : i = n := by simp at hi; omega
      subst this
      rw [List.getElem_append_right (by omega)]
      simpa [hl] using hab
theorem flat5_len : ∀ (l : List V) (ps : List (Value × Value)), l.length = ps.length → (flat5 l ps).length = l.length * 5
  | [], [], _ => rfl
  | v :: l, p :: ps, h => by
    have := flat5_len l ps (by simpa using h)
    show ((cellsV v p.1 p.2).toList ++ flat5 l ps).length = _
    rw [List.length_append, this, List.length_cons]
    simp [cellsV]
    omega
  | [], _ :: _, h => by simp at h
  | _ :: _, [], h => by simp at h
/-- The cells of a row of values that came in. -/
theorem row_cells {w : World} {b o : Nat} {l : List V} {ps : List (Value × Value)} (hl : ps.length = l.length) (h : ∀ i (h : i < l.length) (h2 : i < ps.length), FiveAt w b (o + i * 5) l[i] ps[i].1 ps[i].2) :
    ∀ j u, (flat5 l ps)[j]? = some u → w.cell? ⟨b, o + j, none⟩ = some u := by
  intro j u hu
  have hj : j < l.length * 5 := by
    have := (List.getElem?_eq_some_iff.1 hu).1
    rw [flat5_len _ _ hl.symm] at this
    exact this
  have hi : j / 5 < l.length := by omega
  have hm : j % 5 < 5 := Nat.mod_lt _ (by omega)
  have e : j = j / 5 * 5 + j % 5 := by omega
  have h5 := h (j / 5) hi (by omega)
  rw [e, flat5_at l ps hl.symm (j / 5) hi (by omega) (j % 5) hm] at hu
  have e2 : o + j = o + j / 5 * 5 + j % 5 := by omega
  rw [e2]
  obtain ⟨q0, q1, q2, q3, q4⟩ := h5
  rcases (by omega : j % 5 = 0 ∨ j % 5 = 1 ∨ j % 5 = 2 ∨ j % 5 = 3 ∨ j % 5 = 4) with k | k | k | k | k <;> rw [k] at hu ⊢ <;> (simp [cellsV] at hu; subst hu; assumption)
theorem flat5_one : ∀ (l : List V) (ps : List (Value × Value)), (∀ i (h : i < ps.length), ∃ A n c A' n' c', ps[i].1 = .slice A n c ∧ ps[i].2 = .slice A' n' c') → ∀ u ∈ flat5 l ps, u.oneCell' = true
  | [], _, _, u, h => by simp [flat5] at h
  | _ :: _, [], _, u, h => by simp [flat5] at h
  | v :: l, p :: ps, hp, u, h => by
    have h : u ∈ (cellsV v p.1 p.2).toList ++ flat5 l ps := h
    rcases List.mem_append.1 h with h | h
    · obtain ⟨A, n, c, A', n', c', e1, e2⟩ := hp 0 (by simp)
      have e1 : p.1 = .slice A n c := e1
      have e2 : p.2 = .slice A' n' c' := e2
      simp [cellsV, e1, e2] at h
      rcases h with rfl | rfl | rfl | rfl | rfl <;> rfl
    · exact flat5_one l ps (fun i hi => by have := hp (i + 1) (by simp; omega); simpa using this) u h
set_option maxRecDepth 100000 in
set_option maxHeartbeats 1000000 in
theorem CloneV_any (l : List V) (ps : List (Value × Value)) (hl : ps.length = l.length) (hp : ∀ i (h : i < ps.length), ∃ A n c A' n' c', ps[i].1 = .slice A n c ∧ ps[i].2 = .slice A' n' c') (hmax : l.length ≤ 1048576) (a : Option Addr) (c b o : Nat) (w : World)
    (hcap : Caps (.slice a l.length c)) (hab : 0 < l.length → a = some ⟨b, o, none⟩) (h : ∀ i (h : i < l.length) (h2 : i < ps.length), FiveAt w b (o + i * 5) l[i] ps[i].1 ps[i].2) (hb : 0 < l.length → b < w.heap.size) :
    Calls Tryz.prog 58 #[.slice a l.length c] w fun e w' => ∃ v', e = .returned v' ∧ w'.ownsRow w.heap.size 27 5 v' l.length (flat5 l ps) ∧ Below w.heap.size w w' := by
  have hcells := row_cells hl h
  have hone := flat5_one l ps hp
  have hfl := flat5_len l ps hl.symm
  obtain ⟨i0, hi0, hz0, hz1, hz2⟩ := info_parts infoVal
  have hnil := fun (W : World) (a : Option Addr) (n c : Nat) => Lib.run_eql_slice_nil (P := Tryz.prog) W 24 27 a n c 0 0 Tryz.underlying24
  cases a with
  | none =>
    have h0 : l.length = 0 := by
      rcases Nat.eq_zero_or_pos l.length with h | h
      · exact h
      · have := hab h; cases this
    have hc0 := (hcap _ _ _ rfl).2.2 rfl
    have e0 : l = [] := List.eq_nil_of_length_eq_zero h0
    subst e0
    obtain rfl : ps = [] := List.eq_nil_of_length_eq_zero hl
    subst hc0
    clear hcells hone hfl h hab hcap hp
    go_enter Tryz.func58, Tryz.ntmps58
    go_wp2_with fail
    go_ret
    exact ⟨_, rfl, ⟨rfl, Or.inl ⟨rfl, rfl⟩⟩, Below.refl _ _⟩
  | some ad =>
    have HONE := Lib.hid hone
    have HFL := Lib.hid hfl
    have hcc : ∀ j u, (flat5 l ps)[j]? = some u → w.cell? (ad.add j) = some u := by
      intro j u hu
      have h0 : 0 < l.length := by
        have := (List.getElem?_eq_some_iff.1 hu).1
        rw [hfl] at this
        omega
      cases hab h0
      have e3 : (⟨b, o, none⟩ : Addr).add j = ⟨b, o + j, none⟩ := by
        unfold Addr.add
        by_cases hj0 : j = 0
        · subst hj0; simp
        · simp [hj0]
      rw [e3]
      exact hcells j u hu
    have HCC : Hid (∀ j u, (flat5 l ps)[j]? = some u → (w.alloc (.cells #[] 27)).cell? (ad.add j) = some u) := Lib.hid (fun j u hu => by
      have h1 := hcc j u hu
      have hlt := World.block_lt_of_cell? w _ h1
      exact (cell_old hlt).trans h1)
    clear hcells hone hfl h hab hcap hp hcc
    go_enter Tryz.func58, Tryz.ntmps58
    go_wp2_with (at_builtin; refine wpList_append_own_at (w := w.alloc (.cells #[] 27)) rfl _ _ _ rfl w.heap.size 27 i0 _ 5 80 Tryz.underlying24 hi0 hz0 hz1 hz2 rfl (by omega) (.slice (some ⟨w.heap.size, 0, none⟩) 0 0) 0 [] rfl ?o1 ad l.length c (flat5 l ps) rfl ?o2 HCC.out HONE.out ?o3 ?o4 ?o5 ?_)
    case o1 => exact ⟨rfl, Or.inr ⟨w.heap.size, 0, #[], rfl, Nat.le_refl _, heap_alloc_new w _, Nat.le_refl _, Nat.zero_le _, rfl, rfl⟩⟩
    case o2 => rw [HFL.out]
    case o3 => unfold maxLen; omega
    case o4 => omega
    case o5 => simp
    intro v' w1 hown hgrow _ _
    have HO : Hid (w1.ownsRow w.heap.size 27 5 v' l.length (flat5 l ps)) := Lib.hid (by simpa using hown)
    have HB : Hid (Below w.heap.size w w1) := Lib.hid (((Below.refl w.heap.size w).alloc (Nat.le_refl _) _).grown hgrow (by simp) (fun k hk => by cases hk; exact Nat.le_refl _))
    clear hown hgrow
    go_wp2_with fail
    go_ret
    exact ⟨_, rfl, HO.out, HB.out⟩
end Go.Proofs.YtdlighmnlcklnaaGreatDoor
namespace Go.Proofs.YtdlighmnlcklnaaGreatDoor
open Go Go.RowKit

/-- A value whose own rows belong to the call; what its elements hold lies in other new blocks. -/
def InV (n0 : Nat) (W : World) (lv kv : Value) (b : Nat) : Prop := n0 ≤ b ∧ b < W.heap.size ∧ some b ≠ lv.ownBlock ∧ some b ≠ kv.ownBlock
structure OwnV (W : World) (n0 m : Nat) (v : V) (lv kv : Value) (ps : List (Value × Value)) : Prop where
  small : Small v
  len : ps.length = v.l.length
  lown : W.ownsRow n0 27 5 lv v.l.length (flat5 v.l ps)
  kown : W.ownsRow n0 9 1 kv v.ks.length (v.ks.map Value.string)
  apart : ∀ g, kv.ownBlock = some g → some g ≠ lv.ownBlock
  each : ∀ i (h : i < v.l.length) (h2 : i < ps.length), AtP W (InV n0 W lv kv) m v.l[i] ps[i].1 ps[i].2
/-- A row of keys of the call's own. -/
theorem own_keysP {W : World} {B n : Nat} {v : Value} {ks : List ByteArray} (h : W.ownsRow B 9 1 v n (ks.map Value.string)) : KeysAtP W (fun b => B ≤ b ∧ b < W.heap.size) v ks := by
  have hl : ks.length = n := by have := h.1; simpa using this
  refine ⟨?_, Caps.of_own h⟩
  rcases id h.2 with ⟨e, h0⟩ | ⟨g, cap, cur, e, hb, hg, _⟩
  · exact ⟨none, 0, by rw [e, List.length_map, hl, h0], fun hh => absurd hh (by rw [List.length_map]; omega)⟩
  · have hcell := h.cells (g := g) (by rw [e]; rfl)
    refine ⟨some ⟨g, 0, none⟩, cap, by rw [e, List.length_map, hl], fun _ => ⟨_, rfl, ⟨hb, (Array.getElem?_eq_some_iff.1 hg).1⟩, fun j u hu => hcell j u hu⟩⟩
/-- Rows of values of the call's own, read. -/
theorem own_five {W : World} {B n : Nat} {lv : Value} {l : List V} {ps : List (Value × Value)} (h : W.ownsRow B 27 5 lv n (flat5 l ps)) (hl : l.length = ps.length) (hn : l.length = n) :
    ∃ (a : Option Addr) (c b o : Nat), lv = .slice a l.length c ∧ (0 < l.length → a = some ⟨b, o, none⟩ ∧ B ≤ b ∧ b < W.heap.size) ∧ ∀ i (h : i < l.length) (h2 : i < ps.length), FiveAt W b (o + i * 5) l[i] ps[i].1 ps[i].2 := by
  rcases h.2 with ⟨e, h0'⟩ | ⟨g, cap, cur, e, hb, hg, _⟩
  · exact ⟨none, 0, 0, 0, by rw [e, hn, h0'], fun h => absurd h (by omega), fun i h => absurd h (by omega)⟩
  · have hcell := h.cells (g := g) (by rw [e]; rfl)
    refine ⟨some ⟨g, 0, none⟩, cap, g, 0, by rw [e, hn], fun _ => ⟨rfl, hb, (Array.getElem?_eq_some_iff.1 hg).1⟩, fun i h h2 => ?_⟩
    have hc : ∀ c u, c < 5 → (cellsV l[i] ps[i].1 ps[i].2)[c]? = some u → W.cell? ⟨g, i * 5 + c, none⟩ = some u := fun c u hc5 hu => by
      have := hcell (i * 5 + c) u (by rw [flat5_at _ _ hl i h h2 c hc5]; exact hu)
      rw [add_zero_off] at this
      exact this
    rw [Nat.zero_add]
    exact ⟨hc 0 _ (by omega) rfl, hc 1 _ (by omega) rfl, hc 2 _ (by omega) rfl, hc 3 _ (by omega) rfl, hc 4 _ (by omega) rfl⟩
theorem OwnV.at {W : World} {n0 m : Nat} {v : V} {lv kv : Value} {ps : List (Value × Value)} (h : OwnV W n0 m v lv kv ps) : AtP W (fun b => n0 ≤ b ∧ b < W.heap.size) (m + 1) v lv kv := by
  obtain ⟨a, c, b, o, e, hab, h5⟩ := own_five h.lown h.len.symm rfl
  exact ⟨h.small, own_keysP h.kown, Caps.of_own h.lown, a, c, b, o, e, hab, fun i hi => ⟨_, _, h5 i hi (by rw [h.len]; exact hi), AtP.more (fun b hb => ⟨hb.1, hb.2.1⟩) _ _ _ _ (h.each i hi (by rw [h.len]; exact hi))⟩⟩
structure CpInv (w : World) (v : V) (m : Nat) (ps0 : List (Value × Value)) (j : Nat) (lvv kvv : Value) (ps : List (Value × Value)) (W : World) : Prop where
  b0 : W.heap[w.heap.size]? = some (.cells (cellsV v lvv kvv) 27 (0, 0))
  b1 : W.heap[w.heap.size + 1]? = some (.cells #[.int .i64 0, .float .f64 0, .string ⟨#[]⟩, .slice none 0 0, .slice none 0 0] 27 (0, 0))
  own : W.ownsRow (w.heap.size + 2) 27 5 lvv v.l.length (flat5 v.l (ps ++ ps0.drop j))
  len : ps.length = j
  le : j ≤ v.l.length
  each : ∀ i (h : i < v.l.length) (h2 : i < ps.length), AtP W (InV (w.heap.size + 2) W lvv kvv) m v.l[i] ps[i].1 ps[i].2
  keys : W.ownsRow (w.heap.size + 2) 9 1 kvv v.ks.length (v.ks.map Value.string)
  apart : ∀ g, kvv.ownBlock = some g → some g ≠ lvv.ownBlock
  bel : Below w.heap.size w W
def set5at (w : World) (R o : Nat) (x0 x1 x2 x3 x4 : Value) : World :=
  ((((w.setCell ⟨R, o, none⟩ x0).setCell ⟨R, o + 1, none⟩ x1).setCell ⟨R, o + 2, none⟩ x2).setCell ⟨R, o + 3, none⟩ x3).setCell ⟨R, o + 4, none⟩ x4
theorem set5at_other {w : World} {R o k : Nat} (h : k ≠ R) (x0 x1 x2 x3 x4 : Value) : (set5at w R o x0 x1 x2 x3 x4).heap[k]? = w.heap[k]? := by
  unfold set5at
  rw [setCell_other_block _ h, setCell_other_block _ h, setCell_other_block _ h, setCell_other_block _ h, setCell_other_block _ h]
theorem set5at_size (w : World) (R o : Nat) (x0 x1 x2 x3 x4 : Value) : (set5at w R o x0 x1 x2 x3 x4).heap.size = w.heap.size := by
  simp only [set5at, World.setCell, Array.size_modify]
theorem set5at_row {w : World} {R o : Nat} {cs : Array Value} {t : TypeId} {fr : Nat × Nat} (h : w.heap[R]? = some (.cells cs t fr)) (x0 x1 x2 x3 x4 : Value) :
    (set5at w R o x0 x1 x2 x3 x4).heap[R]? = some (.cells (((((cs.setIfInBounds o x0).setIfInBounds (o + 1) x1).setIfInBounds (o + 2) x2).setIfInBounds (o + 3) x3).setIfInBounds (o + 4) x4) t fr) :=
  row_setAt (row_setAt (row_setAt (row_setAt (row_setAt h o x0) (o + 1) x1) (o + 2) x2) (o + 3) x3) (o + 4) x4
theorem set5at_below {B R o : Nat} {w w' : World} (h : Below B w w') (hR : B ≤ R) (x0 x1 x2 x3 x4 : Value) : Below B w (set5at w' R o x0 x1 x2 x3 x4) := by
  unfold set5at
  exact ((((h.setCell (p := ⟨R, o, none⟩) hR x0).setCell (p := ⟨R, o + 1, none⟩) hR x1).setCell (p := ⟨R, o + 2, none⟩) hR x2).setCell (p := ⟨R, o + 3, none⟩) hR x3).setCell (p := ⟨R, o + 4, none⟩) hR x4
theorem set_get (cs : Array Value) (o k : Nat) (x0 x1 x2 x3 x4 : Value) (ho : o + 4 < cs.size) :
    (((((cs.setIfInBounds o x0).setIfInBounds (o + 1) x1).setIfInBounds (o + 2) x2).setIfInBounds (o + 3) x3).setIfInBounds (o + 4) x4)[k]? = if o ≤ k ∧ k < o + 5 then (#[x0, x1, x2, x3, x4] : Array Value)[k - o]? else cs[k]? := by
  simp only [Array.getElem?_setIfInBounds, Array.size_setIfInBounds]
  by_cases h : o ≤ k ∧ k < o + 5
  · rw [if_pos h]
    rcases (by omega : k = o ∨ k = o + 1 ∨ k = o + 2 ∨ k = o + 3 ∨ k = o + 4) with e | e | e | e | e
    · subst e; simp; omega
    · subst e; simp; omega
    · subst e; simp; omega
    · subst e; simp; omega
    · subst e; simp; omega
  · rw [if_neg h, if_neg (by omega), if_neg (by omega), if_neg (by omega), if_neg (by omega), if_neg (by omega)]
theorem own_set5 {w : World} {B g n cap j : Nat} {e : TypeId} {l : List V} {qs qs' : List (Value × Value)} (h : w.ownsRow B e 5 (.slice (some ⟨g, 0, none⟩) n cap) n (flat5 l qs)) (hl : l.length = n) (hq : qs.length = n) (hq' : qs'.length = n)
    (hj : j < l.length) (hsame : ∀ i (h : i < qs.length) (h' : i < qs'.length), i ≠ j → qs'[i] = qs[i]) (aa bb : Value) (hnew : ∀ h', qs'[j]'h' = (aa, bb)) :
    (set5at w g (j * 5) (.int .i64 l[j].k) (.float .f64 l[j].f) (.string l[j].s) aa bb).ownsRow B e 5 (.slice (some ⟨g, 0, none⟩) n cap) n (flat5 l qs') := by
  refine ⟨by rw [flat5_len l qs' (by omega), hl], ?_⟩
  rcases h.2 with ⟨e0, _⟩ | ⟨g', cap', cur, e0, hb, hg, hc1, hc2, hcs, htk⟩
  · cases e0
  · cases e0
    refine Or.inr ⟨g, cap, _, rfl, hb, set5at_row hg .., hc1, hc2, by simp [hcs], ?_⟩
    apply List.ext_getElem?
    intro k
    by_cases hk : k < n * 5
    · rw [List.getElem?_take, if_pos hk, Array.getElem?_toList, set_get _ _ _ _ _ _ _ _ (by rw [hcs]; omega)]
      have hi : k / 5 < l.length := by omega
      have hm : k % 5 < 5 := Nat.mod_lt _ (by omega)
      have ek : k = k / 5 * 5 + k % 5 := by omega
      have hr := flat5_at l qs' (by omega) (k / 5) hi (by omega) (k % 5) hm
      rw [← ek] at hr
      rw [hr]
      by_cases hkj : k / 5 = j
      · rw [if_pos (by omega)]
        have e1 : k - j * 5 = k % 5 := by omega
        rw [e1]
        subst hkj
        rw [hnew (by omega)]
        rfl
      · rw [if_neg (by omega), hsame (k / 5) (by omega) (by omega) hkj]
        have h0 := flat5_at l qs (by omega) (k / 5) hi (by omega) (k % 5) hm
        rw [← ek] at h0
        rw [← h0, ← htk, List.getElem?_take, if_pos hk, Array.getElem?_toList]
    · rw [List.getElem?_take, if_neg hk, List.getElem?_eq_none (by rw [flat5_len l qs' (by omega)]; omega)]
theorem own_heap {w w' : World} {B : Nat} {e : TypeId} {size : Nat} {v : Value} {n : Nat} {xs : List Value} (h : w.ownsRow B e size v n xs) (hk : ∀ k, k < w.heap.size → w'.heap[k]? = w.heap[k]?) : w'.ownsRow B e size v n xs := by
  refine ⟨h.1, ?_⟩
  rcases h.2 with h1 | ⟨g, cap, cur, h1, h2, h3, h4⟩
  · exact Or.inl h1
  · exact Or.inr ⟨g, cap, cur, h1, h2, (hk g (Array.getElem?_eq_some_iff.1 h3).1).trans h3, h4⟩
theorem own_set5at {w : World} {base : Nat} {e : TypeId} {size n g o : Nat} {v : Value} {xs : List Value} (h : w.ownsRow base e size v n xs) (hg : some g ≠ v.ownBlock) (x0 x1 x2 x3 x4 : Value) : (set5at w g o x0 x1 x2 x3 x4).ownsRow base e size v n xs := by
  refine ⟨h.1, ?_⟩
  rcases h.2 with h1 | ⟨g', cap, cur, h1, h2, h3, h4⟩
  · exact Or.inl h1
  · exact Or.inr ⟨g', cap, cur, h1, h2, (set5at_other (fun e => hg (by rw [h1, ← e]; rfl)) ..).trans h3, h4⟩
theorem cp_step {w : World} {v : V} {m : Nat} {ps0 : List (Value × Value)} {j g cap : Nat} {kvv : Value} {ps : List (Value × Value)} {W w2 : World} {aa bb : Value}
    (hI : CpInv w v m ps0 j (.slice (some ⟨g, 0, none⟩) v.l.length cap) kvv ps W) (h0 : ps0.length = v.l.length) (hj : j < v.l.length)
    (h2 : Below W.heap.size W w2) (hat : AtP w2 (fun b => W.heap.size ≤ b ∧ b < w2.heap.size) m v.l[j] aa bb) :
    CpInv w v m ps0 (j + 1) (.slice (some ⟨g, 0, none⟩) v.l.length cap) kvv (ps ++ [(aa, bb)]) (set5at w2 g (j * 5) (.int .i64 v.l[j].k) (.float .f64 v.l[j].f) (.string v.l[j].s) aa bb) := by
  obtain ⟨b0, b1, own, len, le, each, keys, apart, bel⟩ := hI
  have hsz := h2.size
  have hs0 := bel.size
  have hgl : w.heap.size + 2 ≤ g ∧ g < W.heap.size := own.lt g rfl
  have l1 := (Array.getElem?_eq_some_iff.1 b1).1
  have hkg : some g ≠ kvv.ownBlock := fun e => apart g e.symm rfl
  have hq1 : ∀ b, InV (w.heap.size + 2) W (.slice (some ⟨g, 0, none⟩) v.l.length cap) kvv b → InV (w.heap.size + 2) (set5at w2 g (j * 5) (.int .i64 v.l[j].k) (.float .f64 v.l[j].f) (.string v.l[j].s) aa bb) (.slice (some ⟨g, 0, none⟩) v.l.length cap) kvv b :=
    fun b hb => ⟨hb.1, by rw [set5at_size]; have := hb.2.1; omega, hb.2.2⟩
  have hq2 : ∀ b, W.heap.size ≤ b ∧ b < w2.heap.size → InV (w.heap.size + 2) (set5at w2 g (j * 5) (.int .i64 v.l[j].k) (.float .f64 v.l[j].f) (.string v.l[j].s) aa bb) (.slice (some ⟨g, 0, none⟩) v.l.length cap) kvv b :=
    fun b hb => ⟨by omega, by rw [set5at_size]; exact hb.2, fun e => by simp [Value.ownBlock] at e; omega, fun e => by have := (keys.lt b e.symm).2; omega⟩
  have k1 : ∀ p : Addr, InV (w.heap.size + 2) W (.slice (some ⟨g, 0, none⟩) v.l.length cap) kvv p.block → (set5at w2 g (j * 5) (.int .i64 v.l[j].k) (.float .f64 v.l[j].f) (.string v.l[j].s) aa bb).cell? p = W.cell? p := fun p hp =>
    cell_of_block ((set5at_other (fun e => hp.2.2.1 (by rw [e]; rfl)) ..).trans (h2.block _ hp.2.1))
  have k2 : ∀ p : Addr, (W.heap.size ≤ p.block ∧ p.block < w2.heap.size) → (set5at w2 g (j * 5) (.int .i64 v.l[j].k) (.float .f64 v.l[j].f) (.string v.l[j].s) aa bb).cell? p = w2.cell? p := fun p hp =>
    cell_of_block (set5at_other (by omega) ..)
  refine ⟨?_, ?_, ?_, by simp [len], hj, ?_, own_set5at (own_heap keys (fun k hk => h2.block k hk)) hkg .., apart, set5at_below (bel.trans (h2.mono hs0)) (by omega) ..⟩
  · rw [set5at_other (by omega), h2.block _ (by omega)]; exact b0
  · rw [set5at_other (by omega), h2.block _ (by omega)]; exact b1
  · refine own_set5 (own_heap own (fun k hk => h2.block k hk)) rfl (by simp [len, h0]; omega) (by simp [len, h0]; omega) hj ?_ aa bb ?_
    · intro i hi hi' hne
      by_cases hlt : i < j
      · rw [List.getElem_append_left (by simp [len]; omega), List.getElem_append_left (by omega), List.getElem_append_left (by omega)]
      · rw [List.getElem_append_right (by simp [len]; omega), List.getElem_append_right (by omega)]
        simp only [List.getElem_drop, List.length_append, List.length_cons, List.length_nil, len]
        congr 1
        omega
    · intro h'
      rw [List.getElem_append_left (by simp [len]), List.getElem_append_right (by omega)]
      simp [len]
  · intro i h h2'
    by_cases hi : i < ps.length
    · rw [List.getElem_append_left hi]
      exact AtP.more hq1 _ _ _ _ (AtP.keep k1 _ _ _ _ (each i h hi))
    · have hij : i = j := by rw [List.length_append, len] at h2'; simp at h2'; omega
      subst hij
      rw [List.getElem_append_right (by omega)]
      have e0 : i - ps.length = 0 := by omega
      simp only [e0, List.getElem_cons_zero]
      exact AtP.more hq2 _ _ _ _ (AtP.keep k2 _ _ _ _ hat)
theorem cp_done {w : World} {v : V} {m : Nat} {ps0 : List (Value × Value)} {lvv kvv : Value} {ps : List (Value × Value)} {W : World} (hs : Small v) (h0 : ps0.length = v.l.length) (hI : CpInv w v m ps0 v.l.length lvv kvv ps W) :
    OwnV W (w.heap.size + 2) m v lvv kvv ps := by
  obtain ⟨b0, b1, own, len, le, each, keys, apart, bel⟩ := hI
  have hdrop : ps ++ ps0.drop v.l.length = ps := by rw [List.drop_of_length_le (by omega), List.append_nil]
  rw [hdrop] at own
  exact ⟨hs, len, own, keys, apart, each⟩
/-- Stores below what is owned leave it. -/
theorem OwnV.low {W W' : World} {n0 m : Nat} {v : V} {lv kv : Value} {ps : List (Value × Value)} (h : OwnV W n0 m v lv kv ps) (hb : ∀ k, n0 ≤ k → k < W.heap.size → W'.heap[k]? = W.heap[k]?) (hz : W.heap.size ≤ W'.heap.size) : OwnV W' n0 m v lv kv ps := by
  obtain ⟨hs, len, lown, kown, apart, each⟩ := h
  have ho : ∀ {e : TypeId} {size n : Nat} {u : Value} {xs : List Value}, W.ownsRow n0 e size u n xs → W'.ownsRow n0 e size u n xs := fun h => by
    refine ⟨h.1, ?_⟩
    rcases h.2 with h1 | ⟨g, cap, cur, h1, h2, h3, h4⟩
    · exact Or.inl h1
    · exact Or.inr ⟨g, cap, cur, h1, h2, (hb g h2 (Array.getElem?_eq_some_iff.1 h3).1).trans h3, h4⟩
  exact ⟨hs, len, ho lown, ho kown, apart, fun i h1 h2 => AtP.more (fun b hb => ⟨hb.1, Nat.lt_of_lt_of_le hb.2.1 hz, hb.2.2⟩) _ _ _ _ (AtP.keep (fun p hp => cell_of_block (hb _ hp.1 hp.2.1)) _ _ _ _ (each i h1 h2))⟩
theorem OwnV.base {W : World} {n0 n1 m : Nat} {v : V} {lv kv : Value} {ps : List (Value × Value)} (h : OwnV W n0 m v lv kv ps) (hn : n1 ≤ n0) : OwnV W n1 m v lv kv ps :=
  ⟨h.small, h.len, own_base h.lown hn, own_base h.kown hn, h.apart, fun i h1 h2 => AtP.more (fun _b hb => ⟨Nat.le_trans hn hb.1, hb.2⟩) _ _ _ _ (h.each i h1 h2)⟩
theorem own_slC {w : World} {base : Nat} {e : TypeId} {size : Nat} {v : Value} {n : Nat} {xs : List Value} (h : w.ownsRow base e size v n xs) : ∃ A c, v = .slice A n c := by
  rcases h.2 with ⟨rfl, rfl⟩ | ⟨g, cap, cur, rfl, _⟩
  · exact ⟨_, _, rfl⟩
  · exact ⟨_, _, rfl⟩
theorem own_setC {w : World} {base : Nat} {e : TypeId} {size n : Nat} {v : Value} {xs : List Value} {b i : Nat} (h : w.ownsRow base e size v n xs) (hb : b < base) (x : Value) : (w.setCell ⟨b, i, none⟩ x).ownsRow base e size v n xs := by
  refine ⟨h.1, ?_⟩
  rcases h.2 with h1 | ⟨g, cap, cur, h1, h2, h3, h4⟩
  · exact Or.inl h1
  · exact Or.inr ⟨g, cap, cur, h1, h2, (setCell_other_block _ (by omega)).trans h3, h4⟩
end Go.Proofs.YtdlighmnlcklnaaGreatDoor
namespace Go.Proofs.YtdlighmnlcklnaaGreatDoor
open Go Go.RowKit

set_option maxRecDepth 100000 in
set_option maxHeartbeats 8000000 in
theorem copyOf_own (m : Nat) : ∀ (v : V) (lv kv : Value) (w : World), At w w.heap.size m v lv kv →
    Calls Tryz.prog 26 #[.agg (cellsV v lv kv)] w fun e w' => ∃ lv' kv' ps, e = .returned (.agg (cellsV v lv' kv')) ∧ OwnV w' w.heap.size (m - 1) v lv' kv' ps ∧ AtP w' (fun b => w.heap.size ≤ b ∧ b < w'.heap.size) m v lv' kv' ∧ Below w.heap.size w w' := by
  induction m with
  | zero => intro v lv kv w h; exact h.elim
  | succ m ih =>
    intro v lv kv w h
    obtain ⟨hsm, ha, hcp, a, c, B, o, rfl, hab, hi⟩ := h.opened
    obtain ⟨ps0, hp0, hpp⟩ := pairs_of (P := fun i a b => ∃ h : i < v.l.length, FiveAt w B (o + i * 5) v.l[i] a b ∧ At w w.heap.size m v.l[i] a b) (fun i h => by obtain ⟨a, b, q⟩ := hi i h; exact ⟨a, b, h, q⟩)
    have h5s : ∀ i (h : i < v.l.length) (h2 : i < ps0.length), FiveAt w B (o + i * 5) v.l[i] ps0[i].1 ps0[i].2 := fun i _ h2 => (hpp i h2).2.1
    have hps : ∀ i (h : i < v.l.length) (h2 : i < ps0.length), At w w.heap.size m v.l[i] ps0[i].1 ps0[i].2 := fun i _ h2 => (hpp i h2).2.2
    have hsl : ∀ i (h : i < ps0.length), ∃ A n c A' n' c', ps0[i].1 = .slice A n c ∧ ps0[i].2 = .slice A' n' c' := fun i h => by
      obtain ⟨a1, n1, k1, a2, n2, k2, e1, e2⟩ := (hps i (by omega) h).slices
      exact ⟨_, _, _, _, _, _, e1, e2⟩
    obtain ⟨A, ad, ck, rfl, hA, hac⟩ := ha.1.dest
    have hsf := run_store_float Tryz.prog
    rw [List.length_map] at ha ⊢
    obtain ⟨_, _, _, hss, hls, hks, hkl⟩ := id hsm
    have HSM := Lib.hid hsm
    have HA := Lib.hid ha
    have HAB := Lib.hid hab
    have HPS := Lib.hid hps
    have H5S := Lib.hid h5s
    have HSL := Lib.hid hsl
    have HCP := Lib.hid hcp
    have HIH := Lib.hid ih
    have HP0 := Lib.hid hp0
    have hsc := fun W => SClone_any v.s (by omega) W
    have HSC := Lib.hid hsc
    have hck := fun W hW => copyKeys_any v.ks (.slice A v.ks.length ck) W hks hkl hW
    have HCK := Lib.hid hck
    clear ha hac hA hcp hi hab h ih hps h5s hpp hsl hp0 hsc hck hsm hkl
    unfold cellsV
    go_enter Tryz.func26, Tryz.ntmps26
    go_wp2_with fail
    have hr0 := row_alloc3 (heap_alloc_new w (Obj.cells #[.int .i64 v.k, .float .f64 v.f, .string v.s, .slice a v.l.length c, .slice A v.ks.length ck] 27)) (Obj.cells #[.int .i64 0, .float .f64 0, .string ⟨#[]⟩, .slice none 0 0, .slice none 0 0] 27)
    have hr1 := heap_alloc_new (w.alloc (Obj.cells #[.int .i64 v.k, .float .f64 v.f, .string v.s, .slice a v.l.length c, .slice A v.ks.length ck] 27)) (Obj.cells #[.int .i64 0, .float .f64 0, .string ⟨#[]⟩, .slice none 0 0, .slice none 0 0] 27)
    rw [World.size_alloc] at hr1
    have hb0 : Below w.heap.size w ((w.alloc (Obj.cells #[.int .i64 v.k, .float .f64 v.f, .string v.s, .slice a v.l.length c, .slice A v.ks.length ck] 27)).alloc (Obj.cells #[.int .i64 0, .float .f64 0, .string ⟨#[]⟩, .slice none 0 0, .slice none 0 0] 27)) := ((Below.refl w.heap.size w).alloc (Nat.le_refl _) _).alloc (by simp) _
    have hz0 : w.heap.size + 2 = ((w.alloc (Obj.cells #[.int .i64 v.k, .float .f64 v.f, .string v.s, .slice a v.l.length c, .slice A v.ks.length ck] 27)).alloc (Obj.cells #[.int .i64 0, .float .f64 0, .string ⟨#[]⟩, .slice none 0 0, .slice none 0 0] 27)).heap.size := by simp
    generalize ((w.alloc (Obj.cells #[.int .i64 v.k, .float .f64 v.f, .string v.s, .slice a v.l.length c, .slice A v.ks.length ck] 27)).alloc (Obj.cells #[.int .i64 0, .float .f64 0, .string ⟨#[]⟩, .slice none 0 0, .slice none 0 0] 27)) = W0 at hr0 hr1 hb0 hz0 ⊢
    refine (HSC.out _).mono ?_
    rintro e w1 ⟨rfl, hb1⟩
    have hr0 := (hb1.block _ (by omega)).trans hr0
    have hr1 := (hb1.block _ (by omega)).trans hr1
    have hb0 := hb0.trans (hb1.mono hb0.size)
    have hz0 : w.heap.size + 2 ≤ w1.heap.size := by have := hb1.size; omega
    clear hb1
    obtain ⟨c0, c1, c2, c3, c4, y0, y1, y2, y3, y4⟩ := row5 hr0
    have R0 := Lib.hid (row_setAt hr0 2 (.string v.s))
    have R1 := Lib.hid ((setCell_other_block (R := w.heap.size) (i := 2) (.string v.s) (show w.heap.size + 1 ≠ w.heap.size by omega)).trans hr1)
    have B0 := Lib.hid (hb0.setCell (p := ⟨w.heap.size, 2, none⟩) (Nat.le_refl _) (.string v.s))
    have Z0 : Hid (w.heap.size + 2 ≤ (w1.setCell ⟨w.heap.size, 2, none⟩ (.string v.s)).heap.size) := Lib.hid (by simp; exact hz0)
    clear hr0 hr1 hb0 hz0
    go_wp2_with fail
    have hr0 := R0.out
    have hr1 := R1.out
    have hb0 := B0.out
    have hz0 := Z0.out
    clear R0 R1 B0 Z0 c0 c1 c2 c3 c4 y0 y1 y2 y3 y4
    generalize w1.setCell ⟨w.heap.size, 2, none⟩ (.string v.s) = W1 at hr0 hr1 hb0 hz0 ⊢
    refine (HCK.out _ ((HA.out.below hb0).more hb0.size)).mono ?_
    rintro e w2 ⟨kvv, rfl, hkown, hb2⟩
    have hr0 := (hb2.block _ (by omega)).trans hr0
    have hr1 := (hb2.block _ (by omega)).trans hr1
    have hb0 := hb0.trans (hb2.mono hb0.size)
    have hz0 : W1.heap.size ≤ w2.heap.size := hb2.size
    have hz1 : w.heap.size + 2 ≤ W1.heap.size := by omega
    obtain ⟨Ak, nk, hkvv⟩ := own_slC hkown
    subst hkvv
    obtain ⟨c0, c1, c2, c3, c4, y0, y1, y2, y3, y4⟩ := row5 hr0
    have HKO : Hid ((w2.setCell ⟨w.heap.size, 4, none⟩ (.slice Ak v.ks.length nk)).ownsRow W1.heap.size 9 1 (.slice Ak v.ks.length nk) v.ks.length (v.ks.map Value.string)) := Lib.hid (own_setC hkown (by omega) _)
    have R0 := Lib.hid (row_setAt hr0 4 (.slice Ak v.ks.length nk))
    have R1 := Lib.hid ((setCell_other_block (R := w.heap.size) (i := 4) (.slice Ak v.ks.length nk) (show w.heap.size + 1 ≠ w.heap.size by omega)).trans hr1)
    have B0 := Lib.hid (hb0.setCell (p := ⟨w.heap.size, 4, none⟩) (Nat.le_refl _) (.slice Ak v.ks.length nk))
    have Z0 : Hid (W1.heap.size ≤ (w2.setCell ⟨w.heap.size, 4, none⟩ (.slice Ak v.ks.length nk)).heap.size) := Lib.hid (by simp; exact hz0)
    clear hr0 hr1 hb0 hz0 hb2 hkown
    go_wp2_with fail
    have hr0 := R0.out
    have hr1 := R1.out
    have hb0 := B0.out
    have hz0 := Z0.out
    have hko := HKO.out
    clear R0 R1 B0 Z0 HKO c0 c1 c2 c3 c4 y0 y1 y2 y3 y4
    generalize w2.setCell ⟨w.heap.size, 4, none⟩ (.slice Ak v.ks.length nk) = W2 at hr0 hr1 hb0 hz0 hko ⊢
    have hkg : ∀ g, (Value.slice Ak v.ks.length nk).ownBlock = some g → g < W2.heap.size := fun g hg => (hko.lt g hg).2
    refine (CloneV_any v.l ps0 HP0.out HSL.out hls a c B o W2 HCP.out (fun h => (HAB.out h).1) (fun i h1 h2 => (H5S.out i h1 h2).keep (HAB.out (by omega)).2 (fun p hp => hb0.cell hp)) (fun h => Nat.lt_of_lt_of_le (HAB.out h).2 hb0.size)).mono ?_
    rintro e w3 ⟨lvv, rfl, hlown, hb3⟩
    have hr0 := (hb3.block _ (by omega)).trans hr0
    have hr1 := (hb3.block _ (by omega)).trans hr1
    have hb0 := hb0.trans (hb3.mono hb0.size)
    have hko := own_belowV hko hb3
    have hz3 := hb3.size
    obtain ⟨Al, nl, hlvv⟩ := own_slC hlown
    subst hlvv
    obtain ⟨c0, c1, c2, c3, c4, y0, y1, y2, y3, y4⟩ := row5 hr0
    have hini : CpInv w v m ps0 0 (.slice Al v.l.length nl) (.slice Ak v.ks.length nk) [] (w3.setCell ⟨w.heap.size, 3, none⟩ (.slice Al v.l.length nl)) := by
      refine ⟨row_setAt hr0 3 _, (setCell_other_block (R := w.heap.size) (i := 3) _ (by omega)).trans hr1, ?_, rfl, Nat.zero_le _, fun i _ h => absurd h (by simp), ?_, ?_, hb0.setCell (p := ⟨w.heap.size, 3, none⟩) (Nat.le_refl _) _⟩
      · rw [List.nil_append, List.drop_zero]
        refine own_base (base := W2.heap.size) ⟨hlown.1, ?_⟩ (by omega)
        rcases hlown.2 with q | ⟨g, cap, cur, q1, q2, q3, q4⟩
        · exact Or.inl q
        · exact Or.inr ⟨g, cap, cur, q1, q2, (setCell_other_block (R := w.heap.size) (i := 3) _ (by omega)).trans q3, q4⟩
      · exact own_base (own_setC hko (by omega) _) (by omega)
      · intro g hg e
        have q1 := hkg g hg
        have q2 := (hlown.lt g e.symm).1
        omega
    have HINI := Lib.hid hini
    clear hr0 hr1 hb0 hz0 hb3 hlown hko hkg hini
    go_wp2_with fail
    have hini := HINI.out
    clear HINI c0 c1 c2 c3 c4 y0 y1 y2 y3 y4
    generalize w3.setCell ⟨w.heap.size, 3, none⟩ (.slice Al v.l.length nl) = W3 at hini ⊢
    have HINI := Lib.hid hini
    clear hini
    go_loopw [20] (fun i W => ∃ (j : Nat) (ps : List (Value × Value)), i = .int .i64 j ∧ CpInv w v m ps0 j (.slice Al v.l.length nl) (.slice Ak v.ks.length nk) ps W) (fun i _ => v.l.length - (intOf i).toNat)
    case atStart => exact ⟨0, [], rfl, HINI.out⟩
    case round =>
      obtain ⟨j, ps, rfl, hI⟩ := hrel
      have CI := Lib.hid hI
      have hjle := hI.le
      clear hI HINI
      by_cases hlt : j < v.l.length
      · rcases id CI.out.own.2 with ⟨_, h0⟩ | ⟨g, cap, cur, hsl, hgb, hgh, hgc, _, hgs, _⟩
        · omega
        injection hsl with e1 _ e2
        subst e1
        subst e2
        have hj0 : j < ps0.length := by have := HP0.out; omega
        have hpl := CI.out.len
        have hqq : (ps ++ ps0.drop j).length = v.l.length := by rw [List.length_append, List.length_drop, hpl]; have := HP0.out; omega
        have hel : (ps ++ ps0.drop j)[j]'(by omega) = ps0[j] := by
          rw [List.getElem_append_right (show ps.length ≤ j by omega)]
          simp [hpl]
        have hcell := CI.out.own.cells (g := g) rfl
        have hfl : ∀ c u, c < 5 → (cellsV v.l[j] ps0[j].1 ps0[j].2)[c]? = some u → wr.cell? ⟨g, j * 5 + c, none⟩ = some u := fun c u hc hu => by
          have := hcell (j * 5 + c) u (by rw [flat5_at v.l (ps ++ ps0.drop j) (by omega) j hlt (by omega) c hc, hel]; exact hu)
          rw [add_zero_off] at this
          exact this
        have hat := HPS.out j hlt hj0
        have hatw := At.more CI.out.bel.size _ _ _ _ (hat.below CI.out.bel)
        obtain ⟨a1, n1, k1, a2, n2, k2, e1, e2⟩ := HSL.out j hj0
        rw [e1, e2] at hfl hat hatw
        have f0 : wr.cell? ⟨g, j * 5, none⟩ = some (.int .i64 v.l[j].k) := hfl 0 _ (by omega) rfl
        have f1 : wr.cell? ⟨g, j * 5 + 1, none⟩ = some (.float .f64 v.l[j].f) := hfl 1 _ (by omega) rfl
        have f2 : wr.cell? ⟨g, j * 5 + 2, none⟩ = some (.string v.l[j].s) := hfl 2 _ (by omega) rfl
        have f3 : wr.cell? ⟨g, j * 5 + 3, none⟩ = some (.slice a1 n1 k1) := hfl 3 _ (by omega) rfl
        have f4 : wr.cell? ⟨g, j * 5 + 4, none⟩ = some (.slice a2 n2 k2) := hfl 4 _ (by omega) rfl
        have hgl : g < wr.heap.size := (Array.getElem?_eq_some_iff.1 hgh).1
        have hfz : ∀ q, wr.frozen? ⟨g, q, none⟩ = false := fun q => by simp [World.frozen?, hgh]
        obtain ⟨c0, c1, c2, c3, c4, y0, y1, y2, y3, y4⟩ := row5 CI.out.b0
        have hwl : w.heap.size < wr.heap.size := (Array.getElem?_eq_some_iff.1 CI.out.b0).1
        have hgw : ¬ (g = wr.heap.size) := by omega
        have hih := fun o => HIH.out v.l[j] (.slice a1 n1 k1) (.slice a2 n2 k2) ((wr.alloc o).drew) (At.more (by show wr.heap.size ≤ (wr.alloc o).heap.size; simp) _ _ _ _ (hatw.below (((Below.refl wr.heap.size wr).alloc (Nat.le_refl _) o).drew)))
        simp only [cellsV] at hih
        have HIH2 := Lib.hid hih
        have HFZ := Lib.hid hfz
        clear hcell hfl hat hatw e1 e2 hih hel hgb hgh hgc hgs hfz hqq hpl
        go_wp2_with fail
        go_region_with (go_at_call 26; refine (HIH2.out _).mono ?_; rintro e w2 ⟨aa, bb, _, he, _, hat2, hb2⟩; obtain ⟨p1, p2, p3, p4, p5, p6, rfl, rfl⟩ := AtP.slices hat2; subst he; have hbw := ((((Below.refl wr.heap.size wr).alloc (Nat.le_refl _) (Obj.cells #[.int .i64 v.l[j].k, .float .f64 v.l[j].f, .string v.l[j].s, .slice a1 n1 k1, .slice a2 n2 k2] 27)).drew).trans (hb2.mono (by show wr.heap.size ≤ (wr.alloc _).heap.size; simp))); have x3 := (hbw.cell (p := ⟨w.heap.size, 3, none⟩) hwl).trans c3; have g0 := (hbw.cell (p := ⟨g, j * 5, none⟩) hgl).trans f0; have g1 := (hbw.cell (p := ⟨g, j * 5 + 1, none⟩) hgl).trans f1; have g2 := (hbw.cell (p := ⟨g, j * 5 + 2, none⟩) hgl).trans f2; have g3 := (hbw.cell (p := ⟨g, j * 5 + 3, none⟩) hgl).trans f3; have g4 := (hbw.cell (p := ⟨g, j * 5 + 4, none⟩) hgl).trans f4; have z0 := (hbw.frozen (p := ⟨g, j * 5, none⟩) hgl).trans (HFZ.out _); have z1 := (hbw.frozen (p := ⟨g, j * 5 + 1, none⟩) hgl).trans (HFZ.out _); have z2 := (hbw.frozen (p := ⟨g, j * 5 + 2, none⟩) hgl).trans (HFZ.out _); have z3 := (hbw.frozen (p := ⟨g, j * 5 + 3, none⟩) hgl).trans (HFZ.out _); have z4 := (hbw.frozen (p := ⟨g, j * 5 + 4, none⟩) hgl).trans (HFZ.out _))
        all_goals
          have hst := cp_step CI.out HP0.out hlt hbw (AtP.more (fun b hb => ⟨Nat.le_trans (by show wr.heap.size ≤ (wr.alloc _).heap.size; simp) hb.1, hb.2⟩) _ _ _ _ hat2)
          unfold set5at at hst
          have HST := Lib.hid hst
          clear hst hbw hat2 hb2 x3 g0 g1 g2 g3 g4 z0 z1 z2 z3 z4 f0 f1 f2 f3 f4 c0 c1 c2 c3 c4 y0 y1 y2 y3 y4
          go_wp2_with fail
          go_roundw
          case rel => exact ⟨j + 1, _, by go_num, HST.out⟩
          case measure => simp [intOf]; omega
      · have hj : j = v.l.length := by omega
        subst hj
        obtain ⟨c0, c1, c2, c3, c4, y0, y1, y2, y3, y4⟩ := row5 CI.out.b0
        obtain ⟨e10, e11, e12, e13, e14, d10, d11, d12, d13, d14⟩ := row5 CI.out.b1
        have hne : ¬ (w.heap.size = w.heap.size + 1) := by omega
        obtain ⟨i0, hi0, hz0, hz1, hz2⟩ := info_parts infoVal
        go_wp2_with fail
        have hrow := set5_row CI.out.b1 (.int .i64 v.k) (.float .f64 v.f) (.string v.s) (.slice Al v.l.length nl) (.slice Ak v.ks.length nk)
        refine bodyPost_ret_by (results_cell_row rfl _ _ (w.heap.size + 1) 27 _ (0, 0) _ rfl hrow Tryz.underlying27 rfl (by rw [hi0]; simp [hz1])) rfl ?_
        have hd := (cp_done HSM.out HP0.out CI.out).low (W' := set5 wr (w.heap.size + 1) (.int .i64 v.k) (.float .f64 v.f) (.string v.s) (.slice Al v.l.length nl) (.slice Ak v.ks.length nk)) (fun k hk _ => set5_other (by omega) ..) (by rw [set5_size]; omega)
        have hd2 := hd.base (show w.heap.size ≤ w.heap.size + 2 by omega)
        refine ⟨_, _, _, rfl, hd2, hd2.at, ?_⟩
        have hb := CI.out.bel
        have q : w.heap.size ≤ w.heap.size + 1 := by omega
        exact ((((hb.setCell (p := ⟨w.heap.size + 1, 0, none⟩) q _).setCell (p := ⟨w.heap.size + 1, 1, none⟩) q _).setCell (p := ⟨w.heap.size + 1, 2, none⟩) q _).setCell (p := ⟨w.heap.size + 1, 3, none⟩) q _).setCell (p := ⟨w.heap.size + 1, 4, none⟩) q _
theorem copyOf_any (m : Nat) (v : V) (lv kv : Value) (w : World) (h : At w w.heap.size m v lv kv) :
    Calls Tryz.prog 26 #[.agg (cellsV v lv kv)] w fun e w' => ∃ lv' kv', e = .returned (.agg (cellsV v lv' kv')) ∧ AtP w' (fun b => w.heap.size ≤ b ∧ b < w'.heap.size) m v lv' kv' ∧ Below w.heap.size w w' :=
  (copyOf_own m v lv kv w h).mono fun _ _ h => by
    obtain ⟨lv', kv', _, he, _, hat, hb⟩ := h
    exact ⟨lv', kv', he, hat, hb⟩
end Go.Proofs.YtdlighmnlcklnaaGreatDoor
