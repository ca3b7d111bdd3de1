/- RunesJoined: its walk. -/
import Derived.Test.YtohjcimkpcpgbaaDoorHeads
import Derived.Test.YtohjcimkpcpgbaaDoorTidy
namespace Go.Proofs.YtohjcimkpcpgbaaDoor
open Go Go.RowKit Go.WideShapes Go.Shelf

theorem jn_zero (p : ByteArray) (l : List ByteArray) (x : ByteArray) (h : l[0]? = some x) : (⟨#[]⟩ : ByteArray) ++ x = jn p l 1 := by
  show _ = (if 0 < 0 then jn p l 0 ++ p else jn p l 0) ++ l[0]?.getD ⟨#[]⟩
  rw [if_neg (by omega), h]
  rfl
theorem jn_succ (p : ByteArray) (l : List ByteArray) (k : Nat) (x : ByteArray) (hk : 0 < k) (h : l[k]? = some x) : jn p l k ++ p ++ x = jn p l (k + 1) := by
  show _ = (if 0 < k then jn p l k ++ p else jn p l k) ++ l[k]?.getD ⟨#[]⟩
  rw [if_pos hk, h]
  rfl

set_option maxRecDepth 100000 in
set_option maxHeartbeats 4000000 in
theorem joined_true (s p : ByteArray) (hm : s.size ≤ 100000000) (hpm : p.size ≤ 100000000) (w : World) (hT : Lib.Utf8Tabs 0 1 w) :
    Calls Tryd.prog 7 #[.string s, .string p] w fun e w' => e = .returned (.bool true) ∧ Below w.heap.size w w' := by
  have hjn := joined s p
  have hjs := jn_size s p
  have hfree := free s p
  have hsz := split_size s p
  have hlen : (splitS s p).length ≤ 100000001 := by have := split_len s p; omega
  obtain ⟨L, hL⟩ : ∃ L, splitS s p = L := ⟨_, rfl⟩
  rw [hL] at hjn hjs hfree hsz hlen
  obtain ⟨n, hn⟩ : ∃ n, L.length = n := ⟨_, rfl⟩
  rw [hn] at hjn hjs hlen
  have HL := Lib.hid hL
  have Hn := Lib.hid hn
  have Hjn := Lib.hid hjn
  have Hjs := Lib.hid hjs
  have Hfree := Lib.hid hfree
  have Hsz := Lib.hid hsz
  clear hL hn hjn hjs hfree hsz
  go_enter Tryd.func7, Tryd.ntmps7
  go_wp2_with fail
  refine (Split_any s p (by omega) (by omega) _).mono ?_
  rintro e w1 ⟨v, rfl, hown, b1⟩
  rw [HL.out, Hn.out] at hown
  have z1 := b1.size
  have hcell : ∀ k x, L[k]? = some x → ∃ g c, v = .slice (some ⟨g, 0, none⟩) n c ∧ w1.cell? ⟨g, k, none⟩ = some (.string x) := by
    intro k x hk
    have hkl : k < L.length := (List.getElem?_eq_some_iff.1 hk).1
    have hkn : k < n := by rw [← Hn.out]; exact hkl
    obtain ⟨g, c, rfl, _⟩ := own_block hown (by omega)
    refine ⟨g, c, rfl, ?_⟩
    rw [hown.cellAt k (by omega)]
    unfold cellsT
    rw [List.getElem?_map, hk]
    rfl
  obtain ⟨A, c, rfl⟩ := own_form hown
  have Hcell := Lib.hid hcell
  clear hcell hown
  go_wp2_with fail
  go_loop [6, 7] (fun t i => ∃ k : Nat, k ≤ n ∧ i = .int .i64 k ∧ t = .string (jn p L k)) (fun _ i => n - (intOf i).toNat)
  case atStart => exact ⟨0, Nat.zero_le _, rfl, rfl⟩
  case round =>
    obtain ⟨k, hk, rfl, rfl⟩ := hrel
    by_cases hlt : k < n
    · obtain ⟨x, hx⟩ : ∃ x, L[k]? = some x := ⟨_, List.getElem?_eq_getElem (by rw [Hn.out]; exact hlt)⟩
      obtain ⟨g, c', hA, hc⟩ := Hcell.out k x hx
      injection hA with hA1 _ _
      subst hA1
      have hxs := Hsz.out x (List.mem_of_getElem? hx)
      have hjk := Hjs.out k (by omega)
      have i0 : (0 : Int) ≤ (k : Int) := by omega
      have i1 : (k : Int) < (n : Int) := by omega
      by_cases h0 : 0 < k
      · have hs := jn_succ p L k x h0 hx
        have Hs := Lib.hid hs
        have Hx := Lib.hid hx
        have f1 : ¬ (9223372036854775807 < (jn p L k).size + p.size) := by omega
        have f2 : ¬ (9223372036854775807 < (jn p L k ++ p).size + x.size) := by rw [ByteArray.size_append]; omega
        have h0' : (0 : Int) < (k : Int) := by omega
        clear hs hx
        go_wp2
        go_round
        case rel => exact ⟨k + 1, by omega, by go_num, by rw [Hs.out]⟩
        case measure => simp [intOf]; omega
      · obtain rfl : k = 0 := by omega
        have hs := jn_zero p L x hx
        have Hs := Lib.hid hs
        have Hx := Lib.hid hx
        have f2 : ¬ (9223372036854775807 < (⟨#[]⟩ : ByteArray).size + x.size) := by have : (⟨#[]⟩ : ByteArray).size = 0 := rfl; omega
        clear hs hx
        go_wp2
        go_round
        case rel => exact ⟨1, by omega, by go_num, by rw [← Hs.out]; rfl⟩
        case measure => simp [intOf]; omega
    · obtain rfl : k = n := by omega
      have hjn' := Hjn.out
      by_cases hp0 : p.size = 0
      · have hpe := none_list hp0
        go_wp2
        go_loop [8] (fun i => i = .int .i64 0) (fun _ => 0)
        case atStart => rfl
        case round =>
          subst hrel
          by_cases hk0 : (0 : Int) < (k : Int)
          all_goals
            go_wp2_with fail
            refine (heads_true _ (Utf8Tabs_below hT b1)).mono ?_
            rintro e w2 ⟨rfl, b2⟩
            have B2 : Below w.heap.size w w2 := b1.trans (b2.mono z1)
            go_wp2_with fail
            go_ret
            exact ⟨rfl, B2⟩
      · have hpe : p.toList.isEmpty = false := by
          rw [ByteArray.toList_eq]
          cases hl : p.data.toList with
          | nil => exact absurd (by show p.data.size = 0; rw [← Array.length_toList, hl]; rfl) hp0
          | cons a r => rfl
        go_wp2
        go_loop [8] (fun i => ∃ j : Nat, j ≤ k ∧ i = .int .i64 j) (fun i => k - (intOf i).toNat)
        case atStart => exact ⟨0, Nat.zero_le _, rfl⟩
        case round =>
          obtain ⟨j, hj, rfl⟩ := hrel
          by_cases hlt2 : j < k
          · obtain ⟨x, hx⟩ : ∃ x, L[j]? = some x := ⟨_, List.getElem?_eq_getElem (by rw [Hn.out]; exact hlt2)⟩
            obtain ⟨g, c', hA, hc⟩ := Hcell.out j x hx
            injection hA with hA1 _ _
            subst hA1
            have hxs := Hsz.out x (List.mem_of_getElem? hx)
            have i0 : (0 : Int) ≤ (j : Int) := by omega
            have i1 : (j : Int) < (k : Int) := by omega
            have Hx := Lib.hid hx
            have Hjn' := Lib.hid hjn'
            clear hx hjn'
            go_wp2
            go_loop [9] (fun q => ∃ m : Nat, m ≤ x.size ∧ q = .int .i64 m) (fun q => x.size - (intOf q).toNat)
            case atStart => exact ⟨0, Nat.zero_le _, rfl⟩
            case round =>
              obtain ⟨m, hmx, rfl⟩ := hrel
              by_cases hfit : m + p.size ≤ x.size
              · have hno := Hfree.out (by omega) x (List.mem_of_getElem? Hx.out) m hfit
                rw [← stands_eq x p m hfit] at hno
                have f1 : (m : Int) + (p.size : Int) ≤ (x.size : Int) := by omega
                have j0 : (0 : Int) ≤ (m : Int) := by omega
                have j1 : (m : Int) ≤ (m : Int) + (p.size : Int) := by omega
                have j3 : ((m : Int) + (p.size : Int)).toNat = m + p.size := by omega
                go_wp2
                go_round
                case rel => exact ⟨m + 1, by omega, by go_num⟩
                case measure => simp [intOf]; omega
              · have f1 : (x.size : Int) < (m : Int) + (p.size : Int) := by omega
                go_wp2
                go_round
                case rel => exact ⟨j + 1, by omega, by go_num⟩
                case measure => simp [intOf]; omega
          · obtain rfl : j = k := by omega
            go_wp2_with fail
            refine (heads_true _ (Utf8Tabs_below hT b1)).mono ?_
            rintro e w2 ⟨rfl, b2⟩
            have B2 : Below w.heap.size w w2 := b1.trans (b2.mono z1)
            go_wp2_with fail
            go_ret
            exact ⟨rfl, B2⟩
end Go.Proofs.YtohjcimkpcpgbaaDoor
