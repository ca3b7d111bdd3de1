/- A sheet: keys sorted: order. -/
import Derived.Test.YtjhghhjnccjhmaaGreatDoorRSortF
import Derived.Test.YtjhghhjnccjhmaaGreatDoorRVal4
import Derived.Test.YtjhghhjnccjhmaaGreatDoorRPrint
namespace Go.Proofs.YtjhghhjnccjhmaaGreatDoor
open Go Go.RowKit

theorem find_at {ks : List ByteArray} (h : ks.Nodup) (i : Fin ks.length) (key : ByteArray) (e : ks[i.val]'i.isLt = key) : ks.findIdx (fun k => decide (k = key)) = i.val := by
  subst e
  rw [List.findIdx_eq i.isLt]
  refine ⟨by simp, fun j hj => ?_⟩
  rw [decide_eq_false_iff_not]
  exact List.pairwise_iff_getElem.1 h j i.val (by have := i.isLt; omega) i.isLt hj
theorem sorted_nodup : ∀ l : List ByteArray, l.Pairwise (fun a b => leK a b = true) → (∀ i, i + 1 < l.length → l.getD (i + 1) default ≠ l.getD i default) → l.Nodup
  | [], _, _ => List.nodup_nil
  | [a], _, _ => by simp
  | a :: b :: r, hp, hne => by
    have ih := sorted_nodup (b :: r) hp.of_cons (fun i hi => hne (i + 1) (by simpa using hi))
    refine List.nodup_cons.2 ⟨fun hm => ?_, ih⟩
    have hab : leK a b = true := (List.pairwise_cons.1 hp).1 b (by simp)
    have hba : a ≠ b := fun e => hne 0 (by simp) (by simp [e])
    rcases List.mem_cons.1 hm with e | hm
    · exact hba e
    · have h2 : leK b a = true := (List.pairwise_cons.1 (List.pairwise_cons.1 hp).2).1 a hm
      exact hba (leK_anti a b hab h2)
theorem okK_nodup {ks : List ByteArray} (h : okK (sortK ks) = true) : ks.Nodup := by
  refine (sortK_perm ks).nodup_iff.1 (sorted_nodup _ (sortK_sorted ks) fun i hi e => ?_)
  unfold okK at h
  rw [List.all_eq_true] at h
  have h1 := h (i + 1) (by simpa using hi)
  unfold okAt at h1
  rw [e] at h1
  simp at h1
/-- What a sorted permutation of the places is. -/
theorem places_ord {ks : List ByteArray} (hok : okK (sortK ks) = true) {l : List (Fin ks.length)} (hp : l.Perm (List.finRange ks.length)) (hs : l.Pairwise (fun i j => leK (ks[i.val]'i.isLt) (ks[j.val]'j.isLt) = true)) (j : Nat) (hj : j < l.length) :
    (l[j]).val = ordP true ks j := by
  have hm : l.map (fun i => ks[i.val]'i.isLt) = sortK ks := by
    refine sortK_of ?_ (List.pairwise_map.2 hs)
    have h := hp.map fun i : Fin ks.length => ks[i.val]'i.isLt
    have e : (List.finRange ks.length).map (fun i => ks[i.val]'i.isLt) = ks := by
      apply List.ext_getElem (by simp)
      intro i h1 h2
      simp
    rw [e] at h
    exact h
  unfold ordP
  rw [if_pos rfl]
  refine (find_at (okK_nodup hok) l[j] _ ?_).symm
  rw [← hm]
  simp [List.getD, hj]
end Go.Proofs.YtjhghhjnccjhmaaGreatDoor
namespace Go.Proofs.YtjhghhjnccjhmaaGreatDoor
open Go Go.RowKit

set_option maxRecDepth 100000 in
set_option maxHeartbeats 1000000 in
theorem insertion_empty (A : Option Addr) (c : Nat) (f : Value) (w : World) : Calls Tryz.prog 108 #[.slice A 0 c, .int .i64 0, .int .i64 0, f] w fun e w' => e = .returned (.tuple #[]) ∧ w' = w := by
  go_enter Tryz.func108, Tryz.ntmps108
  go_wp2_with fail
  first | go_loopw [5] (fun i wr => i = .int .i64 1 ∧ wr = w) (fun _ _ => 0) | go_loopw [6] (fun i wr => i = .int .i64 1 ∧ wr = w) (fun _ _ => 0) | go_loopw [7] (fun i wr => i = .int .i64 1 ∧ wr = w) (fun _ _ => 0) | go_loopw [8] (fun i wr => i = .int .i64 1 ∧ wr = w) (fun _ _ => 0)
  case atStart => exact ⟨rfl, rfl⟩
  case round =>
    obtain ⟨rfl, rfl⟩ := hrel
    go_wp2_with fail
    go_end0
    exact ⟨rfl, rfl⟩
set_option maxRecDepth 100000 in
set_option maxHeartbeats 1000000 in
theorem pdq_empty (A : Option Addr) (c : Nat) (m : Int) (f : Value) (w : World) : Calls Tryz.prog 95 #[.slice A 0 c, .int .i64 0, .int .i64 0, .int .i64 m, f] w fun e w' => e = .returned (.tuple #[]) ∧ w' = w := by
  have hi := fun W => insertion_empty A c f W
  have HI := Lib.hid hi
  clear hi
  go_enter Tryz.func95, Tryz.ntmps95
  go_wp2_with fail
  go_loopw [1, 2] (fun a b wr => a = .int .i64 0 ∧ b = .int .i64 0 ∧ wr = w) (fun _ _ _ => 0)
  case atStart => exact ⟨rfl, rfl, rfl⟩
  case round =>
    obtain ⟨rfl, rfl, rfl⟩ := hrel
    go_wp2_with fail
    refine (HI.out _).mono ?_
    rintro e w1 ⟨rfl, rfl⟩
    go_wp2_with fail
    refine bodyPost_ret (results_none rfl _ _ _) rfl ?_
    exact ⟨rfl, rfl⟩
set_option maxRecDepth 100000 in
set_option maxHeartbeats 1000000 in
theorem SortFunc_empty (A : Option Addr) (c : Nat) (f : FuncId) (caps : Array Value) (w : World) : Calls Tryz.prog 69 #[.slice A 0 c, .func (.func f) #[] caps] w fun e w' => e = .returned (.tuple #[]) ∧ ∃ q, w' = w.drewN q := by
  have hp := fun m W => pdq_empty A c m (.func (.func f) #[] caps) W
  have hl := fun W => Tryz.bits_Len 0 W (by decide) (by decide)
  have HP := Lib.hid hp
  have HL := Lib.hid hl
  clear hp hl
  go_enter Tryz.func69, Tryz.ntmps69
  go_wp2_with fail
  refine (HL.out _).mono ?_
  rintro e w1 ⟨rfl, rfl⟩
  go_wp2_with fail
  refine (HP.out _ _).mono ?_
  rintro e w2 ⟨rfl, rfl⟩
  go_wp2_with fail
  go_end0
  exact ⟨rfl, 0, rfl⟩
end Go.Proofs.YtjhghhjnccjhmaaGreatDoor
namespace Go.Proofs.YtjhghhjnccjhmaaGreatDoor
open Go Go.RowKit

theorem SortFunc_zero (A : Option Addr) (n c : Nat) (h : n = 0) (f : FuncId) (caps : Array Value) (w : World) : Calls Tryz.prog 69 #[.slice A n c, .func (.func f) #[] caps] w fun e w' => e = .returned (.tuple #[]) ∧ ∃ q, w' = w.drewN q := by
  subst h
  exact SortFunc_empty A c f caps w
theorem Pls.holds {W : World} {P n : Nat} (h : Pls W P n n) [Inhabited (Fin n)] : Go.Sort.Holds encF W P 0 (List.finRange n).toArray := by
  obtain ⟨cur, f, h1, h2, h3, h4⟩ := h
  intro j hj
  have hj : j < n := by simpa using hj
  refine ⟨?_, by simp [World.frozen?, h1]⟩
  have e := h3 j hj
  rw [h4 j hj] at e
  rw [Nat.zero_add, World.cell?]
  simp only [h1]
  rw [e, getElem!_pos _ j (by simpa using hj)]
  simp [encF]
/-- The row of places behind the sort. -/
theorem sorted_row {ks : List ByteArray} (hok : okK (sortK ks) = true) {w : World} {g : Nat} {cur : Array Value} (hg : w.heap[g]? = some (.cells cur 3 (0, 0))) (hc : cur.size = ks.length) {l : List (Fin ks.length)} (hp : l.Perm (List.finRange ks.length)) (hs : l.Pairwise (fun i j => leK (ks[i.val]'i.isLt) (ks[j.val]'j.isLt) = true))
    (hcell : ∀ j (h : j < l.length), w.cell? ⟨g, j, none⟩ = some (encF l[j])) : Prm w g ks.length (ordP true ks) := by
  have hl : l.length = ks.length := by have := hp.length_eq; simpa using this
  refine ⟨cur, hg, hc, fun j hj => ?_⟩
  have h1 := hcell j (by omega)
  rw [cell_of_row w g j cur _ _ hg] at h1
  rw [h1, ← places_ord hok hp hs j (by omega)]
  rfl
set_option maxRecDepth 100000 in
set_option maxHeartbeats 4000000 in
theorem order_T (y : Sty) (hsrt : y.srt = true) : OrderC y := by
  intro b step lev st ks A c hks hok w hk hw
  have H := Lib.hid hw
  have hlt := hw.lt
  obtain ⟨n, hn⟩ : ∃ n, ks.length = n := ⟨_, rfl⟩
  obtain ⟨i0, hi, hz0, hz1, hz2⟩ := info_parts infoInt
  have hmk : ∀ u : World, (Instr.makeSlice 77 (.int .i64 (n : Int)) (.int .i64 (n : Int))).run Tryz.prog u =
      .ok (.slice (some ⟨u.heap.size, 0, none⟩) n n) (u.alloc (.cells (madeCells #[.int .i64 0] n) 3)) := fun u => by
    have h := run_make (P := Tryz.prog) u 77 3 i0 (.int .i64 0) Tryz.underlying77 hi hz0 .i64 .i64 (n : Int) (n : Int) (by omega) (Int.le_refl _) (by rw [hz2]; omega) (by omega)
    rw [Int.toNat_natCast] at h
    simpa [hz1, Value.cells] using h
  have HK := Lib.hid hk.1
  have HOK := Lib.hid hok
  have HN := Lib.hid hn
  rw [hn] at hks ⊢
  rw [hsrt]
  clear hi hz0 hz1 hz2 hw hk hok hn
  go_enter Tryz.func45, Tryz.ntmps45
  go_wp2_with fail
  go_loopw [12] (fun i W => ∃ j : Nat, j ≤ n ∧ i = .int .i64 j ∧ Pls W (w.heap.size + 1) n j ∧ Below w.heap.size w W ∧ Hid (W.heap[w.heap.size]? = some (.cells #[.slice A n c] 25 (0, 0)))) (fun i _ => n - (intOf i).toNat)
  case atStart =>
    refine ⟨0, Nat.zero_le _, rfl, ?_, ?_, Lib.hid ?_⟩
    · have := Pls.made (w.alloc (.cells #[.slice A n c] 25)) n
      rw [World.size_alloc] at this
      exact this
    · exact ((Below.refl w.heap.size w).alloc (Nat.le_refl _) _).alloc (by simp) _
    · exact row_alloc3 (heap_alloc_new w _) _
  case round =>
    obtain ⟨j, hj, rfl, hp, hb, HR⟩ := hrel
    by_cases hlt2 : j < n
    · obtain ⟨⟨u, hu⟩, hf⟩ := hp.cell_frozen j hlt2
      have HP := Lib.hid (hp.put hlt2)
      have HB := Lib.hid hb
      have dj : decide ((j : Int) < (n : Int)) = true := by simp; omega
      have j0 : (0 : Int) ≤ (j : Int) := by omega
      have j1 : (j : Int) < (n : Int) := by omega
      clear hp hb
      go_wp2_with fail
      go_roundw
      case rel => exact ⟨j + 1, by omega, by go_num, HP.out, HB.out.setCell (p := ⟨w.heap.size + 1, j, none⟩) (by simp) _, Lib.hid (block_set HR.out (by omega))⟩
      case measure => simp [intOf]; omega
    · obtain rfl : j = n := by omega
      have HX := Lib.hid (H.out.ext (hb.mono (Nat.le_refl _)))
      obtain ⟨l, room, h1, h2, h3, h4, h5⟩ := HX.out.parts
      obtain ⟨c2, c3, c4, c5, c6, c7, c8, c9, c10, f2, f3, f10, _⟩ := rowS h4
      have HP := Lib.hid hp
      have HB := Lib.hid hb
      rw [hsrt] at c6
      have dj : decide ((j : Int) < (j : Int)) = false := by simp
      clear hp hb h4 h5
      go_wp2_with fail
      have hkn : ks.length = j := HN.out
      subst hkn
      by_cases h0 : ks.length = 0
      · have hse := SortFunc_zero (some ⟨w.heap.size + 1, 0, none⟩) ks.length ks.length h0 70 #[.pointer (some ⟨w.heap.size, 0, none⟩)] wr
        have HSE := Lib.hid hse
        clear hse
        refine HSE.out.mono ?_
        rintro e w3 ⟨rfl, q, rfl⟩
        go_wp2_with fail
        go_ret
        refine ⟨w.heap.size + 1, by simp [h0], by omega, ?_, below_drewN HB.out q⟩
        obtain ⟨cur, f, k1, k2, k3, k4⟩ := HP.out
        exact ⟨cur, k1, k2, fun i hi => absurd hi (by omega)⟩
      · have hso := SortAt_any ks (by omega) hks (.slice A ks.length c) w.heap.size (w.heap.size + 1) ks.length (w.heap.size + 1) wr HR.out (by omega) ((HK.out.below HB.out).more (by omega)) (Nat.le_refl _) HP.out.lt (List.finRange ks.length).toArray (by simp) (HP.out.holds)
        have HSO := Lib.hid hso
        clear hso
        refine HSO.out.mono ?_
        rintro e w3 ⟨rfl, pl, hperm, hpw, hcell, hb3, hlt3, hself⟩
        obtain ⟨cur, f, k1, k2, k3, k4⟩ := HP.out
        obtain ⟨cur', e1, e2⟩ := hself cur _ _ k1
        have HPR := Lib.hid (sorted_row HOK.out e1 (by omega) (by simpa using hperm) hpw hcell)
        have HB3 := Lib.hid (HB.out.trans (hb3.mono (by omega)))
        clear hperm hpw hcell hb3 hlt3 hself k1 k2 k3 k4 e1 e2
        go_wp2_with fail
        go_ret
        exact ⟨w.heap.size + 1, rfl, by omega, HPR.out, HB3.out⟩
/-- The order of keys keeps its promise in every style. -/
theorem order_C (y : Sty) : OrderC y := by
  cases h : y.srt with
  | false => exact order_F y h
  | true => exact order_T y h
end Go.Proofs.YtjhghhjnccjhmaaGreatDoor
