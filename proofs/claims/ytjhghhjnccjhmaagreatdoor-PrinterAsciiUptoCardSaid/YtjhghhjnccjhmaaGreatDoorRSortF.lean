/- Sorting the places of keys: the library's SortFunc at the printer's closure. -/
import Derived.Test.YtjhghhjnccjhmaaGreatDoorRCmp
import Derived.Test.YtjhghhjnccjhmaaGreatDoorSortLay
import Derived.Deep.QuietTactic
import Derived.Shelf.SlSortCmp.Whole1
namespace Go.Proofs.YtjhghhjnccjhmaaGreatDoor
open Go Go.RowKit

/-- A place, as it lies in a cell. -/
def encF {n : Nat} (i : Fin n) : Value := .int .i64 (i.val : Int)
/-- The order of the keys at two places. -/
def cmpAt (ks : List ByteArray) (i j : Fin ks.length) : Int := cmpK (ks[i.val]'i.isLt) (ks[j.val]'j.isLt)
theorem cmpK_neg (a b : ByteArray) : cmpK a b < 0 ↔ leK b a = false := by
  unfold cmpK
  split
  · simp [*]
  · split <;> simp [*]
theorem cmpK_pos (a b : ByteArray) : 0 < cmpK a b ↔ leK a b = false := by
  unfold cmpK
  split
  · rename_i h
    have := leK_total a b
    rw [h, Bool.or_false] at this
    simp [this]
  · split <;> simp [*]
set_option maxHeartbeats 1000000 in
/-- The closure: it compares the keys at two places. -/
theorem orderFn_any (ks : List ByteArray) (kv : Value) (b : Nat) (W : World) (hb : W.heap[b]? = some (.cells #[kv] 25 (0, 0)))
    (hmax : ks.length ≤ 1048576) (hk : Arr W W.heap.size kv (ks.map Value.string)) (i j : Fin ks.length) :
    Calls Tryz.prog 70 #[.int .i64 i.val, .int .i64 j.val, .pointer (some ⟨b, 0, none⟩)] W fun e w' => e = .returned (.int .i64 (cmpAt ks i j)) ∧ ∃ q, w' = W.drewN q := by
  obtain ⟨i, hi⟩ := i
  obtain ⟨j, hj⟩ := j
  obtain ⟨A, ad, c, rfl, hA, hac⟩ := hk.dest
  rw [List.length_map] at hA hb
  obtain ⟨rfl, hadb⟩ := hA (by omega)
  have ci : W.cell? (ad.add i) = some (.string ks[i]) := hac i _ (by simp [hi])
  have cj : W.cell? (ad.add j) = some (.string ks[j]) := hac j _ (by simp [hj])
  have p0 : W.cell? ⟨b, 0, none⟩ = some (.slice (some ad) ks.length c) := by simp [World.cell?, hb]
  have hcmp := fun W => cmpStr_any ks[i] ks[j] W
  have hr : cmpAt ks ⟨i, hi⟩ ⟨j, hj⟩ = cmpK ks[i] ks[j] := rfl
  rw [hr]
  generalize cmpK ks[i] ks[j] = r at hcmp ⊢
  have HCMP := Lib.hid hcmp
  clear hcmp hr hac hA hk hb
  show Calls Tryz.prog 70 #[.int .i64 (i : Int), .int .i64 (j : Int), .pointer (some ⟨b, 0, none⟩)] W _
  go_enter Tryz.func70, Tryz.ntmps70
  go_wp2_with fail
  go_quiet ((go_at_call 71; exact Calls.quiet_of_same (HCMP.out _)))
  go_wp2_with fail
  go_ret
  exact ⟨rfl, _, rfl⟩
theorem swo_at (ks : List ByteArray) : Go.Sort.SWO (ltOf (cmpAt ks)) := by
  refine ⟨fun x => ?_, fun x y z h1 h2 => ?_, fun x y z h1 h2 => ?_⟩
  · have h : ¬ cmpAt ks x x < 0 := by
      show ¬ cmpK _ _ < 0
      rw [cmpK_neg]
      have := leK_total (ks[x.val]'x.isLt) (ks[x.val]'x.isLt)
      simpa using this
    unfold ltOf
    simp [h]
  · unfold ltOf at *
    simp only [decide_eq_true_eq] at *
    have h1 : cmpK _ _ < 0 := h1
    have h2 : cmpK _ _ < 0 := h2
    show cmpK _ _ < 0
    rw [cmpK_neg] at *
    have t1 := leK_total (ks[x.val]'x.isLt) (ks[y.val]'y.isLt)
    rw [h1, Bool.or_false] at t1
    cases hz : leK (ks[z.val]'z.isLt) (ks[x.val]'x.isLt) with
    | false => rfl
    | true => rw [leK_trans _ _ _ hz t1] at h2; cases h2
  · unfold ltOf at *
    simp only [decide_eq_false_iff_not] at *
    have h1 : ¬ cmpK _ _ < 0 := h1
    have h2 : ¬ cmpK _ _ < 0 := h2
    show ¬ cmpK _ _ < 0
    rw [cmpK_neg] at *
    simp only [Bool.not_eq_false] at *
    exact leK_trans _ _ _ h2 h1
/-- What a sort does to the rest of the memory: nothing. -/
theorem sortWorld_block {α : Type} [Inhabited α] (enc : α → Value) (w : World) (g m : Nat) (dk : Array α) (os : Array Obj) (k : Nat) (hk : k < w.heap.size) (hn : k ≠ g) : (Go.Proofs.sortWorld enc w g 0 m dk os).heap[k]? = w.heap[k]? := by
  unfold Go.Proofs.sortWorld
  simp only [Go.Sort.grow, Go.Sort.putRow, Go.Sort.mapBlock, Go.Sort.ahead]
  rw [Array.getElem?_append_left (by simpa using hk), Array.getElem?_modify, if_neg (fun e => hn e.symm)]
theorem sortWorld_below {α : Type} [Inhabited α] (enc : α → Value) (w : World) (g m : Nat) (dk : Array α) (os : Array Obj) (B : Nat) (hB : B ≤ g) (hg : g < w.heap.size) : Below B w (Go.Proofs.sortWorld enc w g 0 m dk os) :=
  ⟨rfl, rfl, rfl, by simp [Go.Proofs.sortWorld, Go.Sort.grow, Go.Sort.putRow, Go.Sort.mapBlock, Go.Sort.ahead], fun k hk => sortWorld_block enc w g m dk os k (by omega) (by omega)⟩
theorem sortWorld_self {α : Type} [Inhabited α] (enc : α → Value) (w : World) (g m : Nat) (dk : Array α) (os : Array Obj) {cur : Array Value} {t : TypeId} {fz : Nat × Nat} (h : w.heap[g]? = some (.cells cur t fz)) : ∃ cur', (Go.Proofs.sortWorld enc w g 0 m dk os).heap[g]? = some (.cells cur' t fz) ∧ cur'.size = cur.size := by
  have hlt := (Array.getElem?_eq_some_iff.1 h).1
  refine ⟨Go.Sort.putCells enc 0 dk cur, ?_, by simp [Go.Sort.putCells]⟩
  unfold Go.Proofs.sortWorld
  simp only [Go.Sort.grow, Go.Sort.putRow, Go.Sort.mapBlock, Go.Sort.ahead]
  rw [Array.getElem?_append_left (by simpa using hlt), Array.getElem?_modify, if_pos rfl, h]
  rfl
theorem extract_all {α : Type} (d : Array α) (n : Nat) (h : d.size = n) : d.extract 0 n = d := by subst h; simp
/-- SortFunc on the places of the keys. -/
theorem SortAt_any (ks : List ByteArray) (h0 : 0 < ks.length) (hmax : ks.length ≤ 1048576) (kv : Value) (b g cap B : Nat) (w : World) (hb : w.heap[b]? = some (.cells #[kv] 25 (0, 0)))
    (hbB : b < B) (hk : Arr w B kv (ks.map Value.string)) (hBg : B ≤ g) (hg : g < w.heap.size) (d : Array (Fin ks.length)) (hd : d.size = ks.length) (hH : ∀ [Inhabited (Fin ks.length)], Go.Sort.Holds encF w g 0 d) :
    Calls Tryz.prog 69 #[.slice (some ⟨g, 0, none⟩) ks.length cap, .func (.func 70) #[] #[.pointer (some ⟨b, 0, none⟩)]] w fun e w' => e = .returned (.tuple #[]) ∧
      ∃ l : List (Fin ks.length), l.Perm d.toList ∧ l.Pairwise (fun i j => leK (ks[i.val]'i.isLt) (ks[j.val]'j.isLt) = true) ∧ (∀ j (h : j < l.length), w'.cell? ⟨g, j, none⟩ = some (encF l[j])) ∧ Below B w w' ∧ g < w'.heap.size ∧ ∀ cur t fz, w.heap[g]? = some (.cells cur t fz) → ∃ cur', w'.heap[g]? = some (.cells cur' t fz) ∧ cur'.size = cur.size := by
  haveI : Inhabited (Fin ks.length) := ⟨⟨0, h0⟩⟩
  have eg : ∀ args w, (callFunc 70 args).run Tryz.prog w = .ok (.enter 70 args) w := enters_of Tryz.func70 (by kernel_rfl) rfl
  have hcmp : CmpReads Tryz.prog 70 #[.pointer (some ⟨b, 0, none⟩)] encF (cmpAt ks) g 0 d.size w := by
    intro m os dk hdk x y
    have hbl : Below B w (Go.Proofs.sortWorld encF w g 0 m dk os) := sortWorld_below encF w g m dk os B hBg hg
    exact orderFn_any ks kv b _ ((hbl.block b hbB).trans hb) hmax ((hk.below hbl).more (by have := hbl.size; omega)) x y
  have hcon := Any.slices_SortFunc Tryz.sortIntF encF (fun _ => rfl) (cmpAt ks) (swo_at ks) 70 #[.pointer (some ⟨b, 0, none⟩)] g 0 cap d w eg hcmp.lays hH hg (by omega)
  rw [hd] at hcon
  refine Calls.mono hcon ?_
  rintro e w' ⟨rfl, d', n, os, hp, hs, rfl⟩
  have hsz : d'.size = ks.length := hp.1.trans hd
  have hall : d'.extract 0 ks.length = d' := extract_all d' _ hsz
  have hall2 : d.extract 0 ks.length = d := extract_all d _ hd
  have hperm := hp.2.2
  rw [hall, hall2] at hperm
  have hbl : Below B w (Go.Proofs.sortWorld encF w g 0 n d' os) := sortWorld_below encF w g n d' os B hBg hg
  have hsz2 : g < (Go.Proofs.sortWorld encF w g 0 n d' os).heap.size := by simp [Go.Proofs.sortWorld, Go.Sort.grow, Go.Sort.putRow, Go.Sort.mapBlock, Go.Sort.ahead]; omega
  refine ⟨rfl, d'.toList, hperm, ?_, ?_, hbl, hsz2, fun cur t fz h => sortWorld_self encF w g n d' os h⟩
  · rw [List.pairwise_iff_getElem]
    intro i j hi hj hij
    rw [Array.length_toList] at hi hj
    have h := hs i j (Nat.zero_le _) hij (by omega)
    rw [getElem!_pos d' j (by omega), getElem!_pos d' i (by omega)] at h
    unfold ltOf at h
    simp only [decide_eq_false_iff_not] at h
    have h2 : ¬ cmpK (ks[d'[j].val]'d'[j].isLt) (ks[d'[i].val]'d'[i].isLt) < 0 := h
    rw [cmpK_neg] at h2
    simpa using h2
  · intro j hj
    rw [Array.length_toList] at hj
    have hh : Go.Sort.Holds encF (Go.Proofs.sortWorld encF w g 0 n d' os) g 0 d' :=
      Go.Sort.holds_grow encF _ os g 0 d' (by simp [Go.Sort.putRow, Go.Sort.mapBlock, Go.Sort.ahead]; omega) (Go.Sort.holds_putRow encF (Go.Sort.ahead w n) g 0 d d' (Go.Sort.holds_ahead encF w n g 0 d hH) (by omega))
    have h := (hh j hj).1
    rw [getElem!_pos d' j hj, Nat.zero_add] at h
    simpa using h
end Go.Proofs.YtjhghhjnccjhmaaGreatDoor
