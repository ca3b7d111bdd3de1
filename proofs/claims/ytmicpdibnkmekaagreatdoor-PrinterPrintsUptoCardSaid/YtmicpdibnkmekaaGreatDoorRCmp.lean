/- Comparing two texts. -/
import Derived.Test.YtmicpdibnkmekaaGreatDoorQKeys
import Derived.Test.YtmicpdibnkmekaaGreatDoorROrd
import Derived.Test.YtmicpdibnkmekaaGreatDoorSortLay
import Derived.Deep.QuietTactic
import Derived.Shelf.SlSortCmp.Whole1
import Derived.Test.YtmicpdibnkmekaaGreatDoorRSca
import Derived.Test.YtmicpdibnkmekaaGreatDoorRPrint
namespace Go.Proofs.YtmicpdibnkmekaaGreatDoor
open Go Go.RowKit

/-- The order of two texts, as a number. -/
def cmpK (a b : ByteArray) : Int := if leK b a = false then -1 else if leK a b = false then 1 else 0
theorem less_leK (a b : ByteArray) : Op.bytesLess a.toList b.toList = !leK b a := by
  rw [bytesLess_is, Lib.toList_data, Lib.toList_data]
  show decide (a.data.toList < b.data.toList) = !decide _
  rw [← decide_not]
  congr 1
  simp
set_option maxHeartbeats 400000 in
theorem cmpNaN_any (x : ByteArray) (w : World) : Calls Tryz.prog 179 #[.string x] w fun e w' => e = .returned (.bool false) ∧ w' = w := by
  go_enter Tryz.func179, Tryz.ntmps179
  go_wp2_with fail
  go_ret
  exact ⟨by simp, rfl⟩
set_option maxHeartbeats 400000 in
theorem cmpStr_any (x y : ByteArray) (w : World) : Calls Tryz.prog 131 #[.string x, .string y] w fun e w' => e = .returned (.int .i64 (cmpK x y)) ∧ w' = w := by
  have h1 := fun z W => cmpNaN_any z W
  have hxy := less_leK x y
  have hyx := less_leK y x
  have H1 := Lib.hid h1
  clear h1
  cases ha : leK y x with
  | false =>
    have hc : cmpK x y = -1 := by unfold cmpK; rw [if_pos ha]
    rw [ha, Bool.not_false] at hxy
    rw [hc]
    clear hyx ha hc
    go_enter Tryz.func131, Tryz.ntmps131
    go_wp2_with fail
    refine (H1.out x w).mono ?_
    rintro e w1 ⟨rfl, rfl⟩
    go_wp2_with fail
    refine (H1.out y _).mono ?_
    rintro e w2 ⟨rfl, rfl⟩
    go_wp2_with fail
    go_ret
    exact ⟨rfl, rfl⟩
  | true =>
    rw [ha, Bool.not_true] at hxy
    cases hb : leK x y with
    | false =>
      have hc : cmpK x y = 1 := by unfold cmpK; rw [if_neg (by rw [ha]; decide), if_pos hb]
      have hne : (x.toList == y.toList) = false := by
        rw [beq_eq_false_iff_ne]
        intro e
        rw [ByteArray.toList_eq, ByteArray.toList_eq] at e
        have e2 : x = y := toList_inj e
        rw [e2] at ha hb
        rw [ha] at hb
        cases hb
      rw [hc]
      clear ha hb hc hyx
      go_enter Tryz.func131, Tryz.ntmps131
      go_wp2_with fail
      refine (H1.out x w).mono ?_
      rintro e w1 ⟨rfl, rfl⟩
      go_wp2_with fail
      refine (H1.out y _).mono ?_
      rintro e w2 ⟨rfl, rfl⟩
      go_wp2_with fail
      go_ret
      exact ⟨rfl, rfl⟩
    | true =>
      have hc : cmpK x y = 0 := by unfold cmpK; rw [if_neg (by rw [ha]; decide), if_neg (by rw [hb]; decide)]
      have heq : (x.toList == y.toList) = true := by rw [leK_anti x y hb ha]; simp
      rw [hc]
      clear ha hb hc hyx
      go_enter Tryz.func131, Tryz.ntmps131
      go_wp2_with fail
      refine (H1.out x w).mono ?_
      rintro e w1 ⟨rfl, rfl⟩
      go_wp2_with fail
      refine (H1.out y _).mono ?_
      rintro e w2 ⟨rfl, rfl⟩
      go_wp2_with fail
      go_ret
      exact ⟨rfl, rfl⟩
end Go.Proofs.YtmicpdibnkmekaaGreatDoor
namespace Go.Proofs.YtmicpdibnkmekaaGreatDoor
open Go Go.RowKit

/-- A place, as it lies in a cell. -/
def encF {n : Nat} (i : Fin n) : Value := .int .i64 (i.val : Int)
/-- The order of the keys at two places. -/
def cmpAt (ks : List ByteArray) (i j : Fin ks.length) : Int := cmpK (ks[i.val]'i.isLt) (ks[j.val]'j.isLt)
theorem cmpK_neg (a b : ByteArray) : cmpK a b < 0 ↔ leK b a = false := by
  unfold cmpK
  split
  · simp [*]
  · split <;> simp [*]
theorem cmpK_pos (a b : ByteArray) : 0 < cmpK a b ↔ leK a b = false := by
  unfold cmpK
  split
  · rename_i h
    have := leK_total a b
    rw [h, Bool.or_false] at this
    simp [this]
  · split <;> simp [*]
set_option maxHeartbeats 1000000 in
/-- The closure: it compares the keys at two places. -/
theorem orderFn_any (ks : List ByteArray) (kv : Value) (b : Nat) (W : World) (hb : W.heap[b]? = some (.cells #[kv] 25 (0, 0)))
    (hmax : ks.length ≤ 1048576) (hk : Arr W W.heap.size kv (ks.map Value.string)) (i j : Fin ks.length) :
    Calls Tryz.prog 130 #[.int .i64 i.val, .int .i64 j.val, .pointer (some ⟨b, 0, none⟩)] W fun e w' => e = .returned (.int .i64 (cmpAt ks i j)) ∧ ∃ q, w' = W.drewN q := by
  obtain ⟨i, hi⟩ := i
  obtain ⟨j, hj⟩ := j
  obtain ⟨A, ad, c, rfl, hA, hac⟩ := hk.dest
  rw [List.length_map] at hA hb
  obtain ⟨rfl, hadb⟩ := hA (by omega)
  have ci : W.cell? (ad.add i) = some (.string ks[i]) := hac i _ (by simp [hi])
  have cj : W.cell? (ad.add j) = some (.string ks[j]) := hac j _ (by simp [hj])
  have p0 : W.cell? ⟨b, 0, none⟩ = some (.slice (some ad) ks.length c) := by simp [World.cell?, hb]
  have hcmp := fun W => cmpStr_any ks[i] ks[j] W
  have hr : cmpAt ks ⟨i, hi⟩ ⟨j, hj⟩ = cmpK ks[i] ks[j] := rfl
  rw [hr]
  generalize cmpK ks[i] ks[j] = r at hcmp ⊢
  have HCMP := Lib.hid hcmp
  clear hcmp hr hac hA hk hb
  show Calls Tryz.prog 130 #[.int .i64 (i : Int), .int .i64 (j : Int), .pointer (some ⟨b, 0, none⟩)] W _
  go_enter Tryz.func130, Tryz.ntmps130
  go_wp2_with fail
  go_quiet ((go_at_call 131; exact Calls.quiet_of_same (HCMP.out _)))
  go_wp2_with fail
  go_ret
  exact ⟨rfl, _, rfl⟩
theorem swo_at (ks : List ByteArray) : Go.Sort.SWO (ltOf (cmpAt ks)) := by
  refine ⟨fun x => ?_, fun x y z h1 h2 => ?_, fun x y z h1 h2 => ?_⟩
  · have h : ¬ cmpAt ks x x < 0 := by
      show ¬ cmpK _ _ < 0
      rw [cmpK_neg]
      have := leK_total (ks[x.val]'x.isLt) (ks[x.val]'x.isLt)
      simpa using this
    unfold ltOf
    simp [h]
  · unfold ltOf at *
    simp only [decide_eq_true_eq] at *
    have h1 : cmpK _ _ < 0 := h1
    have h2 : cmpK _ _ < 0 := h2
    show cmpK _ _ < 0
    rw [cmpK_neg] at *
    have t1 := leK_total (ks[x.val]'x.isLt) (ks[y.val]'y.isLt)
    rw [h1, Bool.or_false] at t1
    cases hz : leK (ks[z.val]'z.isLt) (ks[x.val]'x.isLt) with
    | false => rfl
    | true => rw [leK_trans _ _ _ hz t1] at h2; cases h2
  · unfold ltOf at *
    simp only [decide_eq_false_iff_not] at *
    have h1 : ¬ cmpK _ _ < 0 := h1
    have h2 : ¬ cmpK _ _ < 0 := h2
    show ¬ cmpK _ _ < 0
    rw [cmpK_neg] at *
    simp only [Bool.not_eq_false] at *
    exact leK_trans _ _ _ h2 h1
/-- What a sort does to the rest of the memory: nothing. -/
theorem sortWorld_block {α : Type} [Inhabited α] (enc : α → Value) (w : World) (g m : Nat) (dk : Array α) (os : Array Obj) (k : Nat) (hk : k < w.heap.size) (hn : k ≠ g) : (Go.Proofs.sortWorld enc w g 0 m dk os).heap[k]? = w.heap[k]? := by
  unfold Go.Proofs.sortWorld
  simp only [Go.Sort.grow, Go.Sort.putRow, Go.Sort.mapBlock, Go.Sort.ahead]
  rw [Array.getElem?_append_left (by simpa using hk), Array.getElem?_modify, if_neg (fun e => hn e.symm)]
theorem sortWorld_below {α : Type} [Inhabited α] (enc : α → Value) (w : World) (g m : Nat) (dk : Array α) (os : Array Obj) (B : Nat) (hB : B ≤ g) (hg : g < w.heap.size) : Below B w (Go.Proofs.sortWorld enc w g 0 m dk os) :=
  ⟨rfl, rfl, rfl, by simp [Go.Proofs.sortWorld, Go.Sort.grow, Go.Sort.putRow, Go.Sort.mapBlock, Go.Sort.ahead], fun k hk => sortWorld_block enc w g m dk os k (by omega) (by omega)⟩
theorem sortWorld_self {α : Type} [Inhabited α] (enc : α → Value) (w : World) (g m : Nat) (dk : Array α) (os : Array Obj) {cur : Array Value} {t : TypeId} {fz : Nat × Nat} (h : w.heap[g]? = some (.cells cur t fz)) : ∃ cur', (Go.Proofs.sortWorld enc w g 0 m dk os).heap[g]? = some (.cells cur' t fz) ∧ cur'.size = cur.size := by
  have hlt := (Array.getElem?_eq_some_iff.1 h).1
  refine ⟨Go.Sort.putCells enc 0 dk cur, ?_, by simp [Go.Sort.putCells]⟩
  unfold Go.Proofs.sortWorld
  simp only [Go.Sort.grow, Go.Sort.putRow, Go.Sort.mapBlock, Go.Sort.ahead]
  rw [Array.getElem?_append_left (by simpa using hlt), Array.getElem?_modify, if_pos rfl, h]
  rfl
theorem extract_all {α : Type} (d : Array α) (n : Nat) (h : d.size = n) : d.extract 0 n = d := by subst h; simp
/-- SortFunc on the places of the keys. -/
theorem SortAt_any (ks : List ByteArray) (h0 : 0 < ks.length) (hmax : ks.length ≤ 1048576) (kv : Value) (b g cap B : Nat) (w : World) (hb : w.heap[b]? = some (.cells #[kv] 25 (0, 0)))
    (hbB : b < B) (hk : Arr w B kv (ks.map Value.string)) (hBg : B ≤ g) (hg : g < w.heap.size) (d : Array (Fin ks.length)) (hd : d.size = ks.length) (hH : ∀ [Inhabited (Fin ks.length)], Go.Sort.Holds encF w g 0 d) :
    Calls Tryz.prog 104 #[.slice (some ⟨g, 0, none⟩) ks.length cap, .func (.func 130) #[] #[.pointer (some ⟨b, 0, none⟩)]] w fun e w' => e = .returned (.tuple #[]) ∧
      ∃ l : List (Fin ks.length), l.Perm d.toList ∧ l.Pairwise (fun i j => leK (ks[i.val]'i.isLt) (ks[j.val]'j.isLt) = true) ∧ (∀ j (h : j < l.length), w'.cell? ⟨g, j, none⟩ = some (encF l[j])) ∧ Below B w w' ∧ g < w'.heap.size ∧ ∀ cur t fz, w.heap[g]? = some (.cells cur t fz) → ∃ cur', w'.heap[g]? = some (.cells cur' t fz) ∧ cur'.size = cur.size := by
  haveI : Inhabited (Fin ks.length) := ⟨⟨0, h0⟩⟩
  have eg : ∀ args w, (callFunc 130 args).run Tryz.prog w = .ok (.enter 130 args) w := enters_of Tryz.func130 (by kernel_rfl) rfl
  have hcmp : CmpReads Tryz.prog 130 #[.pointer (some ⟨b, 0, none⟩)] encF (cmpAt ks) g 0 d.size w := by
    intro m os dk hdk x y
    have hbl : Below B w (Go.Proofs.sortWorld encF w g 0 m dk os) := sortWorld_below encF w g m dk os B hBg hg
    exact orderFn_any ks kv b _ ((hbl.block b hbB).trans hb) hmax ((hk.below hbl).more (by have := hbl.size; omega)) x y
  have hcon := Any.slices_SortFunc Tryz.sortIntF encF (fun _ => rfl) (cmpAt ks) (swo_at ks) 130 #[.pointer (some ⟨b, 0, none⟩)] g 0 cap d w eg hcmp.lays hH hg (by omega)
  rw [hd] at hcon
  refine Calls.mono hcon ?_
  rintro e w' ⟨rfl, d', n, os, hp, hs, rfl⟩
  have hsz : d'.size = ks.length := hp.1.trans hd
  have hall : d'.extract 0 ks.length = d' := extract_all d' _ hsz
  have hall2 : d.extract 0 ks.length = d := extract_all d _ hd
  have hperm := hp.2.2
  rw [hall, hall2] at hperm
  have hbl : Below B w (Go.Proofs.sortWorld encF w g 0 n d' os) := sortWorld_below encF w g n d' os B hBg hg
  have hsz2 : g < (Go.Proofs.sortWorld encF w g 0 n d' os).heap.size := by simp [Go.Proofs.sortWorld, Go.Sort.grow, Go.Sort.putRow, Go.Sort.mapBlock, Go.Sort.ahead]; omega
  refine ⟨rfl, d'.toList, hperm, ?_, ?_, hbl, hsz2, fun cur t fz h => sortWorld_self encF w g n d' os h⟩
  · rw [List.pairwise_iff_getElem]
    intro i j hi hj hij
    rw [Array.length_toList] at hi hj
    have h := hs i j (Nat.zero_le _) hij (by omega)
    rw [getElem!_pos d' j (by omega), getElem!_pos d' i (by omega)] at h
    unfold ltOf at h
    simp only [decide_eq_false_iff_not] at h
    have h2 : ¬ cmpK (ks[d'[j].val]'d'[j].isLt) (ks[d'[i].val]'d'[i].isLt) < 0 := h
    rw [cmpK_neg] at h2
    simpa using h2
  · intro j hj
    rw [Array.length_toList] at hj
    have hh : Go.Sort.Holds encF (Go.Proofs.sortWorld encF w g 0 n d' os) g 0 d' :=
      Go.Sort.holds_grow encF _ os g 0 d' (by simp [Go.Sort.putRow, Go.Sort.mapBlock, Go.Sort.ahead]; omega) (Go.Sort.holds_putRow encF (Go.Sort.ahead w n) g 0 d d' (Go.Sort.holds_ahead encF w n g 0 d hH) (by omega))
    have h := (hh j hj).1
    rw [getElem!_pos d' j hj, Nat.zero_add] at h
    simpa using h
end Go.Proofs.YtmicpdibnkmekaaGreatDoor
namespace Go.Proofs.YtmicpdibnkmekaaGreatDoor
open Go Go.RowKit

theorem find_at {ks : List ByteArray} (h : ks.Nodup) (i : Fin ks.length) (key : ByteArray) (e : ks[i.val]'i.isLt = key) : ks.findIdx (fun k => decide (k = key)) = i.val := by
  subst e
  rw [List.findIdx_eq i.isLt]
  refine ⟨by simp, fun j hj => ?_⟩
  rw [decide_eq_false_iff_not]
  exact List.pairwise_iff_getElem.1 h j i.val (by have := i.isLt; omega) i.isLt hj
theorem sorted_nodup : ∀ l : List ByteArray, l.Pairwise (fun a b => leK a b = true) → (∀ i, i + 1 < l.length → l.getD (i + 1) default ≠ l.getD i default) → l.Nodup
  | [], _, _ => List.nodup_nil
  | [a], _, _ => by simp
  | a :: b :: r, hp, hne => by
    have ih := sorted_nodup (b :: r) hp.of_cons (fun i hi => hne (i + 1) (by simpa using hi))
    refine List.nodup_cons.2 ⟨fun hm => ?_, ih⟩
    have hab : leK a b = true := (List.pairwise_cons.1 hp).1 b (by simp)
    have hba : a ≠ b := fun e => hne 0 (by simp) (by simp [e])
    rcases List.mem_cons.1 hm with e | hm
    · exact hba e
    · have h2 : leK b a = true := (List.pairwise_cons.1 (List.pairwise_cons.1 hp).2).1 a hm
      exact hba (leK_anti a b hab h2)
theorem okK_nodup {ks : List ByteArray} (h : okK (sortK ks) = true) : ks.Nodup := by
  refine (sortK_perm ks).nodup_iff.1 (sorted_nodup _ (sortK_sorted ks) fun i hi e => ?_)
  unfold okK at h
  rw [List.all_eq_true] at h
  have h1 := h (i + 1) (by simpa using hi)
  unfold okAt at h1
  rw [e] at h1
  simp at h1
/-- What a sorted permutation of the places is. -/
theorem places_ord {ks : List ByteArray} (hok : okK (sortK ks) = true) {l : List (Fin ks.length)} (hp : l.Perm (List.finRange ks.length)) (hs : l.Pairwise (fun i j => leK (ks[i.val]'i.isLt) (ks[j.val]'j.isLt) = true)) (j : Nat) (hj : j < l.length) :
    (l[j]).val = ordP true ks j := by
  have hm : l.map (fun i => ks[i.val]'i.isLt) = sortK ks := by
    refine sortK_of ?_ (List.pairwise_map.2 hs)
    have h := hp.map fun i : Fin ks.length => ks[i.val]'i.isLt
    have e : (List.finRange ks.length).map (fun i => ks[i.val]'i.isLt) = ks := by
      apply List.ext_getElem (by simp)
      intro i h1 h2
      simp
    rw [e] at h
    exact h
  unfold ordP
  rw [if_pos rfl]
  refine (find_at (okK_nodup hok) l[j] _ ?_).symm
  rw [← hm]
  simp [List.getD, hj]
end Go.Proofs.YtmicpdibnkmekaaGreatDoor
namespace Go.Proofs.YtmicpdibnkmekaaGreatDoor
open Go Go.RowKit

set_option maxRecDepth 100000 in
set_option maxHeartbeats 1000000 in
theorem insertion_empty (A : Option Addr) (c : Nat) (f : Value) (w : World) : Calls Tryz.prog 195 #[.slice A 0 c, .int .i64 0, .int .i64 0, f] w fun e w' => e = .returned (.tuple #[]) ∧ w' = w := by
  go_enter Tryz.func195, Tryz.ntmps195
  go_wp2_with fail
  first | go_loopw [5] (fun i wr => i = .int .i64 1 ∧ wr = w) (fun _ _ => 0) | go_loopw [6] (fun i wr => i = .int .i64 1 ∧ wr = w) (fun _ _ => 0) | go_loopw [7] (fun i wr => i = .int .i64 1 ∧ wr = w) (fun _ _ => 0) | go_loopw [8] (fun i wr => i = .int .i64 1 ∧ wr = w) (fun _ _ => 0)
  case atStart => exact ⟨rfl, rfl⟩
  case round =>
    obtain ⟨rfl, rfl⟩ := hrel
    go_wp2_with fail
    go_end0
    exact ⟨rfl, rfl⟩
set_option maxRecDepth 100000 in
set_option maxHeartbeats 1000000 in
theorem pdq_empty (A : Option Addr) (c : Nat) (m : Int) (f : Value) (w : World) : Calls Tryz.prog 161 #[.slice A 0 c, .int .i64 0, .int .i64 0, .int .i64 m, f] w fun e w' => e = .returned (.tuple #[]) ∧ w' = w := by
  have hi := fun W => insertion_empty A c f W
  have HI := Lib.hid hi
  clear hi
  go_enter Tryz.func161, Tryz.ntmps161
  go_wp2_with fail
  go_loopw [1, 2] (fun a b wr => a = .int .i64 0 ∧ b = .int .i64 0 ∧ wr = w) (fun _ _ _ => 0)
  case atStart => exact ⟨rfl, rfl, rfl⟩
  case round =>
    obtain ⟨rfl, rfl, rfl⟩ := hrel
    go_wp2_with fail
    refine (HI.out _).mono ?_
    rintro e w1 ⟨rfl, rfl⟩
    go_wp2_with fail
    refine bodyPost_ret (results_none rfl _ _ _) rfl ?_
    exact ⟨rfl, rfl⟩
set_option maxRecDepth 100000 in
set_option maxHeartbeats 1000000 in
theorem SortFunc_empty (A : Option Addr) (c : Nat) (f : FuncId) (caps : Array Value) (w : World) : Calls Tryz.prog 104 #[.slice A 0 c, .func (.func f) #[] caps] w fun e w' => e = .returned (.tuple #[]) ∧ ∃ q, w' = w.drewN q := by
  have hp := fun m W => pdq_empty A c m (.func (.func f) #[] caps) W
  have hl := fun W => Tryz.bits_Len 0 W (by decide) (by decide)
  have HP := Lib.hid hp
  have HL := Lib.hid hl
  clear hp hl
  go_enter Tryz.func104, Tryz.ntmps104
  go_wp2_with fail
  refine (HL.out _).mono ?_
  rintro e w1 ⟨rfl, rfl⟩
  go_wp2_with fail
  refine (HP.out _ _).mono ?_
  rintro e w2 ⟨rfl, rfl⟩
  go_wp2_with fail
  go_end0
  exact ⟨rfl, 0, rfl⟩
end Go.Proofs.YtmicpdibnkmekaaGreatDoor
namespace Go.Proofs.YtmicpdibnkmekaaGreatDoor
open Go Go.RowKit

theorem SortFunc_zero (A : Option Addr) (n c : Nat) (h : n = 0) (f : FuncId) (caps : Array Value) (w : World) : Calls Tryz.prog 104 #[.slice A n c, .func (.func f) #[] caps] w fun e w' => e = .returned (.tuple #[]) ∧ ∃ q, w' = w.drewN q := by
  subst h
  exact SortFunc_empty A c f caps w
theorem Pls.holds {W : World} {P n : Nat} (h : Pls W P n n) [Inhabited (Fin n)] : Go.Sort.Holds encF W P 0 (List.finRange n).toArray := by
  obtain ⟨cur, f, h1, h2, h3, h4⟩ := h
  intro j hj
  have hj : j < n := by simpa using hj
  refine ⟨?_, by simp [World.frozen?, h1]⟩
  have e := h3 j hj
  rw [h4 j hj] at e
  rw [Nat.zero_add, World.cell?]
  simp only [h1]
  rw [e, getElem!_pos _ j (by simpa using hj)]
  simp [encF]
/-- The row of places behind the sort. -/
theorem sorted_row {ks : List ByteArray} (hok : okK (sortK ks) = true) {w : World} {g : Nat} {cur : Array Value} (hg : w.heap[g]? = some (.cells cur 3 (0, 0))) (hc : cur.size = ks.length) {l : List (Fin ks.length)} (hp : l.Perm (List.finRange ks.length)) (hs : l.Pairwise (fun i j => leK (ks[i.val]'i.isLt) (ks[j.val]'j.isLt) = true))
    (hcell : ∀ j (h : j < l.length), w.cell? ⟨g, j, none⟩ = some (encF l[j])) : Prm w g ks.length (ordP true ks) := by
  have hl : l.length = ks.length := by have := hp.length_eq; simpa using this
  refine ⟨cur, hg, hc, fun j hj => ?_⟩
  have h1 := hcell j (by omega)
  rw [cell_of_row w g j cur _ _ hg] at h1
  rw [h1, ← places_ord hok hp hs j (by omega)]
  rfl
set_option maxRecDepth 100000 in
set_option maxHeartbeats 4000000 in
theorem order_T (y : Sty) (hsrt : y.srt = true) : OrderC y := by
  intro b step lev st ks A c hks hok w hk hw
  have H := Lib.hid hw
  have hlt := hw.lt
  obtain ⟨n, hn⟩ : ∃ n, ks.length = n := ⟨_, rfl⟩
  obtain ⟨i0, hi, hz0, hz1, hz2⟩ := info_parts infoInt
  have hmk : ∀ u : World, (Instr.makeSlice 107 (.int .i64 (n : Int)) (.int .i64 (n : Int))).run Tryz.prog u =
      .ok (.slice (some ⟨u.heap.size, 0, none⟩) n n) (u.alloc (.cells (madeCells #[.int .i64 0] n) 3)) := fun u => by
    have h := run_make (P := Tryz.prog) u 107 3 i0 (.int .i64 0) Tryz.underlying107 hi hz0 .i64 .i64 (n : Int) (n : Int) (by omega) (Int.le_refl _) (by rw [hz2]; omega) (by omega)
    rw [Int.toNat_natCast] at h
    simpa [hz1, Value.cells] using h
  have HK := Lib.hid hk.1
  have HOK := Lib.hid hok
  have HN := Lib.hid hn
  rw [hn] at hks ⊢
  rw [hsrt]
  clear hi hz0 hz1 hz2 hw hk hok hn
  go_enter Tryz.func78, Tryz.ntmps78
  go_wp2_with fail
  go_loopw [12] (fun i W => ∃ j : Nat, j ≤ n ∧ i = .int .i64 j ∧ Pls W (w.heap.size + 1) n j ∧ Below w.heap.size w W ∧ Hid (W.heap[w.heap.size]? = some (.cells #[.slice A n c] 25 (0, 0)))) (fun i _ => n - (intOf i).toNat)
  case atStart =>
    refine ⟨0, Nat.zero_le _, rfl, ?_, ?_, Lib.hid ?_⟩
    · have := Pls.made (w.alloc (.cells #[.slice A n c] 25)) n
      rw [World.size_alloc] at this
      exact this
    · exact ((Below.refl w.heap.size w).alloc (Nat.le_refl _) _).alloc (by simp) _
    · exact row_alloc3 (heap_alloc_new w _) _
  case round =>
    obtain ⟨j, hj, rfl, hp, hb, HR⟩ := hrel
    by_cases hlt2 : j < n
    · obtain ⟨⟨u, hu⟩, hf⟩ := hp.cell_frozen j hlt2
      have HP := Lib.hid (hp.put hlt2)
      have HB := Lib.hid hb
      have dj : decide ((j : Int) < (n : Int)) = true := by simp; omega
      have j0 : (0 : Int) ≤ (j : Int) := by omega
      have j1 : (j : Int) < (n : Int) := by omega
      clear hp hb
      go_wp2_with fail
      go_roundw
      case rel => exact ⟨j + 1, by omega, by go_num, HP.out, HB.out.setCell (p := ⟨w.heap.size + 1, j, none⟩) (by simp) _, Lib.hid (block_set HR.out (by omega))⟩
      case measure => simp [intOf]; omega
    · obtain rfl : j = n := by omega
      have HX := Lib.hid (H.out.ext (hb.mono (Nat.le_refl _)))
      obtain ⟨l, room, h1, h2, h3, h4, h5⟩ := HX.out.parts
      obtain ⟨c2, c3, c4, c5, c6, c7, c8, c9, c10, f2, f3, f10, _⟩ := rowS h4
      have HP := Lib.hid hp
      have HB := Lib.hid hb
      rw [hsrt] at c6
      have dj : decide ((j : Int) < (j : Int)) = false := by simp
      clear hp hb h4 h5
      go_wp2_with fail
      have hkn : ks.length = j := HN.out
      subst hkn
      by_cases h0 : ks.length = 0
      · have hse := SortFunc_zero (some ⟨w.heap.size + 1, 0, none⟩) ks.length ks.length h0 130 #[.pointer (some ⟨w.heap.size, 0, none⟩)] wr
        have HSE := Lib.hid hse
        clear hse
        refine HSE.out.mono ?_
        rintro e w3 ⟨rfl, q, rfl⟩
        go_wp2_with fail
        go_ret
        refine ⟨w.heap.size + 1, by simp [h0], by omega, ?_, below_drewN HB.out q⟩
        obtain ⟨cur, f, k1, k2, k3, k4⟩ := HP.out
        exact ⟨cur, k1, k2, fun i hi => absurd hi (by omega)⟩
      · have hso := SortAt_any ks (by omega) hks (.slice A ks.length c) w.heap.size (w.heap.size + 1) ks.length (w.heap.size + 1) wr HR.out (by omega) ((HK.out.below HB.out).more (by omega)) (Nat.le_refl _) HP.out.lt (List.finRange ks.length).toArray (by simp) (HP.out.holds)
        have HSO := Lib.hid hso
        clear hso
        refine HSO.out.mono ?_
        rintro e w3 ⟨rfl, pl, hperm, hpw, hcell, hb3, hlt3, hself⟩
        obtain ⟨cur, f, k1, k2, k3, k4⟩ := HP.out
        obtain ⟨cur', e1, e2⟩ := hself cur _ _ k1
        have HPR := Lib.hid (sorted_row HOK.out e1 (by omega) (by simpa using hperm) hpw hcell)
        have HB3 := Lib.hid (HB.out.trans (hb3.mono (by omega)))
        clear hperm hpw hcell hb3 hlt3 hself k1 k2 k3 k4 e1 e2
        go_wp2_with fail
        go_ret
        exact ⟨w.heap.size + 1, rfl, by omega, HPR.out, HB3.out⟩
/-- The order of keys keeps its promise in every style. -/
theorem order_C (y : Sty) : OrderC y := by
  cases h : y.srt with
  | false => exact order_F y h
  | true => exact order_T y h
end Go.Proofs.YtmicpdibnkmekaaGreatDoor
