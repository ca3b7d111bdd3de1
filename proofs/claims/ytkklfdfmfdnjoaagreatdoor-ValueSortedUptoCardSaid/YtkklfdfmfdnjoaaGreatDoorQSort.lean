/- Sorting the places of keys: the library's SortFunc at a closure that looks them up. -/
import Derived.Test.YtkklfdfmfdnjoaaGreatDoorQOrder
import Derived.Test.YtkklfdfmfdnjoaaGreatDoorSortLay
import Derived.Deep.QuietTactic
import Derived.Shelf.SlSortCmp.Whole1
import Derived.Test.YtkklfdfmfdnjoaaGreatDoorQRefDrop
import Derived.Test.YtkklfdfmfdnjoaaGreatDoorQSame
namespace Go.Proofs.YtkklfdfmfdnjoaaGreatDoor
open Go Go.RowKit

/-- A place, as it lies in a cell. -/
def encF {n : Nat} (i : Fin n) : Value := .int .i64 (i.val : Int)
/-- The order of the keys at two places. -/
def cmpAt (ks : List ByteArray) (i j : Fin ks.length) : Int := cmpS (ks[i.val]'i.isLt) (ks[j.val]'j.isLt)
set_option maxHeartbeats 1000000 in
/-- The closure: it compares the keys at two places. -/
theorem sortedFn_any (ks : List ByteArray) (kv : Value) (k : Int) (f : Nat) (s : ByteArray) (lv : Value) (b : Nat) (W : World) (hb : W.heap[b]? = some (.cells #[.int .i64 k, .float .f64 f, .string s, lv, kv] 27 (0, 0)))
    (hmax : ks.length ≤ 1048576) (hk : Arr W W.heap.size kv (ks.map Value.string)) (i j : Fin ks.length) :
    Calls Tryz.prog 109 #[.int .i64 i.val, .int .i64 j.val, .pointer (some ⟨b, 0, none⟩)] W fun e w' => e = .returned (.int .i64 (cmpAt ks i j)) ∧ ∃ q, w' = W.drewN q := by
  obtain ⟨i, hi⟩ := i
  obtain ⟨j, hj⟩ := j
  obtain ⟨A, ad, c, rfl, hA, hac⟩ := hk.dest
  rw [List.length_map] at hA hb
  obtain ⟨rfl, hadb⟩ := hA (by omega)
  have ci : W.cell? (ad.add i) = some (.string ks[i]) := hac i _ (by simp [hi])
  have cj : W.cell? (ad.add j) = some (.string ks[j]) := hac j _ (by simp [hj])
  obtain ⟨_, _, _, _, p4, _, _, _, _, _⟩ := row5 hb
  have hcmp := fun W => Tryz.strings_Compare ks[i] ks[j] W
  have hr : cmpAt ks ⟨i, hi⟩ ⟨j, hj⟩ = Lib.compareBytes ks[i].data.toList ks[j].data.toList := rfl
  rw [hr]
  generalize Lib.compareBytes ks[i].data.toList ks[j].data.toList = r at hcmp ⊢
  have HCMP := Lib.hid hcmp
  clear hcmp hr hac hA hk hb
  show Calls Tryz.prog 109 #[.int .i64 (i : Int), .int .i64 (j : Int), .pointer (some ⟨b, 0, none⟩)] W _
  go_enter Tryz.func109, Tryz.ntmps109
  go_wp2_with fail
  go_quiet ((go_at_call 61; exact Calls.quiet_of_same (HCMP.out _)))
  go_wp2_with fail
  go_ret
  exact ⟨rfl, _, rfl⟩
theorem swo_at (ks : List ByteArray) : Go.Sort.SWO (ltOf (cmpAt ks)) := by
  have o := ord_str
  have ha : ∀ x y : Fin ks.length, cmpAt ks y x = -cmpAt ks x y := fun x y => o.anti _ _ trivial trivial
  have ht : ∀ x y z : Fin ks.length, cmpAt ks x y ≤ 0 → cmpAt ks y z ≤ 0 → cmpAt ks x z ≤ 0 := fun x y z => o.trans _ _ _ trivial trivial trivial
  have hs : ∀ x y z : Fin ks.length, cmpAt ks x y < 0 → cmpAt ks y z ≤ 0 → cmpAt ks x z < 0 := fun x y z => o.strict trivial trivial trivial
  refine ⟨fun x => ?_, fun x y z h1 h2 => ?_, fun x y z h1 h2 => ?_⟩
  · have := ha x x
    unfold ltOf
    simp
    omega
  · unfold ltOf at *
    simp at *
    exact hs x y z h1 (by omega)
  · unfold ltOf at *
    simp at *
    have a1 := ha x y
    have a2 := ha y z
    have a3 := ha x z
    have := ht z y x (by omega) (by omega)
    omega
/-- What a sort does to the rest of the memory: nothing. -/
theorem sortWorld_block {α : Type} [Inhabited α] (enc : α → Value) (w : World) (g m : Nat) (dk : Array α) (os : Array Obj) (k : Nat) (hk : k < w.heap.size) (hn : k ≠ g) : (Go.Proofs.sortWorld enc w g 0 m dk os).heap[k]? = w.heap[k]? := by
  unfold Go.Proofs.sortWorld
  simp only [Go.Sort.grow, Go.Sort.putRow, Go.Sort.mapBlock, Go.Sort.ahead]
  rw [Array.getElem?_append_left (by simpa using hk), Array.getElem?_modify, if_neg (fun e => hn e.symm)]
theorem sortWorld_below {α : Type} [Inhabited α] (enc : α → Value) (w : World) (g m : Nat) (dk : Array α) (os : Array Obj) (B : Nat) (hB : B ≤ g) (hg : g < w.heap.size) : Below B w (Go.Proofs.sortWorld enc w g 0 m dk os) :=
  ⟨rfl, rfl, rfl, by simp [Go.Proofs.sortWorld, Go.Sort.grow, Go.Sort.putRow, Go.Sort.mapBlock, Go.Sort.ahead], fun k hk => sortWorld_block enc w g m dk os k (by omega) (by omega)⟩
theorem extract_all {α : Type} (d : Array α) (n : Nat) (h : d.size = n) : d.extract 0 n = d := by subst h; simp
/-- SortFunc on the places of the keys. -/
theorem SortAt_any (ks : List ByteArray) (h0 : 0 < ks.length) (hmax : ks.length ≤ 1048576) (kv : Value) (k : Int) (f : Nat) (s : ByteArray) (lv : Value) (b g cap B : Nat) (w : World) (hb : w.heap[b]? = some (.cells #[.int .i64 k, .float .f64 f, .string s, lv, kv] 27 (0, 0)))
    (hbB : b < B) (hk : Arr w B kv (ks.map Value.string)) (hBg : B ≤ g) (hg : g < w.heap.size) (d : Array (Fin ks.length)) (hd : d.size = ks.length) (hH : ∀ [Inhabited (Fin ks.length)], Go.Sort.Holds encF w g 0 d) :
    Calls Tryz.prog 108 #[.slice (some ⟨g, 0, none⟩) ks.length cap, .func (.func 109) #[] #[.pointer (some ⟨b, 0, none⟩)]] w fun e w' => e = .returned (.tuple #[]) ∧
      ∃ l : List (Fin ks.length), l.Perm d.toList ∧ l.Pairwise (fun i j => leK (ks[i.val]'i.isLt) (ks[j.val]'j.isLt) = true) ∧ (∀ j (h : j < l.length), w'.cell? ⟨g, j, none⟩ = some (encF l[j])) ∧ Below B w w' ∧ g < w'.heap.size := by
  haveI : Inhabited (Fin ks.length) := ⟨⟨0, h0⟩⟩
  have eg : ∀ args w, (callFunc 109 args).run Tryz.prog w = .ok (.enter 109 args) w := enters_of Tryz.func109 (by kernel_rfl) rfl
  have hcmp : CmpReads Tryz.prog 109 #[.pointer (some ⟨b, 0, none⟩)] encF (cmpAt ks) g 0 d.size w := by
    intro m os dk hdk x y
    have hbl : Below B w (Go.Proofs.sortWorld encF w g 0 m dk os) := sortWorld_below encF w g m dk os B hBg hg
    exact sortedFn_any ks kv k f s lv b _ ((hbl.block b hbB).trans hb) hmax ((hk.below hbl).more (by have := hbl.size; omega)) x y
  have hcon := Any.slices_SortFunc Tryz.sortIntF encF (fun _ => rfl) (cmpAt ks) (swo_at ks) 109 #[.pointer (some ⟨b, 0, none⟩)] g 0 cap d w eg hcmp.lays hH hg (by omega)
  rw [hd] at hcon
  refine Calls.mono hcon ?_
  rintro e w' ⟨rfl, d', n, os, hp, hs, rfl⟩
  have hsz : d'.size = ks.length := hp.1.trans hd
  have hall : d'.extract 0 ks.length = d' := extract_all d' _ hsz
  have hall2 : d.extract 0 ks.length = d := extract_all d _ hd
  have hperm := hp.2.2
  rw [hall, hall2] at hperm
  have hbl : Below B w (Go.Proofs.sortWorld encF w g 0 n d' os) := sortWorld_below encF w g n d' os B hBg hg
  have hsz2 : g < (Go.Proofs.sortWorld encF w g 0 n d' os).heap.size := by simp [Go.Proofs.sortWorld, Go.Sort.grow, Go.Sort.putRow, Go.Sort.mapBlock, Go.Sort.ahead]; omega
  refine ⟨rfl, d'.toList, hperm, ?_, ?_, hbl, hsz2⟩
  · rw [List.pairwise_iff_getElem]
    intro i j hi hj hij
    rw [Array.length_toList] at hi hj
    have h := hs i j (Nat.zero_le _) hij (by omega)
    rw [getElem!_pos d' j (by omega), getElem!_pos d' i (by omega)] at h
    unfold ltOf at h
    simp only [decide_eq_false_iff_not] at h
    have ha : cmpAt ks d'[i] d'[j] = -cmpAt ks d'[j] d'[i] := ord_str.anti _ _ trivial trivial
    have : cmpS (ks[d'[i].val]'d'[i].isLt) (ks[d'[j].val]'d'[j].isLt) ≤ 0 := by
      show cmpAt ks d'[i] d'[j] ≤ 0
      omega
    simpa using (cmpS_le _ _).1 this
  · intro j hj
    rw [Array.length_toList] at hj
    have hh : Go.Sort.Holds encF (Go.Proofs.sortWorld encF w g 0 n d' os) g 0 d' :=
      Go.Sort.holds_grow encF _ os g 0 d' (by simp [Go.Sort.putRow, Go.Sort.mapBlock, Go.Sort.ahead]; omega) (Go.Sort.holds_putRow encF (Go.Sort.ahead w n) g 0 d d' (Go.Sort.holds_ahead encF w n g 0 d hH) (by omega))
    have h := (hh j hj).1
    rw [getElem!_pos d' j hj, Nat.zero_add] at h
    simpa using h
end Go.Proofs.YtkklfdfmfdnjoaaGreatDoor
/- The program's sorted: what its memory holds. -/
namespace Go.Proofs.YtkklfdfmfdnjoaaGreatDoor
open Go Go.RowKit

/-- A value with its keys, and their values, sorted. -/
def sortedV (v : V) : V := .mk v.k v.f v.s (byK v) (sortK v.ks)
theorem idx_nodup {ks : List ByteArray} (h : ks.Nodup) {j : Nat} (hj : j < ks.length) : Lib.idxOfS ks ks[j] = (j : Int) :=
  idx_at hj rfl fun t ht e => List.pairwise_iff_getElem.1 h t j (by omega) hj ht e
theorem byK_places (v : V) (hlen : v.ks.length = v.l.length) (hnd : v.ks.Nodup) (p : List (Fin v.ks.length)) (hp : p.map (fun i => v.ks[i.val]'i.isLt) = sortK v.ks) :
    byK v = p.map fun i => v.l[i.val]'(by have := i.isLt; omega) := by
  unfold byK
  rw [← hp, List.map_map]
  apply List.map_congr_left
  intro i _
  show v.l.getD (Lib.idxOfS v.ks (v.ks[i.val]'i.isLt)).toNat default = _
  rw [idx_nodup hnd i.isLt, Int.toNat_natCast]
  have hi : i.val < v.l.length := by have := i.isLt; omega
  simp [List.getD, hi]
theorem byK_id (v : V) (hlen : v.ks.length = v.l.length) (hnd : v.ks.Nodup) (hs : sortK v.ks = v.ks) : byK v = v.l := by
  have h := byK_places v hlen hnd (List.finRange v.ks.length) (by
    rw [hs]
    apply List.ext_getElem (by simp)
    intro i h1 h2
    simp)
  rw [h]
  apply List.ext_getElem (by simpa using hlen)
  intro i h1 h2
  simp
theorem byK_len (v : V) : (byK v).length = v.ks.length := by unfold byK; rw [List.length_map, sortK_len]
theorem sortedV_id (v : V) (hlen : v.ks.length = v.l.length) (hnd : v.ks.Nodup) (hs : sortK v.ks = v.ks) : sortedV v = v := by
  unfold sortedV
  rw [byK_id v hlen hnd hs, hs]
  cases v
  rfl
theorem keys_places {ks : List ByteArray} {l : List (Fin ks.length)} (hp : l.Perm (List.finRange ks.length)) (hs : l.Pairwise (fun i j => leK (ks[i.val]'i.isLt) (ks[j.val]'j.isLt) = true)) :
    l.map (fun i => ks[i.val]'i.isLt) = sortK ks := by
  refine sortK_of ?_ (List.pairwise_map.2 hs)
  have h := hp.map fun i : Fin ks.length => ks[i.val]'i.isLt
  have e : (List.finRange ks.length).map (fun i => ks[i.val]'i.isLt) = ks := by
    apply List.ext_getElem (by simp)
    intro i h1 h2
    simp
  rw [e] at h
  exact h
theorem small_sorted {v : V} (h : Small v) (_hlen : v.ks.length = v.l.length) : Small (sortedV v) := by
  obtain ⟨s1, s2, s3, s4, s5, s6, s7⟩ := h
  refine ⟨s1, s2, s3, s4, ?_, ?_, ?_⟩
  · show (byK v).length ≤ _
    rw [byK_len]; exact s6
  · show (sortK v.ks).length ≤ _
    rw [sortK_len]; exact s6
  · show keysLen (sortK v.ks) ≤ _
    rw [keysLen_perm (sortK_perm v.ks)]; exact s7
/-- The row of places, its first x written. -/
def PlacesTo (W : World) (P n x : Nat) : Prop := ∃ cur : Array Value, W.heap[P]? = some (.cells cur 3 (0, 0)) ∧ cur.size = n ∧ ∀ j (_ : j < x), cur[j]? = some (.int .i64 (j : Int))
theorem PlacesTo.cell {W : World} {P n x : Nat} (h : PlacesTo W P n x) {j : Nat} (hj : j < n) : (∃ u, W.cell? ⟨P, j, none⟩ = some u) ∧ W.frozen? ⟨P, j, none⟩ = false := by
  obtain ⟨cur, h1, h2, _⟩ := h
  refine ⟨⟨cur[j]'(by omega), ?_⟩, by simp [World.frozen?, h1]⟩
  simp [World.cell?, h1, h2, hj]
theorem PlacesTo.put {W : World} {P n x : Nat} (h : PlacesTo W P n x) (hx : x < n) : PlacesTo (W.setCell ⟨P, x, none⟩ (.int .i64 (x : Int))) P n (x + 1) := by
  obtain ⟨cur, h1, h2, h3⟩ := h
  refine ⟨_, row_setAt h1 x _, by simpa using h2, fun j hj => ?_⟩
  by_cases e : j = x
  · subst e
    simp [h2, hx]
  · rw [Array.getElem?_setIfInBounds_ne (fun q => e q.symm)]
    exact h3 j (by omega)
theorem PlacesTo.below {W W' : World} {P n x : Nat} (h : PlacesTo W P n x) (hb : Below W.heap.size W W') : PlacesTo W' P n x := by
  obtain ⟨cur, h1, h2⟩ := h
  exact ⟨cur, (hb.block P (Array.getElem?_eq_some_iff.1 h1).1).trans h1, h2⟩
theorem PlacesTo.made (w : World) (n : Nat) : PlacesTo (w.alloc (.cells (madeCells #[.int .i64 0] n) 3)) w.heap.size n 0 :=
  ⟨_, heap_alloc_new w _, size_madeCells _ _, fun j hj => by omega⟩
theorem PlacesTo.holds {W : World} {P n : Nat} (h : PlacesTo W P n n) [Inhabited (Fin n)] : Go.Sort.Holds encF W P 0 (List.finRange n).toArray := by
  obtain ⟨cur, h1, h2, h3⟩ := h
  intro j hj
  have hj : j < n := by simpa using hj
  refine ⟨?_, by simp [World.frozen?, h1]⟩
  have e := h3 j hj
  rw [Nat.zero_add, World.cell?]
  simp only [h1]
  rw [e, getElem!_pos _ j (by simpa using hj)]
  simp [encF]
/-- The sorted object under way. -/
structure RS (w2 : World) (Q : Nat) (l : List V) (qs : List (Value × Value)) (ks : List ByteArray) (lv kv : Value) (W : World) : Prop where
  hQ : w2.heap.size ≤ Q
  hP : W.heap[Q]? = some (.cells #[.int .i64 6, .float .f64 0, .string ⟨#[]⟩, lv, kv] 27 (0, 0))
  len : qs.length = l.length
  lown : W.ownsRow w2.heap.size 27 5 lv l.length (flat5 l qs)
  kown : W.ownsRow w2.heap.size 9 1 kv ks.length (ks.map Value.string)
  apart : ∀ g, kv.ownBlock = some g → some g ≠ lv.ownBlock
  nl : some Q ≠ lv.ownBlock
  nk : some Q ≠ kv.ownBlock
  bel : Below w2.heap.size w2 W
theorem RS.lt {w2 : World} {Q : Nat} {l : List V} {qs : List (Value × Value)} {ks : List ByteArray} {lv kv : Value} {W : World} (h : RS w2 Q l qs ks lv kv W) : Q < W.heap.size := (Array.getElem?_eq_some_iff.1 h.hP).1
theorem RS.below {w2 : World} {Q : Nat} {l : List V} {qs : List (Value × Value)} {ks : List ByteArray} {lv kv : Value} {W W' : World} (h : RS w2 Q l qs ks lv kv W) (hb : Below W.heap.size W W') : RS w2 Q l qs ks lv kv W' := by
  have := h.lt
  exact ⟨h.hQ, (hb.block _ this).trans h.hP, h.len, own_heap h.lown (fun k hk => hb.block k hk), own_heap h.kown (fun k hk => hb.block k hk), h.apart, h.nl, h.nk, h.bel.trans (hb.mono h.bel.size)⟩
/-- A row of no elements, and room. -/
theorem own_room {W : World} {B g n size : Nat} {e : TypeId} {cs : Array Value} (h : W.heap[g]? = some (.cells cs e (0, 0))) (hB : B ≤ g) (hn : n ≤ maxLen) (hcs : cs.size = n * size) : W.ownsRow B e size (.slice (some ⟨g, 0, none⟩) 0 n) 0 [] :=
  ⟨by simp, Or.inr ⟨g, n, cs, rfl, hB, h, Nat.zero_le _, hn, hcs, by simp⟩⟩
theorem RS.start {w2 W : World} {Q kb lb n : Nat} {ck cl : Array Value} (hQ : w2.heap.size ≤ Q) (hP : W.heap[Q]? = some (.cells #[.int .i64 6, .float .f64 0, .string ⟨#[]⟩, .slice (some ⟨lb, 0, none⟩) 0 n, .slice (some ⟨kb, 0, none⟩) 0 n] 27 (0, 0)))
    (hk : W.heap[kb]? = some (.cells ck 9 (0, 0))) (hck : ck.size = n) (hl : W.heap[lb]? = some (.cells cl 27 (0, 0))) (hcl : cl.size = n * 5) (h1 : w2.heap.size ≤ kb) (h2 : w2.heap.size ≤ lb) (h3 : kb ≠ lb) (h4 : Q ≠ kb) (h5 : Q ≠ lb) (hn : n ≤ maxLen) (hb : Below w2.heap.size w2 W) :
    RS w2 Q [] [] [] (.slice (some ⟨lb, 0, none⟩) 0 n) (.slice (some ⟨kb, 0, none⟩) 0 n) W := by
  refine ⟨hQ, hP, rfl, own_room hl h2 hn hcl, own_room hk h1 hn (by omega), fun g hg e => ?_, fun e => ?_, fun e => ?_, hb⟩
  · have a1 : kb = g := Option.some.inj hg
    have a2 : g = lb := Option.some.inj e
    omega
  · have a : Q = lb := Option.some.inj e
    omega
  · have a : Q = kb := Option.some.inj e
    omega
/-- The keys' row has grown. -/
theorem RS.keys {w2 : World} {Q : Nat} {l : List V} {qs : List (Value × Value)} {ks ks' : List ByteArray} {lv kv kv' : Value} {W W' : World} (h : RS w2 Q l qs ks lv kv W)
    (hown : W'.ownsRow w2.heap.size 9 1 kv' ks'.length (ks'.map Value.string)) (hsame : ∀ k, k < W.heap.size → some k ≠ kv.ownBlock → W'.heap[k]? = W.heap[k]?) (hblk : kv'.ownBlock = kv.ownBlock ∨ ∀ g, kv'.ownBlock = some g → W.heap.size ≤ g) (hbel : Below w2.heap.size w2 W') :
    RS w2 Q l qs ks' lv kv' (W'.setCell ⟨Q, 4, none⟩ kv') := by
  have hlt := h.lt
  have hnk' : some Q ≠ kv'.ownBlock := fun e => by
    rcases hblk with q | q
    · exact h.nk (e.trans q)
    · have := q Q e.symm
      omega
  have hk' : ∀ k, k < W.heap.size → some k ≠ kv.ownBlock → k ≠ Q → (W'.setCell ⟨Q, 4, none⟩ kv').heap[k]? = W.heap[k]? := fun k h1 h2 h3 => (setCell_other_block _ h3).trans (hsame k h1 h2)
  refine ⟨h.hQ, row_setAt ((hsame _ hlt h.nk).trans h.hP) 4 kv', h.len, ?_, ?_, ?_, h.nl, hnk', hbel.setCell (p := ⟨Q, 4, none⟩) h.hQ _⟩
  · exact own_keepN h.lown (fun g hg => hk' g (h.lown.lt g hg).2 (fun e => h.apart g e.symm hg.symm) (fun e => h.nl (by rw [← e]; exact hg.symm)))
  · exact own_keepN hown (fun g hg => setCell_other_block _ (fun e => hnk' (by rw [← e]; exact hg.symm)))
  · intro g hg e
    have hl := (h.lown.lt g e.symm)
    rcases hblk with q | q
    · exact h.apart g (q ▸ hg) e
    · have := q g hg
      omega
/-- The values' row has grown. -/
theorem RS.vals {w2 : World} {Q : Nat} {l l' : List V} {qs qs' : List (Value × Value)} {ks : List ByteArray} {lv lv' kv : Value} {W W' : World} (h : RS w2 Q l qs ks lv kv W) (hlen : qs'.length = l'.length)
    (hown : W'.ownsRow w2.heap.size 27 5 lv' l'.length (flat5 l' qs')) (hsame : ∀ k, k < W.heap.size → some k ≠ lv.ownBlock → W'.heap[k]? = W.heap[k]?) (hblk : lv'.ownBlock = lv.ownBlock ∨ ∀ g, lv'.ownBlock = some g → W.heap.size ≤ g) (hbel : Below w2.heap.size w2 W') :
    RS w2 Q l' qs' ks lv' kv (W'.setCell ⟨Q, 3, none⟩ lv') := by
  have hlt := h.lt
  have hnl' : some Q ≠ lv'.ownBlock := fun e => by
    rcases hblk with q | q
    · exact h.nl (e.trans q)
    · have := q Q e.symm
      omega
  have hk' : ∀ k, k < W.heap.size → some k ≠ lv.ownBlock → k ≠ Q → (W'.setCell ⟨Q, 3, none⟩ lv').heap[k]? = W.heap[k]? := fun k h1 h2 h3 => (setCell_other_block _ h3).trans (hsame k h1 h2)
  refine ⟨h.hQ, row_setAt ((hsame _ hlt h.nl).trans h.hP) 3 lv', hlen, ?_, ?_, ?_, hnl', h.nk, hbel.setCell (p := ⟨Q, 3, none⟩) h.hQ _⟩
  · exact own_keepN hown (fun g hg => setCell_other_block _ (fun e => hnl' (by rw [← e]; exact hg.symm)))
  · exact own_keepN h.kown (fun g hg => hk' g (h.kown.lt g hg).2 (fun e => h.apart g hg e) (fun e => h.nk (by rw [← e]; exact hg.symm)))
  · intro g hg e
    have hl := (h.kown.lt g hg)
    rcases hblk with q | q
    · exact h.apart g hg (e.trans q)
    · have := q g e.symm
      omega
theorem RS.midK {w2 : World} {Q : Nat} {l : List V} {qs : List (Value × Value)} {ks : List ByteArray} {lv kv : Value} {W w5 : World} {o : Obj} (h : RS w2 Q l qs ks lv kv W) (hgrow : (W.alloc o).grownBy w5 kv.ownBlock) :
    w5.cell? ⟨Q, 4, none⟩ = some kv ∧ w5.frozen? ⟨Q, 4, none⟩ = false := by
  have hlt := h.lt
  have e := (hgrow.block Q (by simp; omega) h.nk).trans (row_alloc3 h.hP o)
  obtain ⟨_, _, _, _, c4, _, _, _, _, z4⟩ := row5 e
  exact ⟨c4, z4⟩
theorem RS.midL {w2 : World} {Q : Nat} {l : List V} {qs : List (Value × Value)} {ks : List ByteArray} {lv kv : Value} {W w5 : World} {o : Obj} (h : RS w2 Q l qs ks lv kv W) (hgrow : (W.alloc o).grownBy w5 lv.ownBlock) :
    w5.cell? ⟨Q, 3, none⟩ = some lv ∧ w5.frozen? ⟨Q, 3, none⟩ = false := by
  have hlt := h.lt
  have e := (hgrow.block Q (by simp; omega) h.nl).trans (row_alloc3 h.hP o)
  obtain ⟨_, _, _, c3, _, _, _, _, z3, _⟩ := row5 e
  exact ⟨c3, z3⟩
theorem RS.keysG {w2 : World} {Q : Nat} {l : List V} {qs : List (Value × Value)} {ks : List ByteArray} {lv kv : Value} {W w5 : World} {x : ByteArray} {t : TypeId} {g cap : Nat} (h : RS w2 Q l qs ks lv kv W)
    (hown : w5.ownsRow w2.heap.size 9 1 (.slice (some ⟨g, 0, none⟩) (ks.length + 1) cap) (ks.length + 1) (ks.map Value.string ++ [Value.string x])) (hgrow : (W.alloc (.cells #[.string x] t)).grownBy w5 kv.ownBlock) (hat : kv.ownBlock = some g ∨ g = W.heap.size + 1) :
    RS w2 Q l qs (ks ++ [x]) lv (.slice (some ⟨g, 0, none⟩) (ks.length + 1) cap) (w5.setCell ⟨Q, 4, none⟩ (.slice (some ⟨g, 0, none⟩) (ks.length + 1) cap)) := by
  refine h.keys (by rw [List.length_append, List.map_append]; exact hown) (fun k hk hn => (hgrow.block _ (by simp; omega) hn).trans (((Below.refl W.heap.size W).alloc (Nat.le_refl _) _).block k hk)) ?_ ((h.bel.alloc h.bel.size _).grown hgrow (by have := h.bel.size; simp; omega) (fun k hk => by have := (h.kown.lt k hk).1; omega))
  rcases hat with e | e
  · exact Or.inl e.symm
  · exact Or.inr fun k hk => by
      have : g = k := Option.some.inj hk
      omega
theorem RS.valsG {w2 : World} {Q : Nat} {l : List V} {qs : List (Value × Value)} {ks : List ByteArray} {lv kv : Value} {W w5 : World} {x : V} {q : Value × Value} {t : TypeId} {g cap : Nat} (h : RS w2 Q l qs ks lv kv W)
    (hown : w5.ownsRow w2.heap.size 27 5 (.slice (some ⟨g, 0, none⟩) (l.length + 1) cap) (l.length + 1) (flat5 l qs ++ (cellsV x q.1 q.2).toList)) (hgrow : (W.alloc (.cells (cellsV x q.1 q.2) t)).grownBy w5 lv.ownBlock) (hat : lv.ownBlock = some g ∨ g = W.heap.size + 1) :
    RS w2 Q (l ++ [x]) (qs ++ [q]) ks (.slice (some ⟨g, 0, none⟩) (l.length + 1) cap) kv (w5.setCell ⟨Q, 3, none⟩ (.slice (some ⟨g, 0, none⟩) (l.length + 1) cap)) := by
  refine h.vals (by rw [List.length_append, List.length_append, h.len]; rfl) (by rw [flat5_snoc _ _ _ _ h.len.symm, List.length_append]; exact hown) (fun k hk hn => (hgrow.block _ (by simp; omega) hn).trans (((Below.refl W.heap.size W).alloc (Nat.le_refl _) _).block k hk)) ?_ ((h.bel.alloc h.bel.size _).grown hgrow (by have := h.bel.size; simp; omega) (fun k hk => by have := (h.lown.lt k hk).1; omega))
  rcases hat with e | e
  · exact Or.inl e.symm
  · exact Or.inr fun k hk => by
      have : g = k := Option.some.inj hk
      omega
/-- Where a value lies: below B0, or from B1 on. -/
def AtN (w : World) (B0 B1 m : Nat) (v : V) (lv kv : Value) : Prop := AtP w (fun b => b < B0 ∨ (B1 ≤ b ∧ b < w.heap.size)) m v lv kv
theorem AtN.to_at {w : World} {B0 B1 m : Nat} {v : V} {lv kv : Value} (h : AtN w B0 B1 m v lv kv) (hB : B0 ≤ w.heap.size) : At w w.heap.size m v lv kv :=
  AtP.more (fun b hb => by rcases hb with q | q <;> omega) _ _ _ _ h
theorem AtN.keep {w w' : World} {B0 B1 m : Nat} {v : V} {lv kv : Value} (h : AtN w B0 B1 m v lv kv) (hs : w.heap.size ≤ w'.heap.size) (hk : ∀ b, (b < B0 ∨ (B1 ≤ b ∧ b < w.heap.size)) → w'.heap[b]? = w.heap[b]?) : AtN w' B0 B1 m v lv kv :=
  AtP.more (fun b hb => by rcases hb with q | q; exact Or.inl q; exact Or.inr ⟨q.1, by omega⟩) _ _ _ _ (AtP.keep (fun a ha => by unfold World.cell?; rw [hk _ ha]) _ _ _ _ h)
theorem AtN.below {w w' : World} {B0 B1 m : Nat} {v : V} {lv kv : Value} (h : AtN w B0 B1 m v lv kv) (hB : B0 ≤ w.heap.size) (hb : Below w.heap.size w w') : AtN w' B0 B1 m v lv kv :=
  h.keep hb.size fun b q => hb.block b (by rcases q with q | q <;> omega)
theorem AtN.of_at {w : World} {B0 B1 m : Nat} {v : V} {lv kv : Value} (h : At w B0 m v lv kv) : AtN w B0 B1 m v lv kv := AtP.more (fun _ hb => Or.inl hb) _ _ _ _ h
theorem atP_of_own {W : World} {B m : Nat} {p : Nat → Prop} (hp : ∀ b, B ≤ b → b < W.heap.size → p b) {r : V} {lv kv : Value} {qs : List (Value × Value)} (hS : Small r) (hl : W.ownsRow B 27 5 lv r.l.length (flat5 r.l qs)) (hq : qs.length = r.l.length) (hk : W.ownsRow B 9 1 kv r.ks.length (r.ks.map Value.string))
    (heach : ∀ i (h : i < r.l.length) (h2 : i < qs.length), AtP W p m r.l[i] qs[i].1 qs[i].2) : AtP W p (m + 1) r lv kv := by
  obtain ⟨a, c, b, o, e, hab, h5⟩ := own_five hl hq.symm rfl
  obtain ⟨ha, hc⟩ := own_keysP hk
  refine ⟨hS, ⟨?_, hc⟩, Caps.of_own hl, a, c, b, o, e, fun h => ⟨(hab h).1, hp _ (hab h).2.1 (hab h).2.2⟩, fun i hi => ⟨_, _, h5 i hi (by omega), heach i hi (by omega)⟩⟩
  obtain ⟨A, c0, e0, h0⟩ := ha
  exact ⟨A, c0, e0, fun h => by obtain ⟨ad, e1, hb, hx⟩ := h0 h; exact ⟨ad, e1, hp _ hb.1 hb.2, hx⟩⟩
/-- The object is done. -/
theorem RS.done {w w2 : World} {Q R B0 : Nat} {r : V} {qs : List (Value × Value)} {lv kv : Value} {W : World} {m : Nat} (h : RS w2 Q r.l qs r.ks lv kv W) (hS : Small r) (hw : Below w.heap.size w w2) (hR : R < w2.heap.size) (hRw : w.heap.size ≤ R) (hB0 : B0 ≤ w.heap.size)
    (heach : ∀ i (h : i < r.l.length) (h2 : i < qs.length), At w B0 m r.l[i] qs[i].1 qs[i].2) (x0 x1 x2 x3 x4 : Value) :
    AtN (set5 W R x0 x1 x2 x3 x4) B0 w.heap.size (m + 1) r lv kv ∧ Below w.heap.size w (set5 W R x0 x1 x2 x3 x4) := by
  have hb : Below w.heap.size w (set5 W R x0 x1 x2 x3 x4) := set5_below0 (hw.trans (h.bel.mono hw.size)) hRw ..
  have hws := hw.size
  refine ⟨atP_of_own (B := w2.heap.size) (fun b h1 h2 => Or.inr ⟨by omega, h2⟩) hS (own_keepN h.lown fun g hg => set5_other (by have := (h.lown.lt g hg).1; omega) ..) h.len (own_keepN h.kown fun g hg => set5_other (by have := (h.kown.lt g hg).1; omega) ..) fun i h1 h2 => ?_, hb⟩
  exact AtP.more (fun b (q : b < B0) => Or.inl q) _ _ _ _ (At.keep (fun a ha => hb.cell (by omega)) _ _ _ _ (heach i h1 h2))
/-- Three blocks, one behind the other. -/
theorem three (w : World) (o1 o2 o3 : Obj) : (((w.alloc o1).alloc o2).alloc o3).drew.heap[w.heap.size]? = some o1 ∧ (((w.alloc o1).alloc o2).alloc o3).drew.heap[w.heap.size + 1]? = some o2 ∧ (((w.alloc o1).alloc o2).alloc o3).drew.heap[w.heap.size + 1 + 1]? = some o3 ∧ Below w.heap.size w (((w.alloc o1).alloc o2).alloc o3).drew := by
  have h1 := row_alloc3 (row_alloc3 (heap_alloc_new w o1) o2) o3
  have h2 := row_alloc3 (heap_alloc_new (w.alloc o1) o2) o3
  have h3 := heap_alloc_new ((w.alloc o1).alloc o2) o3
  rw [World.size_alloc] at h2 h3
  rw [World.size_alloc] at h3
  exact ⟨h1, h2, h3, ((((Below.refl w.heap.size w).alloc (Nat.le_refl _) _).alloc (by simp) _).alloc (by simp; omega) _).drew⟩
theorem gen_world {F R : World → Prop} {W : World} (h1 : R W) (h2 : ∀ W, R W → F W) : F W := h2 W h1
theorem take_map_snoc {α β : Type} (f : α → β) {l : List α} {t : Nat} (ht : t < l.length) : (l.take (t + 1)).map f = (l.take t).map f ++ [f l[t]] := by
  rw [List.take_succ_eq_append_getElem ht, List.map_append]
  rfl
end Go.Proofs.YtkklfdfmfdnjoaaGreatDoor
