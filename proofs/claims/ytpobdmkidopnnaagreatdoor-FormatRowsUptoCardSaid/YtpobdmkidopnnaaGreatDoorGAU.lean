/- isNested, IndexFunc, joined. -/
import Derived.Test.YtpobdmkidopnnaaGreatDoorGAT
import Derived.Laws.MakeOwn
import Derived.Laws.OwnMore
import Derived.Test.YtpobdmkidopnnaaGreatDoorGAQ
import Derived.Test.YtpobdmkidopnnaaGreatDoorGAL
namespace Go.Proofs.YtpobdmkidopnnaaGreatDoor
open Go Go.RowKit Go.Shelf

theorem ret_intF {k : IntKind} {a b : Int} (h : a = b) : Ending.returned (.int k a) = .returned (.int k b) := by rw [h]
def nestedV (v : V) : Bool := v.k == 5 || v.k == 6
set_option maxRecDepth 100000 in
set_option maxHeartbeats 2000000 in
theorem isNested_any (v : V) (lv kv : Value) (hs : ∃ a1 n1 c1 a2 n2 c2, lv = .slice a1 n1 c1 ∧ kv = .slice a2 n2 c2) (w : World) : Calls Tryz.prog 144 #[.agg (cellsV v lv kv)] w fun e w' => e = .returned (.bool (nestedV v)) ∧ Below w.heap.size w w' := by
  have hsf := run_store_float Tryz.prog
  obtain ⟨a1, n1, c1, a2, n2, c2, rfl, rfl⟩ := hs
  have HB := Lib.hid ((Below.refl w.heap.size w).alloc (Nat.le_refl _) (.cells (cellsV v (.slice a1 n1 c1) (.slice a2 n2 c2)) 27))
  obtain ⟨k, hk⟩ : ∃ k, v.k = k := ⟨_, rfl⟩
  obtain ⟨B, hB⟩ : ∃ B, nestedV v = B := ⟨_, rfl⟩
  have hB' := hB
  unfold nestedV at hB'
  unfold cellsV at HB ⊢
  rw [hk] at hB' HB ⊢
  rw [hB]
  clear hB
  by_cases h5 : k = 5
  · have g5 : (k == 5) = true := by simp [h5]
    rw [g5, Bool.true_or] at hB'
    subst hB'
    clear h5
    go_enter Tryz.func144, Tryz.ntmps144
    go_wp2_with fail
    go_ret
    exact ⟨rfl, HB.out⟩
  · have g5 : (k == 5) = false := by simp [h5]
    rw [g5, Bool.false_or] at hB'
    clear h5
    by_cases h6 : k = 6
    · have g6 : (k == 6) = true := by simp [h6]
      rw [g6] at hB'
      subst hB'
      clear h6
      go_enter Tryz.func144, Tryz.ntmps144
      go_wp2_with fail
      go_ret
      exact ⟨rfl, HB.out⟩
    · have g6 : (k == 6) = false := by simp [h6]
      rw [g6] at hB'
      subst hB'
      clear h6
      go_enter Tryz.func144, Tryz.ntmps144
      go_wp2_with fail
      go_ret
      exact ⟨rfl, HB.out⟩
/-- The place of the first nested value, -1 if there is none. -/
def nestAt : List V → Nat → Int
  | [], _ => -1
  | v :: r, i => if nestedV v = true then i else nestAt r (i + 1)
set_option maxRecDepth 100000 in
set_option maxHeartbeats 2000000 in
theorem IndexFunc_any (m : Nat) (v : V) (lv kv : Value) (w : World) (h : At w w.heap.size (m + 1) v lv kv) : Calls Tryz.prog 143 #[lv, .func (.func 144) #[] #[]] w fun e w' => e = .returned (.int .i64 (nestAt v.l 0)) ∧ Below w.heap.size w w' := by
  obtain ⟨hsm, _, _, a, c, b, o, rfl, hab, hi⟩ := h.opened
  have hlen : v.l.length ≤ 1048576 := hsm.2.2.2.2.1
  have HI := Lib.hid hi
  have HAB := Lib.hid hab
  have hen := enters_of Tryz.func144 (by kernel_rfl) rfl
  clear hsm hi hab h
  go_enter Tryz.func143, Tryz.ntmps143
  go_wp2_with fail
  go_loopw [8] (fun i wr => ∃ k : Nat, k ≤ v.l.length ∧ i = .int .i64 k ∧ Hid (nestAt (v.l.drop k) k = nestAt v.l 0) ∧ Hid (Below w.heap.size w wr)) (fun i _ => v.l.length - (intOf i).toNat)
  case atStart => exact ⟨0, by omega, rfl, Lib.hid rfl, Lib.hid (Below.refl _ _)⟩
  case round =>
    obtain ⟨k, hk, rfl, HE, HW⟩ := hrel
    by_cases hlt : k < v.l.length
    · have HD := Lib.hid (List.drop_eq_getElem_cons hlt)
      obtain ⟨lv', kv', h5, hat⟩ := HI.out k hlt
      obtain ⟨rfl, hbw⟩ := HAB.out (by omega)
      have hsl := hat.slices
      have hN := isNested_any v.l[k] lv' kv' hsl wr
      have h5' := h5.keep hbw (fun p hp => HW.out.cell hp)
      obtain ⟨x, hx⟩ : ∃ x, v.l[k] = x := ⟨_, rfl⟩
      rw [hx] at h5' hN HD
      obtain ⟨a1, n1, c1, a2, n2, c2, rfl, rfl⟩ := hsl
      unfold FiveAt at h5'
      obtain ⟨d0, d1, d2, d3, d4⟩ := h5'
      unfold cellsV at hN
      obtain ⟨B, hB⟩ : ∃ B, nestedV x = B := ⟨_, rfl⟩
      rw [hB] at hN
      have HN := Lib.hid hN
      have HBB := Lib.hid hB
      clear hN hB h5 hat hx
      have HWs := Lib.hid HW.out.size
      cases B with
      | true =>
        have HV := Lib.hid (show nestAt v.l 0 = (k : Int) by
          rw [← HE.out, HD.out]
          unfold nestAt
          rw [if_pos HBB.out])
        go_wp2_with fail
        refine HN.out.mono ?_
        rintro e w2 ⟨rfl, hb⟩
        have HB2 := Lib.hid (HW.out.trans (hb.mono HWs.out))
        clear hb d0 d1 d2 d3 d4
        go_wp2_with fail
        go_ret
        exact ⟨ret_intF (by rw [HV.out]), HB2.out⟩
      | false =>
        have HV := Lib.hid (show nestAt (v.l.drop (k + 1)) (k + 1) = nestAt v.l 0 by
          rw [← HE.out, HD.out]
          conv => rhs; unfold nestAt
          rw [if_neg (by rw [HBB.out]; exact Bool.false_ne_true)])
        go_wp2_with fail
        refine HN.out.mono ?_
        rintro e w2 ⟨rfl, hb⟩
        have HB2 := Lib.hid (HW.out.trans (hb.mono HWs.out))
        clear hb d0 d1 d2 d3 d4
        go_wp2_with fail
        go_roundw
        case rel => exact ⟨k + 1, by omega, by go_num, HV, HB2⟩
        case measure => simp [intOf]; omega
    · have HV := Lib.hid (show nestAt v.l 0 = -1 by
        rw [← HE.out, List.drop_of_length_le (by omega)]
        rfl)
      have hkk : k = v.l.length := by omega
      clear hk hlt
      subst hkk
      go_wp2_with fail
      go_ret
      exact ⟨ret_intF (by rw [HV.out]), HW.out⟩
/-- A function value, called with one argument. -/
def CallsOne (f x : Value) (w : World) (post : Ending → World → Prop) : Prop :=
  ∃ g c, f = .func (.func g) #[] c ∧ (∀ args w, (callFunc g args).run Tryz.prog w = .ok (.enter g args) w) ∧ Calls Tryz.prog g (#[x] ++ c) w post
/-- The first k strings of a row of the call's own. -/
def RowS (b n k : Nat) (T : Nat → ByteArray) (W : World) : Prop := ∃ cs : Array Value, W.heap[b]? = some (.cells cs 9 (0, 0)) ∧ cs.size = n ∧ ∀ j, j < k → cs[j]? = some (.string (T j))
theorem RowS.lt {b n k : Nat} {T : Nat → ByteArray} {W : World} (h : RowS b n k T W) : b < W.heap.size := by
  obtain ⟨cs, h, _⟩ := h
  exact (Array.getElem?_eq_some_iff.1 h).1
theorem RowS.below {b n k : Nat} {T : Nat → ByteArray} {W W' : World} (h : RowS b n k T W) (hb : Below W.heap.size W W') : RowS b n k T W' := by
  have hl := h.lt
  obtain ⟨cs, h, h2⟩ := h
  exact ⟨cs, (hb.block b hl).trans h, h2⟩
theorem RowS.cell {b n k : Nat} {T : Nat → ByteArray} {W : World} (h : RowS b n k T W) (j : Nat) (hj : j < n) : ∃ u, W.cell? ⟨b, j, none⟩ = some u ∧ W.frozen? ⟨b, j, none⟩ = false := by
  obtain ⟨cs, h, h2, _⟩ := h
  refine ⟨cs[j], ?_, ?_⟩
  · simp [World.cell?, h]
  · simp [World.frozen?, h]
theorem RowS.set {b n k : Nat} {T : Nat → ByteArray} {W : World} (h : RowS b n k T W) (hk : k < n) : RowS b n (k + 1) T (W.setCell ⟨b, k, none⟩ (.string (T k))) := by
  obtain ⟨cs, h, h2, h3⟩ := h
  refine ⟨cs.setIfInBounds k (.string (T k)), ?_, by simpa using h2, fun j hj => ?_⟩
  · simp [World.setCell, Array.getElem?_modify, h]
  · rw [Array.getElem?_setIfInBounds]
    by_cases e : k = j
    · subst e
      rw [if_pos rfl, if_pos (by omega)]
    · rw [if_neg e]
      exact h3 j (by omega)
theorem rowS_new (w : World) (n : Nat) (T : Nat → ByteArray) : RowS w.heap.size n 0 T (w.alloc (.cells (madeCells #[.string ⟨#[]⟩] n) 9)) :=
  ⟨_, heap_alloc_new w _, size_madeCells _ _, fun j hj => by omega⟩
theorem make_strs (n : Nat) (hn : n ≤ 1048576) (w : World) : (Instr.makeSlice 25 (.int .i64 (n : Int)) (.int .i64 (n : Int))).run Tryz.prog w = .ok (.slice (some ⟨w.heap.size, 0, none⟩) n n) (w.alloc (.cells (madeCells #[.string ⟨#[]⟩] n) 9)) := by
  obtain ⟨i0, hi, hz0, hz1, hz2⟩ := info_parts infoStr
  have h := run_make (P := Tryz.prog) w 25 9 i0 (.string ⟨#[]⟩) Tryz.underlying25 hi hz0 .i64 .i64 n n (by omega) (by omega) (by rw [hz2]; omega) (by omega)
  rw [hz1] at h
  simp at h
  exact h
set_option maxRecDepth 100000 in
set_option maxHeartbeats 4000000 in
/-- The cells, each by one, with something between them. -/
theorem joined_any (m : Nat) (v : V) (lv kv : Value) (w : World) (h : At w w.heap.size (m + 1) v lv kv) (one : Value) (sep : ByteArray) (T : Nat → ByteArray)
    (hone : ∀ i (hi : i < v.l.length) lv' kv' W, Below w.heap.size w W → At W w.heap.size m (v.l[i]) lv' kv' → CallsOne one (.agg (cellsV (v.l[i]) lv' kv')) W fun e w' => e = .returned (.string (T i)) ∧ Below W.heap.size W w')
    (hT : (Lib.join ((List.range v.l.length).map fun i => (T i).data.toList) sep.data.toList).length ≤ 140737488355328) :
    Calls Tryz.prog 145 #[lv, .string sep, one] w fun e w' => e = .returned (.string ⟨(Lib.join ((List.range v.l.length).map fun i => (T i).data.toList) sep.data.toList).toArray⟩) ∧ Below w.heap.size w w' := by
  have hsf := run_store_float Tryz.prog
  obtain ⟨hsm, _, _, a, c, b, o, rfl, hab, hi⟩ := h.opened
  have hlen : v.l.length ≤ 1048576 := hsm.2.2.2.2.1
  have hmk := fun w => make_strs v.l.length hlen w
  have HI := Lib.hid hi
  have HAB := Lib.hid hab
  have HO := Lib.hid hone
  have HT := Lib.hid hT
  have HR0 := Lib.hid (rowS_new w v.l.length T)
  have HB0 := Lib.hid ((Below.refl w.heap.size w).alloc (Nat.le_refl _) (.cells (madeCells #[.string ⟨#[]⟩] v.l.length) 9))
  clear hsm hi hab h hone hT
  go_enter Tryz.func145, Tryz.ntmps145
  go_wp2_with fail
  generalize w.alloc (.cells (madeCells #[.string ⟨#[]⟩] v.l.length) 9) = w0 at HR0 HB0 ⊢
  clear hmk
  go_loopw [15] (fun i wr => ∃ k : Nat, k ≤ v.l.length ∧ i = .int .i64 k ∧ Hid (RowS w.heap.size v.l.length k T wr) ∧ Hid (Below w.heap.size w wr)) (fun i _ => v.l.length - (intOf i).toNat)
  case atStart => exact ⟨0, by omega, rfl, HR0, HB0⟩
  case round =>
    obtain ⟨k, hk, rfl, HR, HW⟩ := hrel
    by_cases hlt : k < v.l.length
    · obtain ⟨lv', kv', h5, hat⟩ := HI.out k hlt
      obtain ⟨rfl, hbw⟩ := HAB.out (by omega)
      have h5' := h5.keep hbw (fun p hp => HW.out.cell hp)
      have hat' := hat.below HW.out
      have hb1 := (Below.refl wr.heap.size wr).alloc (Nat.le_refl _) (.cells (cellsV v.l[k] lv' kv') 27)
      have hON := HO.out k hlt lv' kv' (wr.alloc (.cells (cellsV v.l[k] lv' kv') 27)) (HW.out.trans (hb1.mono HW.out.size)) (hat'.below (hb1.mono HW.out.size))
      obtain ⟨x, hx⟩ : ∃ x, v.l[k] = x := ⟨_, rfl⟩
      rw [hx] at h5' hb1 hON
      obtain ⟨a1, n1, c1, a2, n2, c2, rfl, rfl⟩ := hat.slices
      unfold FiveAt at h5'
      obtain ⟨d0, d1, d2, d3, d4⟩ := h5'
      unfold cellsV at hON hb1
      obtain ⟨g, cc, rfl, hen, hcl⟩ := hON
      have HC := Lib.hid hcl
      have HB1 := Lib.hid hb1
      have HWs := Lib.hid HW.out.size
      clear hcl hb1 h5 hat hat' hx
      go_wp2_with fail
      refine HC.out.mono ?_
      rintro e w2 ⟨rfl, hb⟩
      have HR2 := Lib.hid ((HR.out.below HB1.out).below hb)
      have HW2 := Lib.hid (HW.out.trans ((HB1.out.trans (hb.mono HB1.out.size)).mono HWs.out))
      obtain ⟨u, q0, q1⟩ := HR2.out.cell k hlt
      clear hb d0 d1 d2 d3 d4 hen HC HB1
      go_wp2_with fail
      go_roundw
      case rel => exact ⟨k + 1, by omega, by go_num, Lib.hid (HR2.out.set hlt), Lib.hid (HW2.out.setCell (p := ⟨w.heap.size, k, none⟩) (Nat.le_refl _) _)⟩
      case measure => simp [intOf]; omega
    · have hkk : k = v.l.length := by omega
      clear hk hlt
      subst hkk
      have hx : ((List.range v.l.length).map T).length = v.l.length := by simp
      have hj := Tryz.strings_Join w.heap.size 0 v.l.length ((List.range v.l.length).map T) sep wr (by
        intro j x hx
        obtain ⟨cs, g1, g2, g3⟩ := HR.out
        have hj : j < v.l.length := by
          have := (List.getElem?_eq_some_iff.1 hx).1
          simpa using this
        have e : x = T j := by
          rw [List.getElem?_map, List.getElem?_range hj] at hx
          exact (Option.some.inj hx).symm
        rw [Nat.zero_add, e]
        have g4 := g3 j hj
        simp only [World.cell?, g1]
        simpa using g4) HR.out.lt (by rw [hx]; omega) (by rw [hx]; omega) (by rw [List.map_map]; exact HT.out)
      rw [hx, List.map_map] at hj
      have HJ := Lib.hid hj
      clear hj hx
      go_wp2_with fail
      refine HJ.out.mono ?_
      rintro e w3 ⟨rfl, hb⟩
      have HB := Lib.hid (HW.out.trans (hb.mono HW.out.size))
      clear hb
      go_wp2_with fail
      go_ret
      exact ⟨rfl, HB.out⟩
end Go.Proofs.YtpobdmkidopnnaaGreatDoor
namespace Go.Proofs.YtpobdmkidopnnaaGreatDoor
open Go Go.RowKit Go.Shelf

/-- A value as a string. -/
def strT (m : Nat) (v : V) : List UInt8 := if v.k = 4 then v.s.data.toList else textV m v
set_option maxRecDepth 100000 in
set_option maxHeartbeats 2000000 in
theorem String_any (m : Nat) (v : V) (d : Nat) (lv kv : Value) (w : World) (hN : NumW w) (h : At w w.heap.size m v lv kv) (hr : rightV d v = true) (hlen : (textV m v).length ≤ 1099511627776) :
    Calls Tryz.prog 16 #[.agg (cellsV v lv kv)] w fun e w' => e = .returned (.string ⟨(strT m v).toArray⟩) ∧ Below w.heap.size w w' := by
  have hsf := run_store_float Tryz.prog
  have hsz : v.s.size ≤ 1048576 := by cases m with | zero => exact h.elim | succ m => exact h.opened.1.2.2.2.1
  have hb := (Below.refl w.heap.size w).alloc (Nat.le_refl _) (.cells (cellsV v lv kv) 27)
  have hT := Text_any3 m v d lv kv (w.alloc (.cells (cellsV v lv kv) 27)) (hN.below hb) (At.more hb.size _ _ _ _ (h.below hb)) hr hlen
  have HC := Lib.hid (fun w => SClone_any v.s (by omega) w)
  obtain ⟨a1, n1, c1, a2, n2, c2, rfl, rfl⟩ := h.slices
  unfold cellsV at hT hb ⊢
  have HT := Lib.hid hT
  have HB := Lib.hid hb
  clear hT hb h hN hr
  by_cases h4 : v.k = 4
  · have HS := Lib.hid (show strT m v = v.s.data.toList from if_pos h4)
    have g4 : (v.k == 4) = true := by simp [h4]
    clear h4
    go_enter Tryz.func16, Tryz.ntmps16
    go_wp2_with fail
    refine (HC.out _).mono ?_
    rintro e w1 ⟨rfl, hb⟩
    have HB2 := Lib.hid (HB.out.trans (hb.mono (by simp)))
    clear hb
    go_wp2_with fail
    go_ret
    exact ⟨ret_strF (by rw [HS.out]), HB2.out⟩
  · have HS := Lib.hid (show strT m v = textV m v from if_neg h4)
    have g4 : (v.k == 4) = false := by simp [h4]
    clear h4
    go_enter Tryz.func16, Tryz.ntmps16
    go_wp2_with fail
    refine HT.out.mono ?_
    rintro e w1 ⟨rfl, hb⟩
    have HB2 := Lib.hid (HB.out.trans (hb.mono (by simp)))
    clear hb
    go_wp2_with fail
    go_ret
    exact ⟨ret_strF (by rw [HS.out]), HB2.out⟩
/-- A function value that makes a text of a text. -/
def TextF (tx : Value) (Q : List UInt8 → List UInt8) : Prop := ∀ (s : ByteArray) (W : World), s.size ≤ 1048576 → CallsOne tx (.string s) W fun e w' => e = .returned (.string ⟨(Q s.data.toList).toArray⟩) ∧ Below W.heap.size W w'
def cellT (Q : List UInt8 → List UInt8) (m : Nat) (v : V) : List UInt8 := if v.k = 4 then Q v.s.data.toList else textV m v
theorem quotedF : TextF (.func (.func 83) #[] #[]) (fun s => 34 :: (replL LQuot s ++ [34])) := fun s W hs => ⟨_, _, rfl, enters_of Tryz.func83 (by kernel_rfl) rfl, quoted_any s (by omega) W⟩
theorem escapedF : TextF (.func (.func 86) #[] #[]) (fun s => replL LEsc s) := fun s W hs => ⟨_, _, rfl, enters_of Tryz.func86 (by kernel_rfl) rfl, escaped_any s (by omega) W⟩
theorem shieldedF : TextF (.func (.func 150) #[] #[]) (fun s => 39 :: (replL LSh s ++ [39])) := fun s W hs => ⟨_, _, rfl, enters_of Tryz.func150 (by kernel_rfl) rfl, shielded_any s (by omega) W⟩
set_option maxRecDepth 100000 in
set_option maxHeartbeats 2000000 in
theorem written_anyF (tx : Value) (Q : List UInt8 → List UInt8) (hQ : TextF tx Q) (m : Nat) (v : V) (d : Nat) (lv kv : Value) (w : World) (hN : NumW w) (h : At w w.heap.size m v lv kv) (hr : rightV d v = true) (hlen : (textV m v).length ≤ 1099511627776) :
    Calls Tryz.prog 147 #[.agg (cellsV v lv kv), tx] w fun e w' => e = .returned (.string ⟨(cellT Q m v).toArray⟩) ∧ Below w.heap.size w w' := by
  have hsf := run_store_float Tryz.prog
  have hsz : v.s.size ≤ 1048576 := by cases m with | zero => exact h.elim | succ m => exact h.opened.1.2.2.2.1
  have hb := (Below.refl w.heap.size w).alloc (Nat.le_refl _) (.cells (cellsV v lv kv) 27)
  have hT := String_any m v d lv kv (w.alloc (.cells (cellsV v lv kv) 27)) (hN.below hb) (At.more hb.size _ _ _ _ (h.below hb)) hr hlen
  obtain ⟨g, cc, rfl, hen, hcl⟩ := hQ v.s (w.alloc (.cells (cellsV v lv kv) 27)) hsz
  obtain ⟨a1, n1, c1, a2, n2, c2, rfl, rfl⟩ := h.slices
  unfold cellsV at hT hb hcl ⊢
  have HT := Lib.hid hT
  have HB := Lib.hid hb
  have HC := Lib.hid hcl
  clear hT hb h hN hr hcl hQ
  by_cases h4 : v.k = 4
  · have HS := Lib.hid (show cellT Q m v = Q v.s.data.toList from if_pos h4)
    have g4 : (v.k == 4) = true := by simp [h4]
    clear h4
    go_enter Tryz.func147, Tryz.ntmps147
    go_wp2_with fail
    refine HC.out.mono ?_
    rintro e w1 ⟨rfl, hb⟩
    have HB2 := Lib.hid (HB.out.trans (hb.mono (by simp)))
    clear hb
    go_wp2_with fail
    go_ret
    exact ⟨ret_strF (by rw [HS.out]), HB2.out⟩
  · have HS := Lib.hid (show cellT Q m v = strT m v by unfold cellT strT; rw [if_neg h4, if_neg h4])
    have g4 : (v.k == 4) = false := by simp [h4]
    clear h4
    go_enter Tryz.func147, Tryz.ntmps147
    go_wp2_with fail
    refine HT.out.mono ?_
    rintro e w1 ⟨rfl, hb⟩
    have HB2 := Lib.hid (HB.out.trans (hb.mono (by simp)))
    clear hb
    go_wp2_with fail
    go_ret
    exact ⟨ret_strF (by rw [HS.out]), HB2.out⟩
/-- A cell of a row: nothing of null. -/
def rcellT (Q : List UInt8 → List UInt8) (m : Nat) (v : V) : List UInt8 := if v.k = 0 then [] else cellT Q m v
set_option maxRecDepth 100000 in
set_option maxHeartbeats 2000000 in
theorem rowcell_any (tx : Value) (Q : List UInt8 → List UInt8) (hQ : TextF tx Q) (m : Nat) (v : V) (d : Nat) (lv kv : Value) (bx : Nat) (w : World) (hx : w.heap[bx]? = some (.cells #[tx] 67 (0, 0))) (hN : NumW w) (h : At w w.heap.size m v lv kv) (hr : rightV d v = true) (hlen : (textV m v).length ≤ 1099511627776) :
    Calls Tryz.prog 146 #[.agg (cellsV v lv kv), .pointer (some ⟨bx, 0, none⟩)] w fun e w' => e = .returned (.string ⟨(rcellT Q m v).toArray⟩) ∧ Below w.heap.size w w' := by
  have hsf := run_store_float Tryz.prog
  have hbl := (Array.getElem?_eq_some_iff.1 hx).1
  have hb := (Below.refl w.heap.size w).alloc (Nat.le_refl _) (.cells (cellsV v lv kv) 27)
  have hT := written_anyF tx Q hQ m v d lv kv (w.alloc (.cells (cellsV v lv kv) 27)) (hN.below hb) (At.more hb.size _ _ _ _ (h.below hb)) hr hlen
  have hx2 := (hb.block bx hbl).trans hx
  have e0 : (w.alloc (.cells (cellsV v lv kv) 27)).cell? ⟨bx, 0, none⟩ = some tx := by simp only [World.cell?, hx2]; rfl
  have hn := heap_alloc_new w (.cells (cellsV v lv kv) 27)
  obtain ⟨a1, n1, c1, a2, n2, c2, rfl, rfl⟩ := h.slices
  unfold cellsV at hT hb e0 hn ⊢
  have HT := Lib.hid hT
  have HB := Lib.hid hb
  have HS0 := Lib.hid (show rcellT Q m v = if v.k = 0 then [] else cellT Q m v from rfl)
  obtain ⟨k, hk⟩ : ∃ k, v.k = k := ⟨_, rfl⟩
  rw [hk] at HT HB HS0 e0 hn ⊢
  have HE := Lib.hid e0
  have HNn := Lib.hid hn
  clear hT hb h hN hr hQ hx hx2 e0 hn hk
  by_cases h0 : k = 0
  · subst h0
    go_enter Tryz.func146, Tryz.ntmps146
    go_wp2_with fail
    go_ret
    exact ⟨ret_strF (by rw [HS0.out]; simp), HB.out⟩
  · have HS := Lib.hid (show rcellT Q m v = cellT Q m v from HS0.out.trans (if_neg h0))
    have g4 : (k == 0) = false := by simp [h0]
    clear h0
    go_enter Tryz.func146, Tryz.ntmps146
    go_upto_region 3 with fail
    generalize w.alloc (.cells #[.int .i64 k, .float .f64 v.f, .string v.s, .slice a1 n1 c1, .slice a2 n2 c2] 27) = W at HT HB HE HNn ⊢
    have e0 := HE.out
    obtain ⟨c0, c1, c2, c3, c4, _⟩ := row5' HNn.out
    go_wp2_with fail
    refine HT.out.mono ?_
    rintro e w1 ⟨rfl, hb⟩
    have HB2 := Lib.hid (HB.out.trans (hb.mono HB.out.size))
    clear hb e0 c0 c1 c2 c3 c4
    go_wp2_with fail
    go_ret
    exact ⟨ret_strF (by rw [HS.out]), HB2.out⟩
set_option maxRecDepth 100000 in
set_option maxHeartbeats 2000000 in
theorem wordcell_any (m : Nat) (v : V) (d : Nat) (lv kv : Value) (w : World) (hN : NumW w) (h : At w w.heap.size m v lv kv) (hr : rightV d v = true) (hlen : (textV m v).length ≤ 1099511627776) :
    Calls Tryz.prog 149 #[.agg (cellsV v lv kv)] w fun e w' => e = .returned (.string ⟨(cellT (fun s => 39 :: (replL LSh s ++ [39])) m v).toArray⟩) ∧ Below w.heap.size w w' := by
  have hsf := run_store_float Tryz.prog
  have hb := (Below.refl w.heap.size w).alloc (Nat.le_refl _) (.cells (cellsV v lv kv) 27)
  have hT := written_anyF _ _ shieldedF m v d lv kv (w.alloc (.cells (cellsV v lv kv) 27)) (hN.below hb) (At.more hb.size _ _ _ _ (h.below hb)) hr hlen
  obtain ⟨a1, n1, c1, a2, n2, c2, rfl, rfl⟩ := h.slices
  unfold cellsV at hT hb ⊢
  have HT := Lib.hid hT
  have HB := Lib.hid hb
  clear hT hb h hN hr
  go_enter Tryz.func149, Tryz.ntmps149
  go_wp2_with fail
  refine HT.out.mono ?_
  rintro e w1 ⟨rfl, hb⟩
  have HB2 := Lib.hid (HB.out.trans (hb.mono (by simp)))
  clear hb
  go_wp2_with fail
  go_ret
  exact ⟨rfl, HB2.out⟩
end Go.Proofs.YtpobdmkidopnnaaGreatDoor
namespace Go.Proofs.YtpobdmkidopnnaaGreatDoor
open Go Go.RowKit Go.Shelf

def elemV (v : V) (i : Nat) : V := v.l.getD i default
theorem elemV_at (v : V) (i : Nat) (h : i < v.l.length) : elemV v i = v.l[i] := by
  unfold elemV
  rw [List.getD_eq_getElem?_getD, List.getElem?_eq_getElem h]
  rfl
/-- All cells of a row. -/
def rowT (Q : List UInt8 → List UInt8) (m : Nat) (sep : List UInt8) (v : V) : List UInt8 := Lib.join ((List.range v.l.length).map fun i => rcellT Q m (elemV v i)) sep
def wordsT (m : Nat) (v : V) : List UInt8 := Lib.join ((List.range v.l.length).map fun i => cellT (fun s => 39 :: (replL LSh s ++ [39])) m (elemV v i)) [32]
/-- The elements are right, and their texts not too long. -/
def ElemsOK (m : Nat) (v : V) : Prop := ∀ i (hi : i < v.l.length), ∃ d, rightV d v.l[i] = true ∧ (textV m v.l[i]).length ≤ 1099511627776
theorem joined_rows (m : Nat) (v : V) (lv kv : Value) (w : World) (hN : NumW w) (h : At w w.heap.size (m + 1) v lv kv) (hE : ElemsOK m v) (tx : Value) (Q : List UInt8 → List UInt8) (hQ : TextF tx Q) (sep : ByteArray) (bx : Nat)
    (hx : w.heap[bx]? = some (.cells #[tx] 67 (0, 0))) (hl : (rowT Q m sep.data.toList v).length ≤ 140737488355328) :
    Calls Tryz.prog 145 #[lv, .string sep, .func (.func 146) #[] #[.pointer (some ⟨bx, 0, none⟩)]] w fun e w' => e = .returned (.string ⟨(rowT Q m sep.data.toList v).toArray⟩) ∧ Below w.heap.size w w' := by
  have hbl := (Array.getElem?_eq_some_iff.1 hx).1
  refine joined_any m v lv kv w h _ sep (fun i => ⟨(rcellT Q m (elemV v i)).toArray⟩) (fun i hi lv' kv' W hW hat => ?_) hl
  obtain ⟨d, hr, ht⟩ := hE i hi
  refine ⟨_, _, rfl, enters_of Tryz.func146 (by kernel_rfl) rfl, ?_⟩
  rw [elemV_at v i hi]
  exact rowcell_any tx Q hQ m v.l[i] d lv' kv' bx W ((hW.block bx hbl).trans hx) (hN.below hW) (At.more hW.size _ _ _ _ hat) hr ht
theorem joined_words (m : Nat) (v : V) (lv kv : Value) (w : World) (hN : NumW w) (h : At w w.heap.size (m + 1) v lv kv) (hE : ElemsOK m v) (hl : (wordsT m v).length ≤ 140737488355328) :
    Calls Tryz.prog 145 #[lv, .string ⟨#[32]⟩, .func (.func 149) #[] #[]] w fun e w' => e = .returned (.string ⟨(wordsT m v).toArray⟩) ∧ Below w.heap.size w w' := by
  refine joined_any m v lv kv w h _ ⟨#[32]⟩ (fun i => ⟨(cellT (fun s => 39 :: (replL LSh s ++ [39])) m (elemV v i)).toArray⟩) (fun i hi lv' kv' W hW hat => ?_) hl
  obtain ⟨d, hr, ht⟩ := hE i hi
  refine ⟨_, _, rfl, enters_of Tryz.func149 (by kernel_rfl) rfl, ?_⟩
  rw [elemV_at v i hi]
  exact wordcell_any m v.l[i] d lv' kv' W (hN.below hW) (At.more hW.size _ _ _ _ hat) hr ht
set_option maxRecDepth 100000 in
set_option maxHeartbeats 4000000 in
theorem row_good (m : Nat) (v : V) (lv kv : Value) (w : World) (hN : NumW w) (h : At w w.heap.size (m + 1) v lv kv) (h5 : v.k = 5) (hne : nestAt v.l 0 < 0) (hE : ElemsOK m v) (fid : Nat) (Q : List UInt8 → List UInt8) (hQ : TextF (.func (.func fid) #[] #[]) Q) (name sep : ByteArray) (hl : (rowT Q m sep.data.toList v).length ≤ 140737488355328) :
    Calls Tryz.prog 82 #[.string name, .agg (cellsV v lv kv), .string sep, .func (.func fid) #[] #[]] w fun e w' => e = .returned (.tuple #[.string ⟨(rowT Q m sep.data.toList v).toArray⟩, .agg okA]) ∧ Below w.heap.size w w' := by
  have hsf := run_store_float Tryz.prog
  have hb3 : Below w.heap.size w (((w.alloc (.cells (cellsV v lv kv) 27)).alloc (.cells #[.func (.func fid) #[] #[]] 67)).alloc (.cells okA 32)) := (((Below.refl w.heap.size w).alloc (Nat.le_refl _) _).alloc (by simp) _).alloc (by simp; omega) _
  have hr0 := row_alloc3 (row_alloc3 (heap_alloc_new w (.cells (cellsV v lv kv) 27)) (.cells #[.func (.func fid) #[] #[]] 67)) (.cells okA 32)
  have hr1 := row_alloc3 (heap_alloc_new (w.alloc (.cells (cellsV v lv kv) 27)) (.cells #[.func (.func fid) #[] #[]] 67)) (.cells okA 32)
  have hr2 := heap_alloc_new ((w.alloc (.cells (cellsV v lv kv) 27)).alloc (.cells #[.func (.func fid) #[] #[]] 67)) (.cells okA 32)
  rw [World.size_alloc] at hr1
  rw [World.size_alloc, World.size_alloc] at hr2
  have HI := Lib.hid (fun W (hW : Below w.heap.size w W) => IndexFunc_any m v lv kv W (At.more hW.size _ _ _ _ (h.below hW)))
  have HJ := Lib.hid (fun W (hW : Below w.heap.size w W) bx hx => joined_rows m v lv kv W (hN.below hW) (At.more hW.size _ _ _ _ (h.below hW)) hE _ Q hQ sep bx hx hl)
  obtain ⟨a1, n1, c1, a2, n2, c2, rfl, rfl⟩ := h.slices
  unfold cellsV at hb3 hr0 hr1 hr2 ⊢
  unfold okA at hb3 hr0 hr1 hr2
  rw [h5] at hb3 hr0 hr1 hr2 ⊢
  have H0 := Lib.hid hr0
  have H1 := Lib.hid hr1
  have H2 := Lib.hid hr2
  have HB := Lib.hid hb3
  obtain ⟨J, hJ⟩ : ∃ J, nestAt v.l 0 = J := ⟨_, rfl⟩
  obtain ⟨R, hR⟩ : ∃ R : ByteArray, (⟨(rowT Q m sep.data.toList v).toArray⟩ : ByteArray) = R := ⟨_, rfl⟩
  rw [hJ] at HI hne
  rw [hR] at HJ ⊢
  clear hb3 hr0 hr1 hr2 h hN hE hl h5 hJ hR hQ
  go_enter Tryz.func82, Tryz.ntmps82
  go_upto_region 1 with fail
  generalize ((w.alloc (.cells #[.int .i64 5, .float .f64 v.f, .string v.s, .slice a1 n1 c1, .slice a2 n2 c2] 27)).alloc (.cells #[.func (.func fid) #[] #[]] 67)).alloc (.cells #[.bool false, .int .i64 0, .float .f64 0, .string ⟨#[]⟩, .slice none 0 0, .slice none 0 0] 32) = W at H0 H1 H2 HB ⊢
  obtain ⟨c0, c1', c2', c3, c4, _⟩ := row5' H0.out
  have hlt := (Array.getElem?_eq_some_iff.1 H2.out).1
  go_wp2_with fail
  refine (HI.out _ HB.out).mono ?_
  rintro e w1 ⟨rfl, hb⟩
  have K0 := Lib.hid ((hb.block _ (by omega)).trans H0.out)
  have K1 := Lib.hid ((hb.block _ (by omega)).trans H1.out)
  have K2 := Lib.hid ((hb.block _ hlt).trans H2.out)
  have HB1 := Lib.hid (HB.out.trans (hb.mono HB.out.size))
  clear hb c0 c1' c2' c3 c4 H0 H1 H2 HB hlt
  obtain ⟨c0, c1', c2', c3, c4, _⟩ := row5' K0.out
  go_wp2_with fail
  refine (HJ.out _ HB1.out _ K1.out).mono ?_
  rintro e w2 ⟨rfl, hb⟩
  have hlt1 := (Array.getElem?_eq_some_iff.1 K2.out).1
  have M2 := Lib.hid ((hb.block _ hlt1).trans K2.out)
  have HB2 := Lib.hid (HB1.out.trans (hb.mono HB1.out.size))
  clear hb c0 c1' c2' c3 c4 K0 K1 K2 HB1 hlt1
  obtain ⟨e0, e1, e2, e3, e4, e5⟩ := row6F M2.out
  obtain ⟨u0, u1, u2, u3, u4, u5⟩ := ice6F M2.out
  go_wp2_with fail
  refine bodyPost_ret_by (results_tmp_row rfl _ _ (w.heap.size + 1 + 1) 32 _ (0, 0) _ (.string R) rfl rfl (set6_row M2.out ..) Tryz.underlying32 rfl infoErr) rfl ?_
  exact ⟨rfl, set6_below HB2.out (by omega) ..⟩
end Go.Proofs.YtpobdmkidopnnaaGreatDoor
namespace Go.Proofs.YtpobdmkidopnnaaGreatDoor
open Go Go.RowKit Go.Shelf

set_option maxRecDepth 100000 in
set_option maxHeartbeats 4000000 in
theorem words_good (m : Nat) (v : V) (lv kv : Value) (w : World) (hN : NumW w) (h : At w w.heap.size (m + 1) v lv kv) (h5 : v.k = 5) (hne : nestAt v.l 0 < 0) (hE : ElemsOK m v) (hl : (wordsT m v).length ≤ 140737488355328) :
    Calls Tryz.prog 85 #[.agg (cellsV v lv kv)] w fun e w' => e = .returned (.tuple #[.string ⟨(wordsT m v).toArray⟩, .agg okA]) ∧ Below w.heap.size w w' := by
  have hsf := run_store_float Tryz.prog
  have hb3 : Below w.heap.size w ((w.alloc (.cells (cellsV v lv kv) 27)).alloc (.cells okA 32)) := ((Below.refl w.heap.size w).alloc (Nat.le_refl _) _).alloc (by simp) _
  have hr0 := row_alloc3 (heap_alloc_new w (.cells (cellsV v lv kv) 27)) (.cells okA 32)
  have hr2 := heap_alloc_new (w.alloc (.cells (cellsV v lv kv) 27)) (.cells okA 32)
  rw [World.size_alloc] at hr2
  have HI := Lib.hid (fun W (hW : Below w.heap.size w W) => IndexFunc_any m v lv kv W (At.more hW.size _ _ _ _ (h.below hW)))
  have HJ := Lib.hid (fun W (hW : Below w.heap.size w W) => joined_words m v lv kv W (hN.below hW) (At.more hW.size _ _ _ _ (h.below hW)) hE hl)
  obtain ⟨a1, n1, c1, a2, n2, c2, rfl, rfl⟩ := h.slices
  unfold cellsV at hb3 hr0 hr2 ⊢
  unfold okA at hb3 hr0 hr2
  rw [h5] at hb3 hr0 hr2 ⊢
  have H0 := Lib.hid hr0
  have H2 := Lib.hid hr2
  have HB := Lib.hid hb3
  obtain ⟨J, hJ⟩ : ∃ J, nestAt v.l 0 = J := ⟨_, rfl⟩
  obtain ⟨R, hR⟩ : ∃ R : ByteArray, (⟨(wordsT m v).toArray⟩ : ByteArray) = R := ⟨_, rfl⟩
  rw [hJ] at HI hne
  rw [hR] at HJ ⊢
  clear hb3 hr0 hr2 h hN hE hl h5 hJ hR
  go_enter Tryz.func85, Tryz.ntmps85
  go_upto_region 1 with fail
  generalize (w.alloc (.cells #[.int .i64 5, .float .f64 v.f, .string v.s, .slice a1 n1 c1, .slice a2 n2 c2] 27)).alloc (.cells #[.bool false, .int .i64 0, .float .f64 0, .string ⟨#[]⟩, .slice none 0 0, .slice none 0 0] 32) = W at H0 H2 HB ⊢
  obtain ⟨c0, c1', c2', c3, c4, _⟩ := row5' H0.out
  go_upto_region 2 with fail
  have hb4 := (Below.refl W.heap.size W).alloc (Nat.le_refl _) (.cells #[.int .i64 5, .float .f64 v.f, .string v.s, .slice a1 n1 c1, .slice a2 n2 c2] 27)
  have K0 := Lib.hid ((hb4.block _ (Array.getElem?_eq_some_iff.1 H0.out).1).trans H0.out)
  have K2 := Lib.hid ((hb4.block _ (Array.getElem?_eq_some_iff.1 H2.out).1).trans H2.out)
  have HB1 := Lib.hid (HB.out.trans (hb4.mono HB.out.size))
  generalize W.alloc (.cells #[.int .i64 5, .float .f64 v.f, .string v.s, .slice a1 n1 c1, .slice a2 n2 c2] 27) = W1 at K0 K2 HB1 ⊢
  clear hb4 c0 c1' c2' c3 c4 H0 H2 HB
  obtain ⟨c0, c1', c2', c3, c4, _⟩ := row5' K0.out
  go_wp2_with fail
  refine (HI.out _ HB1.out).mono ?_
  rintro e w1 ⟨rfl, hb⟩
  have L2 := Lib.hid ((hb.block _ (Array.getElem?_eq_some_iff.1 K2.out).1).trans K2.out)
  have HB2 := Lib.hid (HB1.out.trans (hb.mono HB1.out.size))
  clear hb c0 c1' c2' c3 c4 K0 K2 HB1
  go_wp2_with fail
  refine (HJ.out _ HB2.out).mono ?_
  rintro e w2 ⟨rfl, hb⟩
  have M2 := Lib.hid ((hb.block _ (Array.getElem?_eq_some_iff.1 L2.out).1).trans L2.out)
  have HB3 := Lib.hid (HB2.out.trans (hb.mono HB2.out.size))
  clear hb L2 HB2
  obtain ⟨e0, e1, e2, e3, e4, e5⟩ := row6F M2.out
  obtain ⟨u0, u1, u2, u3, u4, u5⟩ := ice6F M2.out
  go_wp2_with fail
  refine bodyPost_ret_by (results_tmp_row rfl _ _ (w.heap.size + 1) 32 _ (0, 0) _ (.string R) rfl rfl (set6_row M2.out ..) Tryz.underlying32 rfl infoErr) rfl ?_
  exact ⟨rfl, set6_below HB3.out (by omega) ..⟩
/-- What Format answers, where formatted answers a text. -/
theorem three_new (w : World) (o1 o2 o3 : Obj) : (((w.alloc o1).alloc o2).alloc o3).heap[w.heap.size]? = some o1 ∧ (((w.alloc o1).alloc o2).alloc o3).heap[w.heap.size + 1]? = some o2 ∧ (((w.alloc o1).alloc o2).alloc o3).heap[w.heap.size + 1 + 1]? = some o3 ∧ Below w.heap.size w (((w.alloc o1).alloc o2).alloc o3) := by
  refine ⟨row_alloc3 (row_alloc3 (heap_alloc_new w o1) o2) o3, ?_, ?_, (((Below.refl w.heap.size w).alloc (Nat.le_refl _) _).alloc (by simp) _).alloc (by simp; omega) _⟩
  · have := row_alloc3 (heap_alloc_new (w.alloc o1) o2) o3
    rwa [World.size_alloc] at this
  · have := heap_alloc_new ((w.alloc o1).alloc o2) o3
    rwa [World.size_alloc, World.size_alloc] at this
set_option maxRecDepth 100000 in
set_option maxHeartbeats 4000000 in
theorem Format_ok (name s : ByteArray) (hs : s.size ≤ 1099511627776) (A : Array Value) (k : Int) (f : Nat) (vs : ByteArray) (a1 a2 : Option Addr) (n1 c1 n2 c2 : Nat) (hA : A = #[.int .i64 k, .float .f64 f, .string vs, .slice a1 n1 c1, .slice a2 n2 c2]) (w : World)
    (hF : ∀ W, Below w.heap.size w W → Calls Tryz.prog 40 #[.string name, .agg A] W fun e w' => e = .returned (.tuple #[.string s, .agg okA]) ∧ Below W.heap.size W w') :
    Calls Tryz.prog 12 #[.string name, .agg A] w fun e w' => e = .returned (smallS s) ∧ Below w.heap.size w w' := by
  have hsf := run_store_float Tryz.prog
  have HF := Lib.hid hF
  have HSm := Lib.hid (fun w => Small_str s hs w)
  obtain ⟨r0, r1, r2, rb⟩ := three_new w (.cells A 27) (.cells zeroA 27) (.cells okA 32)
  subst hA
  unfold zeroA okA at r0 r1 r2 rb
  unfold okA at HF
  unfold strA at HSm
  have H0 := Lib.hid r0
  have H1 := Lib.hid r1
  have H2 := Lib.hid r2
  have HB := Lib.hid rb
  have HS0 := Lib.hid (show smallS s = if s.size ≤ 1048576 then .tuple #[.agg (strA s), .agg okA] else .tuple #[.agg zeroA, .agg (errA largeT)] from rfl)
  obtain ⟨P, hP⟩ : ∃ P : Bool, decide (s.size ≤ 1048576) = P := ⟨_, rfl⟩
  have HP := Lib.hid hP
  clear r0 r1 r2 rb hF hP
  go_enter Tryz.func12, Tryz.ntmps12
  go_upto_region 1 with fail
  generalize ((w.alloc (.cells #[.int .i64 k, .float .f64 f, .string vs, .slice a1 n1 c1, .slice a2 n2 c2] 27)).alloc (.cells #[.int .i64 0, .float .f64 0, .string ⟨#[]⟩, .slice none 0 0, .slice none 0 0] 27)).alloc (.cells #[.bool false, .int .i64 0, .float .f64 0, .string ⟨#[]⟩, .slice none 0 0, .slice none 0 0] 32) = W at H0 H1 H2 HB ⊢
  obtain ⟨c0, c1', c2', c3, c4, _⟩ := row5' H0.out
  go_wp2_with fail
  refine (HF.out _ HB.out).mono ?_
  rintro e w1 ⟨rfl, hb⟩
  have K1 := Lib.hid ((hb.block _ (Array.getElem?_eq_some_iff.1 H1.out).1).trans H1.out)
  have K2 := Lib.hid ((hb.block _ (Array.getElem?_eq_some_iff.1 H2.out).1).trans H2.out)
  have HB1 := Lib.hid (HB.out.trans (hb.mono HB.out.size))
  clear hb c0 c1' c2' c3 c4 H0 H1 H2 HB
  go_upto_region 4 with fail
  have hb4 := (Below.refl w1.heap.size w1).alloc (Nat.le_refl _) (.cells #[.bool false, .int .i64 0, .float .f64 0, .string ⟨#[]⟩, .slice none 0 0, .slice none 0 0] 32)
  have L1 := Lib.hid ((hb4.block _ (Array.getElem?_eq_some_iff.1 K1.out).1).trans K1.out)
  have L2 := Lib.hid ((hb4.block _ (Array.getElem?_eq_some_iff.1 K2.out).1).trans K2.out)
  have HB2 := Lib.hid (HB1.out.trans (hb4.mono HB1.out.size))
  generalize w1.alloc (.cells #[.bool false, .int .i64 0, .float .f64 0, .string ⟨#[]⟩, .slice none 0 0, .slice none 0 0] 32) = W4 at L1 L2 HB2 ⊢
  clear hb4 K1 K2 HB1
  have hS := HSm.out W4
  by_cases hle : s.size ≤ 1048576
  all_goals
    have HSS := Lib.hid (show smallS s = _ from by first | exact if_pos hle | exact if_neg hle)
    rw [HSS.out] at hS
    first | unfold strA okA at hS | unfold zeroA errA largeT at hS
    have HSx := Lib.hid hS
    clear hS hle
    go_wp2_with fail
    refine HSx.out.mono ?_
    rintro e w2 ⟨rfl, hb⟩
    have M1 := Lib.hid ((hb.block _ (Array.getElem?_eq_some_iff.1 L1.out).1).trans L1.out)
    have M2 := Lib.hid ((hb.block _ (Array.getElem?_eq_some_iff.1 L2.out).1).trans L2.out)
    have HB3 := Lib.hid (HB2.out.trans (hb.mono HB2.out.size))
    clear hb
    obtain ⟨d0, d1, d2, d3, d4, _⟩ := row5' M1.out
    obtain ⟨v0, v1, v2, v3, v4⟩ := ice5F M1.out
    obtain ⟨e0, e1, e2, e3, e4, e5⟩ := row6F M2.out
    obtain ⟨u0, u1, u2, u3, u4, u5⟩ := ice6F M2.out
    go_wp2_with fail
    rw [HSS.out]
    refine bodyPost_ret_by (results_two_rows rfl _ _ (w.heap.size + 1) (w.heap.size + 1 + 1) 27 32 _ _ (0, 0) (0, 0) _ _ rfl rfl ((set6_other (by omega) ..).trans (set5_row M1.out ..)) (set6_row ((set5_other (by omega) ..).trans M2.out) ..) Tryz.underlying27 rfl sizeVal Tryz.underlying32 rfl infoErr) rfl ?_
    exact ⟨rfl, set6_below (set5_below0 HB3.out (by omega) ..) (by omega) ..⟩
set_option maxRecDepth 100000 in
set_option maxHeartbeats 4000000 in
theorem Format_err (name t : ByteArray) (A : Array Value) (k : Int) (f : Nat) (vs : ByteArray) (a1 a2 : Option Addr) (n1 c1 n2 c2 : Nat) (hA : A = #[.int .i64 k, .float .f64 f, .string vs, .slice a1 n1 c1, .slice a2 n2 c2]) (w : World)
    (hF : ∀ W, Below w.heap.size w W → Calls Tryz.prog 40 #[.string name, .agg A] W fun e w' => e = .returned (.tuple #[.string ⟨#[]⟩, .agg (errA t)]) ∧ Below W.heap.size W w') :
    Calls Tryz.prog 12 #[.string name, .agg A] w fun e w' => e = .returned (.tuple #[.agg zeroA, .agg (errA t)]) ∧ Below w.heap.size w w' := by
  have hsf := run_store_float Tryz.prog
  have HF := Lib.hid hF
  obtain ⟨r0, r1, r2, rb⟩ := three_new w (.cells A 27) (.cells zeroA 27) (.cells okA 32)
  subst hA
  unfold zeroA okA at r0 r1 r2 rb
  unfold errA at HF
  have H0 := Lib.hid r0
  have H1 := Lib.hid r1
  have H2 := Lib.hid r2
  have HB := Lib.hid rb
  clear r0 r1 r2 rb hF
  go_enter Tryz.func12, Tryz.ntmps12
  go_upto_region 1 with fail
  generalize ((w.alloc (.cells #[.int .i64 k, .float .f64 f, .string vs, .slice a1 n1 c1, .slice a2 n2 c2] 27)).alloc (.cells #[.int .i64 0, .float .f64 0, .string ⟨#[]⟩, .slice none 0 0, .slice none 0 0] 27)).alloc (.cells #[.bool false, .int .i64 0, .float .f64 0, .string ⟨#[]⟩, .slice none 0 0, .slice none 0 0] 32) = W at H0 H1 H2 HB ⊢
  obtain ⟨c0, c1', c2', c3, c4, _⟩ := row5' H0.out
  go_wp2_with fail
  refine (HF.out _ HB.out).mono ?_
  rintro e w1 ⟨rfl, hb⟩
  have K1 := Lib.hid ((hb.block _ (Array.getElem?_eq_some_iff.1 H1.out).1).trans H1.out)
  have K2 := Lib.hid ((hb.block _ (Array.getElem?_eq_some_iff.1 H2.out).1).trans H2.out)
  have HB1 := Lib.hid (HB.out.trans (hb.mono HB.out.size))
  clear hb c0 c1' c2' c3 c4 H0 H1 H2 HB
  go_upto_region 2 with fail
  have hb4 := (Below.refl w1.heap.size w1).alloc (Nat.le_refl _) (.cells #[.bool true, .int .i64 4, .float .f64 0, .string t, .slice none 0 0, .slice none 0 0] 32)
  have L1 := Lib.hid ((hb4.block _ (Array.getElem?_eq_some_iff.1 K1.out).1).trans K1.out)
  have L2 := Lib.hid ((hb4.block _ (Array.getElem?_eq_some_iff.1 K2.out).1).trans K2.out)
  have HB2 := Lib.hid (HB1.out.trans (hb4.mono HB1.out.size))
  have HE := Lib.hid (heap_alloc_new w1 (.cells #[.bool true, .int .i64 4, .float .f64 0, .string t, .slice none 0 0, .slice none 0 0] 32))
  have hlt := (Array.getElem?_eq_some_iff.1 K2.out).1
  obtain ⟨z, hz⟩ : ∃ z, w1.heap.size = z := ⟨_, rfl⟩
  rw [hz] at HE hlt ⊢
  generalize w1.alloc (.cells #[.bool true, .int .i64 4, .float .f64 0, .string t, .slice none 0 0, .slice none 0 0] 32) = W4 at L1 L2 HB2 HE ⊢
  clear hb4 K1 K2 HB1 hz
  obtain ⟨g0, g1, g2, g3, g4, g5⟩ := row6F HE.out
  go_upto_region 3 with fail
  obtain ⟨d0, d1, d2, d3, d4, _⟩ := row5' L1.out
  obtain ⟨v0, v1, v2, v3, v4⟩ := ice5F L1.out
  obtain ⟨e0, e1, e2, e3, e4, e5⟩ := row6F L2.out
  obtain ⟨u0, u1, u2, u3, u4, u5⟩ := ice6F L2.out
  have HEND := Lib.hid (show ∃ X, X = set6 (set5 W4 (w.heap.size + 1) (.int .i64 0) (.float .f64 0) (.string ⟨#[]⟩) (.slice none 0 0) (.slice none 0 0)) (w.heap.size + 1 + 1) (.bool true) (.int .i64 4) (.float .f64 0) (.string t) (.slice none 0 0) (.slice none 0 0) ∧ X.heap[w.heap.size + 1]? = some (.cells zeroA 27 (0, 0)) ∧ X.heap[w.heap.size + 1 + 1]? = some (.cells (errA t) 32 (0, 0)) ∧ Below w.heap.size w X from
    ⟨_, rfl, (set6_other (by omega) ..).trans (set5_row L1.out ..), set6_row ((set5_other (by omega) ..).trans L2.out) .., set6_below (set5_below0 HB2.out (by omega) ..) (by omega) ..⟩)
  go_region
  go_wp2_with fail
  obtain ⟨X, hX, q1, q2, q3⟩ := HEND.out
  unfold set6 set5 at hX
  rw [← hX]
  exact bodyPost_ret_by (results_two_rows rfl _ _ (w.heap.size + 1) (w.heap.size + 1 + 1) 27 32 zeroA (errA t) (0, 0) (0, 0) _ _ rfl rfl q1 q2 Tryz.underlying27 rfl sizeVal Tryz.underlying32 rfl infoErr) rfl ⟨rfl, q3.drew⟩
end Go.Proofs.YtpobdmkidopnnaaGreatDoor
