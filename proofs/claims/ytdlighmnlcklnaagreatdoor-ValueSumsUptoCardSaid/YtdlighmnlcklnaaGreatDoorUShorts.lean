/- Short, the program's and the document's. -/
import Derived.Test.YtdlighmnlcklnaaGreatDoorUWr
import Derived.Test.YtdlighmnlcklnaaGreatDoorUShortP
import Derived.Test.YtdlighmnlcklnaaGreatDoorUWriteB
namespace Go.Proofs.YtdlighmnlcklnaaGreatDoor
open Go Go.RowKit

theorem Wrt.short {o T : List UInt8} (h : Wrt 96 o T) : shortS ⟨o.toArray⟩ = shortS ⟨T.toArray⟩ := by
  obtain ⟨_, h1, rfl | ⟨h2, h3⟩⟩ := h
  · rfl
  · exact short_same (by omega) (by omega) h3
theorem Wrt.ne {o T : List UInt8} (h : Wrt 96 o T) (hT : T ≠ []) : o ≠ [] := by
  obtain ⟨_, h1, rfl | ⟨h2, h3⟩⟩ := h
  · exact hT
  · rintro rfl
    simp at h2
theorem sliceS_size (s : ByteArray) (a b : Int) : (sliceS s a b).size ≤ s.size := by
  unfold sliceS
  split
  · rw [ByteArray.size_extract]; omega
  · exact Nat.zero_le _
set_option maxRecDepth 100000 in
set_option maxHeartbeats 4000000 in
theorem Short_any (m : Nat) (v : V) (d : Nat) (lv kv : Value) (w : World) (hN : NumW w) (h : At w w.heap.size m v lv kv) (hr : rightV d v = true) (hlen : (textV m v).length ≤ 1000000000) :
    Calls Tryz.prog 152 #[.agg (cellsV v lv kv)] w fun e w' => e = .returned (.string (shortS ⟨(textV m v).toArray⟩)) ∧ Below w.heap.size w w' := by
  obtain ⟨m, rfl⟩ : ∃ m', m = m' + 1 := by cases m with | zero => exact h.elim | succ m => exact ⟨m, rfl⟩
  have hne := textV_ne m v h.opened.1.2.2.1
  have hv := fun o W => value_F (w.alloc o) (hN.below ((Below.refl _ _).alloc (Nat.le_refl _) _)) (w.heap.size + 1) (by simp) 96 (m + 1) v lv kv d [] W hr (At.more (by simp) _ _ _ _ (h.below ((Below.refl w.heap.size w).alloc (Nat.le_refl _) o)))
  have hsf := run_store_float Tryz.prog
  have HV := Lib.hid hv
  obtain ⟨a1, n1, k1, a2, n2, k2, rfl, rfl⟩ := h.slices
  clear hv h hN hr
  unfold cellsV at HV ⊢
  obtain ⟨T, hT⟩ : ∃ T, textV (m + 1) v = T := ⟨_, rfl⟩
  rw [hT] at HV hlen hne ⊢
  have HNE := Lib.hid hne
  clear hT hne
  go_enter Tryz.func152, Tryz.ntmps152
  go_wp2_with fail
  have hw0 : IsW ((w.alloc (.cells #[.int .i64 v.k, .float .f64 v.f, .string v.s, .slice a1 n1 k1, .slice a2 n2 k2] 27)).alloc (.cells #[.pointer none, .slice none 0 0, .int .i64 96] 69)) (w.heap.size + 1) [] 96 :=
    ⟨_, Or.inl rfl, _, by have := heap_alloc_new (w.alloc (.cells #[.int .i64 v.k, .float .f64 v.f, .string v.s, .slice a1 n1 k1, .slice a2 n2 k2] 27)) (.cells #[.pointer none, .slice none 0 0, .int .i64 96] 69); simpa using this, ⟨rfl, Or.inl ⟨rfl, rfl⟩⟩⟩
  have hws0 : WS ((w.alloc (.cells #[.int .i64 v.k, .float .f64 v.f, .string v.s, .slice a1 n1 k1, .slice a2 n2 k2] 27)).alloc (.cells #[.pointer none, .slice none 0 0, .int .i64 96] 69)) (w.heap.size + 1) [] 96 := ⟨[], hw0, by decide, Nat.le_refl _, Or.inl rfl⟩
  refine (HV.out _ _ ((Below.refl _ _).alloc (Nat.le_refl _) _) hws0 (by simp; omega)).mono ?_
  rintro e w2 ⟨rfl, hw2, hs2⟩
  rw [List.nil_append] at hw2
  obtain ⟨o, hw2, hwr⟩ := hw2
  have hol := hwr.2.1
  have hon := hwr.ne HNE.out
  have hsh := hwr.short
  have hsz : (⟨o.toArray⟩ : ByteArray).size = o.length := by show o.toArray.size = _; simp
  have hcnt := fun W => Count_any ⟨o.toArray⟩ (by rw [hsz]; omega) W
  have hsl := fun W => Slice_any ⟨o.toArray⟩ 0 21 (by rw [hsz]; omega) (by decide) (by decide) W
  have hst := BString_any _ _ _ hon w2 hw2
  obtain ⟨S, hS⟩ : ∃ S : ByteArray, (⟨o.toArray⟩ : ByteArray) = S := ⟨_, rfl⟩
  rw [hS] at hcnt hsl hst hsh hsz
  have hcat : (sliceS S 0 21).size ≤ 1000000000 := Nat.le_trans (sliceS_size S 0 21) (by omega)
  obtain ⟨pp, hpp, vv, hb2, hown2⟩ := hw2
  obtain ⟨c0, c1, c2, f0, f1, hshp, hlt⟩ := row3V hb2
  have HST := Lib.hid hst
  have HCNT := Lib.hid hcnt
  have HSL := Lib.hid hsl
  have HSH := Lib.hid hsh
  have HS2 : Hid (Below w.heap.size w w2) := Lib.hid ((((Below.refl w.heap.size w).alloc (Nat.le_refl _) _).alloc (by simp) _).trans (hs2.1.mono (by omega)))
  clear hs2 hb2 hown2 hshp hst hw0 hws0 hpp hcnt hsl hsh hS hsz hwr hol hon HV
  go_wp2_with fail
  refine HST.out.mono ?_
  rintro e w3 ⟨rfl, hb3⟩
  have HB3 := Lib.hid (HS2.out.trans (hb3.mono (by omega)))
  clear hb3 c0 c1 c2 f0 f1
  go_wp2_with fail
  refine (HCNT.out _).mono ?_
  rintro e w4 ⟨rfl, hb4⟩
  have HB4 := Lib.hid (HB3.out.trans (hb4.mono HB3.out.size))
  clear hb4
  by_cases h24 : (st S 0).length ≤ 24
  · have d0 : decide (((st S 0).length : Int) ≤ 24) = true := decide_eq_true (by omega)
    have d1 : decide ((st S 0).length ≤ 24) = true := decide_eq_true h24
    have hfin : S = shortS ⟨T.toArray⟩ := by rw [← HSH.out]; unfold shortS; rw [if_neg (by omega)]
    have HFIN := Lib.hid hfin
    clear hfin
    go_wp2_with fail
    go_ret
    exact ⟨by rw [← HFIN.out]; rfl, HB4.out⟩
  · have d0 : decide (((st S 0).length : Int) ≤ 24) = false := decide_eq_false (by omega)
    have d1 : decide ((st S 0).length ≤ 24) = false := decide_eq_false h24
    have hfin : sliceS S 0 21 ++ ⟨#[46, 46, 46]⟩ = shortS ⟨T.toArray⟩ := by rw [← HSH.out]; unfold shortS; rw [if_pos (by omega)]
    have HFIN := Lib.hid hfin
    clear hfin
    go_wp2_with fail
    refine (HSL.out _).mono ?_
    rintro e w5 ⟨rfl, hb5⟩
    have HB5 := Lib.hid (HB4.out.trans (hb5.mono HB4.out.size))
    clear hb5
    go_wp2_with fail
    go_ret
    exact ⟨by rw [← HFIN.out]; rfl, HB5.out⟩
end Go.Proofs.YtdlighmnlcklnaaGreatDoor
