/- What a text's first bytes say of its first code points. -/
import Derived.Test.YtpobdmkidopnnaaGreatDoorGAK
import Derived.Test.YtpobdmkidopnnaaGreatDoorGAS
import Derived.Test.YtpobdmkidopnnaaGreatDoorGAO
import Derived.Test.YtpobdmkidopnnaaGreatDoorGAG
import Derived.Test.YtpobdmkidopnnaaGreatDoorGAP
import Derived.Test.YtpobdmkidopnnaaGreatDoorGAR
namespace Go.Proofs.YtpobdmkidopnnaaGreatDoor
open Go Go.RowKit

theorem get_list (l : List UInt8) (j : Nat) : (⟨l.toArray⟩ : ByteArray).get! j = l.getD j 0 := by
  show l.toArray[j]! = _
  simp only [List.getElem!_toArray, List.getElem!_eq_getElem?_getD, List.getD]
  rfl
theorem take_get {a b : List UInt8} {N : Nat} (h : a.take N = b.take N) (j : Nat) (hj : j < N) : a.getD j 0 = b.getD j 0 := by
  have h1 : (a.take N)[j]? = (b.take N)[j]? := by rw [h]
  rw [List.getElem?_take_of_lt hj, List.getElem?_take_of_lt hj] at h1
  simp [List.getD, h1]
theorem dec_same {a b : List UInt8} {N i : Nat} (ha : N ≤ a.length) (hb : N ≤ b.length) (h : a.take N = b.take N) (hi : i + 4 ≤ N) : Utf8.decode ⟨a.toArray⟩ i = Utf8.decode ⟨b.toArray⟩ i := by
  have sa : (⟨a.toArray⟩ : ByteArray).size = a.length := by show a.toArray.size = _; simp
  have sb : (⟨b.toArray⟩ : ByteArray).size = b.length := by show b.toArray.size = _; simp
  have g := fun k (hk : k < 4) => take_get h (i + k) (by omega)
  have c := fun k (hk : k < 4) => (show decide (i + k < a.length) = decide (i + k < b.length) by rw [decide_eq_true (by omega), decide_eq_true (by omega)])
  unfold Utf8.decode
  simp only [get_list, sa, sb, g 0 (by omega), g 1 (by omega), g 2 (by omega), g 3 (by omega), c 1 (by omega), c 2 (by omega), c 3 (by omega)]
theorem st_same {a b : List UInt8} {N : Nat} (ha : N ≤ a.length) (hb : N ≤ b.length) (h : a.take N = b.take N) : ∀ k pos, pos + 4 * k ≤ N → (st ⟨a.toArray⟩ pos).take k = (st ⟨b.toArray⟩ pos).take k := by
  have sa : (⟨a.toArray⟩ : ByteArray).size = a.length := by show a.toArray.size = _; simp
  have sb : (⟨b.toArray⟩ : ByteArray).size = b.length := by show b.toArray.size = _; simp
  intro k
  induction k with
  | zero => intro pos _; rw [List.take_zero, List.take_zero]
  | succ k ih =>
    intro pos hp
    have h1 : pos < (⟨a.toArray⟩ : ByteArray).size := by rw [sa]; omega
    have h2 : pos < (⟨b.toArray⟩ : ByteArray).size := by rw [sb]; omega
    have hd := dec_same ha hb h (show pos + 4 ≤ N by omega)
    have hw := (dec_fits _ pos h1).2
    rw [st_cons _ pos h1, st_cons _ pos h2, ← hd, List.take_succ_cons, List.take_succ_cons, ih _ (by omega)]
theorem st_many (s : ByteArray) : ∀ k pos, pos + 4 * k < s.size → k + 1 ≤ (st s pos).length := by
  intro k
  induction k with
  | zero => intro pos hp; rw [st_cons s pos (by omega), List.length_cons]; omega
  | succ k ih =>
    intro pos hp
    have hw := (dec_fits s pos (by omega)).2
    have := ih (pos + (Utf8.decode s pos).2) (by omega)
    rw [st_cons s pos (by omega), List.length_cons]
    omega
theorem st_near (s : ByteArray) : ∀ (k pos x : Nat), (st s pos)[k]? = some x → x ≤ pos + 4 * k := by
  intro k
  induction k with
  | zero =>
    intro pos x hx
    by_cases hp : pos < s.size
    · rw [st_cons s pos hp] at hx
      simp at hx
      omega
    · rw [st_nil s pos hp] at hx
      cases hx
  | succ k ih =>
    intro pos x hx
    by_cases hp : pos < s.size
    · rw [st_cons s pos hp, List.getElem?_cons_succ] at hx
      have := ih _ _ hx
      have hw := (dec_fits s pos hp).2
      omega
    · rw [st_nil s pos hp] at hx
      cases hx
/-- What Short makes of a text. -/
def shortS (s : ByteArray) : ByteArray := if 24 < (st s 0).length then sliceS s 0 21 ++ ⟨#[46, 46, 46]⟩ else s
theorem short_same {a b : List UInt8} (ha : 97 ≤ a.length) (hb : 97 ≤ b.length) (h : a.take 97 = b.take 97) : shortS ⟨a.toArray⟩ = shortS ⟨b.toArray⟩ := by
  have sa : (⟨a.toArray⟩ : ByteArray).size = a.length := by show a.toArray.size = _; simp
  have sb : (⟨b.toArray⟩ : ByteArray).size = b.length := by show b.toArray.size = _; simp
  have la := st_many ⟨a.toArray⟩ 24 0 (by rw [sa]; omega)
  have lb := st_many ⟨b.toArray⟩ 24 0 (by rw [sb]; omega)
  have ht := st_same ha hb h 24 0 (by omega)
  have hg : ∀ j, j < 24 → (st ⟨a.toArray⟩ 0)[j]? = (st ⟨b.toArray⟩ 0)[j]? := by
    intro j hj
    have h1 : ((st ⟨a.toArray⟩ 0).take 24)[j]? = ((st ⟨b.toArray⟩ 0).take 24)[j]? := by rw [ht]
    rwa [List.getElem?_take_of_lt hj, List.getElem?_take_of_lt hj] at h1
  obtain ⟨x, hx⟩ : ∃ x, (st ⟨a.toArray⟩ 0)[21]? = some x := ⟨_, List.getElem?_eq_getElem (by omega)⟩
  obtain ⟨z, hz⟩ : ∃ z, (st ⟨a.toArray⟩ 0)[0]? = some z := ⟨_, List.getElem?_eq_getElem (by omega)⟩
  have hx2 := hx
  rw [hg 21 (by omega)] at hx2
  have hz2 := hz
  rw [hg 0 (by omega)] at hz2
  have hn := st_near _ 21 0 x hx
  have e1 : ∀ (s : ByteArray), (st s 0)[21]? = some x → (st s 0)[0]? = some z → sliceS s 0 21 = s.extract z x := by
    intro s h1 h2
    unfold sliceS
    rw [if_pos (by decide)]
    show s.extract (atP s 0) (atP s 21) = _
    unfold atP
    rw [h1, h2]
    rfl
  unfold shortS
  rw [if_pos (by omega), if_pos (by omega), e1 _ hx hz, e1 _ hx2 hz2]
  congr 1
  apply ByteArray.ext
  apply Array.toList_inj.1
  rw [Lib.extract_data, Lib.extract_data]
  have d : ∀ l : List UInt8, (⟨l.toArray⟩ : ByteArray).data.toList = l := fun l => by simp
  rw [d, d, List.take_drop, List.take_drop]
  have t : ∀ l : List UInt8, (l.take 97).take (z + (x - z)) = l.take (z + (x - z)) := fun l => by
    rw [List.take_take]
    congr 1
    have := st_near _ 0 0 z hz
    omega
  rw [← t a, ← t b, h]
end Go.Proofs.YtpobdmkidopnnaaGreatDoor
namespace Go.Proofs.YtpobdmkidopnnaaGreatDoor
open Go Go.RowKit

theorem Wrt.short {o T : List UInt8} (h : Wrt 96 o T) : shortS ⟨o.toArray⟩ = shortS ⟨T.toArray⟩ := by
  obtain ⟨_, h1, rfl | ⟨h2, h3⟩⟩ := h
  · rfl
  · exact short_same (by omega) (by omega) h3
theorem Wrt.ne {o T : List UInt8} (h : Wrt 96 o T) (hT : T ≠ []) : o ≠ [] := by
  obtain ⟨_, h1, rfl | ⟨h2, h3⟩⟩ := h
  · exact hT
  · rintro rfl
    simp at h2
theorem sliceS_size (s : ByteArray) (a b : Int) : (sliceS s a b).size ≤ s.size := by
  unfold sliceS
  split
  · rw [ByteArray.size_extract]; omega
  · exact Nat.zero_le _
set_option maxRecDepth 100000 in
set_option maxHeartbeats 4000000 in
theorem Short_any (m : Nat) (v : V) (d : Nat) (lv kv : Value) (w : World) (hN : NumW w) (h : At w w.heap.size m v lv kv) (hr : rightV d v = true) (hlen : (textV m v).length ≤ 1000000000) :
    Calls Tryz.prog 221 #[.agg (cellsV v lv kv)] w fun e w' => e = .returned (.string (shortS ⟨(textV m v).toArray⟩)) ∧ Below w.heap.size w w' := by
  obtain ⟨m, rfl⟩ : ∃ m', m = m' + 1 := by cases m with | zero => exact h.elim | succ m => exact ⟨m, rfl⟩
  have hne := textV_ne m v h.opened.1.2.2.1
  have hv := fun o W => value_F (w.alloc o) (hN.below ((Below.refl _ _).alloc (Nat.le_refl _) _)) (w.heap.size + 1) (by simp) 96 (m + 1) v lv kv d [] W hr (At.more (by simp) _ _ _ _ (h.below ((Below.refl w.heap.size w).alloc (Nat.le_refl _) o)))
  have hsf := run_store_float Tryz.prog
  have HV := Lib.hid hv
  obtain ⟨a1, n1, k1, a2, n2, k2, rfl, rfl⟩ := h.slices
  clear hv h hN hr
  unfold cellsV at HV ⊢
  obtain ⟨T, hT⟩ : ∃ T, textV (m + 1) v = T := ⟨_, rfl⟩
  rw [hT] at HV hlen hne ⊢
  have HNE := Lib.hid hne
  clear hT hne
  go_enter Tryz.func221, Tryz.ntmps221
  go_wp2_with fail
  have hw0 : IsW ((w.alloc (.cells #[.int .i64 v.k, .float .f64 v.f, .string v.s, .slice a1 n1 k1, .slice a2 n2 k2] 27)).alloc (.cells #[.pointer none, .slice none 0 0, .int .i64 96] 111)) (w.heap.size + 1) [] 96 :=
    ⟨_, Or.inl rfl, _, by have := heap_alloc_new (w.alloc (.cells #[.int .i64 v.k, .float .f64 v.f, .string v.s, .slice a1 n1 k1, .slice a2 n2 k2] 27)) (.cells #[.pointer none, .slice none 0 0, .int .i64 96] 111); simpa using this, ⟨rfl, Or.inl ⟨rfl, rfl⟩⟩⟩
  have hws0 : WS ((w.alloc (.cells #[.int .i64 v.k, .float .f64 v.f, .string v.s, .slice a1 n1 k1, .slice a2 n2 k2] 27)).alloc (.cells #[.pointer none, .slice none 0 0, .int .i64 96] 111)) (w.heap.size + 1) [] 96 := ⟨[], hw0, by decide, Nat.le_refl _, Or.inl rfl⟩
  refine (HV.out _ _ ((Below.refl _ _).alloc (Nat.le_refl _) _) hws0 (by simp; omega)).mono ?_
  rintro e w2 ⟨rfl, hw2, hs2⟩
  rw [List.nil_append] at hw2
  obtain ⟨o, hw2, hwr⟩ := hw2
  have hol := hwr.2.1
  have hon := hwr.ne HNE.out
  have hsh := hwr.short
  have hsz : (⟨o.toArray⟩ : ByteArray).size = o.length := by show o.toArray.size = _; simp
  have hcnt := fun W => Count_any ⟨o.toArray⟩ (by rw [hsz]; omega) W
  have hsl := fun W => Slice_any ⟨o.toArray⟩ 0 21 (by rw [hsz]; omega) (by decide) (by decide) W
  have hst := BString_any _ _ _ hon w2 hw2
  obtain ⟨S, hS⟩ : ∃ S : ByteArray, (⟨o.toArray⟩ : ByteArray) = S := ⟨_, rfl⟩
  rw [hS] at hcnt hsl hst hsh hsz
  have hcat : (sliceS S 0 21).size ≤ 1000000000 := Nat.le_trans (sliceS_size S 0 21) (by omega)
  obtain ⟨pp, hpp, vv, hb2, hown2⟩ := hw2
  obtain ⟨c0, c1, c2, f0, f1, hshp, hlt⟩ := row3V hb2
  have HST := Lib.hid hst
  have HCNT := Lib.hid hcnt
  have HSL := Lib.hid hsl
  have HSH := Lib.hid hsh
  have HS2 : Hid (Below w.heap.size w w2) := Lib.hid ((((Below.refl w.heap.size w).alloc (Nat.le_refl _) _).alloc (by simp) _).trans (hs2.1.mono (by omega)))
  clear hs2 hb2 hown2 hshp hst hw0 hws0 hpp hcnt hsl hsh hS hsz hwr hol hon HV
  go_wp2_with fail
  refine HST.out.mono ?_
  rintro e w3 ⟨rfl, hb3⟩
  have HB3 := Lib.hid (HS2.out.trans (hb3.mono (by omega)))
  clear hb3 c0 c1 c2 f0 f1
  go_wp2_with fail
  refine (HCNT.out _).mono ?_
  rintro e w4 ⟨rfl, hb4⟩
  have HB4 := Lib.hid (HB3.out.trans (hb4.mono HB3.out.size))
  clear hb4
  by_cases h24 : (st S 0).length ≤ 24
  · have d0 : decide (((st S 0).length : Int) ≤ 24) = true := decide_eq_true (by omega)
    have d1 : decide ((st S 0).length ≤ 24) = true := decide_eq_true h24
    have hfin : S = shortS ⟨T.toArray⟩ := by rw [← HSH.out]; unfold shortS; rw [if_neg (by omega)]
    have HFIN := Lib.hid hfin
    clear hfin
    go_wp2_with fail
    go_ret
    exact ⟨by rw [← HFIN.out]; rfl, HB4.out⟩
  · have d0 : decide (((st S 0).length : Int) ≤ 24) = false := decide_eq_false (by omega)
    have d1 : decide ((st S 0).length ≤ 24) = false := decide_eq_false h24
    have hfin : sliceS S 0 21 ++ ⟨#[46, 46, 46]⟩ = shortS ⟨T.toArray⟩ := by rw [← HSH.out]; unfold shortS; rw [if_pos (by omega)]
    have HFIN := Lib.hid hfin
    clear hfin
    go_wp2_with fail
    refine (HSL.out _).mono ?_
    rintro e w5 ⟨rfl, hb5⟩
    have HB5 := Lib.hid (HB4.out.trans (hb5.mono HB4.out.size))
    clear hb5
    go_wp2_with fail
    go_ret
    exact ⟨by rw [← HFIN.out]; rfl, HB5.out⟩
end Go.Proofs.YtpobdmkidopnnaaGreatDoor
namespace Go.Proofs.YtpobdmkidopnnaaGreatDoor
open Go Go.RowKit

end Go.Proofs.YtpobdmkidopnnaaGreatDoor
namespace Go.Proofs.YtpobdmkidopnnaaGreatDoor
open Go Go.RowKit

theorem int_2 : intB 4611686018427387904 = 2 := by kernel_rfl
theorem int_m5 : intB 13840687554816376832 = -5 := by kernel_rfl
theorem int_0 : intB 0 = 0 := by kernel_rfl
theorem nan_15 : decide (9218868437227405312 < szB 4609434218613702656) = false := by kernel_rfl
theorem nan_2 : decide (9218868437227405312 < szB 4611686018427387904) = false := by kernel_rfl
theorem nan_m5 : decide (9218868437227405312 < szB 13840687554816376832) = false := by kernel_rfl
theorem rep_ab : repS ⟨#[97, 98]⟩ 2 = (⟨#[97, 98, 97, 98]⟩, 0) := by kernel_rfl
theorem outs2 {n : Nat} {W : World} (h2 : W.heap[n]? = some (.cells #[.int .i64 0, .float .f64 0, .string ⟨#[]⟩, .slice none 0 0, .slice none 0 0] 27 (0, 0))) (h3 : W.heap[n + 1]? = some (.cells #[.bool false, .int .i64 0, .float .f64 0, .string ⟨#[]⟩, .slice none 0 0, .slice none 0 0] 32 (0, 0))) :
    (W.cell? ⟨n, 0, none⟩ = some (.int .i64 0) ∧ W.cell? ⟨n, 1, none⟩ = some (.float .f64 0) ∧ W.cell? ⟨n, 2, none⟩ = some (.string ⟨#[]⟩) ∧ W.cell? ⟨n, 3, none⟩ = some (.slice none 0 0) ∧ W.cell? ⟨n, 4, none⟩ = some (.slice none 0 0)) ∧
    (W.cell? ⟨n + 1, 0, none⟩ = some (.bool false) ∧ W.cell? ⟨n + 1, 1, none⟩ = some (.int .i64 0) ∧ W.cell? ⟨n + 1, 2, none⟩ = some (.float .f64 0) ∧ W.cell? ⟨n + 1, 3, none⟩ = some (.string ⟨#[]⟩) ∧ W.cell? ⟨n + 1, 4, none⟩ = some (.slice none 0 0) ∧ W.cell? ⟨n + 1, 5, none⟩ = some (.slice none 0 0)) ∧
    (∀ q, W.frozen? ⟨n, q, none⟩ = false) ∧ (∀ q, W.frozen? ⟨n + 1, q, none⟩ = false) := by
  refine ⟨?_, ?_, fun q => ?_, fun q => ?_⟩
  · simp [World.cell?, h2]
  · simp [World.cell?, h3]
  · simp [World.frozen?, h2]
  · simp [World.frozen?, h3]
end Go.Proofs.YtpobdmkidopnnaaGreatDoor
namespace Go.Proofs.YtpobdmkidopnnaaGreatDoor
open Go Go.RowKit

end Go.Proofs.YtpobdmkidopnnaaGreatDoor
namespace Go.Proofs.YtpobdmkidopnnaaGreatDoor
open Go Go.RowKit

theorem row6' {w : World} {b : Nat} {u0 u1 u2 u3 u4 u5 : Value} {t : TypeId} (hb : w.heap[b]? = some (.cells #[u0, u1, u2, u3, u4, u5] t (0, 0))) :
    w.cell? ⟨b, 0, none⟩ = some u0 ∧ w.cell? ⟨b, 1, none⟩ = some u1 ∧ w.cell? ⟨b, 2, none⟩ = some u2 ∧ w.cell? ⟨b, 3, none⟩ = some u3 ∧ w.cell? ⟨b, 4, none⟩ = some u4 ∧ w.cell? ⟨b, 5, none⟩ = some u5 := by
  simp [World.cell?, hb]
theorem R4.drewR {n : Nat} {A B C D : Array Value} {W : World} (h : R4 n A B C D W) : R4 n A B C D W.drew := h.below (Below.refl _ _).drew
end Go.Proofs.YtpobdmkidopnnaaGreatDoor
namespace Go.Proofs.YtpobdmkidopnnaaGreatDoor
open Go Go.RowKit

theorem text_obj : textV 2 (objV ⟨#[97]⟩ 4607182418800017408) = [123, 34, 97, 34, 58, 49, 125] := by kernel_rfl
theorem text_2 : textV 1 (numV 4611686018427387904) = [50] := by kernel_rfl
theorem text_1 : textV 1 (numV 4607182418800017408) = [49] := by kernel_rfl
theorem text_0 : textV 1 (numV 0) = [48] := by kernel_rfl
theorem right_objA : rightV 2 (objV ⟨#[97]⟩ 4607182418800017408) = true := by kernel_rfl
theorem right_objA4 : rightV 10000 (objV ⟨#[97]⟩ 4607182418800017408) = true := by kernel_rfl
theorem right_2 : rightV 1 (numV 4611686018427387904) = true := by kernel_rfl
theorem right_1 : rightV 1 (numV 4607182418800017408) = true := by kernel_rfl
theorem right_0 : rightV 1 (numV 0) = true := by kernel_rfl
theorem right_7 : rightV 10000 (leafV 7 0 ⟨#[]⟩) = false := by kernel_rfl
theorem tell_obj : tellB 2 (objV ⟨#[97]⟩ 4607182418800017408) = ⟨#[111, 98, 106, 101, 99, 116, 32, 40, 123, 34, 97, 34, 58, 49, 125, 41]⟩ := by unfold tellB; rw [text_obj]; kernel_rfl
theorem tell_2 : tellB 1 (numV 4611686018427387904) = ⟨#[110, 117, 109, 98, 101, 114, 32, 40, 50, 41]⟩ := by unfold tellB; rw [text_2]; kernel_rfl
theorem tell_1 : tellB 1 (numV 4607182418800017408) = ⟨#[110, 117, 109, 98, 101, 114, 32, 40, 49, 41]⟩ := by unfold tellB; rw [text_1]; kernel_rfl
theorem tell_0 : tellB 1 (numV 0) = ⟨#[110, 117, 109, 98, 101, 114, 32, 40, 48, 41]⟩ := by unfold tellB; rw [text_0]; kernel_rfl
end Go.Proofs.YtpobdmkidopnnaaGreatDoor
namespace Go.Proofs.YtpobdmkidopnnaaGreatDoor
open Go Go.RowKit

theorem say_plus : ⟨#[111, 98, 106, 101, 99, 116, 32, 40, 123, 34, 97, 34, 58, 49, 125, 41]⟩ ++ ⟨#[32, 97, 110, 100, 32]⟩ ++ ⟨#[110, 117, 109, 98, 101, 114, 32, 40, 50, 41]⟩ ++ ⟨#[32]⟩ ++ ⟨#[99, 97, 110, 110, 111, 116, 32, 98, 101, 32, 97, 100, 100, 101, 100]⟩ = (⟨#[111, 98, 106, 101, 99, 116, 32, 40, 123, 34, 97, 34, 58, 49, 125, 41, 32, 97, 110, 100, 32, 110, 117, 109, 98, 101, 114, 32, 40, 50, 41, 32, 99, 97, 110, 110, 111, 116, 32, 98, 101, 32, 97, 100, 100, 101, 100]⟩ : ByteArray) := by kernel_rfl
theorem say_zero : ⟨#[110, 117, 109, 98, 101, 114, 32, 40, 49, 41]⟩ ++ ⟨#[32, 97, 110, 100, 32]⟩ ++ ⟨#[110, 117, 109, 98, 101, 114, 32, 40, 48, 41]⟩ ++ ⟨#[32]⟩ ++ ⟨#[99, 97, 110, 110, 111, 116, 32, 98, 101, 32, 100, 105, 118, 105, 100, 101, 100, 32, 98, 101, 99, 97, 117, 115, 101, 32, 116, 104, 101, 32, 100, 105, 118, 105, 115, 111, 114, 32, 105, 115, 32, 122, 101, 114, 111]⟩ = (⟨#[110, 117, 109, 98, 101, 114, 32, 40, 49, 41, 32, 97, 110, 100, 32, 110, 117, 109, 98, 101, 114, 32, 40, 48, 41, 32, 99, 97, 110, 110, 111, 116, 32, 98, 101, 32, 100, 105, 118, 105, 100, 101, 100, 32, 98, 101, 99, 97, 117, 115, 101, 32, 116, 104, 101, 32, 100, 105, 118, 105, 115, 111, 114, 32, 105, 115, 32, 122, 101, 114, 111]⟩ : ByteArray) := by kernel_rfl
end Go.Proofs.YtpobdmkidopnnaaGreatDoor
namespace Go.Proofs.YtpobdmkidopnnaaGreatDoor
open Go Go.RowKit

theorem shortS_le (s : ByteArray) : (shortS s).size ≤ s.size + 3 := by
  unfold shortS
  split
  · rw [ByteArray.size_append]
    have := sliceS_size s 0 21
    show _ + 3 ≤ _
    omega
  · omega
theorem shortS_size (s : List UInt8) : (shortS ⟨s.toArray⟩).size ≤ 100 := by
  by_cases h : 97 ≤ s.length
  · have e := short_same (a := s) (b := s.take 97) h (by rw [List.length_take]; omega) (by simp [List.take_take])
    rw [e]
    have h1 := shortS_le ⟨(s.take 97).toArray⟩
    have h2 : (⟨(s.take 97).toArray⟩ : ByteArray).size = 97 := by show (s.take 97).toArray.size = 97; rw [List.size_toArray, List.length_take]; omega
    omega
  · have h1 := shortS_le ⟨s.toArray⟩
    have h2 : (⟨s.toArray⟩ : ByteArray).size = s.length := by show s.toArray.size = _; simp
    omega
def tellS (m : Nat) (v : V) : ByteArray := nameV v.k ++ ⟨#[32, 40]⟩ ++ shortS ⟨(textV m v).toArray⟩ ++ ⟨#[41]⟩
theorem tellS_size (m : Nat) (v : V) : (tellS m v).size ≤ 1000 := by
  unfold tellS
  have h1 := name_size v.k
  have h2 := shortS_size (textV m v)
  rw [ByteArray.size_append, ByteArray.size_append, ByteArray.size_append]
  show (nameV v.k).size + 2 + (shortS ⟨(textV m v).toArray⟩).size + 1 ≤ 1000
  omega
set_option maxRecDepth 100000 in
set_option maxHeartbeats 2000000 in
theorem tellS_any (m : Nat) (v : V) (d : Nat) (lv kv : Value) (w : World) (hN : NumW w) (h : At w w.heap.size m v lv kv) (hr : rightV d v = true) (hlen : (textV m v).length ≤ 1000000000) (h0 : 0 ≤ v.k) (h6 : v.k ≤ 6) :
    Calls Tryz.prog 142 #[.agg (cellsV v lv kv)] w fun e w' => e = .returned (.string (tellS m v)) ∧ Below w.heap.size w w' := by
  have hsf := run_store_float Tryz.prog
  have hsh := fun W (hb : Below w.heap.size w W) => Short_any m v d lv kv W (hN.below hb) (At.more hb.size _ _ _ _ (h.below hb)) hr hlen
  obtain ⟨a1, n1, k1, a2, n2, k2, rfl, rfl⟩ := h.slices
  have hna := fun W => Name_any v a1 n1 k1 a2 n2 k2 h0 h6 W
  unfold cellsV at hsh hna ⊢
  unfold tellS
  obtain ⟨T, hT⟩ : ∃ T, shortS ⟨(textV m v).toArray⟩ = T := ⟨_, rfl⟩
  obtain ⟨N, hNm⟩ : ∃ N, nameV v.k = N := ⟨_, rfl⟩
  rw [hT] at hsh ⊢
  rw [hNm] at hna ⊢
  have hNs : N.size ≤ 7 := by rw [← hNm]; exact name_size _
  have hTs : T.size ≤ 100 := by rw [← hT]; exact shortS_size _
  have sm1 := fun W : World => run_string_add_sum (P := Tryz.prog) W N ⟨#[32, 40]⟩ (by show N.size + 2 ≤ _; omega)
  have sm2 := fun W : World => run_string_add_sum (P := Tryz.prog) W (N ++ ⟨#[32, 40]⟩) T (by rw [ByteArray.size_append]; show N.size + 2 + T.size ≤ _; omega)
  have sm3 := fun W : World => run_string_add_sum (P := Tryz.prog) W (N ++ ⟨#[32, 40]⟩ ++ T) ⟨#[41]⟩ (by rw [ByteArray.size_append, ByteArray.size_append]; show N.size + 2 + T.size + 1 ≤ _; omega)
  have HSH := Lib.hid hsh
  have HNA := Lib.hid hna
  clear hsh hna hT hNm h hN hr hlen h0 h6
  go_enter Tryz.func142, Tryz.ntmps142
  go_wp2_with fail
  have hr0 := heap_alloc_new w (Obj.cells #[.int .i64 v.k, .float .f64 v.f, .string v.s, .slice a1 n1 k1, .slice a2 n2 k2] 27)
  have hb0 := (Below.refl w.heap.size w).alloc (Nat.le_refl _) (Obj.cells #[.int .i64 v.k, .float .f64 v.f, .string v.s, .slice a1 n1 k1, .slice a2 n2 k2] 27)
  have hz0 : w.heap.size < (w.alloc (Obj.cells #[.int .i64 v.k, .float .f64 v.f, .string v.s, .slice a1 n1 k1, .slice a2 n2 k2] 27)).heap.size := by simp
  generalize w.alloc (Obj.cells #[.int .i64 v.k, .float .f64 v.f, .string v.s, .slice a1 n1 k1, .slice a2 n2 k2] 27) = W0 at hr0 hb0 hz0 ⊢
  obtain ⟨c0, c1, c2, c3, c4, _⟩ := row5' hr0
  have HR := Lib.hid hr0
  have HB := Lib.hid hb0.drew
  have HZ := Lib.hid hz0
  clear hr0 hb0 hz0
  go_region_with (first
    | (go_at_call 220; refine (HNA.out _).mono ?_; rintro e w2 ⟨rfl, hb2⟩; obtain ⟨x0, x1, x2, x3, x4, _⟩ := row5' ((hb2.block _ (by first | exact HZ.out | exact Nat.lt_of_lt_of_le HZ.out hb3.size)).trans (by first | exact HR.out | exact (hb3.block _ HZ.out).trans HR.out)))
    | (go_at_call 221; refine (HSH.out _ (by first | exact HB.out | exact HB.out.trans (hb2.mono HB.out.size))).mono ?_; rintro e w3 ⟨rfl, hb3⟩; obtain ⟨y0, y1, y2, y3, y4, _⟩ := row5' ((hb3.block _ (by first | exact HZ.out | exact Nat.lt_of_lt_of_le HZ.out hb2.size)).trans (by first | exact HR.out | exact (hb2.block _ HZ.out).trans HR.out))))
  all_goals
    go_wp2_with fail
    go_ret
    first
      | exact ⟨rfl, HB.out.trans ((hb2.mono HB.out.size).trans (hb3.mono (Nat.le_trans HB.out.size hb2.size)))⟩
      | exact ⟨rfl, HB.out.trans ((hb3.mono HB.out.size).trans (hb2.mono (Nat.le_trans HB.out.size hb3.size)))⟩
end Go.Proofs.YtpobdmkidopnnaaGreatDoor
namespace Go.Proofs.YtpobdmkidopnnaaGreatDoor
open Go Go.RowKit Go.Shelf

def strA (s : ByteArray) : Array Value := #[.int .i64 4, .float .f64 0, .string s, .slice none 0 0, .slice none 0 0]
theorem row2F {W : World} {b : Nat} {u0 u1 : Value} {t : TypeId} (h : W.heap[b]? = some (.cells #[u0, u1] t (0, 0))) : W.cell? ⟨b, 0, none⟩ = some u0 ∧ W.cell? ⟨b, 1, none⟩ = some u1 ∧ W.frozen? ⟨b, 0, none⟩ = false ∧ W.frozen? ⟨b, 1, none⟩ = false ∧ b < W.heap.size := by
  refine ⟨?_, ?_, ?_, ?_, (Array.getElem?_eq_some_iff.1 h).1⟩ <;> simp [World.cell?, World.frozen?, h]
theorem row2F_set {W : World} {b : Nat} {u0 u1 : Value} {t : TypeId} (h : W.heap[b]? = some (.cells #[u0, u1] t (0, 0))) (x : Value) : (W.setCell ⟨b, 0, none⟩ x).heap[b]? = some (.cells #[x, u1] t (0, 0)) ∧ (W.setCell ⟨b, 1, none⟩ x).heap[b]? = some (.cells #[u0, x] t (0, 0)) := by
  constructor <;> simp [World.setCell, Array.getElem?_modify, h]
set_option maxRecDepth 100000 in
set_option maxHeartbeats 4000000 in
theorem holds_str (s : ByteArray) (hs : s.size ≤ 1099511627776) (r : Nat) (w : World) (hr : w.heap[r]? = some (.cells #[.int .i64 65536, .int .i64 1048576] 166 (0, 0))) :
    Calls Tryz.prog 153 #[.pointer (some ⟨r, 0, none⟩), .agg (strA s), .int .i64 10000] w fun e w' => e = .returned (.bool (decide (s.size ≤ 1048576))) ∧ Below r w w' := by
  have hsf := run_store_float Tryz.prog
  obtain ⟨q0, q1, q2, q3, hlt⟩ := row2F hr
  have hz : (w.setCell ⟨r, 0, none⟩ (.int .i64 65535)).heap.size = w.heap.size := by simp [World.setCell]
  have hx := heap_alloc_new (w.setCell ⟨r, 0, none⟩ (.int .i64 65535)) (.cells (strA s) 27)
  rw [hz] at hx
  have hb := (Below.refl w.heap.size (w.setCell ⟨r, 0, none⟩ (.int .i64 65535))).alloc (by omega) (.cells (strA s) 27)
  have hr2 := (hb.block r hlt).trans (row2F_set hr (.int .i64 65535)).1
  have hb2 : Below r w ((w.setCell ⟨r, 0, none⟩ (.int .i64 65535)).alloc (.cells (strA s) 27)) := ((Below.refl r w).setCell (p := ⟨r, 0, none⟩) (Nat.le_refl _) _).trans (hb.mono (Nat.le_of_lt hlt))
  have HR := Lib.hid hr2
  have HX := Lib.hid hx
  have HB := Lib.hid hb2
  clear hr hx hb hr2 hb2 hz
  unfold strA at HX HB HR ⊢
  obtain ⟨B, hB⟩ : ∃ B, decide (s.size ≤ 1048576) = B := ⟨_, rfl⟩
  rw [hB]
  have HBB := Lib.hid hB
  clear hB
  go_enter Tryz.func153, Tryz.ntmps153
  go_upto_region 2 with fail
  generalize (w.setCell ⟨r, 0, none⟩ (.int .i64 65535)).alloc (.cells #[.int .i64 4, .float .f64 0, .string s, .slice none 0 0, .slice none 0 0] 27) = W2 at HR HX HB ⊢
  clear q0 q1 q2 q3
  obtain ⟨c0, c1, c2, c3, c4, _⟩ := row5' HX.out
  obtain ⟨d0, d1, d2, d3, _⟩ := row2F HR.out
  go_still_tail 8, (by kernel_rfl)
  change wpList _ _ _ _ _ W2.drew
  have HXd := Lib.hid (show W2.drew.heap[w.heap.size]? = _ from HX.out)
  have HRd := Lib.hid (show W2.drew.heap[r]? = _ from HR.out)
  have HBd := Lib.hid (HB.out.drew)
  generalize W2.drew = W3 at HXd HRd HBd ⊢
  clear c0 c1 c2 c3 c4 d0 d1 d2 d3 HX HR HB
  obtain ⟨c0, c1, c2, c3, c4, _⟩ := row5' HXd.out
  obtain ⟨d0, d1, d2, d3, hlt3⟩ := row2F HRd.out
  have hr4 := (row2F_set HRd.out (.int .i64 (1048576 - (s.size : Int)))).2
  have hx4 : (W3.setCell ⟨r, 1, none⟩ (.int .i64 (1048576 - (s.size : Int)))).heap[w.heap.size]? = some (.cells #[.int .i64 4, .float .f64 0, .string s, .slice none 0 0, .slice none 0 0] 27 (0, 0)) := (setCell_other_block _ (by omega)).trans HXd.out
  have hb4 : Below r w (W3.setCell ⟨r, 1, none⟩ (.int .i64 (1048576 - (s.size : Int)))) := HBd.out.setCell (p := ⟨r, 1, none⟩) (Nat.le_refl _) _
  have HR4 := Lib.hid hr4
  have HX4 := Lib.hid hx4
  have HB4 := Lib.hid hb4
  clear hr4 hx4 hb4
  go_upto_region 3 with fail
  generalize W3.setCell ⟨r, 1, none⟩ (.int .i64 (1048576 - (s.size : Int))) = W4 at HR4 HX4 HB4 ⊢
  clear c0 c1 c2 c3 c4 d0 d1 d2 d3 HXd HRd HBd
  obtain ⟨c0, c1, c2, c3, c4, _⟩ := row5' HX4.out
  obtain ⟨d0, d1, d2, d3, hlt4⟩ := row2F HR4.out
  go_wp2_with fail
  refine wp_loop_rounds 1 ?_
  rw [rounds_succ]
  by_cases hle : s.size ≤ 1048576
  · have h0 : decide ((1048576 : Int) - (s.size : Int) < 0) = false := decide_eq_false (by omega)
    obtain rfl : true = B := by rw [← HBB.out]; exact (decide_eq_true hle).symm
    clear hle
    go_wp2_with fail
    refine wp_loop_rounds 1 ?_
    rw [rounds_succ]
    go_wp2_with fail
    go_ret
    exact ⟨rfl, HB4.out⟩
  · have h0 : decide ((1048576 : Int) - (s.size : Int) < 0) = true := decide_eq_true (by omega)
    obtain rfl : false = B := by rw [← HBB.out]; exact (decide_eq_false hle).symm
    clear hle
    go_wp2_with fail
    go_ret
    exact ⟨rfl, HB4.out⟩
theorem row6F {W : World} {b : Nat} {u0 u1 u2 u3 u4 u5 : Value} {t : TypeId} (h : W.heap[b]? = some (.cells #[u0, u1, u2, u3, u4, u5] t (0, 0))) : W.cell? ⟨b, 0, none⟩ = some u0 ∧ W.cell? ⟨b, 1, none⟩ = some u1 ∧ W.cell? ⟨b, 2, none⟩ = some u2 ∧ W.cell? ⟨b, 3, none⟩ = some u3 ∧ W.cell? ⟨b, 4, none⟩ = some u4 ∧ W.cell? ⟨b, 5, none⟩ = some u5 := by
  refine ⟨?_, ?_, ?_, ?_, ?_, ?_⟩ <;> simp [World.cell?, h]
theorem ice6F {W : World} {b : Nat} {u0 u1 u2 u3 u4 u5 : Value} {t : TypeId} (h : W.heap[b]? = some (.cells #[u0, u1, u2, u3, u4, u5] t (0, 0))) : W.frozen? ⟨b, 0, none⟩ = false ∧ W.frozen? ⟨b, 1, none⟩ = false ∧ W.frozen? ⟨b, 2, none⟩ = false ∧ W.frozen? ⟨b, 3, none⟩ = false ∧ W.frozen? ⟨b, 4, none⟩ = false ∧ W.frozen? ⟨b, 5, none⟩ = false := by
  refine ⟨?_, ?_, ?_, ?_, ?_, ?_⟩ <;> simp [World.frozen?, h]
theorem ice5F {W : World} {b : Nat} {u0 u1 u2 u3 u4 : Value} {t : TypeId} (h : W.heap[b]? = some (.cells #[u0, u1, u2, u3, u4] t (0, 0))) : W.frozen? ⟨b, 0, none⟩ = false ∧ W.frozen? ⟨b, 1, none⟩ = false ∧ W.frozen? ⟨b, 2, none⟩ = false ∧ W.frozen? ⟨b, 3, none⟩ = false ∧ W.frozen? ⟨b, 4, none⟩ = false := by
  refine ⟨?_, ?_, ?_, ?_, ?_⟩ <;> simp [World.frozen?, h]
theorem results_tmp_row {P : Program} {fn : Func} {p q : Tmp} {ty : TypeId} (h : fn.results = #[.tmp q, .cell p ty]) (tmps : Array Value) (w : World) (g1 : Nat) (t1 : TypeId) (cs1 : Array Value) (fr1 : Nat × Nat) (d1 : TypeDesc) (x : Value)
    (hp : tmps.getD p undef = .pointer (some ⟨g1, 0, none⟩)) (hq : tmps.getD q undef = x) (hg1 : w.heap[g1]? = some (.cells cs1 t1 fr1))
    (hu1 : P.underlying ty = some d1) (hd1 : (match d1 with | .struct _ | .array _ _ => true | _ => false) = true) (hi1 : (P.info? ty).map (·.size) = some cs1.size) :
    (results fn tmps).run P w = .ok (.tuple #[x, .agg cs1]) w := by
  have hp' : tmps[p]?.getD undef = .pointer (some ⟨g1, 0, none⟩) := by simpa using hp
  have hq' : tmps[q]?.getD undef = x := by simpa using hq
  simp [results, h, hp', hq', asAddr, run_loadVar_row w g1 t1 ty cs1 fr1 d1 hg1 hu1 hd1 hi1]
set_option maxRecDepth 100000 in
set_option maxHeartbeats 2000000 in
theorem Failure_any (s : ByteArray) (w : World) : Calls Tryz.prog 106 #[.string s] w fun e w' => e = .returned (.agg (errA s)) ∧ Below w.heap.size w w' := by
  have hsf := run_store_float Tryz.prog
  go_enter Tryz.func106, Tryz.ntmps106
  go_wp2_with fail
  refine bodyPost_ret_by (results_cell_row rfl _ _ w.heap.size 32 _ (0, 0) _ rfl (heap_alloc_new w _) Tryz.underlying32 rfl infoErr) rfl ?_
  exact ⟨rfl, (Below.refl w.heap.size w).alloc (Nat.le_refl _) _⟩
def largeT : ByteArray := ⟨#[118, 97, 108, 117, 101, 32, 105, 115, 32, 116, 111, 111, 32, 108, 97, 114, 103, 101]⟩
set_option maxRecDepth 100000 in
set_option maxHeartbeats 2000000 in
theorem TooLarge_any (w : World) : Calls Tryz.prog 90 #[] w fun e w' => e = .returned (.agg (errA largeT)) ∧ Below w.heap.size w w' := by
  have hsf := run_store_float Tryz.prog
  have HF := Lib.hid (fun w => Failure_any largeT w)
  have hx := heap_alloc_new w (.cells okA 32)
  have hb := (Below.refl w.heap.size w).alloc (Nat.le_refl _) (.cells okA 32)
  have HX := Lib.hid hx
  have HB := Lib.hid hb
  clear hx hb
  unfold largeT errA at HF
  unfold okA at HX HB
  go_enter Tryz.func90, Tryz.ntmps90
  go_wp2_with fail
  refine (HF.out _).mono ?_
  rintro e w1 ⟨rfl, hb⟩
  have HX1 := Lib.hid ((hb.block w.heap.size (by simp)).trans HX.out)
  have HB1 := Lib.hid (HB.out.trans (hb.mono (by simp)))
  clear hb
  obtain ⟨c0, c1, c2, c3, c4, c5⟩ := row6F HX1.out
  obtain ⟨v0, v1, v2, v3, v4, v5⟩ := ice6F HX1.out
  go_wp2_with fail
  refine bodyPost_ret_by (results_cell_row rfl _ _ w.heap.size 32 _ (0, 0) _ rfl (set6_row HX1.out ..) Tryz.underlying32 rfl infoErr) rfl ?_
  exact ⟨rfl, set6_below HB1.out (Nat.le_refl _) ..⟩
set_option maxRecDepth 100000 in
set_option maxHeartbeats 2000000 in
theorem failedF_any (s : ByteArray) (w : World) : Calls Tryz.prog 88 #[.string s] w fun e w' => e = .returned (.tuple #[.string ⟨#[]⟩, .agg (errA s)]) ∧ Below w.heap.size w w' := by
  have hsf := run_store_float Tryz.prog
  have HF := Lib.hid (fun w => Failure_any s w)
  have hx := heap_alloc_new w (.cells okA 32)
  have hb := (Below.refl w.heap.size w).alloc (Nat.le_refl _) (.cells okA 32)
  have HX := Lib.hid hx
  have HB := Lib.hid hb
  clear hx hb
  unfold errA at HF
  unfold okA at HX HB
  go_enter Tryz.func88, Tryz.ntmps88
  go_wp2_with fail
  refine (HF.out _).mono ?_
  rintro e w1 ⟨rfl, hb⟩
  have HX1 := Lib.hid ((hb.block w.heap.size (by simp)).trans HX.out)
  have HB1 := Lib.hid (HB.out.trans (hb.mono (by simp)))
  clear hb
  obtain ⟨c0, c1, c2, c3, c4, c5⟩ := row6F HX1.out
  obtain ⟨v0, v1, v2, v3, v4, v5⟩ := ice6F HX1.out
  go_wp2_with fail
  refine bodyPost_ret_by (results_tmp_row rfl _ _ w.heap.size 32 _ (0, 0) _ (.string ⟨#[]⟩) rfl rfl (set6_row HX1.out ..) Tryz.underlying32 rfl infoErr) rfl ?_
  exact ⟨rfl, set6_below HB1.out (Nat.le_refl _) ..⟩
set_option maxRecDepth 100000 in
set_option maxHeartbeats 2000000 in
theorem Large_str (s : ByteArray) (hs : s.size ≤ 1099511627776) (w : World) : Calls Tryz.prog 89 #[.agg (strA s)] w fun e w' => e = .returned (.bool (decide (1048576 < s.size))) ∧ Below w.heap.size w w' := by
  have hsf := run_store_float Tryz.prog
  have hb1 : Below w.heap.size w ((w.alloc (.cells (strA s) 27)).alloc (.cells #[.int .i64 65536, .int .i64 1048576] 166)) := ((Below.refl w.heap.size w).alloc (Nat.le_refl _) _).alloc (by simp) _
  have hx := heap_alloc_new (w.alloc (.cells (strA s) 27)) (.cells #[.int .i64 65536, .int .i64 1048576] 166)
  rw [World.size_alloc] at hx
  have hh := holds_str s hs (w.heap.size + 1) _ hx
  have hnb : decide (1048576 < s.size) = !decide (s.size ≤ 1048576) := by
    by_cases h : s.size ≤ 1048576
    · rw [decide_eq_true h, decide_eq_false (by omega)]; rfl
    · rw [decide_eq_false h, decide_eq_true (by omega)]; rfl
  rw [hnb]
  obtain ⟨B, hB⟩ : ∃ B, decide (s.size ≤ 1048576) = B := ⟨_, rfl⟩
  rw [hB] at hh ⊢
  have HH := Lib.hid hh
  have HB := Lib.hid hb1
  clear hh hx hb1 hnb hB
  unfold strA at HH HB ⊢
  go_enter Tryz.func89, Tryz.ntmps89
  go_wp2_with fail
  refine HH.out.mono ?_
  rintro e w1 ⟨rfl, hb⟩
  have HB2 := Lib.hid (HB.out.trans (hb.mono (by omega)))
  clear hb
  go_wp2_with fail
  go_ret
  exact ⟨rfl, HB2.out⟩
/-- What Small answers of a string. -/
def smallS (s : ByteArray) : Value := if s.size ≤ 1048576 then .tuple #[.agg (strA s), .agg okA] else .tuple #[.agg zeroA, .agg (errA largeT)]
set_option maxRecDepth 100000 in
set_option maxHeartbeats 4000000 in
theorem Small_str (s : ByteArray) (hs : s.size ≤ 1099511627776) (w : World) : Calls Tryz.prog 41 #[.agg (strA s)] w fun e w' => e = .returned (smallS s) ∧ Below w.heap.size w w' := by
  have hsf := run_store_float Tryz.prog
  have HL := Lib.hid (fun w => Large_str s hs w)
  have HT := Lib.hid (fun w => TooLarge_any w)
  have hb3 : Below w.heap.size w (((w.alloc (.cells (strA s) 27)).alloc (.cells zeroA 27)).alloc (.cells okA 32)) := (((Below.refl w.heap.size w).alloc (Nat.le_refl _) _).alloc (by simp) _).alloc (by simp; omega) _
  have hr0 := row_alloc3 (row_alloc3 (heap_alloc_new w (.cells (strA s) 27)) (.cells zeroA 27)) (.cells okA 32)
  have hr1 := heap_alloc_new (w.alloc (.cells (strA s) 27)) (.cells zeroA 27)
  have hr2 := heap_alloc_new ((w.alloc (.cells (strA s) 27)).alloc (.cells zeroA 27)) (.cells okA 32)
  have hr1' := row_alloc3 hr1 (.cells okA 32)
  rw [World.size_alloc] at hr1'
  rw [World.size_alloc, World.size_alloc] at hr2
  have H0 := Lib.hid hr0
  have H1 := Lib.hid hr1'
  have H2 := Lib.hid hr2
  have HB := Lib.hid hb3
  clear hb3 hr0 hr1 hr1' hr2
  unfold strA zeroA okA at H0 H1 H2 HB
  unfold strA at HL ⊢
  unfold errA largeT at HT
  go_enter Tryz.func41, Tryz.ntmps41
  go_upto_region 1 with fail
  generalize ((w.alloc (.cells #[.int .i64 4, .float .f64 0, .string s, .slice none 0 0, .slice none 0 0] 27)).alloc (.cells #[.int .i64 0, .float .f64 0, .string ⟨#[]⟩, .slice none 0 0, .slice none 0 0] 27)).alloc (.cells #[.bool false, .int .i64 0, .float .f64 0, .string ⟨#[]⟩, .slice none 0 0, .slice none 0 0] 32) = W at H0 H1 H2 HB ⊢
  obtain ⟨c0, c1, c2, c3, c4, _⟩ := row5' H0.out
  have hlt := (Array.getElem?_eq_some_iff.1 H2.out).1
  go_wp2_with fail
  refine (HL.out _).mono ?_
  rintro e w1 ⟨rfl, hb⟩
  have K0 := Lib.hid ((hb.block _ (by omega)).trans H0.out)
  have K1 := Lib.hid ((hb.block _ (by omega)).trans H1.out)
  have K2 := Lib.hid ((hb.block _ hlt).trans H2.out)
  have HB1 := Lib.hid (HB.out.trans (hb.mono HB.out.size))
  clear hb c0 c1 c2 c3 c4 H0 H1 H2 HB hlt
  by_cases hle : s.size ≤ 1048576
  · have h0 : decide (1048576 < s.size) = false := decide_eq_false (by omega)
    have HS := Lib.hid (show smallS s = _ from if_pos hle)
    obtain ⟨c0, c1, c2, c3, c4, _⟩ := row5' K0.out
    obtain ⟨d0, d1, d2, d3, d4, _⟩ := row5' K1.out
    obtain ⟨v0, v1, v2, v3, v4⟩ := ice5F K1.out
    obtain ⟨e0, e1, e2, e3, e4, e5⟩ := row6F K2.out
    obtain ⟨u0, u1, u2, u3, u4, u5⟩ := ice6F K2.out
    clear hle
    go_wp2_with fail
    rw [HS.out]
    refine bodyPost_ret_by (results_two_rows rfl _ _ (w.heap.size + 1) (w.heap.size + 1 + 1) 27 32 (strA s) okA (0, 0) (0, 0) _ _ rfl rfl ((set6_other (by omega) ..).trans (set5_row K1.out ..)) (set6_row ((set5_other (by omega) ..).trans K2.out) ..) Tryz.underlying27 rfl sizeVal Tryz.underlying32 rfl infoErr) rfl ?_
    exact ⟨rfl, set6_below (set5_below0 HB1.out (by omega) ..) (by omega) ..⟩
  · have h0 : decide (1048576 < s.size) = true := decide_eq_true (by omega)
    have HS := Lib.hid (show smallS s = _ from if_neg hle)
    clear hle
    go_wp2_with fail
    refine (HT.out _).mono ?_
    rintro e w2 ⟨rfl, hb⟩
    have hlt1 := (Array.getElem?_eq_some_iff.1 K2.out).1
    have M1 := Lib.hid ((hb.block _ (by omega)).trans K1.out)
    have M2 := Lib.hid ((hb.block _ hlt1).trans K2.out)
    have HB2 := Lib.hid (HB1.out.trans (hb.mono HB1.out.size))
    clear hb hlt1
    obtain ⟨d0, d1, d2, d3, d4, _⟩ := row5' M1.out
    obtain ⟨v0, v1, v2, v3, v4⟩ := ice5F M1.out
    obtain ⟨e0, e1, e2, e3, e4, e5⟩ := row6F M2.out
    obtain ⟨u0, u1, u2, u3, u4, u5⟩ := ice6F M2.out
    go_wp2_with fail
    rw [HS.out]
    refine bodyPost_ret_by (results_two_rows rfl _ _ (w.heap.size + 1) (w.heap.size + 1 + 1) 27 32 zeroA (errA largeT) (0, 0) (0, 0) _ _ rfl rfl ((set6_other (by omega) ..).trans (set5_row M1.out ..)) (set6_row ((set5_other (by omega) ..).trans M2.out) ..) Tryz.underlying27 rfl sizeVal Tryz.underlying32 rfl infoErr) rfl ?_
    exact ⟨rfl, set6_below (set5_below0 HB2.out (by omega) ..) (by omega) ..⟩
end Go.Proofs.YtpobdmkidopnnaaGreatDoor
