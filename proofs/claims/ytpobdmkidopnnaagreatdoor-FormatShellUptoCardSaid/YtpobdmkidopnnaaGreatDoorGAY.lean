/- The heads, walked. -/
import Derived.Test.YtpobdmkidopnnaaGreatDoorGAX
import Derived.Test.YtpobdmkidopnnaaGreatDoorGAR
import Derived.Test.YtpobdmkidopnnaaGreatDoorGAQ
namespace Go.Proofs.YtpobdmkidopnnaaGreatDoor
open Go Go.RowKit Go.Shelf

theorem HW.cellAt {w W : World} {l : List (Nat × Array Value × TypeId)} (h : HW w W l) (n : Nat) (c : Array Value) (t : TypeId) (j : Nat) (u : Value) (hx : (n, c, t) ∈ l) (hu : c[j]? = some u) : W.cell? ⟨n, j, none⟩ = some u := by
  simp only [World.cell?, h.rows _ hx]
  exact hu
theorem cell_two {W : World} {a : Addr} {u : Value} {o1 o2 : Obj} (h : W.cell? a = some u) : ((W.alloc o1).alloc o2).cell? a = some u := by
  have hb := ((Below.refl W.heap.size W).alloc (Nat.le_refl _) o1).alloc (by simp) o2
  exact (hb.cell (World.block_lt_of_cell? _ _ h)).trans h
set_option maxRecDepth 100000 in
set_option maxHeartbeats 8000000 in
theorem headsF_true (w : World) (hN : NumW w) : Calls Tryz.prog 10 #[] w fun e w' => e = .returned (.bool true) ∧ Below w.heap.size w w' := by
  have hsf := run_store_float Tryz.prog
  have HN := Lib.hid (fun W (hW : Below w.heap.size w W) => hN.below hW)
  have C1 := Lib.hid h_csv
  have C2 := Lib.hid h_sh
  have C3 := Lib.hid h_b64
  have C4 := Lib.hid h_b64d
  have C5 := Lib.hid h_uri
  have C6 := Lib.hid h_one
  have C7 := Lib.hid (fun W g => F_x #[.int .i64 5, .float .f64 0, .string ⟨#[]⟩, .slice (some ⟨g, 0, none⟩) 4 4, .slice none 0 0] 5 0 ⟨#[]⟩ (some ⟨g, 0, none⟩) none 4 4 0 0 rfl W)
  unfold strA okA csvT at C1
  unfold strA okA at C2 C3 C4 C5
  unfold zeroA errA at C7
  clear hN
  go_enter Tryz.func10, Tryz.ntmps10
  go_wp2_with fail
  refine (Num_any _ _).mono ?_
  rintro e w1 ⟨rfl, hb⟩
  have H1 := Lib.hid ((HW.start w).below hb)
  clear hb
  go_wp2_with fail
  refine (Str_any _ _).mono ?_
  rintro e w2 ⟨rfl, hb⟩
  have H2 := Lib.hid (H1.out.below hb)
  clear hb H1
  go_wp2_with fail
  refine (Bool_true _).mono ?_
  rintro e w3 ⟨rfl, hb⟩
  have H3 := Lib.hid (H2.out.below hb)
  clear hb H2
  go_wp2_with fail
  have h4 := H3.out.one rowA 27
  unfold rowA at h4
  obtain ⟨g, hg⟩ : ∃ g, w3.heap.size = g := ⟨_, rfl⟩
  rw [hg] at h4 ⊢
  have H4 := Lib.hid h4
  clear h4 H3 hg
  refine (Arr_anyF _ _ _ _).mono ?_
  rintro e w5 ⟨rfl, hb⟩
  have h5 := (H4.out.below hb).one #[.int .i64 5, .float .f64 0, .string ⟨#[]⟩, .slice (some ⟨g, 0, none⟩) 4 4, .slice none 0 0] 27
  clear hb H4
  go_upto_region 2 with fail
  obtain ⟨n1, hn1⟩ : ∃ n, w5.heap.size = n := ⟨_, rfl⟩
  rw [hn1] at h5 ⊢
  generalize w5.alloc (.cells #[.int .i64 5, .float .f64 0, .string ⟨#[]⟩, .slice (some ⟨g, 0, none⟩) 4 4, .slice none 0 0] 27) = W1 at h5 ⊢
  have H5 := Lib.hid h5
  clear h5 hn1
  have c0 := H5.out.cellAt n1 _ 27 0 (.int .i64 5) (.head _) rfl
  have c1 := H5.out.cellAt n1 _ 27 1 (.float .f64 0) (.head _) rfl
  have c2 := H5.out.cellAt n1 _ 27 2 (.string ⟨#[]⟩) (.head _) rfl
  have c3 := H5.out.cellAt n1 _ 27 3 (.slice (some ⟨g, 0, none⟩) 4 4) (.head _) rfl
  have c4 := H5.out.cellAt n1 _ 27 4 (.slice none 0 0) (.head _) rfl
  go_wp2_with fail
  refine (C1.out _ (HN.out _ H5.out.bel) g _ (H5.out.rows _ (.tail _ (.head _)))).mono ?_
  rintro e v5 ⟨rfl, hb⟩
  have hx := (H5.out.below hb).two #[.int .i64 4, .float .f64 0, .string ⟨#[49, 44, 34, 97, 34, 34, 98, 34, 44, 44, 116, 114, 117, 101]⟩, .slice none 0 0, .slice none 0 0] #[.bool false, .int .i64 0, .float .f64 0, .string ⟨#[]⟩, .slice none 0 0, .slice none 0 0] 27 32
  clear hb H5 c0 c1 c2 c3 c4
  go_upto_region 3 with fail
  obtain ⟨m5, hm⟩ : ∃ n, v5.heap.size = n := ⟨_, rfl⟩
  rw [hm] at hx ⊢
  generalize (v5.alloc (.cells #[.int .i64 4, .float .f64 0, .string ⟨#[49, 44, 34, 97, 34, 34, 98, 34, 44, 44, 116, 114, 117, 101]⟩, .slice none 0 0, .slice none 0 0] 27)).alloc (.cells #[.bool false, .int .i64 0, .float .f64 0, .string ⟨#[]⟩, .slice none 0 0, .slice none 0 0] 32) = W2 at hx ⊢
  have H6 := Lib.hid hx
  clear hx hm
  go_wp2_with fail
  refine (Str_any _ _).mono ?_
  rintro e u6 ⟨rfl, hb⟩
  have hy := H6.out.below hb
  clear hb H6
  have H6 := Lib.hid hy
  clear hy
  go_wp2_with fail
  refine (C2.out _ (HN.out _ H6.out.bel)).mono ?_
  rintro e v6 ⟨rfl, hb⟩
  have hx := (H6.out.below hb).two #[.int .i64 4, .float .f64 0, .string ⟨#[39, 105, 116, 39, 92, 39, 39, 115, 39]⟩, .slice none 0 0, .slice none 0 0] #[.bool false, .int .i64 0, .float .f64 0, .string ⟨#[]⟩, .slice none 0 0, .slice none 0 0] 27 32
  clear hb H6
  go_upto_region 4 with fail
  obtain ⟨m6, hm⟩ : ∃ n, v6.heap.size = n := ⟨_, rfl⟩
  rw [hm] at hx ⊢
  generalize (v6.alloc (.cells #[.int .i64 4, .float .f64 0, .string ⟨#[39, 105, 116, 39, 92, 39, 39, 115, 39]⟩, .slice none 0 0, .slice none 0 0] 27)).alloc (.cells #[.bool false, .int .i64 0, .float .f64 0, .string ⟨#[]⟩, .slice none 0 0, .slice none 0 0] 32) = W3 at hx ⊢
  have H7 := Lib.hid hx
  clear hx hm
  go_wp2_with fail
  refine (Str_any _ _).mono ?_
  rintro e u7 ⟨rfl, hb⟩
  have hy := H7.out.below hb
  clear hb H7
  have H7 := Lib.hid hy
  clear hy
  go_wp2_with fail
  refine (C3.out _ (HN.out _ H7.out.bel)).mono ?_
  rintro e v7 ⟨rfl, hb⟩
  have hx := (H7.out.below hb).two #[.int .i64 4, .float .f64 0, .string ⟨#[97, 71, 107, 61]⟩, .slice none 0 0, .slice none 0 0] #[.bool false, .int .i64 0, .float .f64 0, .string ⟨#[]⟩, .slice none 0 0, .slice none 0 0] 27 32
  clear hb H7
  go_upto_region 5 with fail
  obtain ⟨m7, hm⟩ : ∃ n, v7.heap.size = n := ⟨_, rfl⟩
  rw [hm] at hx ⊢
  generalize (v7.alloc (.cells #[.int .i64 4, .float .f64 0, .string ⟨#[97, 71, 107, 61]⟩, .slice none 0 0, .slice none 0 0] 27)).alloc (.cells #[.bool false, .int .i64 0, .float .f64 0, .string ⟨#[]⟩, .slice none 0 0, .slice none 0 0] 32) = W4 at hx ⊢
  have H8 := Lib.hid hx
  clear hx hm
  have c0 := H8.out.cellAt m7 _ 27 0 (.int .i64 4) (.tail _ (.head _)) rfl
  have c1 := H8.out.cellAt m7 _ 27 1 (.float .f64 0) (.tail _ (.head _)) rfl
  have c2 := H8.out.cellAt m7 _ 27 2 (.string ⟨#[97, 71, 107, 61]⟩) (.tail _ (.head _)) rfl
  have c3 := H8.out.cellAt m7 _ 27 3 (.slice none 0 0) (.tail _ (.head _)) rfl
  have c4 := H8.out.cellAt m7 _ 27 4 (.slice none 0 0) (.tail _ (.head _)) rfl
  go_wp2_with fail
  refine (C4.out _ (HN.out _ H8.out.bel)).mono ?_
  rintro e v8 ⟨rfl, hb⟩
  have hx := (H8.out.below hb).two #[.int .i64 4, .float .f64 0, .string ⟨#[104, 105]⟩, .slice none 0 0, .slice none 0 0] #[.bool false, .int .i64 0, .float .f64 0, .string ⟨#[]⟩, .slice none 0 0, .slice none 0 0] 27 32
  clear hb H8 c0 c1 c2 c3 c4
  go_upto_region 6 with fail
  obtain ⟨m8, hm⟩ : ∃ n, v8.heap.size = n := ⟨_, rfl⟩
  rw [hm] at hx ⊢
  generalize (v8.alloc (.cells #[.int .i64 4, .float .f64 0, .string ⟨#[104, 105]⟩, .slice none 0 0, .slice none 0 0] 27)).alloc (.cells #[.bool false, .int .i64 0, .float .f64 0, .string ⟨#[]⟩, .slice none 0 0, .slice none 0 0] 32) = W5 at hx ⊢
  have H9 := Lib.hid hx
  clear hx hm
  have c0 := H9.out.cellAt n1 _ 27 0 (.int .i64 5) (.tail _ (.tail _ (.tail _ (.tail _ (.tail _ (.tail _ (.tail _ (.tail _ (.head _))))))))) rfl
  have c1 := H9.out.cellAt n1 _ 27 1 (.float .f64 0) (.tail _ (.tail _ (.tail _ (.tail _ (.tail _ (.tail _ (.tail _ (.tail _ (.head _))))))))) rfl
  have c2 := H9.out.cellAt n1 _ 27 2 (.string ⟨#[]⟩) (.tail _ (.tail _ (.tail _ (.tail _ (.tail _ (.tail _ (.tail _ (.tail _ (.head _))))))))) rfl
  have c3 := H9.out.cellAt n1 _ 27 3 (.slice (some ⟨g, 0, none⟩) 4 4) (.tail _ (.tail _ (.tail _ (.tail _ (.tail _ (.tail _ (.tail _ (.tail _ (.head _))))))))) rfl
  have c4 := H9.out.cellAt n1 _ 27 4 (.slice none 0 0) (.tail _ (.tail _ (.tail _ (.tail _ (.tail _ (.tail _ (.tail _ (.tail _ (.head _))))))))) rfl
  go_wp2_with fail
  refine (C7.out _ g).mono ?_
  rintro e v9 ⟨rfl, hb⟩
  have hx := (H9.out.below hb).two #[.int .i64 0, .float .f64 0, .string ⟨#[]⟩, .slice none 0 0, .slice none 0 0] #[.bool true, .int .i64 4, .float .f64 0, .string ⟨#[120, 32, 105, 115, 32, 110, 111, 116, 32, 97, 32, 118, 97, 108, 105, 100, 32, 102, 111, 114, 109, 97, 116]⟩, .slice none 0 0, .slice none 0 0] 27 32
  clear hb H9 c0 c1 c2 c3 c4
  go_upto_region 7 with fail
  obtain ⟨m9, hm⟩ : ∃ n, v9.heap.size = n := ⟨_, rfl⟩
  rw [hm] at hx ⊢
  generalize (v9.alloc (.cells #[.int .i64 0, .float .f64 0, .string ⟨#[]⟩, .slice none 0 0, .slice none 0 0] 27)).alloc (.cells #[.bool true, .int .i64 4, .float .f64 0, .string ⟨#[120, 32, 105, 115, 32, 110, 111, 116, 32, 97, 32, 118, 97, 108, 105, 100, 32, 102, 111, 114, 109, 97, 116]⟩, .slice none 0 0, .slice none 0 0] 32) = W6 at hx ⊢
  have H10 := Lib.hid hx
  clear hx hm
  go_wp2_with fail
  refine (Str_any _ _).mono ?_
  rintro e u10 ⟨rfl, hb⟩
  have hy := H10.out.below hb
  clear hb H10
  have H10 := Lib.hid hy
  clear hy
  go_wp2_with fail
  refine (C5.out _ (HN.out _ H10.out.bel)).mono ?_
  rintro e v10 ⟨rfl, hb⟩
  have hx := H10.out.below hb
  clear hb H10
  have k0 := hx.cellAt (m5+1) #[.bool false, .int .i64 0, .float .f64 0, .string ⟨#[]⟩, .slice none 0 0, .slice none 0 0] 32 0 (.bool false) (.tail _ (.tail _ (.tail _ (.tail _ (.tail _ (.tail _ (.tail _ (.tail _ (.head _))))))))) rfl
  have k1 := hx.cellAt (m5) #[.int .i64 4, .float .f64 0, .string ⟨#[49, 44, 34, 97, 34, 34, 98, 34, 44, 44, 116, 114, 117, 101]⟩, .slice none 0 0, .slice none 0 0] 27 2 (.string ⟨#[49, 44, 34, 97, 34, 34, 98, 34, 44, 44, 116, 114, 117, 101]⟩) (.tail _ (.tail _ (.tail _ (.tail _ (.tail _ (.tail _ (.tail _ (.tail _ (.tail _ (.head _)))))))))) rfl
  have k2 := hx.cellAt (m6+1) #[.bool false, .int .i64 0, .float .f64 0, .string ⟨#[]⟩, .slice none 0 0, .slice none 0 0] 32 0 (.bool false) (.tail _ (.tail _ (.tail _ (.tail _ (.tail _ (.tail _ (.head _))))))) rfl
  have k3 := hx.cellAt (m6) #[.int .i64 4, .float .f64 0, .string ⟨#[39, 105, 116, 39, 92, 39, 39, 115, 39]⟩, .slice none 0 0, .slice none 0 0] 27 2 (.string ⟨#[39, 105, 116, 39, 92, 39, 39, 115, 39]⟩) (.tail _ (.tail _ (.tail _ (.tail _ (.tail _ (.tail _ (.tail _ (.head _)))))))) rfl
  have k4 := hx.cellAt (m7+1) #[.bool false, .int .i64 0, .float .f64 0, .string ⟨#[]⟩, .slice none 0 0, .slice none 0 0] 32 0 (.bool false) (.tail _ (.tail _ (.tail _ (.tail _ (.head _))))) rfl
  have k5 := hx.cellAt (m7) #[.int .i64 4, .float .f64 0, .string ⟨#[97, 71, 107, 61]⟩, .slice none 0 0, .slice none 0 0] 27 2 (.string ⟨#[97, 71, 107, 61]⟩) (.tail _ (.tail _ (.tail _ (.tail _ (.tail _ (.head _)))))) rfl
  have k6 := hx.cellAt (m8+1) #[.bool false, .int .i64 0, .float .f64 0, .string ⟨#[]⟩, .slice none 0 0, .slice none 0 0] 32 0 (.bool false) (.tail _ (.tail _ (.head _))) rfl
  have k7 := hx.cellAt (m8) #[.int .i64 4, .float .f64 0, .string ⟨#[104, 105]⟩, .slice none 0 0, .slice none 0 0] 27 2 (.string ⟨#[104, 105]⟩) (.tail _ (.tail _ (.tail _ (.head _)))) rfl
  have k8 := hx.cellAt (m9+1) #[.bool true, .int .i64 4, .float .f64 0, .string ⟨#[120, 32, 105, 115, 32, 110, 111, 116, 32, 97, 32, 118, 97, 108, 105, 100, 32, 102, 111, 114, 109, 97, 116]⟩, .slice none 0 0, .slice none 0 0] 32 0 (.bool true) (.head _) rfl
  have k9 := hx.cellAt (m9+1) #[.bool true, .int .i64 4, .float .f64 0, .string ⟨#[120, 32, 105, 115, 32, 110, 111, 116, 32, 97, 32, 118, 97, 108, 105, 100, 32, 102, 111, 114, 109, 97, 116]⟩, .slice none 0 0, .slice none 0 0] 32 3 (.string ⟨#[120, 32, 105, 115, 32, 110, 111, 116, 32, 97, 32, 118, 97, 108, 105, 100, 32, 102, 111, 114, 109, 97, 116]⟩) (.head _) rfl
  have l0 := fun o1 o2 => cell_two (o1 := o1) (o2 := o2) k0
  clear k0
  have l1 := fun o1 o2 => cell_two (o1 := o1) (o2 := o2) k1
  clear k1
  have l2 := fun o1 o2 => cell_two (o1 := o1) (o2 := o2) k2
  clear k2
  have l3 := fun o1 o2 => cell_two (o1 := o1) (o2 := o2) k3
  clear k3
  have l4 := fun o1 o2 => cell_two (o1 := o1) (o2 := o2) k4
  clear k4
  have l5 := fun o1 o2 => cell_two (o1 := o1) (o2 := o2) k5
  clear k5
  have l6 := fun o1 o2 => cell_two (o1 := o1) (o2 := o2) k6
  clear k6
  have l7 := fun o1 o2 => cell_two (o1 := o1) (o2 := o2) k7
  clear k7
  have l8 := fun o1 o2 => cell_two (o1 := o1) (o2 := o2) k8
  clear k8
  have l9 := fun o1 o2 => cell_two (o1 := o1) (o2 := o2) k9
  clear k9
  have hlast := hx.two #[.int .i64 4, .float .f64 0, .string ⟨#[37, 67, 51, 37, 65, 57, 37, 50, 70, 37, 50, 48]⟩, .slice none 0 0, .slice none 0 0] #[.bool false, .int .i64 0, .float .f64 0, .string ⟨#[]⟩, .slice none 0 0, .slice none 0 0] 27 32
  have HL := Lib.hid hlast
  clear hx hlast
  go_wp2_with fail
  refine (Num_any _ _).mono ?_
  rintro e z1 ⟨rfl, hb⟩
  have HL1 := Lib.hid (HL.out.below hb)
  clear hb HL l0 l1 l2 l3 l4 l5 l6 l7 l8 l9
  go_wp2_with fail
  refine (C6.out _ (HN.out _ HL1.out.bel)).mono ?_
  rintro e z2 ⟨rfl, hb⟩
  have HL2 := Lib.hid (HL1.out.below hb)
  clear hb HL1
  go_wp2_with fail
  refine (Names_any _).mono ?_
  rintro e z3 ⟨a, rfl, hb⟩
  have HL3 := Lib.hid (HL2.out.below hb)
  clear hb HL2
  go_wp2_with fail
  go_ret
  exact ⟨rfl, HL3.out.bel⟩
end Go.Proofs.YtpobdmkidopnnaaGreatDoor
namespace Go.Proofs.YtpobdmkidopnnaaGreatDoor
open Go Go.RowKit Go.Shelf

theorem eachO_app {σ : Type} (step : σ → UInt8 → σ × List UInt8) (l r : List UInt8) : ∀ st, eachO step st (l ++ r) = eachO step st l ++ eachO step (eachS step st l) r := by
  induction l with
  | nil => intro st; rfl
  | cons c l ih => intro st; show (step st c).2 ++ eachO step (step st c).1 (l ++ r) = _; rw [ih, ← List.append_assoc]; rfl
theorem eachS_app {σ : Type} (step : σ → UInt8 → σ × List UInt8) (l r : List UInt8) : ∀ st, eachS step st (l ++ r) = eachS step (eachS step st l) r := by
  induction l with
  | nil => intro st; rfl
  | cons c l ih => intro st; exact ih _
theorem encT_nil : encT [] = [] := rfl
theorem encT_one (a : UInt8) : encT [a] = [sig (a.toNat / 4), sig (a.toNat % 4 * 16)] := by
  have h : encStep (0, 0) a = ((a.toNat % 4, 2), [sig (a.toNat / 4)]) := by
    unfold encStep
    rw [if_pos rfl]
    simp
  unfold encT
  simp only [eachO, eachS, h]
  simp
theorem encT_two (a b : UInt8) : encT [a, b] = [sig (a.toNat / 4), sig ((a.toNat % 4 * 256 + b.toNat) / 16), sig ((a.toNat % 4 * 256 + b.toNat) % 16 * 4)] := by
  have h : encStep (0, 0) a = ((a.toNat % 4, 2), [sig (a.toNat / 4)]) := by
    unfold encStep
    rw [if_pos rfl]
    simp
  have h2 : encStep (a.toNat % 4, 2) b = (((a.toNat % 4 * 256 + b.toNat) % 16, 4), [sig ((a.toNat % 4 * 256 + b.toNat) / 16)]) := by
    unfold encStep
    rw [if_neg (by simp), if_pos rfl]
  unfold encT
  simp only [eachO, eachS, h, h2]
  simp
theorem encT_three (a b c : UInt8) (r : List UInt8) : encT (a :: b :: c :: r) = [sig (a.toNat / 4), sig ((a.toNat % 4 * 256 + b.toNat) / 16), sig (((a.toNat % 4 * 256 + b.toNat) % 16 * 256 + c.toNat) / 64), sig (((a.toNat % 4 * 256 + b.toNat) % 16 * 256 + c.toNat) % 64)] ++ encT r := by
  have h : encStep (0, 0) a = ((a.toNat % 4, 2), [sig (a.toNat / 4)]) := by
    unfold encStep
    rw [if_pos rfl]
    simp
  have h2 : encStep (a.toNat % 4, 2) b = (((a.toNat % 4 * 256 + b.toNat) % 16, 4), [sig ((a.toNat % 4 * 256 + b.toNat) / 16)]) := by
    unfold encStep
    rw [if_neg (by simp), if_pos rfl]
  have h3 : encStep ((a.toNat % 4 * 256 + b.toNat) % 16, 4) c = ((0, 0), [sig (((a.toNat % 4 * 256 + b.toNat) % 16 * 256 + c.toNat) / 64), sig (((a.toNat % 4 * 256 + b.toNat) % 16 * 256 + c.toNat) % 64)]) := by
    unfold encStep
    rw [if_neg (by simp), if_neg (by simp)]
  unfold encT
  simp only [eachO, eachS, h, h2, h3]
  simp
theorem idx_sig (n : Nat) (h : n < 64) : idx (sig n) = (n : Int) := by
  have : ∀ k : Fin 64, idx (sig k.val) = (k.val : Int) := by decide +kernel
  exact this ⟨n, h⟩
theorem sig_ok (n : Nat) : sig n ≠ 61 ∧ (keptB (sig n) = true ∨ sig n = 43 ∨ sig n = 47) ∧ sig n ≠ 45 ∧ sig n ≠ 95 ∧ sig n ≠ 46 ∧ sig n ≠ 126 ∨ 64 ≤ n := by
  by_cases h : n < 64
  · left
    have : ∀ k : Fin 64, sig k.val ≠ 61 ∧ (keptB (sig k.val) = true ∨ sig k.val = 43 ∨ sig k.val = 47) ∧ sig k.val ≠ 45 ∧ sig k.val ≠ 95 ∧ sig k.val ≠ 46 ∧ sig k.val ≠ 126 := by decide +kernel
    exact this ⟨n, h⟩
  · right; omega
/-- What a sign of base64 is. -/
def B64 (c : UInt8) : Prop := c ≠ 61 ∧ (keptB c = true ∨ c = 43 ∨ c = 47) ∧ c ≠ 45 ∧ c ≠ 95 ∧ c ≠ 46 ∧ c ≠ 126
theorem sig_B64 (n : Nat) (h : n < 64) : B64 (sig n) := (sig_ok n).resolve_right (by omega)
theorem dec_0 (v : Bool) (n : Nat) (hn : n < 64) : decStep (v, 0, 0) (sig n) = ((v, n, 6), []) := by
  unfold decStep
  rw [idx_sig n hn, if_neg (by omega), if_pos rfl]
  simp
theorem dec_6 (v : Bool) (b n : Nat) (hn : n < 64) : decStep (v, b, 6) (sig n) = ((v, (b * 64 + n) % 16, 4), [UInt8.ofNat ((b * 64 + n) / 16)]) := by
  unfold decStep
  rw [idx_sig n hn, if_neg (by omega), if_neg (by simp)]
  simp
theorem dec_4 (v : Bool) (b n : Nat) (hn : n < 64) : decStep (v, b, 4) (sig n) = ((v, (b * 64 + n) % 4, 2), [UInt8.ofNat ((b * 64 + n) / 4)]) := by
  unfold decStep
  rw [idx_sig n hn, if_neg (by omega), if_neg (by simp)]
  simp
theorem dec_2 (v : Bool) (b n : Nat) (hn : n < 64) : decStep (v, b, 2) (sig n) = ((v, 0, 0), [UInt8.ofNat (b * 64 + n)]) := by
  unfold decStep
  rw [idx_sig n hn, if_neg (by omega), if_neg (by simp)]
  simp
  omega
theorem ofNat_toNat (a : UInt8) (n : Nat) (h : n = a.toNat) : UInt8.ofNat n = a := by rw [h]; simp
theorem enc_dec : ∀ (k : Nat) (s : List UInt8), s.length ≤ k → eachO decStep (true, 0, 0) (encT s) = s ∧ (eachS decStep (true, 0, 0) (encT s)).1 = true
  | _, [], _ => ⟨rfl, rfl⟩
  | _, [a], _ => by
    have ha := a.toNat_lt
    rw [encT_one]
    simp only [eachO, eachS, dec_0 true (a.toNat / 4) (by omega), dec_6 true (a.toNat / 4) (a.toNat % 4 * 16) (by omega)]
    refine ⟨?_, trivial⟩
    rw [ofNat_toNat a _ (by omega)]
    rfl
  | _, [a, b], _ => by
    have ha := a.toNat_lt
    have hb := b.toNat_lt
    rw [encT_two]
    simp only [eachO, eachS, dec_0 true (a.toNat / 4) (by omega), dec_6 true (a.toNat / 4) ((a.toNat % 4 * 256 + b.toNat) / 16) (by omega), dec_4 true _ ((a.toNat % 4 * 256 + b.toNat) % 16 * 4) (by omega)]
    refine ⟨?_, trivial⟩
    rw [ofNat_toNat a _ (by omega), ofNat_toNat b _ (by omega)]
    rfl
  | 0, a :: b :: c :: r, h => absurd h (by simp)
  | k + 1, a :: b :: c :: r, h => by
    have ha := a.toNat_lt
    have hb := b.toNat_lt
    have hc := c.toNat_lt
    obtain ⟨h1, h2⟩ := enc_dec k r (by simp at h; omega)
    rw [encT_three]
    simp only [List.cons_append, List.nil_append, eachO, eachS, dec_0 true (a.toNat / 4) (by omega), dec_6 true (a.toNat / 4) ((a.toNat % 4 * 256 + b.toNat) / 16) (by omega), dec_4 true _ (((a.toNat % 4 * 256 + b.toNat) % 16 * 256 + c.toNat) / 64) (by omega), dec_2 true _ (((a.toNat % 4 * 256 + b.toNat) % 16 * 256 + c.toNat) % 64) (by omega)]
    refine ⟨?_, h2⟩
    rw [h1, ofNat_toNat a _ (by omega), ofNat_toNat b _ (by omega), ofNat_toNat c _ (by omega)]
theorem encT_len : ∀ (k : Nat) (s : List UInt8), s.length ≤ k → (encT s).length = s.length + (s.length + 2) / 3 ∧ ∀ c ∈ encT s, B64 c
  | _, [], _ => ⟨rfl, fun c hc => by cases hc⟩
  | _, [a], _ => by
    have ha := a.toNat_lt
    rw [encT_one]
    refine ⟨by simp, fun c hc => ?_⟩
    simp only [List.mem_cons, List.not_mem_nil, or_false] at hc
    rcases hc with rfl | rfl
    · exact sig_B64 _ (by omega)
    · exact sig_B64 _ (by omega)
  | _, [a, b], _ => by
    have ha := a.toNat_lt
    have hb := b.toNat_lt
    rw [encT_two]
    refine ⟨by simp, fun c hc => ?_⟩
    simp only [List.mem_cons, List.not_mem_nil, or_false] at hc
    rcases hc with rfl | rfl | rfl
    · exact sig_B64 _ (by omega)
    · exact sig_B64 _ (by omega)
    · exact sig_B64 _ (by omega)
  | 0, a :: b :: c :: r, h => absurd h (by simp)
  | k + 1, a :: b :: c :: r, h => by
    have ha := a.toNat_lt
    have hb := b.toNat_lt
    have hcc := c.toNat_lt
    obtain ⟨h1, h2⟩ := encT_len k r (by simp at h; omega)
    rw [encT_three]
    refine ⟨by simp only [List.length_append, List.length_cons, List.length_nil, h1]; omega, fun x hx => ?_⟩
    rcases List.mem_append.1 hx with hx | hx
    · simp only [List.mem_cons, List.not_mem_nil, or_false] at hx
      rcases hx with rfl | rfl | rfl | rfl
      · exact sig_B64 _ (by omega)
      · exact sig_B64 _ (by omega)
      · exact sig_B64 _ (by omega)
      · exact sig_B64 _ (by omega)
    · exact h2 x hx
theorem encL_len (s : List UInt8) : (encL s).length = 4 * ((s.length + 2) / 3) := by
  have h := (encT_len s.length s (Nat.le_refl _)).1
  unfold encL
  rw [List.length_append, List.length_replicate, h]
  omega
theorem trim_none (l : List UInt8) (h : ∀ c ∈ l, c ≠ 61) : Lib.trimSuffix l [61] = l := by
  unfold Lib.trimSuffix
  rw [if_neg]
  intro hs
  have h1 : [61] <:+ l := List.isSuffixOf_iff_suffix.1 hs
  exact h 61 (h1.subset (by simp)) rfl
theorem trim_one (l : List UInt8) : Lib.trimSuffix (l ++ [61]) [61] = l := by
  unfold Lib.trimSuffix
  have hs : Lib.hasSuffix (l ++ [61]) [61] = true := List.isSuffixOf_iff_suffix.2 (List.suffix_append l [61])
  rw [if_pos hs]
  simp
theorem bare_enc (s : List UInt8) : bareD (encL s) = encT s := by
  have h := (encT_len s.length s (Nat.le_refl _))
  have hn : ∀ c ∈ encT s, c ≠ 61 := fun c hc => (h.2 c hc).1
  have hp : (4 - (encT s).length % 4) % 4 = 0 ∨ (4 - (encT s).length % 4) % 4 = 1 ∨ (4 - (encT s).length % 4) % 4 = 2 := by
    rw [h.1]
    omega
  unfold bareD encL
  rcases hp with hp | hp | hp
  · rw [hp, List.replicate_zero, List.append_nil, trim_none _ hn, trim_none _ hn]
  · rw [hp]
    show Lib.trimSuffix (Lib.trimSuffix (encT s ++ [61]) [61]) [61] = _
    rw [trim_one, trim_none _ hn]
  · rw [hp]
    show Lib.trimSuffix (Lib.trimSuffix (encT s ++ [61, 61]) [61]) [61] = _
    rw [show encT s ++ [61, 61] = (encT s ++ [61]) ++ [61] by simp, trim_one, trim_one]
theorem dec_of_enc (s : List UInt8) : decL (encL s) = s ∧ decK (encL s) = true := by
  have h := (encT_len s.length s (Nat.le_refl _)).1
  have hd : dec0 (encL s) = (true, 0, 0) := by
    unfold dec0
    rw [bare_enc, h]
    have : (((s.length + (s.length + 2) / 3 : Nat) : Int) % 4 != 1) = true := by
      rw [bne_iff_ne]
      omega
    rw [this]
  unfold decL decK
  rw [bare_enc, hd]
  exact enc_dec s.length s (Nat.le_refl _)
/-- A byte of what base64 writes. -/
theorem encL_byte (s : List UInt8) (i : Nat) (c : UInt8) (hi : (encL s)[i]? = some c) : B64 c ∨ (c = 61 ∧ (encL s).length ≤ i + 2) := by
  have h := encT_len s.length s (Nat.le_refl _)
  have hL := encL_len s
  unfold encL at hi
  by_cases h1 : i < (encT s).length
  · left
    rw [List.getElem?_append_left h1] at hi
    exact h.2 _ (List.mem_of_getElem? hi)
  · right
    rw [List.getElem?_append_right (by omega)] at hi
    have h2 := List.mem_of_getElem? hi
    exact ⟨List.eq_of_mem_replicate h2, by rw [hL]; have := h.1; omega⟩
end Go.Proofs.YtpobdmkidopnnaaGreatDoor
namespace Go.Proofs.YtpobdmkidopnnaaGreatDoor
open Go Go.RowKit Go.Shelf

theorem keptB_iff (c : UInt8) : keptB c = true ↔ (65 ≤ c.toNat ∧ c.toNat ≤ 90) ∨ (97 ≤ c.toNat ∧ c.toNat ≤ 122) ∨ (48 ≤ c.toNat ∧ c.toNat ≤ 57) ∨ c.toNat = 45 ∨ c.toNat = 95 ∨ c.toNat = 46 ∨ c.toNat = 126 := by
  unfold keptB
  simp only [Bool.or_eq_true, Bool.and_eq_true, decide_eq_true_eq, beq_iff_eq]
  omega
theorem kept_val (c : UInt8) (B : Bool) (h : B = true ↔ (65 ≤ c.toNat ∧ c.toNat ≤ 90) ∨ (97 ≤ c.toNat ∧ c.toNat ≤ 122) ∨ (48 ≤ c.toNat ∧ c.toNat ≤ 57) ∨ c.toNat = 45 ∨ c.toNat = 95 ∨ c.toNat = 46 ∨ c.toNat = 126) : B = keptB c := by
  rw [Bool.eq_iff_iff, h, keptB_iff]
set_option maxRecDepth 100000 in
set_option maxHeartbeats 4000000 in
theorem Kept_any (c : UInt8) (w : World) : Calls Tryz.prog 23 #[.int .u8 c.toNat] w fun e w' => e = .returned (.bool (keptB c)) ∧ w = w' := by
  have hc := c.toNat_lt
  have hv := kept_val c
  obtain ⟨B, hB⟩ : ∃ B, keptB c = B := ⟨_, rfl⟩
  rw [hB] at hv ⊢
  have HV := Lib.hid hv
  clear hv hB
  have g : (97 ≤ c.toNat ∧ c.toNat ≤ 122) ∨ (65 ≤ c.toNat ∧ c.toNat ≤ 90) ∨ (48 ≤ c.toNat ∧ c.toNat ≤ 57) ∨ (c.toNat = 45) ∨ (c.toNat = 46) ∨ (c.toNat = 95) ∨ (c.toNat = 126) ∨ (c.toNat < 48 ∧ c.toNat ≠ 45 ∧ c.toNat ≠ 46) ∨ (58 ≤ c.toNat ∧ c.toNat ≤ 64) ∨ (91 ≤ c.toNat ∧ c.toNat ≤ 96 ∧ c.toNat ≠ 95) ∨ (123 ≤ c.toNat ∧ c.toNat ≠ 126) := by omega
  rcases g with g | g | g | g | g | g | g | g | g | g | g
  · obtain rfl : true = B := HV.out true (by simp; omega)
    have q0 : decide (97 ≤ (c.toNat : Int)) = true := decide_eq_true (by omega)
    have q1 : decide ((c.toNat : Int) ≤ 122) = true := decide_eq_true (by omega)
    clear g HV
    go_enter Tryz.func23, Tryz.ntmps23
    go_wp2_with fail
    go_ret
    exact ⟨rfl, rfl⟩
  · obtain rfl : true = B := HV.out true (by simp; omega)
    have q0 : decide (97 ≤ (c.toNat : Int)) = false := decide_eq_false (by omega)
    have q1 : decide (65 ≤ (c.toNat : Int)) = true := decide_eq_true (by omega)
    have q2 : decide ((c.toNat : Int) ≤ 90) = true := decide_eq_true (by omega)
    clear g HV
    go_enter Tryz.func23, Tryz.ntmps23
    go_wp2_with fail
    go_ret
    exact ⟨rfl, rfl⟩
  · obtain rfl : true = B := HV.out true (by simp; omega)
    have q0 : decide (97 ≤ (c.toNat : Int)) = false := decide_eq_false (by omega)
    have q1 : decide (65 ≤ (c.toNat : Int)) = false := decide_eq_false (by omega)
    have q2 : decide (48 ≤ (c.toNat : Int)) = true := decide_eq_true (by omega)
    have q3 : decide ((c.toNat : Int) ≤ 57) = true := decide_eq_true (by omega)
    clear g HV
    go_enter Tryz.func23, Tryz.ntmps23
    go_wp2_with fail
    go_ret
    exact ⟨rfl, rfl⟩
  · obtain rfl : true = B := HV.out true (by simp; omega)
    have q0 : decide (97 ≤ (c.toNat : Int)) = false := decide_eq_false (by omega)
    have q1 : decide (65 ≤ (c.toNat : Int)) = false := decide_eq_false (by omega)
    have q2 : decide (48 ≤ (c.toNat : Int)) = false := decide_eq_false (by omega)
    have q3 : ((c.toNat : Int) == 45) = true := by rw [beq_iff_eq]; omega
    clear g HV
    go_enter Tryz.func23, Tryz.ntmps23
    go_wp2_with fail
    go_ret
    exact ⟨rfl, rfl⟩
  · obtain rfl : true = B := HV.out true (by simp; omega)
    have q0 : decide (97 ≤ (c.toNat : Int)) = false := decide_eq_false (by omega)
    have q1 : decide (65 ≤ (c.toNat : Int)) = false := decide_eq_false (by omega)
    have q2 : decide (48 ≤ (c.toNat : Int)) = false := decide_eq_false (by omega)
    have q3 : ((c.toNat : Int) == 45) = false := by rw [beq_eq_false_iff_ne]; omega
    have q4 : ((c.toNat : Int) == 95) = false := by rw [beq_eq_false_iff_ne]; omega
    have q5 : ((c.toNat : Int) == 46) = true := by rw [beq_iff_eq]; omega
    clear g HV
    go_enter Tryz.func23, Tryz.ntmps23
    go_wp2_with fail
    go_ret
    exact ⟨rfl, rfl⟩
  · obtain rfl : true = B := HV.out true (by simp; omega)
    have q0 : decide (97 ≤ (c.toNat : Int)) = false := decide_eq_false (by omega)
    have q1 : decide (65 ≤ (c.toNat : Int)) = true := decide_eq_true (by omega)
    have q2 : decide ((c.toNat : Int) ≤ 90) = false := decide_eq_false (by omega)
    have q3 : decide (48 ≤ (c.toNat : Int)) = true := decide_eq_true (by omega)
    have q4 : decide ((c.toNat : Int) ≤ 57) = false := decide_eq_false (by omega)
    have q5 : ((c.toNat : Int) == 45) = false := by rw [beq_eq_false_iff_ne]; omega
    have q6 : ((c.toNat : Int) == 95) = true := by rw [beq_iff_eq]; omega
    clear g HV
    go_enter Tryz.func23, Tryz.ntmps23
    go_wp2_with fail
    go_ret
    exact ⟨rfl, rfl⟩
  · obtain rfl : true = B := HV.out true (by simp; omega)
    have q0 : decide (97 ≤ (c.toNat : Int)) = true := decide_eq_true (by omega)
    have q1 : decide ((c.toNat : Int) ≤ 122) = false := decide_eq_false (by omega)
    have q2 : decide (65 ≤ (c.toNat : Int)) = true := decide_eq_true (by omega)
    have q3 : decide ((c.toNat : Int) ≤ 90) = false := decide_eq_false (by omega)
    have q4 : decide (48 ≤ (c.toNat : Int)) = true := decide_eq_true (by omega)
    have q5 : decide ((c.toNat : Int) ≤ 57) = false := decide_eq_false (by omega)
    have q6 : ((c.toNat : Int) == 45) = false := by rw [beq_eq_false_iff_ne]; omega
    have q7 : ((c.toNat : Int) == 95) = false := by rw [beq_eq_false_iff_ne]; omega
    have q8 : ((c.toNat : Int) == 46) = false := by rw [beq_eq_false_iff_ne]; omega
    have q9 : ((c.toNat : Int) == 126) = true := by rw [beq_iff_eq]; omega
    clear g HV
    go_enter Tryz.func23, Tryz.ntmps23
    go_wp2_with fail
    go_ret
    exact ⟨rfl, rfl⟩
  · obtain rfl : false = B := HV.out false (by simp; omega)
    have q0 : decide (97 ≤ (c.toNat : Int)) = false := decide_eq_false (by omega)
    have q1 : decide (65 ≤ (c.toNat : Int)) = false := decide_eq_false (by omega)
    have q2 : decide (48 ≤ (c.toNat : Int)) = false := decide_eq_false (by omega)
    have q3 : ((c.toNat : Int) == 45) = false := by rw [beq_eq_false_iff_ne]; omega
    have q4 : ((c.toNat : Int) == 95) = false := by rw [beq_eq_false_iff_ne]; omega
    have q5 : ((c.toNat : Int) == 46) = false := by rw [beq_eq_false_iff_ne]; omega
    have q6 : ((c.toNat : Int) == 126) = false := by rw [beq_eq_false_iff_ne]; omega
    clear g HV
    go_enter Tryz.func23, Tryz.ntmps23
    go_wp2_with fail
    go_ret
    exact ⟨rfl, rfl⟩
  · obtain rfl : false = B := HV.out false (by simp; omega)
    have q0 : decide (97 ≤ (c.toNat : Int)) = false := decide_eq_false (by omega)
    have q1 : decide (65 ≤ (c.toNat : Int)) = false := decide_eq_false (by omega)
    have q2 : decide (48 ≤ (c.toNat : Int)) = true := decide_eq_true (by omega)
    have q3 : decide ((c.toNat : Int) ≤ 57) = false := decide_eq_false (by omega)
    have q4 : ((c.toNat : Int) == 45) = false := by rw [beq_eq_false_iff_ne]; omega
    have q5 : ((c.toNat : Int) == 95) = false := by rw [beq_eq_false_iff_ne]; omega
    have q6 : ((c.toNat : Int) == 46) = false := by rw [beq_eq_false_iff_ne]; omega
    have q7 : ((c.toNat : Int) == 126) = false := by rw [beq_eq_false_iff_ne]; omega
    clear g HV
    go_enter Tryz.func23, Tryz.ntmps23
    go_wp2_with fail
    go_ret
    exact ⟨rfl, rfl⟩
  · obtain rfl : false = B := HV.out false (by simp; omega)
    have q0 : decide (97 ≤ (c.toNat : Int)) = false := decide_eq_false (by omega)
    have q1 : decide (65 ≤ (c.toNat : Int)) = true := decide_eq_true (by omega)
    have q2 : decide ((c.toNat : Int) ≤ 90) = false := decide_eq_false (by omega)
    have q3 : decide (48 ≤ (c.toNat : Int)) = true := decide_eq_true (by omega)
    have q4 : decide ((c.toNat : Int) ≤ 57) = false := decide_eq_false (by omega)
    have q5 : ((c.toNat : Int) == 45) = false := by rw [beq_eq_false_iff_ne]; omega
    have q6 : ((c.toNat : Int) == 95) = false := by rw [beq_eq_false_iff_ne]; omega
    have q7 : ((c.toNat : Int) == 46) = false := by rw [beq_eq_false_iff_ne]; omega
    have q8 : ((c.toNat : Int) == 126) = false := by rw [beq_eq_false_iff_ne]; omega
    clear g HV
    go_enter Tryz.func23, Tryz.ntmps23
    go_wp2_with fail
    go_ret
    exact ⟨rfl, rfl⟩
  · obtain rfl : false = B := HV.out false (by simp; omega)
    have q0 : decide (97 ≤ (c.toNat : Int)) = true := decide_eq_true (by omega)
    have q1 : decide ((c.toNat : Int) ≤ 122) = false := decide_eq_false (by omega)
    have q2 : decide (65 ≤ (c.toNat : Int)) = true := decide_eq_true (by omega)
    have q3 : decide ((c.toNat : Int) ≤ 90) = false := decide_eq_false (by omega)
    have q4 : decide (48 ≤ (c.toNat : Int)) = true := decide_eq_true (by omega)
    have q5 : decide ((c.toNat : Int) ≤ 57) = false := decide_eq_false (by omega)
    have q6 : ((c.toNat : Int) == 45) = false := by rw [beq_eq_false_iff_ne]; omega
    have q7 : ((c.toNat : Int) == 95) = false := by rw [beq_eq_false_iff_ne]; omega
    have q8 : ((c.toNat : Int) == 46) = false := by rw [beq_eq_false_iff_ne]; omega
    have q9 : ((c.toNat : Int) == 126) = false := by rw [beq_eq_false_iff_ne]; omega
    clear g HV
    go_enter Tryz.func23, Tryz.ntmps23
    go_wp2_with fail
    go_ret
    exact ⟨rfl, rfl⟩
end Go.Proofs.YtpobdmkidopnnaaGreatDoor
