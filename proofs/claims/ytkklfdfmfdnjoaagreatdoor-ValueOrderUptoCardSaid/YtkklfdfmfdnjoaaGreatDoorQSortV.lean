/- The program's sorted, walked. -/
import Derived.Test.YtkklfdfmfdnjoaaGreatDoorQSortR
namespace Go.Proofs.YtkklfdfmfdnjoaaGreatDoor
open Go Go.RowKit

set_option maxRecDepth 100000 in
set_option maxHeartbeats 3000000 in
theorem sorted_any (v : V) (m B0 : Nat) (lv kv : Value) (w : World) (hB0 : B0 ≤ w.heap.size) (h : At w B0 (m + 1) v lv kv) (hk6 : v.k = 6) (hf : v.f = 0) (hs : v.s = ⟨#[]⟩) (hlen : v.ks.length = v.l.length) (hnd : v.ks.Nodup) :
    Calls Tryz.prog 62 #[.agg (cellsV v lv kv)] w fun e w' => ∃ lv' kv', e = .returned (.agg (cellsV (sortedV v) lv' kv')) ∧ AtN w' B0 w.heap.size (m + 1) (sortedV v) lv' kv' ∧ Below w.heap.size w w' := by
  have hsf := run_store_float Tryz.prog
  obtain ⟨i0, hi0, hz0, hz1, hz2⟩ := info_parts infoVal
  obtain ⟨is, his, hs0, hs1, hs2⟩ := info_parts infoStr
  obtain ⟨ii, hii, hi1, hi2, hi3⟩ := info_parts infoInt
  have hat := h
  obtain ⟨hsm, ha, hcp, a, c, B, o, rfl, hab, hi⟩ := h.opened
  obtain ⟨qs, hq, hqq⟩ := pairs_of (P := fun i a b => ∃ h : i < v.l.length, FiveAt w B (o + i * 5) v.l[i] a b ∧ At w B0 m v.l[i] a b) (fun i h => by obtain ⟨a, b, q⟩ := hi i h; exact ⟨a, b, h, q⟩)
  have hqa : ∀ i (h : i < v.l.length) (h2 : i < qs.length), At w B0 m v.l[i] qs[i].1 qs[i].2 := fun i _ h2 => (hqq i h2).2.2
  have hq5 : ∀ i (h : i < v.l.length) (h2 : i < qs.length), FiveAt w B (o + i * 5) v.l[i] qs[i].1 qs[i].2 := fun i _ h2 => (hqq i h2).2.1
  have hsl : ∀ i (h : i < qs.length), ∃ A n c A' n' c', qs[i].1 = .slice A n c ∧ qs[i].2 = .slice A' n' c' := fun i h => by
    obtain ⟨a, b, c, d, e, f, g1, g2⟩ := At.slices (hqq i h).2.2
    exact ⟨a, b, c, d, e, f, g1, g2⟩
  have hso := fun W hW => IsSorted_any v.ks kv W hsm.2.2.2.2.2.1 hW
  have hka := ha
  obtain ⟨A, ad, ck, rfl, hA, hac⟩ := ha.1.dest
  rw [List.length_map] at hA hso hka hat ⊢
  have hcell : ∀ t (ht : t < v.ks.length), w.cell? (ad.add t) = some (.string v.ks[t]) := fun t ht => hac t _ (by simp [ht])
  have hlm := hsm.2.2.2.2.1
  have hkm := hsm.2.2.2.2.2.1
  have hsid := sortedV_id v hlen hnd
  have HSO := Lib.hid hso
  have HAT := Lib.hid hat
  have HKA := Lib.hid hka
  have HA := Lib.hid hA
  have HC := Lib.hid hcell
  have HAB := Lib.hid hab
  have HQA := Lib.hid hqa
  have HQ5 := Lib.hid hq5
  have HSL := Lib.hid hsl
  have HQ := Lib.hid hq
  have HLEN := Lib.hid hlen
  have HND := Lib.hid hnd
  have HSID := Lib.hid hsid
  have HSM := Lib.hid (small_sorted hsm hlen)
  unfold cellsV
  rw [hk6, hf, hs]
  have HE : Hid (cellsV v (.slice a v.l.length c) (.slice A v.ks.length ck) = #[.int .i64 6, .float .f64 0, .string ⟨#[]⟩, .slice a v.l.length c, .slice A v.ks.length ck]) := Lib.hid (by unfold cellsV; rw [hk6, hf, hs])
  have HSV : Hid (sortedV v = .mk 6 0 ⟨#[]⟩ (byK v) (sortK v.ks)) := Lib.hid (by unfold sortedV; rw [hk6, hf, hs])
  clear hA hcell hab hqa hq5 hsl hq hlen hsm hac ha hcp hi hqq h hnd hk6 hso hat hka hsid hf hs
  have hbox := heap_alloc_new w (.cells #[.int .i64 6, .float .f64 0, .string ⟨#[]⟩, .slice a v.l.length c, .slice A v.ks.length ck] 27)
  have hbox2 := row_alloc3 hbox (.cells #[.int .i64 0, .float .f64 0, .string ⟨#[]⟩, .slice none 0 0, .slice none 0 0] 27)
  have hres2 := heap_alloc_new (w.alloc (.cells #[.int .i64 6, .float .f64 0, .string ⟨#[]⟩, .slice a v.l.length c, .slice A v.ks.length ck] 27)) (.cells #[.int .i64 0, .float .f64 0, .string ⟨#[]⟩, .slice none 0 0, .slice none 0 0] 27)
  rw [World.size_alloc] at hres2
  have hbel0 : Below w.heap.size w ((w.alloc (.cells #[.int .i64 6, .float .f64 0, .string ⟨#[]⟩, .slice a v.l.length c, .slice A v.ks.length ck] 27)).alloc (.cells #[.int .i64 0, .float .f64 0, .string ⟨#[]⟩, .slice none 0 0, .slice none 0 0] 27)) := ((Below.refl w.heap.size w).alloc (Nat.le_refl _) _).alloc (by simp) _
  have HBOX := Lib.hid hbox2
  have HRES := Lib.hid hres2
  have HBEL0 := Lib.hid hbel0
  clear hbox hbox2 hres2 hbel0
  go_enter Tryz.func62, Tryz.ntmps62
  go_wp2_with fail
  refine (HSO.out _ (((HKA.out.more hB0).below HBEL0.out).more HBEL0.out.size)).mono ?_
  rintro e w1 ⟨r, rfl, hr, hr0, hb1⟩
  have HR := Lib.hid hr
  have HR0 := Lib.hid hr0
  have HB1 : Hid (Below w.heap.size w w1) := Lib.hid (HBEL0.out.trans (hb1.mono HBEL0.out.size))
  have HBX1 : Hid (w1.heap[w.heap.size]? = some (.cells #[.int .i64 6, .float .f64 0, .string ⟨#[]⟩, .slice a v.l.length c, .slice A v.ks.length ck] 27 (0, 0))) := Lib.hid ((hb1.block _ (by simp <;> omega)).trans HBOX.out)
  have HRS1 : Hid (w1.heap[w.heap.size + 1]? = some (.cells #[.int .i64 0, .float .f64 0, .string ⟨#[]⟩, .slice none 0 0, .slice none 0 0] 27 (0, 0))) := Lib.hid ((hb1.block _ (by simp <;> omega)).trans HRES.out)
  clear hr hr0 hb1 HBOX HRES HBEL0
  have hsz1 : w.heap.size + 1 < w1.heap.size := (Array.getElem?_eq_some_iff.1 HRS1.out).1
  cases r with
  | true =>
    have HS := Lib.hid (HSID.out (HR.out rfl))
    clear HR HR0 HSID
    obtain ⟨x0, x1, x2, x3, x4⟩ := row5p HBX1.out
    obtain ⟨u0, u1, u2, u3, u4, t0, t1, t2, t3, t4⟩ := row5 HRS1.out
    go_wp2_with fail
    refine bodyPost_ret_by (results_cell_row rfl _ _ (w.heap.size + 1) 27 _ (0, 0) _ rfl (set5_row HRS1.out (.int .i64 6) (.float .f64 0) (.string ⟨#[]⟩) (.slice a v.l.length c) (.slice A v.ks.length ck)) Tryz.underlying27 rfl sizeVal) rfl ?_
    have hb2 : Below w.heap.size w (set5 w1 (w.heap.size + 1) (.int .i64 6) (.float .f64 0) (.string ⟨#[]⟩) (.slice a v.l.length c) (.slice A v.ks.length ck)) := set5_below0 HB1.out (by omega) ..
    rw [HS.out]
    exact ⟨_, _, by rw [← HE.out]; rfl, AtN.of_at (At.keep (fun a ha => hb2.cell (by omega)) _ _ _ _ HAT.out), hb2⟩
  | false =>
    have hn1 := HR0.out rfl
    clear HR HR0 HSID HAT HSO HE
    have hmk : ∀ u : World, (Instr.makeSlice 100 (.int .i64 (v.ks.length : Int)) (.int .i64 (v.ks.length : Int))).run Tryz.prog u =
        .ok (.slice (some ⟨u.heap.size, 0, none⟩) v.ks.length v.ks.length) (u.alloc (.cells (madeCells #[.int .i64 0] v.ks.length) 3)) := fun u => by
      have h := run_make (P := Tryz.prog) u 100 3 ii (.int .i64 0) Tryz.underlying100 hii hi1 .i64 .i64 (v.ks.length : Int) (v.ks.length : Int) (by omega) (Int.le_refl _) (by rw [hi3]; omega) (by omega)
      rw [Int.toNat_natCast] at h
      simpa [hi2, Value.cells] using h
    have hp0 := PlacesTo.made w1 v.ks.length
    have hbm : Below w1.heap.size w1 (w1.alloc (.cells (madeCells #[.int .i64 0] v.ks.length) 3)) := (Below.refl _ _).alloc (Nat.le_refl _) _
    have hmk3 := hmk w1
    obtain ⟨W1, hW1⟩ : ∃ W, w1.alloc (.cells (madeCells #[.int .i64 0] v.ks.length) 3) = W := ⟨_, rfl⟩
    rw [hW1] at hmk3 hp0 hbm
    have HP0 := Lib.hid hp0
    have HBM := Lib.hid hbm
    clear hW1 hmk hp0 hbm
    obtain ⟨x0, x1, x2, x3, x4⟩ := row5p HBX1.out
    go_wp2_with fail
    go_loopw [18] (fun k W => ∃ x : Nat, x ≤ v.ks.length ∧ k = .int .i64 x ∧ PlacesTo W w1.heap.size v.ks.length x ∧ Below w1.heap.size w1 W) (fun k _ => v.ks.length - (intOf k).toNat)
    case atStart => exact ⟨0, Nat.zero_le _, rfl, HP0.out, HBM.out⟩
    case round =>
      obtain ⟨x, hx, rfl, hpl, hbel⟩ := hrel
      clear x0 x1 x2 x3 x4 hmk3
      have HPL := Lib.hid hpl
      have HBEL := Lib.hid hbel
      clear hpl hbel
      by_cases hlt : x < v.ks.length
      · obtain ⟨⟨u, hu⟩, hz⟩ := HPL.out.cell hlt
        go_wp2_with fail
        go_roundw
        case rel => exact ⟨x + 1, by omega, by go_num, HPL.out.put hlt, HBEL.out.setCell (p := ⟨w1.heap.size, x, none⟩) (Nat.le_refl _) _⟩
        case measure => simp [intOf]; omega
      · have hxe : x = v.ks.length := by omega
        subst hxe
        have hsn := SortAt_any v.ks (by omega) hkm (.slice A v.ks.length ck) 6 0 ⟨#[]⟩ (.slice a v.l.length c) w.heap.size w1.heap.size v.ks.length w1.heap.size wr ((HBEL.out.block _ (by omega)).trans HBX1.out) (by omega)
          ((((HKA.out.1.more hB0).below HB1.out).more HB1.out.size).below HBEL.out) (Nat.le_refl _) (by obtain ⟨cur, hc, _⟩ := HPL.out; exact (Array.getElem?_eq_some_iff.1 hc).1) (List.finRange v.ks.length).toArray (by simp) (by intro _; exact HPL.out.holds)
        have HSN := Lib.hid hsn
        clear hsn
        go_wp2_with fail
        refine HSN.out.mono ?_
        rintro e w3 ⟨rfl, pl, hperm, hsorted, hcells, hb3, hlt3⟩
        have hperm' : pl.Perm (List.finRange v.ks.length) := by simpa using hperm
        have hpk := keys_places hperm' hsorted
        have hpv := byK_places v HLEN.out HND.out pl hpk
        have hpn : pl.length = v.ks.length := by have := hperm'.length_eq; simpa using this
        have hb13 : Below w1.heap.size w1 w3 := HBEL.out.trans hb3
        have hbx3 := (hb13.block _ (by omega)).trans HBX1.out
        have hrs3 := (hb13.block _ hsz1).trans HRS1.out
        have HB3 : Hid (Below w.heap.size w w3) := Lib.hid (HB1.out.trans (hb13.mono HB1.out.size))
        have hsz3 : w1.heap.size < w3.heap.size := hlt3
        have HPK := Lib.hid hpk
        have HPV := Lib.hid hpv
        have HPN := Lib.hid hpn
        have HCL := Lib.hid hcells
        have HBX3 := Lib.hid hbx3
        have HRS3 := Lib.hid hrs3
        clear hperm hperm' hsorted hpk hpv hpn hb13 hb3 hcells hbx3 hrs3 HPL HBEL HP0 HBM HSN HB1 HBX1 HRS1 hlt3
        go_wp2_with fail
        refine wp_mono (sort_region w3 v.ks.length w1.heap.size hkm _ _ _ _ _ _ _ _ _ _ _ _ _ _ _ _ _ _ _ _ _ _ _ _ _ _ _ _ _ _ _ _ _ _ _ _ _ _ _ _ _ _ _ _ _ _ _ _ _ _ _ _ _ _ _ _ _ _ _ _ _ _ _) ?_
        intro e a2 W2 hreg
        cases e
        case normal =>
          obtain ⟨Q, kb, lb, rfl, hst⟩ := hreg
          have HST := Lib.hid hst
          clear hst
          go_wp2_with fail
          go_loopw [38] (fun k W => ∃ (t : Nat) (lvv kvv : Value), t ≤ v.ks.length ∧ k = .int .i64 t ∧ RS w3 Q ((pl.take t).map fun i => v.l[i.val]'(by have := i.isLt; have := HLEN.out; omega)) ((pl.take t).map fun i => qs[i.val]'(by have := i.isLt; have := HLEN.out; have := HQ.out; omega)) ((pl.take t).map fun i => v.ks[i.val]'i.isLt) lvv kvv W) (fun k _ => v.ks.length - (intOf k).toNat)
          case atStart => exact ⟨0, _, _, Nat.zero_le _, rfl, HST.out⟩
          case round =>
            obtain ⟨t, lvv, kvv, ht, rfl, hI⟩ := hrel
            clear HST
            obtain ⟨Al, cl, rfl⟩ := own_slC hI.lown
            obtain ⟨Ak, ckk, rfl⟩ := own_slC hI.kown
            have hIlt := hI.lt
            have hIQ := hI.hQ
            by_cases hlt : t < v.ks.length
            · have hltp : t < pl.length := by rw [HPN.out]; exact hlt
              have gl := take_map_snoc (fun i : Fin v.ks.length => v.l[i.val]'(by have := i.isLt; have := HLEN.out; omega)) hltp
              have gq := take_map_snoc (fun i : Fin v.ks.length => qs[i.val]'(by have := i.isLt; have := HLEN.out; have := HQ.out; omega)) hltp
              have gk := take_map_snoc (fun i : Fin v.ks.length => v.ks[i.val]'i.isLt) hltp
              have ct := (hI.bel.cell (p := ⟨w1.heap.size, t, none⟩) hsz3).trans (HCL.out t hltp)
              obtain ⟨x, hx⟩ : ∃ x, pl[t].val = x := ⟨_, rfl⟩
              have hxl : x < v.ks.length := by rw [← hx]; exact pl[t].isLt
              have hx2 : x < v.l.length := by rw [← HLEN.out]; exact hxl
              have hx3 : x < qs.length := by rw [HQ.out]; exact hx2
              unfold encF at ct
              simp only [hx] at gl gq gk ct
              have hlk : ((pl.take t).map fun i : Fin v.ks.length => v.ks[i.val]'i.isLt).length ≤ 1048576 := by rw [List.length_map, List.length_take]; omega
              have hll : ((pl.take t).map fun i : Fin v.ks.length => v.l[i.val]'(by have := i.isLt; have := HLEN.out; omega)).length ≤ 1048576 := by rw [List.length_map, List.length_take]; omega
              obtain ⟨rfl, hBk⟩ := HA.out (by omega)
              obtain ⟨rfl, hBw⟩ := HAB.out (by omega)
              have hblw : Below w.heap.size w wr := HB3.out.trans (hI.bel.mono HB3.out.size)
              have hc := (hblw.cell (p := ad.add x) (by rw [add_block]; omega)).trans (HC.out x hxl)
              have h5 := HQ5.out x hx2 hx3
              obtain ⟨b1, m1, d1, b2, m2, d2, g1, g2⟩ := HSL.out x hx3
              have hqt : qs[x] = (.slice b1 m1 d1, .slice b2 m2 d2) := by rw [← g1, ← g2]
              rw [hqt] at gq h5
              have GK := Lib.hid gk
              have GL := Lib.hid gl
              have GQ := Lib.hid gq
              clear gk gl gq g1 g2 hqt
              generalize ((pl.take t).map fun i : Fin v.ks.length => v.ks[i.val]'i.isLt) = Kt at GK hlk hI ⊢
              generalize ((pl.take t).map fun i : Fin v.ks.length => v.l[i.val]'(by have := i.isLt; have := HLEN.out; omega)) = Lt at GL hll hI ⊢
              generalize ((pl.take t).map fun i : Fin v.ks.length => qs[i.val]'(by have := i.isLt; have := HLEN.out; have := HQ.out; omega)) = Qt at GQ hI ⊢
              have hbx := (hI.bel.block _ (by omega)).trans HBX3.out
              have HBX := Lib.hid hbx
              obtain ⟨x0, x1, x2, x3, x4⟩ := row5p HBX.out
              obtain ⟨p0, p1, p2, p3, p4⟩ := row5p hI.hP
              have PV := Lib.hid hI
              clear hI hbx hblw
              go_wp2_with fail
              have PD := Lib.hid (PV.out.below ((Below.refl _ _).drew))
              clear PV
              go_region_law ((refine step_append_lies _ (by rfl) _ _ _ (by rfl) w3.heap.size 9 is _ 1 16 Tryz.underlying25 his hs0 hs1 hs2 rfl (by omega) (.slice Ak Kt.length ckk) Kt.length (Kt.map Value.string) (by rfl) (PD.out.kown.alloc _) ⟨wr.heap.size, 0, none⟩ 1 1 [.string v.ks[x]] (by rfl) (by rfl) (World.news_of_block (cs := #[.string v.ks[x]]) (t := 9) (fr := (0, 0)) (heap_alloc_new wr.drew _)) (by simp [Value.oneCell']) (by omega) (by unfold maxLen; omega) (by omega) (by simp; omega) (wr.heap.size + 1) (by simp) ?_; intro gg cap w5 hown5 hgrow5 hat5 hlt5; obtain ⟨c4, z4⟩ := RS.midK PD.out hgrow5))
              all_goals
                have hpk := PD.out.keysG (x := v.ks[x]) hown5 hgrow5 hat5
                generalize w5.setCell ⟨Q, 4, none⟩ (.slice (some ⟨gg, 0, none⟩) (Kt.length + 1) cap) = W5 at hpk ⊢
                clear p0 p1 p2 p3 p4 x0 x1 x2 x3 x4 hc ct c4 z4 hown5 hgrow5 hat5 hlt5 PD
                have hbx5 := (hpk.bel.block _ (by omega)).trans HBX3.out
                obtain ⟨p0, p1, p2, p3, p4⟩ := row5p hpk.hP
                obtain ⟨x0, x1, x2, x3, x4⟩ := row5p hbx5
                obtain ⟨f0, f1, f2, f3, f4⟩ := h5.keep hBw (fun p hp => (HB3.out.trans (hpk.bel.mono HB3.out.size)).cell (by omega))
                have hIlt := hpk.lt
                have PD := Lib.hid (hpk.below ((Below.refl _ _).drew))
                clear hpk hbx5
                go_wp2_with fail
                go_region_law ((refine step_append_lies _ (by rfl) _ _ _ (by rfl) w3.heap.size 27 i0 _ 5 80 Tryz.underlying24 hi0 hz0 hz1 hz2 rfl (by omega) (.slice Al Lt.length cl) Lt.length (flat5 Lt Qt) (by rfl) (PD.out.lown.alloc _) ⟨W5.heap.size, 0, none⟩ 1 1 (cellsV v.l[x] (.slice b1 m1 d1) (.slice b2 m2 d2)).toList (by rfl) (by rfl) (World.news_of_block (cs := cellsV v.l[x] (.slice b1 m1 d1) (.slice b2 m2 d2)) (t := 27) (fr := (0, 0)) (heap_alloc_new W5.drew _)) (by simp [Value.oneCell', cellsV]) (by omega) (by unfold maxLen; omega) (by omega) (by simp; omega) (W5.heap.size + 1) (by simp) ?_; intro gl capl w6 hown6 hgrow6 hat6 hlt6; obtain ⟨c3, z3⟩ := RS.midL PD.out hgrow6))
                all_goals
                  have hpv := PD.out.valsG (x := v.l[x]) (q := (.slice b1 m1 d1, .slice b2 m2 d2)) hown6 hgrow6 hat6
                  rw [← GL.out, ← GQ.out, ← GK.out] at hpv
                  generalize w6.setCell ⟨Q, 3, none⟩ (.slice (some ⟨gl, 0, none⟩) (Lt.length + 1) capl) = W6 at hpv ⊢
                  have PW := Lib.hid hpv
                  clear hpv hown6 hgrow6 hat6 hlt6 PD p0 p1 p2 p3 p4 x0 x1 x2 x3 x4 f0 f1 f2 f3 f4 c3 z3
                  go_wp2_with fail
                  go_roundw
                  case rel => exact ⟨t + 1, _, _, by omega, by go_num, PW.out⟩
                  case measure => simp [intOf]; omega
            · have hte : t = v.ks.length := by omega
              subst hte
              have e0 : pl.take v.ks.length = pl := List.take_of_length_le (by rw [HPN.out]; exact Nat.le_refl _)
              rw [e0] at hI
              rw [← HPV.out, HPK.out] at hI
              obtain ⟨Qt, hQt⟩ : ∃ Qt, (pl.map fun i : Fin v.ks.length => qs[i.val]'(by have := i.isLt; have := HLEN.out; have := HQ.out; omega)) = Qt := ⟨_, rfl⟩
              rw [hQt] at hI
              have heach : ∀ i (h : i < (byK v).length) (h2 : i < Qt.length), At w B0 m (byK v)[i] Qt[i].1 Qt[i].2 := by
                subst hQt
                intro i h h2
                have h3 : i < pl.length := by simpa using h2
                have e3 : (byK v)[i] = v.l[pl[i].val]'(by have := pl[i].isLt; have := HLEN.out; omega) := by simp [HPV.out]
                rw [e3, List.getElem_map]
                exact HQA.out _ _ _
              clear hQt e0
              have PS := Lib.hid hI
              have hres := (hI.bel.block _ (by omega)).trans HRS3.out
              obtain ⟨p0, p1, p2, p3, p4⟩ := row5p hI.hP
              obtain ⟨u0, u1, u2, u3, u4, z0, z1, z2, z3, z4⟩ := row5 hres
              have HRES := Lib.hid hres
              have HEA := Lib.hid heach
              clear hI hres heach
              go_wp2_with fail
              refine bodyPost_ret_by (results_cell_row rfl _ _ (w.heap.size + 1) 27 _ (0, 0) _ rfl (set5_row HRES.out (.int .i64 6) (.float .f64 0) (.string ⟨#[]⟩) (.slice Al (byK v).length cl) (.slice Ak (sortK v.ks).length ckk)) Tryz.underlying27 rfl sizeVal) rfl ?_
              have hd := RS.done (R := w.heap.size + 1) (r := .mk 6 0 ⟨#[]⟩ (byK v) (sortK v.ks)) (m := m) PS.out (by rw [← HSV.out]; exact HSM.out) HB3.out (by omega) (by omega) hB0 HEA.out (.int .i64 6) (.float .f64 0) (.string ⟨#[]⟩) (.slice Al (byK v).length cl) (.slice Ak (sortK v.ks).length ckk)
              rw [HSV.out]
              exact ⟨_, _, rfl, hd⟩
        all_goals exact False.elim hreg
end Go.Proofs.YtkklfdfmfdnjoaaGreatDoor
