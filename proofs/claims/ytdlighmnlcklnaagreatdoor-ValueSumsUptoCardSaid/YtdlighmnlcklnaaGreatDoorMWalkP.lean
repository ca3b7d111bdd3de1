/- The program's merge, walked: the closure that merges objects. -/
import Derived.Test.YtdlighmnlcklnaaGreatDoorMRegB
import Derived.Test.YtdlighmnlcklnaaGreatDoorMRegJP
import Derived.Maps.OwnSet
import Derived.Deep.AppendLies
import Derived.Deep.RegionLaw
namespace Go.Proofs.YtdlighmnlcklnaaGreatDoor
open Go Go.RowKit

set_option maxRecDepth 100000 in
set_option maxHeartbeats 6000000 in
theorem mergeP_any (J : V → V → V) (a b : V) (m B0 : Nat) (la ka lb kb : Value) (w : World) (hB0 : B0 ≤ w.heap.size) (ha : At w B0 (m + 1) a la ka) (hb : At w B0 (m + 1) b lb kb) (hna : a.ks.Nodup) (hla : a.ks.length = a.l.length) (hlb : b.ks.length = b.l.length) (hS : Small (mergeV J a b))
    (hJ : ∀ W, Below w.heap.size w W → ∀ i j (hi : i < a.l.length) (hj : j < b.l.length) (lx kx ly ky : Value), a.ks[i]? = b.ks[j]? → At W B0 m a.l[i] lx kx → At W B0 m b.l[j] ly ky → Calls Tryz.prog 126 #[.agg (cellsV a.l[i] lx kx), .agg (cellsV b.l[j] ly ky)] W fun e w' => ∃ lv kv, e = .returned (.agg (cellsV (J a.l[i] b.l[j]) lv kv)) ∧ AtN w' B0 W.heap.size m (J a.l[i] b.l[j]) lv kv ∧ Below W.heap.size W w') :
    Calls Tryz.prog 86 #[.agg (cellsV a la ka), .agg (cellsV b lb kb), .func (.func 126) #[] #[]] w fun e w' => ∃ lv kv, e = .returned (.agg (cellsV (mergeV J a b) lv kv)) ∧ AtN w' B0 w.heap.size (m + 1) (mergeV J a b) lv kv ∧ Below w.heap.size w w' := by
  have hsf := run_store_float Tryz.prog
  have hmm := run_makeMapH
  obtain ⟨i0, hi0, hz0, hz1, hz2⟩ := info_parts infoVal
  obtain ⟨is, his, hs0, hs1, hs2⟩ := info_parts infoStr
  obtain ⟨hsA, hka, hcpA, pa, pc, pB, po, rfl, hpab, hpi⟩ := ha.opened
  obtain ⟨ps, hps, hpp⟩ := pairs_of (P := fun i x y => ∃ h : i < a.l.length, FiveAt w pB (po + i * 5) a.l[i] x y ∧ At w B0 m a.l[i] x y) (fun i h => by obtain ⟨x, y, q⟩ := hpi i h; exact ⟨x, y, h, q⟩)
  obtain ⟨hsB, hkb, hcpB, qa, qc, qB, qo, rfl, hqab, hqi⟩ := hb.opened
  obtain ⟨qs, hqs, hqq⟩ := pairs_of (P := fun i x y => ∃ h : i < b.l.length, FiveAt w qB (qo + i * 5) b.l[i] x y ∧ At w B0 m b.l[i] x y) (fun i h => by obtain ⟨x, y, q⟩ := hqi i h; exact ⟨x, y, h, q⟩)
  have hreg := fun (W : World) (X : Nat) (k0 f0 s0 : Value) (hW : Below w.heap.size w W) (hX : W.heap[X]? = some (.cells #[k0, f0, s0, .slice pa a.l.length pc, ka] 27 (0, 0))) =>
    merge_region W X a m B0 pa pc ka ps pB po k0 f0 s0 hX hps (fun i h => by obtain ⟨A, n, c, A', n', c', g1, g2⟩ := At.slices (hpp i h).2.2; exact ⟨A, n, c, A', n', c', g1, g2⟩) hsA.2.2.2.2.1 hsA.2.2.2.2.2.1 hcpA hpab (Nat.le_trans hB0 hW.size) (fun i h h2 => (hpp i h2).2.1.keep (hpab (by omega)).2 (fun p hp => hW.cell (by omega))) ⟨ArrP.keep (p := fun b => b < B0) hka.1 (fun p hp => hW.cell (Nat.lt_of_lt_of_le hp hB0)), hka.2⟩
  obtain ⟨KA, ada, cka, rfl, hKA, hca⟩ := hka.1.dest
  obtain ⟨KB, adb, ckb, rfl, hKB, hcb⟩ := hkb.1.dest
  rw [List.length_map] at hKA hreg hKB ⊢
  rw [List.length_map]
  have hkca : ∀ t (ht : t < a.ks.length), w.cell? (ada.add t) = some (.string a.ks[t]) := fun t ht => hca t _ (by simp [ht])
  have hkcb : ∀ t (ht : t < b.ks.length), w.cell? (adb.add t) = some (.string b.ks[t]) := fun t ht => hcb t _ (by simp [ht])
  have hlA := hsA.2.2.2.2.2.1
  have hlB := hsB.2.2.2.2.2.1
  have hszA : ∀ t (ht : t < a.ks.length), a.ks[t].size ≤ 1048576 := fun t ht => by have := keysLen_up a.ks t ht; have := keysLen_le a.ks (t + 1); have := hsA.2.2.2.2.2.2; omega
  have hszB : ∀ t (ht : t < b.ks.length), b.ks[t].size ≤ 1048576 := fun t ht => by have := keysLen_up b.ks t ht; have := keysLen_le b.ks (t + 1); have := hsB.2.2.2.2.2.2; omega
  have HREG := Lib.hid hreg
  have HKA := Lib.hid hKA
  have HKB := Lib.hid hKB
  have HCA := Lib.hid hkca
  have HCB := Lib.hid hkcb
  have HPAB := Lib.hid hpab
  have HQAB := Lib.hid hqab
  have HPP := Lib.hid hpp
  have HQQ := Lib.hid hqq
  have HPS := Lib.hid hps
  have HQS := Lib.hid hqs
  have HSZA := Lib.hid hszA
  have HSZB := Lib.hid hszB
  have HJ := Lib.hid hJ
  have HS := Lib.hid hS
  have HNA := Lib.hid hna
  have HLA := Lib.hid hla
  have HLB := Lib.hid hlb
  unfold cellsV
  clear hreg hKA hKB hkca hkcb hpab hqab hpp hqq hps hqs hszA hszB hJ hS hna hla hlb ha hb hca hcb hka hkb hcpA hcpB hpi hqi hsA hsB
  go_enter Tryz.func86, Tryz.ntmps86
  go_wp2_with fail
  obtain ⟨r0, r1, r2, hz0', hbel0⟩ := threeM w (.cells #[.int .i64 a.k, .float .f64 a.f, .string a.s, .slice pa a.l.length pc, .slice KA a.ks.length cka] 27) (.cells #[.int .i64 b.k, .float .f64 b.f, .string b.s, .slice qa b.l.length qc, .slice KB b.ks.length ckb] 27) (.cells #[.int .i64 0, .float .f64 0, .string ⟨#[]⟩, .slice none 0 0, .slice none 0 0] 27)
  generalize (((w.alloc (.cells #[.int .i64 a.k, .float .f64 a.f, .string a.s, .slice pa a.l.length pc, .slice KA a.ks.length cka] 27)).alloc (.cells #[.int .i64 b.k, .float .f64 b.f, .string b.s, .slice qa b.l.length qc, .slice KB b.ks.length ckb] 27)).alloc (.cells #[.int .i64 0, .float .f64 0, .string ⟨#[]⟩, .slice none 0 0, .slice none 0 0] 27)) = W0 at r0 r1 r2 hz0' hbel0 ⊢
  have hmade := World.ownsMap_made (H := Unit) W0 Tryz.prog 9 (plainElem Tryz.prog 3)
  rw [hz0'] at hmade
  have HMADE := Lib.hid hmade
  have HR0 := Lib.hid r0
  have HR1 := Lib.hid r1
  have HR2 := Lib.hid r2
  have HB0' := Lib.hid hbel0
  have HZ := Lib.hid hz0'
  clear hmade r0 r1 r2 hbel0 hz0' hmm
  go_loopw [22] (fun k W => ∃ x : Nat, x ≤ a.ks.length ∧ k = .int .i64 x ∧ W.ownsMap (H := Unit) Tryz.prog 9 (plainElem Tryz.prog 3) (w.heap.size + 1 + 1 + 1) x (plTo a.ks x) ∧ Below W0.heap.size W0 W) (fun k _ => a.ks.length - (intOf k).toNat)
  case atStart => exact ⟨0, Nat.zero_le _, rfl, HMADE.out, (Below.refl _ _).alloc (Nat.le_refl _) _⟩
  case round =>
    obtain ⟨x, hx, rfl, hown, hbel⟩ := hrel
    clear HMADE
    by_cases hlt : x < a.ks.length
    · obtain ⟨rfl, hadb⟩ := HKA.out (by omega)
      have hc := (hbel.cell (p := ada.add x) (by rw [add_block, HZ.out]; omega)).trans ((HB0'.out.cell (p := ada.add x) (by rw [add_block]; omega)).trans (HCA.out x hlt))
      have hkey := litK_ok a.ks[x] (HSZA.out x hlt)
      have HST := Lib.hid (plTo_step hlt)
      have HBEL := Lib.hid hbel
      have HZ2 := Lib.hid hbel.size
      have HOWN := Lib.hid hown
      clear hbel hown
      go_wp2_with (at_mapUpdate; refine wpList_mapUpdate_own _ rfl _ _ _ 125 rfl 9 3 lawS Tryz.underlying125 _ (w.heap.size + 1 + 1 + 1) x _ rfl HOWN.out (by unfold maxLen; omega) _ _ _ rfl rfl hkey _ [] (plainElem_int Tryz.underlying3 (WalkArith.wf_i64 (by omega))) ?_; intro w1 hown1 hgrow1)
      have R1 := Lib.hid (HST.out.symm ▸ hown1)
      have R2 := Lib.hid (HBEL.out.grown hgrow1 HBEL.out.size (fun j hj => by have := HZ.out; have := Option.some.inj hj; omega))
      clear hown1 hgrow1 hc hkey
      go_wp2_with fail
      go_roundw
      case rel => exact ⟨x + 1, by omega, by go_num, R1.out, R2.out⟩
      case measure => simp [intOf]; omega
    · obtain rfl : x = a.ks.length := by omega
      obtain ⟨W1, rfl⟩ : ∃ W1, W1 = wr := ⟨_, rfl⟩
      have hzW := hbel.size
      have e0 := HZ.out
      have HQ0 := Lib.hid ((hbel.block _ (by omega)).trans HR0.out)
      have HQ1 := Lib.hid ((hbel.block _ (by omega)).trans HR1.out)
      have HQ2 := Lib.hid ((hbel.block _ (by omega)).trans HR2.out)
      have HBW := Lib.hid (HB0'.out.trans (hbel.mono (by omega)))
      have HOWN := Lib.hid hown
      have hmlt := hown.lt
      have hr7 := HREG.out W1 w.heap.size (.int .i64 a.k) (.float .f64 a.f) (.string a.s) HBW.out HQ0.out
      have HR7 := Lib.hid hr7
      clear hbel hown hr7 HREG HR0 HR1 HR2 HZ HB0' e0
      go_wp2_with fail
      refine wp_mono (HR7.out _ _ _ _ _ _ _ _ _ _ _ _ _ _ _ _ _ _ _ _ _ _ _ _ _ _ _ _ _ _ _ _ _ _ _ _ _ _ _ _ _ _ _ _ _ _ _ _ _ _ _ _ _ _ _ _ _ _ _ _ _ _ _ _ _ _ _ _ _ _ _ _ _ _ _ _ _ _ _ _ _ _ _ _ _ _) ?_
      intro e a2 W2 hreg
      cases e
      case normal =>
        obtain ⟨Q, lvv, kvv, rfl, hst⟩ := hreg
        have HST := Lib.hid hst
        obtain ⟨x0, x1, x2, x3, x4⟩ := row5q ((hst.bel.block _ (by omega)).trans HQ1.out)
        clear hst HR7
        go_wp2_with fail
        clear x0 x1 x2 x3 x4
        go_loopw [41] (fun k W => ∃ (t : Nat) (lvv kvv : Value) (qt : List (Value × Value)), t ≤ b.ks.length ∧ k = .int .i64 t ∧ RS W1 Q (mergeTo J a b t).1 qt (mergeTo J a b t).2 lvv kvv W ∧ EA W B0 W1.heap.size Q m lvv kvv (mergeTo J a b t).1 qt) (fun k _ => b.ks.length - (intOf k).toNat)
        case atStart => exact ⟨0, lvv, kvv, ps, Nat.zero_le _, rfl, HST.out, EA.start hB0 (HBW.out.trans (HST.out.bel.mono HBW.out.size)) (fun i h1 h2 => (HPP.out i h2).2.2)⟩
        case round =>
          obtain ⟨t, lvv, kvv, qt, ht, rfl, hI, hE⟩ := hrel
          clear HST
          have hmono := mergeTo_mono J a b ht
          have hlen := mergeTo_len J (b := b) HLA.out t
          have hlong := mergeTo_long J a b t
          have hSl : (mergeTo J a b b.ks.length).1.length ≤ 1048576 := HS.out.2.2.2.2.1
          have hSk : (mergeTo J a b b.ks.length).2.length ≤ 1048576 := HS.out.2.2.2.2.2.1
          have hhit := fun i (hi : i < a.ks.length) (hlt : t < b.ks.length) (e : a.ks[i] = b.ks[t]) => mergeTo_hit J HNA.out HLA.out HLB.out hi hlt e
          have hmiss := fun (hlt : t < b.ks.length) (h : b.ks[t] ∉ a.ks) => mergeTo_miss J HLB.out hlt h
          have hend : t = b.ks.length → mergeV J a b = .mk 6 0 ⟨#[]⟩ (mergeTo J a b t).1 (mergeTo J a b t).2 := fun e => by subst e; rfl
          obtain ⟨L, hL⟩ : ∃ L, (mergeTo J a b t).1 = L := ⟨_, rfl⟩
          obtain ⟨K, hK⟩ : ∃ K, (mergeTo J a b t).2 = K := ⟨_, rfl⟩
          rw [hL, hK] at hmono hlen hI hend
          rw [hL] at hE hlong
          simp only [hL, hK] at hhit hmiss
          have HHIT' := Lib.hid hhit
          have HMISS' := Lib.hid hmiss
          have HEND := Lib.hid hend
          have HLEN := Lib.hid hlen
          have hKL : K.length ≤ 1048576 := by omega
          have hLL : L.length ≤ 1048576 := by omega
          have hLa : a.l.length ≤ L.length := hlong
          clear hhit hmiss hend hL hK hlen hlong hmono hSl hSk
          obtain ⟨Al, cl, rfl⟩ := own_slC hI.lown
          obtain ⟨Ak, ck, rfl⟩ := own_slC hI.kown
          have hIlt := hI.lt
          have hIQ := hI.hQ
          have hbw2 : Below w.heap.size w wr := HBW.out.trans (hI.bel.mono HBW.out.size)
          have hb0 := (hI.bel.block _ (by omega)).trans HQ0.out
          have hb1 := (hI.bel.block _ (by omega)).trans HQ1.out
          by_cases hlt : t < b.ks.length
          · obtain ⟨rfl, hadb⟩ := HKB.out (by omega)
            have hc := (hbw2.cell (p := adb.add t) (by rw [add_block]; omega)).trans (HCB.out t hlt)
            have hkey := litK_ok b.ks[t] (HSZB.out t hlt)
            have hmap := map_below HOWN.out hI.bel (by omega)
            have HMAP := Lib.hid hmap
            have HBW2 := Lib.hid hbw2
            have HBX0 := Lib.hid hb0
            have HBX1 := Lib.hid hb1
            have htl : t < b.l.length := by have := HLB.out; omega
            clear hmap hbw2 hb0 hb1
            by_cases hm : b.ks[t] ∈ a.ks
            · obtain ⟨i, hi, hie⟩ := List.getElem_of_mem hm
              have hat := plTo_at HNA.out hi (.lit (.int .i64 0)) a.ks.length hi (Nat.le_refl _)
              rw [hie] at hat
              have HAT := Lib.hid hat
              have hil : i < a.l.length := by have := HLA.out; omega
              have HHIT := Lib.hid (HHIT'.out i hi hlt hie)
              clear hat hm
              have hip : i < L.length := by omega
              obtain ⟨rfl, hpB⟩ := HPAB.out (by omega)
              obtain ⟨rfl, hqB⟩ := HQAB.out (by omega)
              obtain ⟨_, h5a, hAa⟩ := HPP.out i (by have := HPS.out; omega)
              obtain ⟨_, h5b, hAb⟩ := HQQ.out t (by have := HQS.out; omega)
              have hjc := HJ.out wr.drew HBW2.out.drew i t hil htl _ _ _ _ (by rw [List.getElem?_eq_getElem hi, List.getElem?_eq_getElem hlt, hie]) (At.keep (fun p hp => HBW2.out.drew.cell (by omega)) _ _ _ _ hAa) (At.keep (fun p hp => HBW2.out.drew.cell (by omega)) _ _ _ _ hAb)
              obtain ⟨a1, n1, k1, a2, n2, k2, e1, e2⟩ := hAa.slices
              obtain ⟨a3, n3, k3, a4, n4, k4, e3, e4⟩ := hAb.slices
              rw [e1, e2] at h5a hjc
              rw [e3, e4] at h5b hjc
              have H5A := Lib.hid (h5a.keep hpB (fun p hp => HBW2.out.cell (by omega)))
              have H5B := Lib.hid (h5b.keep hqB (fun p hp => HBW2.out.cell (by omega)))
              obtain ⟨r, hr⟩ : ∃ r, J a.l[i] b.l[t] = r := ⟨_, rfl⟩
              rw [hr] at hjc HHIT
              have HJC := Lib.hid hjc
              rcases id hI.lown.2 with ⟨_, h0⟩ | ⟨g, cap, cur, hsl, hgb, hgh, hgc, _, hgs, _⟩
              · omega
              injection hsl with e5 _ e6
              subst e5
              subst e6
              clear hr h5a h5b hAa hAb e1 e2 e3 e4 hgh hgc hgs hjc
              have HI := Lib.hid hI
              have HE := Lib.hid hE
              clear hI hE
              go_wp2_with (at_lookup; refine wpList_lookup_own_ok_int _ rfl _ _ 125 rfl 9 3 .i64 lawS Tryz.underlying125 Tryz.underlying3 (zeroI _) (w.heap.size + 1 + 1 + 1) a.ks.length _ rfl HMAP.out _ _ rfl hkey ?_; intro c hcat hwc; rw [HAT.out.1]; obtain rfl : c = (i : Int) := (by rw [HAT.out.2] at hcat; injection hcat with h1; injection h1 with _ h2; exact h2.symm))
              refine wp_mono (merge_regionJP W1 wr Q w.heap.size (w.heap.size + 1) B0 m t i a.l.length pB po pc b.l.length qB qo qc g cl L qt K (.slice Ak K.length ck) HI.out HE.out (by omega) hLL hip a.l[i] b.l[t] r a1 a2 a3 a4 n1 k1 n2 k2 n3 k3 n4 k4 _ _ _ _ _ _ _ _ HBX0.out HBX1.out hil htl H5A.out H5B.out HJC.out _ _ _ _ _ _ _ _ _ _ _ _ _ _ _ _ _ _ _ _ _ _ _ _ _ _ _ _ _ _ _ _ _ _ _ _ _ _ _ _ _ _ _ _ _ _ _ _ _ _ _ _ _ _ _ _ _ _ _ _ _ _ _ _ _ _ _ _ _ _ _ _ _ _ _ _ _ _ _ _ _) ?_
              intro e a3' W3 hreg3
              cases e
              case normal =>
                obtain ⟨_, _, _, _, _, _, _, _, _, _, _, _, _, _, _, _, aa, bb, rfl, hst, hea⟩ := hreg3
                have HST := Lib.hid hst
                have HEA := Lib.hid hea
                clear hst hea HI HE
                go_wp2_with fail
                go_roundw
                case rel => exact ⟨t + 1, _, _, _, by omega, by go_num, by rw [HHIT.out]; simpa using HST.out, by rw [HHIT.out]; exact HEA.out⟩
                case measure => simp [intOf]; omega
              all_goals exact False.elim hreg3
            · have HAT : Hid (Maps.has (plTo a.ks a.ks.length) (litK b.ks[t]) = false) := Lib.hid (plTo_no a.ks _ hm a.ks.length (Nat.le_refl _))
              have HM := Lib.hid (HMISS'.out hlt hm)
              clear hm
              obtain ⟨rfl, hqB⟩ := HQAB.out (by omega)
              obtain ⟨_, h5b, hAb⟩ := HQQ.out t (by have := HQS.out; omega)
              obtain ⟨a3, n3, k3, a4, n4, k4, e3, e4⟩ := hAb.slices
              rw [e3, e4] at h5b
              have HAB := Lib.hid hAb
              rw [e3, e4] at HAB
              clear hAb e3 e4
              obtain ⟨_, _, _, _, c4⟩ := row5q hI.hP
              have HI := Lib.hid hI
              have HE := Lib.hid hE
              clear hI hE
              go_wp2_with (first
                | (at_lookup; refine wpList_lookup_own_ok_int _ rfl _ _ 125 rfl 9 3 .i64 lawS Tryz.underlying125 Tryz.underlying3 (zeroI _) (w.heap.size + 1 + 1 + 1) a.ks.length _ rfl HMAP.out _ _ rfl hkey ?_; intro c hcat hwc; rw [HAT.out])
                | (at_builtin; refine wpList_append_lies _ rfl _ _ _ rfl W1.heap.size 9 is _ 1 16 Tryz.underlying25 his hs0 hs1 hs2 rfl (by omega) (.slice Ak K.length ck) K.length (K.map Value.string) rfl (HI.out.kown.alloc _) ⟨wr.heap.size, 0, none⟩ 1 1 [.string b.ks[t]] rfl rfl (World.news_of_block (cs := #[.string b.ks[t]]) (t := 9) (fr := (0, 0)) (heap_alloc_new wr _)) (by simp [Value.oneCell']) (by omega) (by unfold maxLen; omega) (by omega) (by simp; omega) (wr.heap.size + 1) (by simp) ?_; intro gg capg w5 hown5 hgrow5 hat5 hlt5; obtain ⟨cc4, zz4⟩ := RS.midK HI.out hgrow5))
              have hpk := HI.out.keysG (x := b.ks[t]) hown5 hgrow5 hat5
              have hek := HE.out.keysG (kv' := .slice (some ⟨gg, 0, none⟩) (K.length + 1) capg) HI.out (by omega) hgrow5 (by rcases hat5 with q | q; exact Or.inl q.symm; exact Or.inr (by rw [q]; rfl))
              clear hown5 hgrow5 hat5 hlt5 cc4 zz4 c4 hkey HMAP
              generalize w5.setCell ⟨Q, 4, none⟩ (.slice (some ⟨gg, 0, none⟩) (K.length + 1) capg) = W5 at hpk hek ⊢
              have hbw5 : Below w.heap.size w W5 := HBW.out.trans (hpk.bel.mono HBW.out.size)
              have hb5 := (hpk.bel.block _ (by omega)).trans HQ1.out
              have H5B := Lib.hid (h5b.keep hqB (fun p hp => hbw5.cell (by omega)))
              have HABW := Lib.hid (At.keep (fun p hp => hbw5.cell (by omega)) _ _ _ _ HAB.out)
              have HB5 := Lib.hid hb5
              have HPK := Lib.hid hpk
              have HEK := Lib.hid hek
              clear hpk hek hb5 hbw5 HI HE h5b
              refine wp_mono (merge_regionB W1 W5 Q (w.heap.size + 1) B0 m t b.l.length qB qo qc L qt (K ++ [b.ks[t]]) Al cl (.slice (some ⟨gg, 0, none⟩) (K.length + 1) capg) HPK.out HEK.out (by omega) hLL b.l[t] a3 a4 n3 k3 n4 k4 _ _ _ _ HB5.out htl H5B.out HABW.out _ _ _ _ _ _ _ _ _ _ _ _ _ _ _ _ _ _ _ _ _ _ _ _ _ _ _ _ _ _ _ _ _ _ _ _ _ _ _ _ _ _ _ _ _ _ _ _ _ _ _ _ _ _ _ _ _ _ _ _ _ _ _ _ _ _ _ _ _ _ _ _ _ _ _ _ _ _ _ _ _ _ _ _) ?_
              intro e a3' W3 hreg3
              cases e
              case normal =>
                obtain ⟨_, _, _, _, _, _, _, _, _, _, lv', rfl, hst, hea⟩ := hreg3
                have HST := Lib.hid hst
                have HEA := Lib.hid hea
                clear hst hea HPK HEK
                go_wp2_with fail
                go_roundw
                case rel => exact ⟨t + 1, _, _, _, by omega, by go_num, by rw [HM.out]; exact HST.out, by rw [HM.out]; exact HEA.out⟩
                case measure => simp [intOf]; omega
              all_goals exact False.elim hreg3
          · obtain rfl : t = b.ks.length := by omega
            have hres := (hI.bel.block _ (by omega)).trans HQ2.out
            obtain ⟨p0, p1, p2, p3, p4⟩ := row5q hI.hP
            obtain ⟨u0, u1, u2, u3, u4, z0, z1, z2, z3, z4⟩ := row5 hres
            have HRES := Lib.hid hres
            have PS := Lib.hid hI
            have PE := Lib.hid hE
            have HV := Lib.hid (HEND.out rfl)
            clear hI hE hres hb0 hb1 hbw2
            go_wp2_with fail
            refine bodyPost_ret_by (results_cell_row rfl _ _ (w.heap.size + 1 + 1) 27 _ (0, 0) _ rfl (set5_row HRES.out (.int .i64 6) (.float .f64 0) (.string ⟨#[]⟩) (.slice Al L.length cl) (.slice Ak K.length ck)) Tryz.underlying27 rfl sizeValM) rfl ?_
            have hd := RS.doneM (R := w.heap.size + 1 + 1) (r := .mk 6 0 ⟨#[]⟩ L K) (m := m) PS.out (by rw [← HV.out]; exact HS.out) HBW.out (by omega) (by omega) hB0 PE.out (.int .i64 6) (.float .f64 0) (.string ⟨#[]⟩) (.slice Al L.length cl) (.slice Ak K.length ck)
            rw [HV.out]
            exact ⟨_, _, rfl, hd⟩
      all_goals exact False.elim hreg
end Go.Proofs.YtdlighmnlcklnaaGreatDoor
