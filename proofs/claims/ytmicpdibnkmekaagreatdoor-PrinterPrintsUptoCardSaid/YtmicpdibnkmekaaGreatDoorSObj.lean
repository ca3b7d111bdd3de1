/- The document's run: objects. -/
import Derived.Test.YtmicpdibnkmekaaGreatDoorSArr
import Derived.Deep.RegionHeldLaw
import Derived.Deep.RegionHeld3
import Derived.Deep.CutRange
import Derived.Deep.DeepCutAuto
namespace Go.Proofs.YtmicpdibnkmekaaGreatDoor
open Go Go.RowKit

theorem gen_worldP {F R : World → Prop} {W : World} (h1 : R W) (h2 : ∀ W, R W → F W) : F W := h2 W h1
theorem below_frozenP {B : Nat} {w w' : World} (hb : Below B w w') {p : Addr} (h : p.block < B) : w'.frozen? p = w.frozen? p := by
  unfold World.frozen?
  rw [hb.block _ h]
theorem blank_yes {y : Sty} (h : 0 < y.ind ∨ y.tab = true) : blankT (stepT y) = [32] := by
  unfold blankT
  rw [step_data]
  rw [if_neg]
  cases ht : y.tab with
  | true => simp
  | false =>
    rcases h with h | h
    · intro e
      have e2 : (Lib.repeatL [32] y.ind.toNat) = [] := by simpa using e
      have := congrArg List.length e2
      rw [Lib.repeatL_length] at this
      simp at this
      omega
    · rw [ht] at h; cases h
theorem blank_no {y : Sty} (h0 : 0 ≤ y.ind) (h : ¬ (0 < y.ind ∨ y.tab = true)) : blankT (stepT y) = [] := by
  unfold blankT
  rw [step_data]
  have h1 : y.ind = 0 := by
    by_cases hh : 0 < y.ind
    · exact absurd (Or.inl hh) h
    · omega
  have h2 : y.tab = false := by
    cases ht : y.tab with
    | false => rfl
    | true => exact absurd (Or.inr ht) h
  rw [h1, h2]
  rfl
theorem pairT_def (y : Sty) (step : ByteArray) (key : ByteArray) (text : List UInt8) : pairT y step key text = tokT y.col [51, 52, 59, 49] (escT y.asc key) ++ sgnT y.col [58] ++ blankT step ++ text := rfl
set_option maxRecDepth 100000 in
set_option maxHeartbeats 32000000 in
theorem many_objR (w0 : World) (b : Nat) (hb : w0.heap.size ≤ b) (y : Sty) (h0 : 0 ≤ y.ind) (h7 : y.ind ≤ 7) (m : Nat) (hC : ValueR w0 b y m) (v : V) (d : Nat) (hr : rightV d v = true) (hk6 : v.k = 6) (hkl : v.ks.length = v.l.length) (hok : okK (sortK v.ks) = true) (hkg : ∀ key ∈ v.ks, key.size ≤ 1048576 ∧ allGood key 0 = true)
    (lv kv : Value) (hA : At w0 w0.heap.size (m + 1) v lv kv) (lev : Nat) (hlev : lev + 1 + m ≤ 1000000) (st : Option (List UInt8)) (w : World) (hbel : Below w0.heap.size w0 w) (hw : RnAt w b y st) :
    Calls Tryz.prog 82 #[.pointer (some ⟨b, 0, none⟩), .agg (cellsV v lv kv), .int .i64 lev] w fun e w' => e = .returned (.tuple #[]) ∧ RnAt w' b y (putS st (rowT y.col (stepT y) lev [123] [125] v.l.length (fun i => pairT y (stepT y) (v.ks.getD (ordP y.srt v.ks i) default) (printV y (stepT y) m (v.l.getD (ordP y.srt v.ks i) default) (lev + 1))))) ∧ WStep b w w' := by
  have hsf := run_store_float Tryz.prog
  obtain ⟨T, hT⟩ : ∃ T : Nat → List UInt8, (fun i => pairT y (stepT y) (v.ks.getD (ordP y.srt v.ks i) default) (printV y (stepT y) m (v.l.getD (ordP y.srt v.ks i) default) (lev + 1))) = T := ⟨_, rfl⟩
  obtain ⟨K, hK⟩ : ∃ K : Nat → ByteArray, (fun i => v.ks.getD (ordP y.srt v.ks i) default) = K := ⟨_, rfl⟩
  have hp : ∀ j, j < v.l.length → ordP y.srt v.ks j < v.ks.length := fun j hj => ord_lt y.srt v.ks j (by omega)
  have hKg : ∀ j, j < v.l.length → (K j).size ≤ 1048576 ∧ allGood (K j) 0 = true := by
    intro j hj
    rw [← hK]
    have h1 := hp j hj
    show (v.ks.getD _ default).size ≤ _ ∧ allGood (v.ks.getD _ default) 0 = true
    rw [List.getD_eq_getElem?_getD, List.getElem?_eq_getElem h1]
    exact hkg _ (List.getElem_mem h1)
  have hget : ∀ j (hj : j < v.l.length) W, Below w0.heap.size w0 W → Calls Tryz.prog 137 #[.agg (cellsV v lv kv), .string (K j)] W fun e w' =>
      (∃ a1 n1 k1 a2 n2 k2, e = .returned (.tuple #[.agg #[.int .i64 (v.l.getD (ordP y.srt v.ks j) default).k, .float .f64 (v.l.getD (ordP y.srt v.ks j) default).f, .string (v.l.getD (ordP y.srt v.ks j) default).s, .slice a1 n1 k1, .slice a2 n2 k2], .bool true]) ∧ At w0 w0.heap.size m (v.l.getD (ordP y.srt v.ks j) default) (.slice a1 n1 k1) (.slice a2 n2 k2)) ∧ Below W.heap.size W w' := by
    intro j hj W hW
    have h1 := hp j hj
    have h2 : ordP y.srt v.ks j < v.l.length := by omega
    have e1 : v.l.getD (ordP y.srt v.ks j) default = v.l[ordP y.srt v.ks j] := by simp [List.getD, h2]
    have e2 : v.ks[ordP y.srt v.ks j] = K j := by rw [← hK]; simp [List.getD, h1]
    rw [e1]
    exact refGetR_any w0 v m lv kv _ h2 (K j) h1 e2 (by rw [← e2]; exact ord_first (okK_nodup hok) _ h1) W hA hW
  have hrs : ∀ j (hj : j < v.l.length), rightV (d - 1) (v.l.getD (ordP y.srt v.ks j) default) = true := by
    intro j hj
    have h2 : ordP y.srt v.ks j < v.l.length := by have := hp j hj; omega
    have e1 : v.l.getD (ordP y.srt v.ks j) default = v.l[ordP y.srt v.ks j] := by simp [List.getD, h2]
    rw [e1]
    exact right_sub hr h2
  have hTj : ∀ j, T j = pairT y (stepT y) (K j) (printV y (stepT y) m (v.l.getD (ordP y.srt v.ks j) default) (lev + 1)) := by intro j; rw [← hT, ← hK]
  rw [hT]
  have hkeys : ∀ W, Below w0.heap.size w0 W → Calls Tryz.prog 134 #[.agg (cellsV v lv kv)] W fun e w' => ∃ kv', e = .returned kv' ∧ OwnKeys w' W.heap.size kv' (sortK v.ks) ∧ Below W.heap.size W w' :=
    fun W hW => refKeysO_any v (m + 1) lv kv W ((hA.below hW).more hW.size)
  obtain ⟨hsm, ha, hcp, a, c, B, o, rfl, hab, hi⟩ := hA.opened
  obtain ⟨A, ad, ck, rfl, hAD, hac⟩ := ha.1.dest
  rw [List.length_map] at hAD hget hkeys ⊢
  have hls := hsm.2.2.2.2.1
  have hlt0 := hw.lt
  have hks1 : ∀ j, K j = v.ks.getD (ordP y.srt v.ks j) default := fun j => by rw [← hK]
  unfold cellsV at hget hkeys ⊢
  rw [hk6] at hget hkeys ⊢
  have hrow := heap_alloc_new w (.cells #[.int .i64 6, .float .f64 v.f, .string v.s, .slice a v.l.length c, .slice A v.ks.length ck] 27)
  have hbl0 : Below w.heap.size w (w.alloc (.cells #[.int .i64 6, .float .f64 v.f, .string v.s, .slice a v.l.length c, .slice A v.ks.length ck] 27)) := (Below.refl w.heap.size w).alloc (Nat.le_refl _) _
  have hc2 : ∀ ob, (w.alloc ob).cell? ⟨b, 2, none⟩ = some (.bool y.srt) := fun ob => (hw.below ((Below.refl w.heap.size w).alloc (Nat.le_refl _) ob)).cells.2.2.1
  have HW1 := Lib.hid (hw.below hbl0)
  have HS1 := Lib.hid (WStep.of_below hbl0 (Nat.le_of_lt hlt0))
  have HROW := Lib.hid hrow
  have HBEL := Lib.hid hbel
  have HC := Lib.hid hC
  have HI := Lib.hid hi
  have HAB := Lib.hid hab
  have HRS := Lib.hid hrs
  have HTJ := Lib.hid hTj
  have HGET := Lib.hid hget
  have HKEYS := Lib.hid hkeys
  have HKG := Lib.hid hKg
  have HKS := Lib.hid hks1
  have HP := Lib.hid hp
  have HAD := Lib.hid hAD
  have HAC := Lib.hid hac
  have HKL := Lib.hid hkl
  have HOK := Lib.hid hok
  clear hT hK hrow hbl0 hw hbel hC hi hab hr hrs hTj hget hkeys hKg hks1 hp hAD hac hkl hok hkg hcp ha hA hsm hk6
  go_enter Tryz.func82, Tryz.ntmps82
  go_upto_if 20 with fail
  generalize (w.alloc (.cells #[.int .i64 6, .float .f64 v.f, .string v.s, .slice a v.l.length c, .slice A v.ks.length ck] 27)) = w01 at HW1 HS1 HROW ⊢
  clear hc2
  go_cut [8] from 11 (fun s8 wx => ∃ (KA : Option Addr) (kad : Addr) (ck' : Nat), s8 = .slice KA v.ks.length ck' ∧ Hid (RnAt wx b y st) ∧ Hid (WStep b w wx) ∧ Hid (wx.heap[w.heap.size]? = some (.cells #[.int .i64 6, .float .f64 v.f, .string v.s, .slice a v.l.length c, .slice A v.ks.length ck] 27 (0, 0))) ∧ Hid (KRow wx b v.l.length KA kad K))
  case first =>
    obtain ⟨e0, e1, e2, e3, e4, _⟩ := row5' HROW.out
    cases hsrt : y.srt with
    | false =>
      rw [hsrt] at HKS
      go_wp2_with fail
      go_meet
      case rel =>
        refine ⟨A, ad, ck, rfl, HW1, HS1, HROW, Lib.hid ?_⟩
        intro hn
        obtain ⟨rfl, hadb⟩ := HAD.out (by rw [HKL.out]; exact hn)
        refine ⟨rfl, fun j hj => ?_, Or.inl (by omega)⟩
        rw [(HBEL.out.trans ((HS1.out.1).mono hb)).cell (p := ad.add j) (by rw [add_block]; exact hadb)]
        refine HAC.out j _ ?_
        have hj2 : j < v.ks.length := by rw [HKL.out]; exact hj
        rw [HKS.out j]
        have e : ordP false v.ks j = j := rfl
        rw [e]
        simp [List.getD, hj2]
    | true =>
      rw [hsrt] at HKS
      go_wp2_with fail
      refine (HKEYS.out w01 (HBEL.out.trans ((HS1.out.1).mono hb))).mono ?_
      rintro e w1 ⟨kv', rfl, hown, hb1⟩
      have hown : w1.ownsRow w01.heap.size 9 1 kv' (sortK v.ks).length ((sortK v.ks).map Value.string) := hown
      have hkl1 : (sortK v.ks).length = v.ks.length := sortK_len v.ks
      rw [hkl1] at hown
      have hkr : ∃ KA kad ck', kv' = .slice KA v.ks.length ck' ∧ KRow w1 b v.l.length KA kad K := by
        rcases hown.2 with ⟨rfl, hz⟩ | ⟨g, cap, cur, rfl, hg, hh, _⟩
        · exact ⟨none, ⟨0, 0, none⟩, 0, by rw [hz], fun hn => by have := HKL.out; omega⟩
        · refine ⟨some ⟨g, 0, none⟩, ⟨g, 0, none⟩, cap, rfl, fun hn => ⟨rfl, fun j hj => ?_, Or.inr ⟨?_, cur, _, hh⟩⟩⟩
          · refine hown.cells (g := g) rfl j _ ?_
            have hj2 : j < v.ks.length := by rw [HKL.out]; exact hj
            rw [HKS.out j, ord_key j hj2]
            simp [List.getD, hkl1, hj2]
          · have := HW1.out.lt
            show g ≠ b
            omega
      obtain ⟨KA, kad, ck', rfl, hkr⟩ := hkr
      have HKR := Lib.hid hkr
      have HB1 := Lib.hid hb1
      clear hkr hown hkl1 hb1
      go_wp2_with fail
      go_meet
      case rel => exact ⟨KA, kad, ck', rfl, Lib.hid (HW1.out.below HB1.out), Lib.hid (HS1.out.trans (WStep.of_below HB1.out (Nat.le_of_lt HW1.out.lt))), Lib.hid ((HB1.out.block _ (Array.getElem?_eq_some_iff.1 HROW.out).1).trans HROW.out), HKR⟩
  case rest =>
    clear HW1 HS1 HROW HKEYS HAD HAC HOK HKS HP
    obtain ⟨KA, kad, ck', rfl, HW1, HS1, HROW, HKR⟩ := hcut
    go_wp2_with fail
    refine (sign_R b y st 123 wc HW1.out).mono ?_
    rintro e w2 ⟨rfl, hw2, hs2⟩
    have HW2 := Lib.hid hw2
    have HS2 := Lib.hid (HS1.out.trans hs2)
    have HROW2 := Lib.hid (hs2.block HROW.out (by omega) (by decide))
    have HKR2 := Lib.hid (HKR.out.step hs2)
    clear hw2 hs2 HW1 HS1 HROW HKR
    go_wp2_with fail
    go_loopw [9, 10] (fun i x10 W => ∃ (q : Value) (j : Nat), q = x10 ∧ i = .int .i64 j ∧ j ≤ v.l.length ∧ RnAt W b y (putS st (sgnT y.col [123] ++ prtT y.col (stepT y) lev T j)) ∧ WStep b w W ∧ W.heap[w.heap.size]? = some (.cells #[.int .i64 6, .float .f64 v.f, .string v.s, .slice a v.l.length c, .slice A v.ks.length ck] 27 (0, 0)) ∧ KRow W b v.l.length KA kad K) (fun i _ _ => v.l.length - (intOf i).toNat)
    case atStart => exact ⟨_, 0, rfl, rfl, Nat.zero_le _, by have := HW2.out; rw [show prtT y.col (stepT y) lev T 0 = [] from rfl, List.append_nil]; exact this, HS2.out, HROW2.out, HKR2.out⟩
    case round =>
      obtain ⟨q, j, rfl, rfl, hj, hwr, hsr, hrow, hkr⟩ := hrel
      clear HW2 HS2 HROW2 HKR2
      obtain ⟨S, hS⟩ : ∃ S, putS st (sgnT y.col [123] ++ prtT y.col (stepT y) lev T j) = S := ⟨_, rfl⟩
      obtain ⟨_, _, _, _, _, c6⟩ := hwr.cells
      obtain ⟨e0, e1, e2, e3, e4, _⟩ := row5' hrow
      rw [hS] at hwr c6
      have HWR := Lib.hid hwr
      have HSR := Lib.hid hsr
      have HROW := Lib.hid hrow
      have HKR := Lib.hid hkr
      have HS := Lib.hid hS
      clear hwr hsr hrow hkr hS
      by_cases hlt : j < v.l.length
      · have dj : decide ((j : Int) < (v.l.length : Int)) = true := decide_eq_true (by omega)
        cases S with
        | none =>
          have hx : RnAt wr b y (putS st (sgnT y.col [123] ++ prtT y.col (stepT y) lev T v.l.length)) := by
            rw [prt_more HS.out _ hj]; exact HWR.out
          have HX := Lib.hid hx
          have d0 : decide ((0 : Int) < (v.l.length : Int)) = true := decide_eq_true (by omega)
          have hn0 : ¬ v.l.length = 0 := by omega
          have HN0 := Lib.hid hn0
          clear hx hn0
          have hmg := margin_R b y h0 h7 _ lev (by omega) wr HX.out
          rw [putS_append] at hmg
          have HMG := Lib.hid hmg
          clear hmg
          go_wp2_with fail
          refine HMG.out.mono ?_
          rintro e w6 ⟨rfl, hw6, hs6⟩
          have hsg := sign_R b y _ 125 w6 hw6
          rw [putS_append] at hsg
          have HSG := Lib.hid hsg
          have HS6 := Lib.hid (HSR.out.trans hs6)
          clear hsg hw6 hs6
          go_wp2_with fail
          refine HSG.out.mono ?_
          rintro e w7 ⟨rfl, hw7, hs7⟩
          have HW7 := Lib.hid hw7
          have HS7 := Lib.hid (HS6.out.trans hs7)
          clear hw7 hs7
          go_wp2_with fail
          go_end0
          refine ⟨rfl, ?_, HS7.out⟩
          unfold rowT
          rw [if_neg HN0.out]
          exact HW7.out
        | some l =>
          have HWR0 : Hid (RnAt wr b y (putS st (sgnT y.col [123] ++ prtT y.col (stepT y) lev T j))) := Lib.hid (by rw [HS.out]; exact HWR.out)
          clear HS HWR
          obtain ⟨lv', kv', h5, hAt⟩ := HI.out j hlt
          obtain ⟨rfl, hBw⟩ := HAB.out (by omega)
          obtain ⟨a1, n1, k1, a3, n3, k3, rfl, rfl⟩ := hAt.slices
          have H5 := Lib.hid h5
          clear h5 hAt
          go_upto_if 41 with fail
          go_cut [] from 41 to 43 (fun wx => Hid (RnAt wx b y (putS st (sgnT y.col [123] ++ prtT y.col (stepT y) lev T j ++ (if j = 0 then [] else sgnT y.col [44])))) ∧ Hid (WStep b w wx) ∧ Hid (wx.heap[w.heap.size]? = some (.cells #[.int .i64 6, .float .f64 v.f, .string v.s, .slice (some ⟨B, o, none⟩) v.l.length c, .slice A v.ks.length ck] 27 (0, 0))) ∧ Hid (KRow wx b v.l.length KA kad K))
          case first =>
            by_cases hj0 : j = 0
            · have d0 : decide ((0 : Int) < (j : Int)) = false := decide_eq_false (by omega)
              have d1 : decide (0 < j) = false := decide_eq_false (by omega)
              have hj1 : j ≤ 0 := by omega
              have HJ0 := Lib.hid hj0
              clear hj0
              go_wp2_with fail
              go_meet
              case rel => exact ⟨Lib.hid (by rw [if_pos HJ0.out, List.append_nil]; exact HWR0.out), HSR, HROW, HKR⟩
            · have d0 : decide ((0 : Int) < (j : Int)) = true := decide_eq_true (by omega)
              have d1 : decide (0 < j) = true := decide_eq_true (by omega)
              have hj1 : 1 ≤ j := by omega
              have HJ0 := Lib.hid hj0
              clear hj0
              have hsg := sign_R b y _ 44 wr HWR0.out
              rw [putS_append] at hsg
              have HSG := Lib.hid hsg
              clear hsg
              go_wp2_with fail
              refine HSG.out.mono ?_
              rintro e w5 ⟨rfl, hw5, hs5⟩
              have HW5 := Lib.hid hw5
              have HS5 := Lib.hid hs5
              clear hw5 hs5
              go_wp2_with fail
              go_meet
              case rel => exact ⟨Lib.hid (by rw [if_neg HJ0.out]; exact HW5.out), Lib.hid (HSR.out.trans HS5.out), Lib.hid (HS5.out.block HROW.out (by omega) (by decide)), Lib.hid (HKR.out.step HS5.out)⟩
          case rest =>
            clear HWR0 HSR HROW HKR e0 e1 e2 e3 e4 c6
            obtain ⟨HW5, HS5, HROW5, HKR5⟩ := hcut
            have i0 : (0 : Int) ≤ (j : Int) := by omega
            have i1 : (j : Int) < (v.l.length : Int) := by omega
            have hlw : IntKind.i64.wrap ((lev : Int) + 1) = ((lev + 1 : Nat) : Int) := by rw [IntWalk.i64_in _ (by omega)]; omega
            have hmg := margin_R b y h0 h7 _ (lev + 1) (by omega) wc HW5.out
            rw [putS_append] at hmg
            have HMG := Lib.hid hmg
            clear hmg
            obtain ⟨S6, hS6⟩ : ∃ S6, putS st (sgnT y.col [123] ++ prtT y.col (stepT y) lev T j ++ (if j = 0 then [] else sgnT y.col [44]) ++ linT (stepT y) (lev + 1)) = S6 := ⟨_, rfl⟩
            rw [hS6] at HMG
            have HST : Hid (putS S6 (T j) = putS st (sgnT y.col [123] ++ prtT y.col (stepT y) lev T (j + 1))) := Lib.hid (by
              rw [← hS6, putS_append]
              show _ = putS st (_ ++ (prtT y.col (stepT y) lev T j ++ ((if j = 0 then [] else sgnT y.col [44]) ++ linT (stepT y) (lev + 1) ++ T j)))
              simp only [List.append_assoc])
            clear hS6
            go_wp2_with fail
            refine HMG.out.mono ?_
            rintro e w6 ⟨rfl, hw6, hs6⟩
            have hbel6 := HBEL.out.trans (((HS5.out.trans hs6).1).mono hb)
            obtain ⟨f0, f1, f2, f3, f4⟩ := H5.out.keep hBw (fun p hp => hbel6.cell hp)
            have hrow6 := hs6.block HROW5.out (by omega) (by decide)
            have hal : ∀ ob, (w6.alloc ob).heap[w.heap.size]? = some (.cells #[.int .i64 6, .float .f64 v.f, .string v.s, .slice (some ⟨B, o, none⟩) v.l.length c, .slice A v.ks.length ck] 27 (0, 0)) := fun ob => row_alloc3 hrow6 ob
            have hal0 := fun ob => (row5' (hal ob)).1
            obtain ⟨e0, e1, e2, e3, e4, _⟩ := row5' hrow6
            have hbl8 : Below w6.heap.size w6 (w6.alloc (.cells #[.int .i64 v.l[j].k, .float .f64 v.l[j].f, .string v.l[j].s, .slice a1 n1 k1, .slice a3 n3 k3] 27)) := (Below.refl _ w6).alloc (Nat.le_refl _) _
            have hrm : RM w b w.heap.size w6.heap.size #[.int .i64 6, .float .f64 v.f, .string v.s, .slice (some ⟨B, o, none⟩) v.l.length c, .slice A v.ks.length ck] #[.int .i64 v.l[j].k, .float .f64 v.l[j].f, .string v.l[j].s, .slice a1 n1 k1, .slice a3 n3 k3] y S6 v.l.length KA kad K (w6.alloc (.cells #[.int .i64 v.l[j].k, .float .f64 v.l[j].f, .string v.l[j].s, .slice a1 n1 k1, .slice a3 n3 k3] 27)) :=
              ⟨hw6.below hbl8, (HS5.out.trans hs6).trans (WStep.of_below hbl8 (Nat.le_of_lt hw6.lt)), hal _, heap_alloc_new w6 _, (HKR5.out.step hs6).step (WStep.of_below hbl8 (Nat.le_of_lt hw6.lt))⟩
            have HRM := Lib.hid hrm
            have hQ1 : w.heap.size < w6.heap.size := (Array.getElem?_eq_some_iff.1 hrow6).1
            obtain ⟨Q, hQ⟩ : ∃ Q, w6.heap.size = Q := ⟨_, rfl⟩
            clear hw6 hs6 hbel6 hal hbl8 hrow6 hrm HW5 HROW5 HKR5 HS5 HMG
            go_upto_region 16 with fail
            generalize (w6.alloc (.cells #[.int .i64 v.l[j].k, .float .f64 v.l[j].f, .string v.l[j].s, .slice a1 n1 k1, .slice a3 n3 k3] 27)) = w8 at HRM ⊢
            rw [hQ] at HRM hQ1
            clear hal0 e0 e1 e2 e3 e4 f0 f1 f2 f3 f4 hQ
            obtain ⟨X, hX⟩ : ∃ X, v.l.getD (ordP y.srt v.ks j) default = X := ⟨_, rfl⟩
            have htj := HTJ.out j
            have hrs := HRS.out j hlt
            have hgt := HGET.out j hlt
            rw [hX] at htj hrs hgt
            rw [htj] at HST
            have HGT := Lib.hid hgt
            have HRS2 := Lib.hid hrs
            obtain ⟨rfl, _, _⟩ := HRM.out.kr (by omega)
            clear htj hrs hgt hX HGET HRS HTJ
            go_cut [] from 56 to 64 (fun wx => ∃ (g1 : Option Addr) (g2 g3 : Nat) (g4 : Option Addr) (g5 g6 : Nat), Hid (At w0 w0.heap.size m X (.slice g1 g2 g3) (.slice g4 g5 g6)) ∧ Hid (RM w b w.heap.size Q #[.int .i64 6, .float .f64 v.f, .string v.s, .slice (some ⟨B, o, none⟩) v.l.length c, .slice A v.ks.length ck] #[.int .i64 X.k, .float .f64 X.f, .string X.s, .slice g1 g2 g3, .slice g4 g5 g6] y S6 v.l.length (some kad) kad K wx))
            case first =>
              obtain ⟨e0, e1, e2, e3, e4, _⟩ := row5' HRM.out.pb
              obtain ⟨kc, _⟩ := HRM.out.ks j hlt
              have i2 : (j : Int) < (v.ks.length : Int) := by have := HKL.out; omega
              go_region_law ((go_simp; go_at_call 137; refine (HGT.out _ (HBEL.out.trans ((HRM.out.ws.1).mono hb)).drew).mono ?_; rintro e w9 ⟨⟨g1, g2, g3, g4, g5, g6, rfl, hat⟩, hb9⟩; have hrm9 := HRM.out.below ((Below.refl _ w8).drew.trans hb9); obtain ⟨u0, u1, u2, u3, u4, v0, v1, v2, v3, v4⟩ := row5 hrm9.qb))
              all_goals
                (try go_wp2_with fail)
                go_meet
                case rel => exact ⟨g1, g2, g3, g4, g5, g6, Lib.hid hat, Lib.hid (hrm9.set5 (by omega) (by omega) (by omega) _ _ _ _ _)⟩
            case rest =>
              clear HRM HGT
              obtain ⟨g1, g2, g3, g4, g5, g6, HAT, HRM⟩ := hcut
              have hkk := HKG.out j hlt
              have hlen := escT_len y.asc (K j)
              obtain ⟨kc, ka⟩ := HRM.out.ks j hlt
              obtain ⟨rv, rl, hv⟩ := HRM.out.rn
              have hesc := refEscape_any (K j) y.asc hkk.1 hkk.2 wc.drew
              have hroom := hv.room
              have hvlt := hv.lt
              have htok : ∀ W, RnV W b y S6 rv rl → ∀ tv, Byt W wc.heap.size tv (escT y.asc (K j)) → Calls Tryz.prog 83 #[.pointer (some ⟨b, 0, none⟩), tv, .string ⟨#[51, 52, 59, 49]⟩] W fun e w' => e = .returned (.tuple #[]) ∧ RnAt w' b y (putS S6 (tokT y.col [51, 52, 59, 49] (escT y.asc (K j)))) ∧ WStep b W w' :=
                fun W hv tv hy => token_R b y S6 rv rl wc.heap.size hroom hvlt (escT y.asc (K j)) (by omega) tv ⟨#[51, 52, 59, 49]⟩ (by decide) W hv hy
              have hbP : b < w.heap.size := hlt0
              have hbQ : b < Q := by omega
              have i0 : (0 : Int) ≤ (j : Int) := by omega
              have i2 : (j : Int) < (v.ks.length : Int) := by have := HKL.out; omega
              have HM := Lib.hid (HRM.out.below ((Below.refl _ wc).drew))
              have HV := Lib.hid (hv.below ((Below.refl _ wc).drew))
              have HESC := Lib.hid hesc
              have HTOK := Lib.hid htok
              clear hv hesc htok hkk hlen hroom hvlt HRM
              go_wp2_with fail
              go_region_held3 (fun W => W.cell? (kad.add j) = some (.string (K j)) ∧ W.cell? ⟨b, 3, none⟩ = some (.bool y.asc)) (first | exact HM.out.ks j hlt)
                (first
                | (go_at_call 84; (with_reducible refine HESC.out.mono ?_); rintro e wn ⟨tv, rfl, ho, hbe⟩; have hy : Byt wn wc.heap.size tv (escT y.asc (K j)) := Byt.of_own ho; have HY := Lib.hid hy; have hm2 := HM.out.below hbe; have hv2 := HV.out.below hbe; clear HM HV; have HM := Lib.hid hm2; have HV := Lib.hid hv2; clear hm2 hv2 hbe ho hy)
                | (go_at_call 83; (with_reducible refine (HTOK.out _ HV.out _ HY.out).mono ?_); rintro e wn ⟨rfl, hw2, hs2⟩; have hm2 := HM.out.wrote hbP hbQ hs2 hw2; clear HM; have HM := Lib.hid hm2; clear hm2 hw2 hs2))
              all_goals
                clear HESC HTOK kc ka i0 i2 HV HY
                go_wp2_with fail
                refine (sign_R b y _ 58 _ HM.out.rn).mono ?_
                rintro e w12 ⟨rfl, hw12, hs12⟩
                have hm12 := HM.out.wrote hbP hbQ hs12 hw12
                obtain ⟨q0, q1, _⟩ := hw12.cells
                have HM12 := Lib.hid hm12
                clear hm12 hw12 hs12 HM
                obtain ⟨bb, hbb⟩ : ∃ bb, (decide (0 < y.ind) || y.tab) = bb := ⟨_, rfl⟩
                have hbl : blankT (stepT y) = if bb then [32] else [] := by
                  rw [← hbb]
                  by_cases hbk : 0 < y.ind ∨ y.tab = true
                  · rw [blank_yes hbk, if_pos (by simpa using hbk)]
                  · rw [blank_no h0 hbk, if_neg (by simpa using hbk)]
                rw [pairT_def, hbl, List.append_assoc, List.append_assoc] at HST
                have HBB := Lib.hid hbb
                clear hbl hbb
                go_upto_region 19 with fail
                go_cut [91] from 79 to 90 (fun s91 wx => s91 = .bool bb ∧ wx = w12)
                case first =>
                  by_cases hi : 0 < y.ind
                  · have dI : decide (0 < y.ind) = true := decide_eq_true hi
                    have hbt : Hid (bb = true) := Lib.hid (by rw [← HBB.out, dI]; rfl)
                    clear HBB hi
                    go_wp2_with fail
                    go_meet
                    case rel => exact ⟨by rw [hbt.out], rfl⟩
                  · have dI : decide (0 < y.ind) = false := decide_eq_false hi
                    have hbt : Hid (bb = y.tab) := Lib.hid (by rw [← HBB.out, dI]; rfl)
                    clear HBB hi
                    go_wp2_with fail
                    go_meet
                    case rel => exact ⟨by rw [hbt.out], rfl⟩
                case rest =>
                  obtain ⟨rfl, rfl⟩ := hcut
                  clear q0 q1 HBB
                  go_upto_if 91 with fail
                  go_cut [] from 91 to 94 (fun wx => Hid (RM w b w.heap.size Q #[.int .i64 6, .float .f64 v.f, .string v.s, .slice (some ⟨B, o, none⟩) v.l.length c, .slice A v.ks.length ck] #[.int .i64 X.k, .float .f64 X.f, .string X.s, .slice g1 g2 g3, .slice g4 g5 g6] y (putS S6 (tokT y.col [51, 52, 59, 49] (escT y.asc (K j)) ++ (sgnT y.col [58] ++ (if bb then [32] else [])))) v.l.length (some kad) kad K wx))
                  case first =>
                    cases bb with
                    | true =>
                      go_wp2_with fail
                      refine (put_one b y _ 32 _ HM12.out.rn).mono ?_
                      rintro e w13 ⟨rfl, hw13, hs13⟩
                      have hm13 := HM12.out.wrote hbP hbQ hs13 hw13
                      rw [putS_append, putS_append] at hm13
                      have HM13 := Lib.hid hm13
                      clear hm13 hw13 hs13
                      go_wp2_with fail
                      go_meet
                      case rel => exact HM13
                    | false =>
                      have hm13 := HM12.out
                      rw [putS_append] at hm13
                      have HM13 := Lib.hid hm13
                      clear hm13
                      go_wp2_with fail
                      go_meet
                      case rel => exact Lib.hid (by rw [if_neg (by decide), List.append_nil]; exact HM13.out)
                  case rest =>
                    clear HM12
                    obtain ⟨p0, p1, p2, p3, p4, _⟩ := row5' hcut.out.qb
                    have hvc := HC.out.cells X g1 g4 g2 g3 g5 g6 (d - 1) (lev + 1) _ _ HRS2.out HAT.out (HBEL.out.trans ((hcut.out.ws.1).mono hb)) hcut.out.rn (by omega)
                    rw [putS_append] at hvc
                    rw [List.append_assoc, List.append_assoc, HST.out] at hvc
                    have HVC := Lib.hid hvc
                    clear hvc
                    go_wp2_with fail
                    refine HVC.out.mono ?_
                    rintro e w14 ⟨rfl, hw14, hs14⟩
                    have hm14 := hcut.out.wrote hbP hbQ hs14 hw14
                    have HM14 := Lib.hid hm14
                    clear hm14 hw14 hs14 hcut p0 p1 p2 p3 p4
                    go_wp2_with fail
                    go_roundw
                    case rel => exact ⟨_, j + 1, rfl, by go_num, by omega, HM14.out.rn, HM14.out.ws, HM14.out.pb, HM14.out.kr⟩
                    case measure => simp [intOf]; omega
      · obtain rfl : j = v.l.length := by omega
        rw [← HS.out] at HWR
        have HX := HWR
        have dj : decide ((v.l.length : Int) < (v.l.length : Int)) = false := by simp
        have dj2 : decide (v.l.length < v.l.length) = false := by simp
        clear hlt hj
        by_cases hn0 : v.l.length = 0
        · have d0 : decide ((0 : Int) < (v.l.length : Int)) = false := decide_eq_false (by omega)
          have d1 : decide (0 < v.l.length) = false := decide_eq_false (by omega)
          have hn1 : v.l.length ≤ 0 := by omega
          have HN0 := Lib.hid hn0
          clear hn0
          have hsg := sign_R b y _ 125 wr HX.out
          rw [putS_append] at hsg
          have HSG := Lib.hid hsg
          clear hsg
          go_wp2_with fail
          refine HSG.out.mono ?_
          rintro e w7 ⟨rfl, hw7, hs7⟩
          have HW7 := Lib.hid hw7
          have HS7 := Lib.hid (HSR.out.trans hs7)
          clear hw7 hs7
          go_wp2_with fail
          go_end0
          refine ⟨rfl, ?_, HS7.out⟩
          unfold rowT
          rw [if_pos HN0.out, List.append_nil]
          exact HW7.out
        · have d0 : decide ((0 : Int) < (v.l.length : Int)) = true := decide_eq_true (by omega)
          have d1 : decide (0 < v.l.length) = true := decide_eq_true (by omega)
          have hn1 : 1 ≤ v.l.length := by omega
          have HN0 := Lib.hid hn0
          clear hn0
          have hmg := margin_R b y h0 h7 _ lev (by omega) wr HX.out
          rw [putS_append] at hmg
          have HMG := Lib.hid hmg
          clear hmg
          go_wp2_with fail
          refine HMG.out.mono ?_
          rintro e w6 ⟨rfl, hw6, hs6⟩
          have hsg := sign_R b y _ 125 w6 hw6
          rw [putS_append] at hsg
          have HSG := Lib.hid hsg
          have HS6 := Lib.hid (HSR.out.trans hs6)
          clear hsg hw6 hs6
          go_wp2_with fail
          refine HSG.out.mono ?_
          rintro e w7 ⟨rfl, hw7, hs7⟩
          have HW7 := Lib.hid hw7
          have HS7 := Lib.hid (HS6.out.trans hs7)
          clear hw7 hs7
          go_wp2_with fail
          go_end0
          refine ⟨rfl, ?_, HS7.out⟩
          unfold rowT
          rw [if_neg HN0.out]
          exact HW7.out
end Go.Proofs.YtmicpdibnkmekaaGreatDoor
