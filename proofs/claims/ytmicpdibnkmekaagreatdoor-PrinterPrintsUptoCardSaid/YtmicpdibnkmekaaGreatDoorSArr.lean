/- The document's run: arrays. -/
import Derived.Test.YtmicpdibnkmekaaGreatDoorSNum
import Derived.Test.YtmicpdibnkmekaaGreatDoorSGet
import Derived.Test.YtmicpdibnkmekaaGreatDoorRSca
import Derived.Test.YtmicpdibnkmekaaGreatDoorRCmp
namespace Go.Proofs.YtmicpdibnkmekaaGreatDoor
open Go Go.RowKit

/-- What the writing of values promises, of all values of at most m levels that lie below w0. -/
def ValueR (w0 : World) (b : Nat) (y : Sty) (m : Nat) : Prop := ∀ (v : V) (lv kv : Value) (d lev : Nat) (st : Option (List UInt8)) (w : World), rightV d v = true → At w0 w0.heap.size m v lv kv → Below w0.heap.size w0 w → RnAt w b y st → lev + m ≤ 1000000 →
    Calls Tryz.prog 42 #[.pointer (some ⟨b, 0, none⟩), .agg (cellsV v lv kv), .int .i64 lev] w fun e w' => e = .returned (.tuple #[]) ∧ RnAt w' b y (putS st (printV y (stepT y) m v lev)) ∧ WStep b w w'
/-- .. and a value's five cells alone. -/
theorem ValueR.cells {w0 : World} {b : Nat} {y : Sty} {m : Nat} (hC : ValueR w0 b y m) (v : V) (a1 a2 : Option Addr) (n1 k1 n2 k2 : Nat) (d lev : Nat) (st : Option (List UInt8)) (w : World) (hr : rightV d v = true) (h : At w0 w0.heap.size m v (.slice a1 n1 k1) (.slice a2 n2 k2)) (hbel : Below w0.heap.size w0 w) (hw : RnAt w b y st) (hlev : lev + m ≤ 1000000) :
    Calls Tryz.prog 42 #[.pointer (some ⟨b, 0, none⟩), .agg #[.int .i64 v.k, .float .f64 v.f, .string v.s, .slice a1 n1 k1, .slice a2 n2 k2], .int .i64 lev] w fun e w' => e = .returned (.tuple #[]) ∧ RnAt w' b y (putS st (printV y (stepT y) m v lev)) ∧ WStep b w w' := hC v _ _ d lev st w hr h hbel hw hlev
set_option maxRecDepth 100000 in
set_option maxHeartbeats 16000000 in
theorem many_arrR (w0 : World) (b : Nat) (hb : w0.heap.size ≤ b) (y : Sty) (h0 : 0 ≤ y.ind) (h7 : y.ind ≤ 7) (m : Nat) (hC : ValueR w0 b y m) (v : V) (d : Nat) (hr : rightV d v = true) (f : Nat) (s : ByteArray) (a : Option Addr) (c B o : Nat) (a2 : Option Addr) (n2 k2 : Nat) (hls : v.l.length ≤ 1048576)
    (hab : 0 < v.l.length → a = some ⟨B, o, none⟩ ∧ B < w0.heap.size) (hi : ∀ i (h : i < v.l.length), ∃ lv' kv', FiveAt w0 B (o + i * 5) (v.l[i]) lv' kv' ∧ At w0 w0.heap.size m (v.l[i]) lv' kv') (lev : Nat) (hlev : lev + 1 + m ≤ 1000000) (st : Option (List UInt8)) (w : World) (hbel : Below w0.heap.size w0 w) (hw : RnAt w b y st) :
    Calls Tryz.prog 82 #[.pointer (some ⟨b, 0, none⟩), .agg #[.int .i64 5, .float .f64 f, .string s, .slice a v.l.length c, .slice a2 n2 k2], .int .i64 lev] w fun e w' => e = .returned (.tuple #[]) ∧ RnAt w' b y (putS st (rowT y.col (stepT y) lev [91] [93] v.l.length (fun i => printV y (stepT y) m (v.l.getD i default) (lev + 1)))) ∧ WStep b w w' := by
  have hsf := run_store_float Tryz.prog
  obtain ⟨T, hT⟩ : ∃ T : Nat → List UInt8, (fun i => printV y (stepT y) m (v.l.getD i default) (lev + 1)) = T := ⟨_, rfl⟩
  rw [hT]
  have HTT := Lib.hid hT
  have hlt0 := hw.lt
  have hrow := heap_alloc_new w (.cells #[.int .i64 5, .float .f64 f, .string s, .slice a v.l.length c, .slice a2 n2 k2] 27)
  have hbl0 : Below w.heap.size w (w.alloc (.cells #[.int .i64 5, .float .f64 f, .string s, .slice a v.l.length c, .slice a2 n2 k2] 27)) := (Below.refl w.heap.size w).alloc (Nat.le_refl _) _
  have HW1 := Lib.hid (hw.below hbl0)
  have HS1 := Lib.hid (WStep.of_below hbl0 (Nat.le_of_lt hlt0))
  have HROW := Lib.hid hrow
  have HBEL := Lib.hid hbel
  have HC := Lib.hid hC
  have HI := Lib.hid hi
  have HAB := Lib.hid hab
  have HR := Lib.hid hr
  clear hT hrow hbl0 hw hbel hC hi hab hr
  go_enter Tryz.func82, Tryz.ntmps82
  go_wp2_with fail
  generalize (w.alloc (.cells #[.int .i64 5, .float .f64 f, .string s, .slice a v.l.length c, .slice a2 n2 k2] 27)) = w1 at HW1 HS1 HROW ⊢
  obtain ⟨e0, e1, e2, e3, e4, _⟩ := row5' HROW.out
  go_wp2_with fail
  refine (sign_R b y st 91 w1 HW1.out).mono ?_
  rintro e w2 ⟨rfl, hw2, hs2⟩
  have HW2 := Lib.hid hw2
  have HS2 := Lib.hid (HS1.out.trans hs2)
  have HROW2 := Lib.hid (hs2.block HROW.out (by omega) (by decide))
  clear hw2 hs2 HW1 HS1 HROW e0 e1 e2 e3 e4
  go_wp2_with fail
  go_loopw [9, 10] (fun i x10 W => ∃ (q : Value) (j : Nat), q = x10 ∧ i = .int .i64 j ∧ j ≤ v.l.length ∧ RnAt W b y (putS st (sgnT y.col [91] ++ prtT y.col (stepT y) lev T j)) ∧ WStep b w W ∧ W.heap[w.heap.size]? = some (.cells #[.int .i64 5, .float .f64 f, .string s, .slice a v.l.length c, .slice a2 n2 k2] 27 (0, 0))) (fun i _ _ => v.l.length - (intOf i).toNat)
  case atStart => exact ⟨_, 0, rfl, rfl, Nat.zero_le _, by have := HW2.out; rw [show prtT y.col (stepT y) lev T 0 = [] from rfl, List.append_nil]; exact this, HS2.out, HROW2.out⟩
  case round =>
    obtain ⟨q, j, rfl, rfl, hj, hwr, hsr, hrow⟩ := hrel
    clear HW2 HS2 HROW2
    obtain ⟨S, hS⟩ : ∃ S, putS st (sgnT y.col [91] ++ prtT y.col (stepT y) lev T j) = S := ⟨_, rfl⟩
    obtain ⟨_, _, _, _, _, c6⟩ := hwr.cells
    obtain ⟨e0, e1, e2, e3, e4, _⟩ := row5' hrow
    rw [hS] at hwr c6
    have HWR := Lib.hid hwr
    have HSR := Lib.hid hsr
    have HROW := Lib.hid hrow
    have HS := Lib.hid hS
    clear hwr hsr hrow hS
    by_cases hlt : j < v.l.length
    · have dj : decide ((j : Int) < (v.l.length : Int)) = true := by simp; omega
      cases S with
      | none =>
        have hx : RnAt wr b y (putS st (sgnT y.col [91] ++ prtT y.col (stepT y) lev T v.l.length)) := by
          rw [prt_more HS.out _ hj]; exact HWR.out
        have hmg := margin_R b y h0 h7 _ lev (by omega) wr hx
        rw [putS_append] at hmg
        have HMG := Lib.hid hmg
        have d0 : decide ((0 : Int) < (v.l.length : Int)) = true := by simp; omega
        have hn0 : ¬ v.l.length = 0 := by omega
        have HN0 := Lib.hid hn0
        clear hx hmg hn0
        go_wp2_with fail
        refine HMG.out.mono ?_
        rintro e w6 ⟨rfl, hw6, hs6⟩
        have hsg := sign_R b y _ 93 w6 hw6
        rw [putS_append] at hsg
        have HSG := Lib.hid hsg
        have HS6 := Lib.hid (HSR.out.trans hs6)
        clear hsg hw6 hs6
        go_wp2_with fail
        refine HSG.out.mono ?_
        rintro e w7 ⟨rfl, hw7, hs7⟩
        have HW7 := Lib.hid hw7
        have HS7 := Lib.hid (HS6.out.trans hs7)
        clear hw7 hs7
        go_wp2_with fail
        go_end0
        refine ⟨rfl, ?_, HS7.out⟩
        unfold rowT
        rw [if_neg HN0.out]
        exact HW7.out
      | some l =>
        obtain ⟨lv', kv', h5, hAt⟩ := HI.out j hlt
        obtain ⟨rfl, hBw⟩ := HAB.out (by omega)
        obtain ⟨a1, n1, k1, a3, n3, k3, rfl, rfl⟩ := hAt.slices
        have H5 := Lib.hid h5
        have HAT := Lib.hid hAt
        clear h5 hAt
        have i0 : (0 : Int) ≤ (j : Int) := by omega
        have i1 : (j : Int) < (v.l.length : Int) := by omega
        have hlw : IntKind.i64.wrap ((lev : Int) + 1) = ((lev + 1 : Nat) : Int) := by rw [IntWalk.i64_in _ (by omega)]; omega
        by_cases hj0 : j = 0
        · have d0 : decide ((0 : Int) < (j : Int)) = false := by simp; omega
          have d1 : decide (0 < j) = false := by simp; omega
          have hj1 : j ≤ 0 := by omega
          have hr1 : prtT y.col (stepT y) lev T (j + 1) = prtT y.col (stepT y) lev T j ++ (linT (stepT y) (lev + 1) ++ T j) := by
            show _ ++ ((if j = 0 then [] else sgnT y.col [44]) ++ _ ++ _) = _
            rw [if_pos hj0, List.nil_append]
          have hst : putS (putS (some l) (linT (stepT y) (lev + 1))) (T j) = putS st (sgnT y.col [91] ++ prtT y.col (stepT y) lev T (j + 1)) := by
            rw [hr1, putS_append, ← HS.out, putS_append]
            simp only [List.append_assoc]
          have HST := Lib.hid hst
          clear hj0 hr1 hst
          have hmg := margin_R b y h0 h7 _ (lev + 1) (by omega) wr HWR.out
          have HMG := Lib.hid hmg
          have HS5 := Lib.hid HSR.out
          have HROW5 := Lib.hid HROW.out
          clear hmg
          go_wp2_with fail
          refine HMG.out.mono ?_
          rintro e w6 ⟨rfl, hw6, hs6⟩
          have hbel6 := HBEL.out.trans (((HS5.out.trans hs6).1).mono hb)
          obtain ⟨f0, f1, f2, f3, f4⟩ := H5.out.keep hBw (fun p hp => hbel6.cell hp)
          have hrow6 := hs6.block HROW5.out (by omega) (by decide)
          have hal : ∀ ob, (w6.alloc ob).heap[w.heap.size]? = some (.cells #[.int .i64 5, .float .f64 f, .string s, .slice (some ⟨B, o, none⟩) v.l.length c, .slice a2 n2 k2] 27 (0, 0)) := fun ob => row_alloc3 hrow6 ob
          have hal0 := fun ob => (row5' (hal ob)).1
          obtain ⟨e0, e1, e2, e3, e4, _⟩ := row5' hrow6
          have hbl8 : Below w6.heap.size w6 (w6.alloc (.cells #[.int .i64 v.l[j].k, .float .f64 v.l[j].f, .string v.l[j].s, .slice a1 n1 k1, .slice a3 n3 k3] 27)) := (Below.refl _ w6).alloc (Nat.le_refl _) _
          have hs8 := (HS5.out.trans hs6).trans (WStep.of_below hbl8 (Nat.le_of_lt hw6.lt))
          have hvc := HC.out.cells v.l[j] a1 a3 n1 k1 n3 k3 (d - 1) (lev + 1) _ (w6.alloc (.cells #[.int .i64 v.l[j].k, .float .f64 v.l[j].f, .string v.l[j].s, .slice a1 n1 k1, .slice a3 n3 k3] 27)) (right_sub HR.out hlt) HAT.out (HBEL.out.trans ((hs8.1).mono hb)) (hw6.below hbl8) (by omega)
          have htj : printV y (stepT y) m v.l[j] (lev + 1) = T j := by rw [← HTT.out]; simp [List.getD, hlt]
          rw [htj, HST.out] at hvc
          have HVC := Lib.hid hvc
          have HS8 := Lib.hid hs8
          have HROW8 := Lib.hid (hal (.cells #[.int .i64 v.l[j].k, .float .f64 v.l[j].f, .string v.l[j].s, .slice a1 n1 k1, .slice a3 n3 k3] 27))
          clear hw6 hs6 hbel6 hal hbl8 hs8 hvc htj hrow6 HWR HROW5
          go_wp2_with fail
          refine HVC.out.mono ?_
          rintro e w9 ⟨rfl, hw9, hs9⟩
          have HW9 := Lib.hid hw9
          have HS9 := Lib.hid (HS8.out.trans hs9)
          have HROW9 := Lib.hid (hs9.block HROW8.out (by omega) (by decide))
          clear hw9 hs9
          go_wp2_with fail
          go_roundw
          case rel => exact ⟨_, j + 1, rfl, by go_num, by omega, HW9.out, HS9.out, HROW9.out⟩
          case measure => simp [intOf]; omega
        · have d0 : decide ((0 : Int) < (j : Int)) = true := by simp; omega
          have d1 : decide (0 < j) = true := by simp; omega
          have hj1 : 1 ≤ j := by omega
          have hr1 : prtT y.col (stepT y) lev T (j + 1) = prtT y.col (stepT y) lev T j ++ (sgnT y.col [44] ++ linT (stepT y) (lev + 1) ++ T j) := by
            show _ ++ ((if j = 0 then [] else sgnT y.col [44]) ++ _ ++ _) = _
            rw [if_neg hj0]
          have hst : putS (putS (putS (some l) (sgnT y.col [44])) (linT (stepT y) (lev + 1))) (T j) = putS st (sgnT y.col [91] ++ prtT y.col (stepT y) lev T (j + 1)) := by
            rw [hr1, putS_append, putS_append, ← HS.out, putS_append]
            simp only [List.append_assoc]
          have HST := Lib.hid hst
          clear hj0 hr1 hst
          go_wp2_with fail
          refine (sign_R b y _ 44 wr HWR.out).mono ?_
          rintro e w5 ⟨rfl, hw5, hs5⟩
          have hmg := margin_R b y h0 h7 _ (lev + 1) (by omega) w5 hw5
          have HMG := Lib.hid hmg
          have HS5 := Lib.hid (HSR.out.trans hs5)
          have HROW5 := Lib.hid (hs5.block HROW.out (by omega) (by decide))
          clear hmg hw5 hs5
          go_wp2_with fail
          refine HMG.out.mono ?_
          rintro e w6 ⟨rfl, hw6, hs6⟩
          have hbel6 := HBEL.out.trans (((HS5.out.trans hs6).1).mono hb)
          obtain ⟨f0, f1, f2, f3, f4⟩ := H5.out.keep hBw (fun p hp => hbel6.cell hp)
          have hrow6 := hs6.block HROW5.out (by omega) (by decide)
          have hal : ∀ ob, (w6.alloc ob).heap[w.heap.size]? = some (.cells #[.int .i64 5, .float .f64 f, .string s, .slice (some ⟨B, o, none⟩) v.l.length c, .slice a2 n2 k2] 27 (0, 0)) := fun ob => row_alloc3 hrow6 ob
          have hal0 := fun ob => (row5' (hal ob)).1
          obtain ⟨e0, e1, e2, e3, e4, _⟩ := row5' hrow6
          have hbl8 : Below w6.heap.size w6 (w6.alloc (.cells #[.int .i64 v.l[j].k, .float .f64 v.l[j].f, .string v.l[j].s, .slice a1 n1 k1, .slice a3 n3 k3] 27)) := (Below.refl _ w6).alloc (Nat.le_refl _) _
          have hs8 := (HS5.out.trans hs6).trans (WStep.of_below hbl8 (Nat.le_of_lt hw6.lt))
          have hvc := HC.out.cells v.l[j] a1 a3 n1 k1 n3 k3 (d - 1) (lev + 1) _ (w6.alloc (.cells #[.int .i64 v.l[j].k, .float .f64 v.l[j].f, .string v.l[j].s, .slice a1 n1 k1, .slice a3 n3 k3] 27)) (right_sub HR.out hlt) HAT.out (HBEL.out.trans ((hs8.1).mono hb)) (hw6.below hbl8) (by omega)
          have htj : printV y (stepT y) m v.l[j] (lev + 1) = T j := by rw [← HTT.out]; simp [List.getD, hlt]
          rw [htj, HST.out] at hvc
          have HVC := Lib.hid hvc
          have HS8 := Lib.hid hs8
          have HROW8 := Lib.hid (hal (.cells #[.int .i64 v.l[j].k, .float .f64 v.l[j].f, .string v.l[j].s, .slice a1 n1 k1, .slice a3 n3 k3] 27))
          clear hw6 hs6 hbel6 hal hbl8 hs8 hvc htj hrow6 HWR HROW5
          go_wp2_with fail
          refine HVC.out.mono ?_
          rintro e w9 ⟨rfl, hw9, hs9⟩
          have HW9 := Lib.hid hw9
          have HS9 := Lib.hid (HS8.out.trans hs9)
          have HROW9 := Lib.hid (hs9.block HROW8.out (by omega) (by decide))
          clear hw9 hs9
          go_wp2_with fail
          go_roundw
          case rel => exact ⟨_, j + 1, rfl, by go_num, by omega, HW9.out, HS9.out, HROW9.out⟩
          case measure => simp [intOf]; omega
    · obtain rfl : j = v.l.length := by omega
      rw [← HS.out] at HWR
      have dj : decide ((v.l.length : Int) < (v.l.length : Int)) = false := by simp
      have dj2 : decide (v.l.length < v.l.length) = false := by simp
      clear hlt hj
      by_cases hn0 : v.l.length = 0
      · have hsg := sign_R b y _ 93 wr HWR.out
        rw [putS_append] at hsg
        have HSG := Lib.hid hsg
        have d0 : decide ((0 : Int) < (v.l.length : Int)) = false := decide_eq_false (by omega)
        have d1 : decide (0 < v.l.length) = false := decide_eq_false (by omega)
        have hn1 : v.l.length ≤ 0 := by omega
        have HN0 := Lib.hid hn0
        clear hsg hn0
        go_wp2_with fail
        refine HSG.out.mono ?_
        rintro e w7 ⟨rfl, hw7, hs7⟩
        have HW7 := Lib.hid hw7
        have HS7 := Lib.hid (HSR.out.trans hs7)
        clear hw7 hs7
        go_wp2_with fail
        go_end0
        refine ⟨rfl, ?_, HS7.out⟩
        unfold rowT
        rw [if_pos HN0.out, List.append_nil]
        exact HW7.out
      · have hmg := margin_R b y h0 h7 _ lev (by omega) wr HWR.out
        rw [putS_append] at hmg
        have HMG := Lib.hid hmg
        have d0 : decide ((0 : Int) < (v.l.length : Int)) = true := decide_eq_true (by omega)
        have d1 : decide (0 < v.l.length) = true := decide_eq_true (by omega)
        have hn1 : 1 ≤ v.l.length := by omega
        have HN0 := Lib.hid hn0
        clear hmg hn0
        go_wp2_with fail
        refine HMG.out.mono ?_
        rintro e w6 ⟨rfl, hw6, hs6⟩
        have hsg := sign_R b y _ 93 w6 hw6
        rw [putS_append] at hsg
        have HSG := Lib.hid hsg
        have HS6 := Lib.hid (HSR.out.trans hs6)
        clear hsg hw6 hs6
        go_wp2_with fail
        refine HSG.out.mono ?_
        rintro e w7 ⟨rfl, hw7, hs7⟩
        have HW7 := Lib.hid hw7
        have HS7 := Lib.hid (HS6.out.trans hs7)
        clear hw7 hs7
        go_wp2_with fail
        go_end0
        refine ⟨rfl, ?_, HS7.out⟩
        unfold rowT
        rw [if_neg HN0.out]
        exact HW7.out
end Go.Proofs.YtmicpdibnkmekaaGreatDoor
namespace Go.Proofs.YtmicpdibnkmekaaGreatDoor
open Go Go.RowKit

theorem own_keepR {W W' : World} {n0 : Nat} {e : TypeId} {size n : Nat} {u : Value} {xs : List Value} (h : W.ownsRow n0 e size u n xs) (hk : ∀ g, u.ownBlock = some g → W'.heap[g]? = W.heap[g]?) : W'.ownsRow n0 e size u n xs := by
  refine ⟨h.1, ?_⟩
  rcases h.2 with h2 | ⟨g, cap, cur, rfl, h3, h4, h5⟩
  · exact Or.inl h2
  · exact Or.inr ⟨g, cap, cur, rfl, h3, (hk g rfl).trans h4, h5⟩
/-- A row of keys that stays: below the run, or a row of texts above it. -/
def KRow (W : World) (b n : Nat) (KA : Option Addr) (kad : Addr) (K : Nat → ByteArray) : Prop :=
  0 < n → KA = some kad ∧ (∀ j, j < n → W.cell? (kad.add j) = some (.string (K j))) ∧ (kad.block < b ∨ (kad.block ≠ b ∧ ∃ c fz, W.heap[kad.block]? = some (.cells c 9 fz)))
theorem KRow.step {W W' : World} {b n : Nat} {KA : Option Addr} {kad : Addr} {K : Nat → ByteArray} (h : KRow W b n KA kad K) (hs : WStep b W W') : KRow W' b n KA kad K := by
  intro hn
  obtain ⟨h1, h2, h3⟩ := h hn
  refine ⟨h1, fun j hj => Eq.trans ?_ (h2 j hj), ?_⟩
  · rcases h3 with h3 | ⟨h3, c, fz, h4⟩
    · exact hs.1.cell (p := kad.add j) (by rw [add_block]; exact h3)
    · unfold World.cell?
      rw [add_block, hs.block h4 h3 (by decide), h4]
  · rcases h3 with h3 | ⟨h3, c, fz, h4⟩
    · exact Or.inl h3
    · exact Or.inr ⟨h3, c, fz, hs.block h4 h3 (by decide)⟩
structure RM (w : World) (b P Q : Nat) (box xs : Array Value) (y : Sty) (st : Option (List UInt8)) (n : Nat) (KA : Option Addr) (kad : Addr) (K : Nat → ByteArray) (W : World) : Prop where
  rn : RnAt W b y st
  ws : WStep b w W
  pb : W.heap[P]? = some (.cells box 27 (0, 0))
  qb : W.heap[Q]? = some (.cells xs 27 (0, 0))
  kr : KRow W b n KA kad K
section
variable {w W W' : World} {b P Q n : Nat} {box xs : Array Value} {y : Sty} {st st' : Option (List UInt8)} {KA : Option Addr} {kad : Addr} {K : Nat → ByteArray}
theorem RM.below (h : RM w b P Q box xs y st n KA kad K W) (hb : Below W.heap.size W W') : RM w b P Q box xs y st n KA kad K W' :=
  ⟨h.rn.below hb, h.ws.trans (WStep.of_below hb (Nat.le_of_lt h.rn.lt)), (hb.block _ (Array.getElem?_eq_some_iff.1 h.pb).1).trans h.pb, (hb.block _ (Array.getElem?_eq_some_iff.1 h.qb).1).trans h.qb, h.kr.step (WStep.of_below hb (Nat.le_of_lt h.rn.lt))⟩
theorem RM.wrote (h : RM w b P Q box xs y st n KA kad K W) (hP : b < P) (hQ : b < Q) (hs : WStep b W W') (h' : RnAt W' b y st') : RM w b P Q box xs y st' n KA kad K W' :=
  ⟨h', h.ws.trans hs, hs.block h.pb (by omega) (by decide), hs.block h.qb (by omega) (by decide), h.kr.step hs⟩
theorem RM.set5 {u0 u1 u2 u3 u4 : Value} (h : RM w b P Q box #[u0, u1, u2, u3, u4] y st n KA kad K W) (hPQ : P ≠ Q) (hQ : b < Q) (hw : w.heap.size ≤ Q) (x0 x1 x2 x3 x4 : Value) : RM w b P Q box #[x0, x1, x2, x3, x4] y st n KA kad K (set5 W Q x0 x1 x2 x3 x4) := by
  obtain ⟨⟨v, l, h1, h2, h3, h4⟩, hs, hp, hq, hk⟩ := h
  refine ⟨⟨v, l, h1, (set5_other (by omega) ..).trans h2, own_keepR h3 (fun g hg => set5_other ?_ ..), h4⟩, ⟨set5_below0 hs.1 (by omega) .., ?_⟩, (set5_other hPQ ..).trans hp, set5_row hq .., ?_⟩
  · rintro rfl
    obtain ⟨c, fz, hgg⟩ := own_kind h3 g hg
    rw [hq] at hgg
    injection hgg with e
    injection e with _ e _
    exact absurd e (by decide)
  · intro i o hi hbi ho
    have hlt : i < w.heap.size := (Array.getElem?_eq_some_iff.1 hi).1
    rw [set5_other (by omega)]
    exact hs.2 i o hi hbi ho
  · intro hn
    obtain ⟨k1, k2, k3⟩ := hk hn
    have hne : kad.block ≠ Q := by
      rcases k3 with k3 | ⟨_, c, fz, k4⟩
      · omega
      · rintro rfl
        rw [hq] at k4
        injection k4 with e
        injection e with _ e _
        exact absurd e (by decide)
    refine ⟨k1, fun j hj => Eq.trans ?_ (k2 j hj), ?_⟩
    · unfold World.cell?
      rw [add_block, set5_other hne]
    · rcases k3 with k3 | ⟨k3, c, fz, k4⟩
      · exact Or.inl k3
      · exact Or.inr ⟨k3, c, fz, (set5_other hne ..).trans k4⟩
theorem RM.ks (h : RM w b P Q box xs y st n KA kad K W) (j : Nat) (hj : j < n) : W.cell? (kad.add j) = some (.string (K j)) ∧ W.cell? ⟨b, 3, none⟩ = some (.bool y.asc) :=
  ⟨(h.kr (by omega)).2.1 j hj, h.rn.cells.2.2.2.1⟩
end
theorem ord_key {ks : List ByteArray} (j : Nat) (hj : j < ks.length) : ks.getD (ordP true ks j) default = (sortK ks).getD j default := by
  have hl := ord_lt true ks j hj
  have h := List.findIdx_getElem (xs := ks) (p := fun k => decide (k = (sortK ks).getD j default)) (w := hl)
  have e : ordP true ks j = ks.findIdx (fun k => decide (k = (sortK ks).getD j default)) := rfl
  rw [List.getD_eq_getElem?_getD, List.getElem?_eq_getElem hl]
  simpa [e] using h
theorem ord_first {ks : List ByteArray} (hnd : ks.Nodup) (p : Nat) (hp : p < ks.length) : ∀ t (ht : t < p), ks[t]'(by omega) ≠ ks[p] := by
  intro t ht
  exact List.pairwise_iff_getElem.1 hnd t p (by omega) hp ht
end Go.Proofs.YtmicpdibnkmekaaGreatDoor
