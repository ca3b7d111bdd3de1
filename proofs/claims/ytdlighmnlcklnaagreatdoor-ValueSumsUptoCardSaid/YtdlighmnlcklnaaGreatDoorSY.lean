/- PROVED: colanderlaw03.ValueSums returns true for every such arguments, and leaves what is handed in as it was. CONDITIONS: what it reads is of bulk at most 1048576; the tables that its calls read (powers of ten among them) hold what their initialisers lay (the card ties this to the program's text). -/
import Derived.Test.YtdlighmnlcklnaaGreatDoorMLawP
import Derived.Test.YtdlighmnlcklnaaGreatDoorSC
import Derived.Test.YtdlighmnlcklnaaGreatDoorSB
import Derived.Test.YtdlighmnlcklnaaGreatDoorSD
import Derived.Test.YtdlighmnlcklnaaGreatDoorUSame
import Derived.Test.YtdlighmnlcklnaaGreatDoorSG
import Derived.Test.YtdlighmnlcklnaaGreatDoorUHeadsL
import Derived.StillTailTactics
import Derived.Test.YtdlighmnlcklnaaGreatDoorULaid
import Derived.Test.YtdlighmnlcklnaaGreatDoorUBulk
import Derived.Test.YtdlighmnlcklnaaGreatDoorChecked
import Derived.Test.YtdlighmnlcklnaaGreatDoorCards
import Derived.Test.YtdlighmnlcklnaaGreatDoorTie
import Derived.WalkKit
import Derived.ProofKit
import Derived.OpenShut
import Derived.Deep.DeepHandedRow
import Derived.Lib.LaidIn
import Derived.Lib.LaidU8
import Derived.SizedLaws
import Derived.Clock
import Derived.Lay
import Derived.LaidLaws
namespace Go.Proofs.YtdlighmnlcklnaaGreatDoor
open Go Go.RowKit

/-- What the sum of two objects is: the second one's values stand. -/
def ovV (a b : V) : V := mergeV (fun _ y => y) a b
theorem ov_small {m : Nat} {a b : V} (hna : a.ks.Nodup) (hnb : b.ks.Nodup) (hla : a.ks.length = a.l.length) (hlb : b.ks.length = b.l.length) (hb : bulkV (m + 1) a + bulkV (m + 1) b ≤ 1048576) : Small (ovV a b) := by
  have h := mt_any (fun _ y => y) hna hnb hla hlb b.ks.length (Nat.le_refl _)
  have hk1 := h.lenK
  have hk2 := h.keysK
  rw [List.take_length] at hk2
  have hlen := h.len
  have ea := bulk_is m a
  have eb := bulk_is m b
  refine ⟨by show (-9223372036854775808 : Int) ≤ 6; omega, by show (6 : Int) ≤ _; omega, by show 0 < _; omega, by show 0 ≤ _; omega, ?_, ?_, ?_⟩
  · show (mergeTo (fun _ y => y) a b b.ks.length).1.length ≤ _
    omega
  · show (mergeTo (fun _ y => y) a b b.ks.length).2.length ≤ _
    omega
  · show keysLen (mergeTo (fun _ y => y) a b b.ks.length).2 ≤ _
    omega
theorem ov_len {a b : V} (hna : a.ks.Nodup) (hnb : b.ks.Nodup) (hla : a.ks.length = a.l.length) (hlb : b.ks.length = b.l.length) : (ovV a b).ks.length = (ovV a b).l.length :=
  (mt_any (fun _ y => y) hna hnb hla hlb b.ks.length (Nat.le_refl _)).len.symm
/-- Each key of the second object stands in the sum, with its value. -/
theorem ov_get {a b : V} (hna : a.ks.Nodup) (hnb : b.ks.Nodup) (hla : a.ks.length = a.l.length) (hlb : b.ks.length = b.l.length) (j : Nat) (hj : j < b.ks.length) (hj2 : j < b.l.length) :
    Lib.idxOfS (ovV a b).ks b.ks[j] ≠ -1 ∧ getV (ovV a b) b.ks[j] = b.l[j] := by
  have h := mt_any (fun _ y => y) hna hnb hla hlb b.ks.length (Nat.le_refl _)
  have hlen := h.len
  by_cases hm : b.ks[j] ∈ a.ks
  · obtain ⟨i, hi, e⟩ := List.getElem_of_mem hm
    obtain ⟨x, y, h1, h2, h3⟩ := h.met i j hi hj hj e
    obtain ⟨q1, q2⟩ := List.getElem?_eq_some_iff.1 (h.pre i hi)
    obtain ⟨r1, r2⟩ := List.getElem?_eq_some_iff.1 h3
    obtain ⟨t1, t2⟩ := List.getElem?_eq_some_iff.1 h2
    have hk : (ovV a b).ks[i]'q1 = b.ks[j] := q2.trans e
    have hg := getV_at (v := ovV a b) h.nd q1 r1
    have hi2 := idxM_at (ks := (ovV a b).ks) h.nd q1
    rw [hk] at hg hi2
    exact ⟨by omega, hg.trans (r2.trans t2.symm)⟩
  · obtain ⟨p, y, h1, h2, h3⟩ := h.new j hj hj hm
    obtain ⟨q1, q2⟩ := List.getElem?_eq_some_iff.1 h1
    obtain ⟨r1, r2⟩ := List.getElem?_eq_some_iff.1 h3
    obtain ⟨t1, t2⟩ := List.getElem?_eq_some_iff.1 h2
    have hg := getV_at (v := ovV a b) h.nd q1 r1
    have hi2 := idxM_at (ks := (ovV a b).ks) h.nd q1
    have hk : (ovV a b).ks[p]'q1 = b.ks[j] := q2
    rw [hk] at hg hi2
    exact ⟨by omega, hg.trans (r2.trans t2.symm)⟩
theorem cat_small {m : Nat} {a b : V} (hb : bulkV (m + 2) a + bulkV (m + 2) b ≤ 1048576) : Small (catV a b) := by
  have ea : bulkV (m + 2) a = _ := bulk_is (m + 1) a
  have eb : bulkV (m + 2) b = _ := bulk_is (m + 1) b
  have la := sum_len m a.l
  have lb := sum_len m b.l
  refine ⟨by show (-9223372036854775808 : Int) ≤ 5; omega, by show (5 : Int) ≤ _; omega, by show 0 < _; omega, by show 0 ≤ _; omega, ?_, by show 0 ≤ _; omega, by show 0 ≤ _; omega⟩
  show (a.l ++ b.l).length ≤ _
  rw [List.length_append]
  omega
/-- What a sum may be: refused, or what the kinds ask. -/
def PlusIs (a b : V) (o : Option V) : Prop := (o = none ∧ ¬ (a.k = 3 ∧ b.k = 3)) ∨ ∃ v, o = some v ∧ (a.k = b.k → a.k = 0 ∨ (a.k = 3 ∧ ∃ z, OneOf (Ieee.double.add a.f b.f) z ∧ v = numV z) ∨ (a.k = 4 ∧ v = strV (a.s ++ b.s)) ∨ (a.k = 5 ∧ v = catV a b) ∨ (a.k = 6 ∧ v = ovV a b))
theorem big_is {a b r : V} {B0 N m m2 : Nat} {txt : ByteArray} {e : Ending} {w' : World} (h : OutP B0 N m (if largeV m2 r then none else some r) txt e w') (h3 : ¬ (a.k = 3 ∧ b.k = 3)) (hr : a.k = b.k → a.k = 0 ∨ (a.k = 3 ∧ ∃ z, OneOf (Ieee.double.add a.f b.f) z ∧ r = numV z) ∨ (a.k = 4 ∧ r = strV (a.s ++ b.s)) ∨ (a.k = 5 ∧ r = catV a b) ∨ (a.k = 6 ∧ r = ovV a b)) :
    ∃ o txt, PlusIs a b o ∧ OutP B0 N m o txt e w' := by
  by_cases q : largeV m2 r = true
  · rw [if_pos q] at h
    exact ⟨none, txt, Or.inl ⟨rfl, h3⟩, h⟩
  · rw [if_neg q] at h
    exact ⟨some r, txt, Or.inr ⟨r, rfl, hr⟩, h⟩
set_option maxRecDepth 100000 in
set_option maxHeartbeats 2000000 in
theorem add1_any (k1 k2 : Int) (f1 f2 : Nat) (s1 s2 : ByteArray) (a1 a2 a3 a4 : Option Addr) (n1 n2 n3 n4 c1 c2 c3 c4 : Nat) (w : World) :
    Calls Tryz.prog 87 #[.agg #[.int .i64 k1, .float .f64 f1, .string s1, .slice a1 n1 c1, .slice a2 n2 c2], .agg #[.int .i64 k2, .float .f64 f2, .string s2, .slice a3 n3 c3, .slice a4 n4 c4]] w fun e w' => e = .returned (.agg #[.int .i64 k2, .float .f64 f2, .string s2, .slice a3 n3 c3, .slice a4 n4 c4]) ∧ Below w.heap.size w w' := by
  have hsf := run_store_float Tryz.prog
  go_enter Tryz.func87, Tryz.ntmps87
  go_wp2_with fail
  obtain ⟨_, _, r2, _, hb0⟩ := threeM w (.cells #[.int .i64 k1, .float .f64 f1, .string s1, .slice a1 n1 c1, .slice a2 n2 c2] 27) (.cells #[.int .i64 k2, .float .f64 f2, .string s2, .slice a3 n3 c3, .slice a4 n4 c4] 27) (.cells #[.int .i64 k2, .float .f64 f2, .string s2, .slice a3 n3 c3, .slice a4 n4 c4] 27)
  refine bodyPost_ret_by (results_cell_row rfl _ _ (w.heap.size + 1 + 1) 27 _ (0, 0) _ rfl r2 Tryz.underlying27 rfl sizeValM) rfl ?_
  exact ⟨rfl, hb0⟩
set_option maxRecDepth 100000 in
set_option maxHeartbeats 4000000 in
theorem plus_any (a b : V) (m B0 : Nat) (la ka lb kb : Value) (w : World) (hB0 : B0 ≤ w.heap.size) (hN : NumW w) (ha : At w B0 (m + 2) a la ka) (hb : At w B0 (m + 2) b lb kb) (ra : rightV 10000 a = true) (rb : rightV 10000 b = true) (hbulk : bulkV (m + 2) a + bulkV (m + 2) b ≤ 1048576) :
    Calls Tryz.prog 7 #[.string ⟨#[43]⟩, .agg (cellsV a la ka), .agg (cellsV b lb kb)] w fun e w' => (∃ o txt, PlusIs a b o ∧ OutP 0 w.heap.size (m + 2) o txt e w') ∧ Below w.heap.size w w' := by
  have hA := fun W (hW : Below w.heap.size w W) => At.keep (fun p hp => hW.cell (by omega)) _ _ _ _ ha
  have hB := fun W (hW : Below w.heap.size w W) => At.keep (fun p hp => hW.cell (by omega)) _ _ _ _ hb
  obtain ⟨⟨ka0, ka6⟩, -⟩ := (headOK_iff a).1 (right_head ra).1
  obtain ⟨⟨kb0, kb6⟩, -⟩ := (headOK_iff b).1 (right_head rb).1
  have ta := text_bulk _ _ _ _ ha
  have tb := text_bulk _ _ _ _ hb
  have hta := fun W (hW : Below w.heap.size w W) => tellS_any (m + 2) a 10000 la ka W (hN.below hW) (At.more (Nat.le_trans hB0 hW.size) _ _ _ _ (hA W hW)) ra (by omega) ka0 ka6
  have htb := fun W (hW : Below w.heap.size w W) => tellS_any (m + 2) b 10000 lb kb W (hN.below hW) (At.more (Nat.le_trans hB0 hW.size) _ _ _ _ (hB W hW)) rb (by omega) kb0 kb6
  have oa := right_okO (m + 2) _ a ra
  have ob := right_okO (m + 2) _ b rb
  have ea : bulkV (m + 2) a = _ := bulk_is (m + 1) a
  have eb : bulkV (m + 2) b = _ := bulk_is (m + 1) b
  obtain ⟨a1, n1, c1, a2, n2, c2, rfl, rfl⟩ := ha.slices
  obtain ⟨a3, n3, c3, a4, n4, c4, rfl, rfl⟩ := hb.slices
  unfold cellsV at hta htb ⊢
  refine Operate_some ⟨#[43]⟩ a.k b.k a.f b.f a.s b.s a1 a2 a3 a4 n1 n2 n3 n4 c1 c2 c3 c4 (m + 1) B0 (PlusIs a b) w hB0 (fun W hW => ?_)
  refine plus_some a.k b.k a.f b.f a.s b.s a1 a2 a3 a4 n1 n2 n3 n4 c1 c2 c3 c4 (m + 1) B0 (PlusIs a b) W (Nat.le_trans hB0 hW.size) (fun W2 hW2 => ?_)
  have hWW : Below w.heap.size w W2 := hW.trans (hW2.mono hW.size)
  have hs2 : B0 ≤ W2.heap.size := Nat.le_trans hB0 hWW.size
  have hnext := fun W3 (h3 : Below W2.heap.size W2 W3) => hWW.trans (h3.mono hWW.size)
  by_cases k0 : a.k = 0
  · have := add_null1 a.f a.s a1 a2 a3 a4 n1 n2 n3 n4 c1 c2 c3 c4 b (m + 1) B0 ⟨#[]⟩ W2 hs2 (hB W2 hWW)
    rw [← k0] at this
    refine this.mono ?_
    rintro e w' ⟨h, hb'⟩
    exact ⟨⟨some b, ⟨#[]⟩, Or.inr ⟨b, rfl, fun _ => Or.inl k0⟩, h⟩, hb'⟩
  by_cases l0 : b.k = 0
  · have := add_null2 b.f b.s a1 a2 a3 a4 n1 n2 n3 n4 c1 c2 c3 c4 a (m + 1) B0 ⟨#[]⟩ W2 hs2 (hA W2 hWW) k0
    rw [← l0] at this
    refine this.mono ?_
    rintro e w' ⟨h, hb'⟩
    exact ⟨⟨some a, ⟨#[]⟩, Or.inr ⟨a, rfl, fun q => absurd (q.trans l0) k0⟩, h⟩, hb'⟩
  have hrefused : ∀ (hno : ∀ k : Int, 3 ≤ k → k ≤ 6 → (a.k == k && b.k == k) = false), Calls Tryz.prog 50 #[.agg #[.int .i64 a.k, .float .f64 a.f, .string a.s, .slice a1 n1 c1, .slice a2 n2 c2], .agg #[.int .i64 b.k, .float .f64 b.f, .string b.s, .slice a3 n3 c3, .slice a4 n4 c4]] W2 fun e w' => (∃ o txt, PlusIs a b o ∧ OutP B0 W2.heap.size (m + 1 + 1) o txt e w') ∧ Below W2.heap.size W2 w' := by
    intro hno
    refine (add_none (tellS (m + 2) a) (tellS (m + 2) b) a.k b.k a.f b.f a.s b.s a1 a2 a3 a4 n1 n2 n3 n4 c1 c2 c3 c4 W2 (fun W3 h3 => hta W3 (hnext W3 h3)) (fun W3 h3 => htb W3 (hnext W3 h3)) (tellS_size _ _) (tellS_size _ _) k0 l0 hno).mono ?_
    rintro e w' ⟨rfl, hb'⟩
    refine ⟨⟨none, _, Or.inl ⟨rfl, fun q => ?_⟩, outP_err _ _ _ _ _⟩, hb'⟩
    have := hno 3 (by omega) (by omega)
    rw [q.1, q.2] at this
    cases this
  by_cases hk : a.k = b.k
  · by_cases k3 : a.k = 3
    · have l3 : b.k = 3 := hk ▸ k3
      have := add_num a.f b.f a.s b.s a1 a2 a3 a4 n1 n2 n3 n4 c1 c2 c3 c4 (m + 1) B0 ⟨#[]⟩ W2
      rw [k3, l3]
      refine this.mono ?_
      rintro e w' ⟨⟨z, hz, h⟩, hb'⟩
      exact ⟨⟨some (numV z), ⟨#[]⟩, Or.inr ⟨numV z, rfl, fun _ => Or.inr (Or.inl ⟨k3, z, hz, rfl⟩)⟩, h⟩, hb'⟩
    by_cases k4 : a.k = 4
    · have l4 : b.k = 4 := hk ▸ k4
      have := add_str a.f b.f a.s b.s a1 a2 a3 a4 n1 n2 n3 n4 c1 c2 c3 c4 (m + 1) B0 W2 hs2 (by omega)
      rw [k4, l4]
      refine this.mono ?_
      rintro e w' ⟨h, hb'⟩
      exact ⟨big_is h (fun q => k3 q.1) (fun _ => Or.inr (Or.inr (Or.inl ⟨k4, rfl⟩))), hb'⟩
    by_cases k5 : a.k = 5
    · have l5 : b.k = 5 := hk ▸ k5
      have := add_arr a.f b.f a.s b.s a1 a2 a3 a4 n1 n2 n3 n4 c1 c2 c3 c4 (m + 1) B0 (catV a b) ⟨rfl, rfl, rfl⟩ W2 hs2 (fun W3 h3 P hP => concat_at a b (m + 1) B0 a1 a3 n1 c1 n3 c3 _ _ W3 (Nat.le_trans hs2 h3.size) (hA W3 (hnext W3 h3)) (hB W3 (hnext W3 h3)) (cat_small hbulk) P hP)
      rw [k5, l5]
      refine this.mono ?_
      rintro e w' ⟨h, hb'⟩
      exact ⟨big_is h (fun q => k3 q.1) (fun _ => Or.inr (Or.inr (Or.inr (Or.inl ⟨k5, rfl⟩)))), hb'⟩
    by_cases k6 : a.k = 6
    · have l6 : b.k = 6 := hk ▸ k6
      obtain ⟨hna, hla, -, -⟩ := oa.1 k6
      obtain ⟨hnb, hlb, -, -⟩ := ob.1 l6
      have := add_obj a.f b.f a.s b.s a1 a2 a3 a4 n1 n2 n3 n4 c1 c2 c3 c4 (m + 1) B0 (ovV a b) W2 hs2 (fun W3 h3 => by
        have hm := mergeA_any (fun _ y => y) a b (m + 1) B0 (.slice a1 n1 c1) (.slice a2 n2 c2) (.slice a3 n3 c3) (.slice a4 n4 c4) W3 (Nat.le_trans hs2 h3.size) (hA W3 (hnext W3 h3)) (hB W3 (hnext W3 h3)) hna hla hlb (ov_small (m := m + 1) hna hnb hla hlb hbulk) (fun W4 h4 i j hi hj lx kx ly ky _ hx hy => by
          obtain ⟨p1, p2, p3, p4, p5, p6, rfl, rfl⟩ := hx.slices
          obtain ⟨r1, r2, r3, r4, r5, r6, rfl, rfl⟩ := hy.slices
          refine (add1_any _ _ _ _ _ _ _ _ _ _ _ _ _ _ _ _ _ _ W4).mono ?_
          rintro e w' ⟨rfl, hb'⟩
          exact ⟨_, _, rfl, AtN.of_at (At.keep (fun p hp => hb'.cell (Nat.lt_of_lt_of_le hp (Nat.le_trans hs2 (Nat.le_trans h3.size h4.size)))) _ _ _ _ hy), hb'⟩)
        unfold cellsV at hm
        rw [k6, l6] at hm
        exact hm)
      rw [k6, l6]
      refine this.mono ?_
      rintro e w' ⟨h, hb'⟩
      exact ⟨big_is h (fun q => k3 q.1) (fun _ => Or.inr (Or.inr (Or.inr (Or.inr ⟨k6, rfl⟩)))), hb'⟩
    exact hrefused (fun k h3 h6 => by
      have : ¬ a.k = k := fun q => by omega
      simp [this])
  · exact hrefused (fun k h3 h6 => by
      by_cases q : a.k = k
      · have : ¬ b.k = k := fun z => hk (q.trans z.symm)
        simp [this]
      · simp [q])
end Go.Proofs.YtdlighmnlcklnaaGreatDoor
namespace Go.Proofs.YtdlighmnlcklnaaGreatDoor
open Go Go.RowKit

theorem null_is {d : Nat} {v : V} (h : rightV d v = true) (hk : v.k = 0) : v = noV := by
  obtain ⟨_, hf, hs, hl, _, hks, _, _⟩ := (headOK_iff v).1 (right_head h).1
  have hf := zeroV_is (hf.resolve_left (by omega))
  have hs := toList_nil (hs.resolve_left (by omega))
  have hl := hl.resolve_left (by omega)
  have hks := hks.resolve_left (by omega)
  obtain ⟨k, f, s, l, ks⟩ := v
  simp only [V.k, V.f, V.s, V.l, V.ks] at *
  rw [hk, hf, hs, List.eq_nil_of_length_eq_zero hl, List.eq_nil_of_length_eq_zero hks]
  rfl
/-- A value and null. -/
theorem plus_null (a : V) (m B0 : Nat) (la ka : Value) (w : World) (hB0 : B0 ≤ w.heap.size) (ha : At w B0 (m + 1) a la ka) (ra : rightV 10000 a = true) :
    Calls Tryz.prog 7 #[.string ⟨#[43]⟩, .agg (cellsV a la ka), .agg #[.int .i64 0, .float .f64 0, .string ⟨#[]⟩, .slice none 0 0, .slice none 0 0]] w fun e w' => OutP 0 w.heap.size (m + 1) (some a) ⟨#[]⟩ e w' ∧ Below w.heap.size w w' := by
  have hA := fun W (hW : Below w.heap.size w W) => At.keep (fun p hp => hW.cell (by omega)) _ _ _ _ ha
  obtain ⟨a1, n1, c1, a2, n2, c2, rfl, rfl⟩ := ha.slices
  unfold cellsV
  refine Operate_any ⟨#[43]⟩ a.k 0 a.f 0 a.s ⟨#[]⟩ a1 a2 none none n1 n2 0 0 c1 c2 0 0 m B0 (some a) ⟨#[]⟩ w hB0 (fun W hW => ?_)
  refine operate_plus a.k 0 a.f 0 a.s ⟨#[]⟩ a1 a2 none none n1 n2 0 0 c1 c2 0 0 m B0 (some a) ⟨#[]⟩ W (Nat.le_trans hB0 hW.size) (fun W2 hW2 => ?_)
  have hWW : Below w.heap.size w W2 := hW.trans (hW2.mono hW.size)
  have hs2 : B0 ≤ W2.heap.size := Nat.le_trans hB0 hWW.size
  by_cases k0 : a.k = 0
  · have e := null_is ra k0
    have := add_null1 a.f a.s a1 a2 none none n1 n2 0 0 c1 c2 0 0 noV m B0 ⟨#[]⟩ W2 hs2 (noV_at _ _ _)
    rw [← k0, ← e] at this
    have e1 : a.k = 0 := k0
    have e2 : a.f = 0 := by rw [e]; rfl
    have e3 : a.s = ⟨#[]⟩ := by rw [e]; rfl
    rw [e1, e2, e3] at this ⊢
    exact this
  · exact add_null2 0 ⟨#[]⟩ a1 a2 none none n1 n2 0 0 c1 c2 0 0 a m B0 ⟨#[]⟩ W2 hs2 (hA W2 hWW) k0
/-- Numbers taken away. -/
theorem minus_num (f1 f2 : Nat) (s1 s2 : ByteArray) (a1 a2 a3 a4 : Option Addr) (n1 n2 n3 n4 c1 c2 c3 c4 : Nat) (m : Nat) (w : World) :
    Calls Tryz.prog 7 #[.string ⟨#[45]⟩, .agg #[.int .i64 3, .float .f64 f1, .string s1, .slice a1 n1 c1, .slice a2 n2 c2], .agg #[.int .i64 3, .float .f64 f2, .string s2, .slice a3 n3 c3, .slice a4 n4 c4]] w fun e w' => (∃ o txt, (∃ z, OneOf (Ieee.double.sub f1 f2) z ∧ o = some (numV z)) ∧ OutP 0 w.heap.size (m + 1) o txt e w') ∧ Below w.heap.size w w' := by
  refine Operate_some ⟨#[45]⟩ 3 3 f1 f2 s1 s2 a1 a2 a3 a4 n1 n2 n3 n4 c1 c2 c3 c4 m 0 (fun o => ∃ z, OneOf (Ieee.double.sub f1 f2) z ∧ o = some (numV z)) w (Nat.zero_le _) (fun W hW => ?_)
  refine less_some 3 3 f1 f2 s1 s2 a1 a2 a3 a4 n1 n2 n3 n4 c1 c2 c3 c4 m 0 (fun o => ∃ z, OneOf (Ieee.double.sub f1 f2) z ∧ o = some (numV z)) W (Nat.zero_le _) (fun W2 hW2 => ?_)
  refine (sub_num f1 f2 s1 s2 a1 a2 a3 a4 n1 n2 n3 n4 c1 c2 c3 c4 m 0 ⟨#[]⟩ W2).mono ?_
  rintro e w' ⟨⟨z, hz, h⟩, hb⟩
  exact ⟨⟨some (numV z), ⟨#[]⟩, ⟨z, hz, rfl⟩, h⟩, hb⟩
set_option maxHeartbeats 400000 in
theorem refSameF_nan (f g : Nat) (hf : 9218868437227405312 < szB f) (hg : 9218868437227405312 < szB g) (w : World) : Calls Tryz.prog 30 #[.float .f64 f, .float .f64 g] w fun e w' => e = .returned (.bool true) ∧ w = w' := by
  by_cases e : f = g
  · subst e
    exact refSameF_any f w
  have hne : ((f : Int) == (g : Int)) = false := by
    have : ¬ ((f : Int) = (g : Int)) := by omega
    simpa using this
  have hbt := bits_of
  have h1 := IsNaN_any f
  have h2 := IsNaN_any g
  rw [decide_eq_true hf] at h1
  rw [decide_eq_true hg] at h2
  have H1 := Lib.hid h1
  have H2 := Lib.hid h2
  clear h1 h2 hf hg
  go_enter Tryz.func30, Tryz.ntmps30
  go_wp2_with fail
  refine (H1.out _).mono ?_
  rintro e w' ⟨rfl, rfl⟩
  go_wp2_with fail
  refine (H2.out _).mono ?_
  rintro e w' ⟨rfl, rfl⟩
  go_wp2_with fail
  go_ret
  exact ⟨rfl, rfl⟩
set_option maxRecDepth 100000 in
set_option maxHeartbeats 4000000 in
theorem Same_num (f g : Nat) (hfg : f = g ∨ (9218868437227405312 < szB f ∧ 9218868437227405312 < szB g)) (w : World) :
    Calls Tryz.prog 9 #[.agg #[.int .i64 3, .float .f64 f, .string ⟨#[]⟩, .slice none 0 0, .slice none 0 0], .agg #[.int .i64 3, .float .f64 g, .string ⟨#[]⟩, .slice none 0 0, .slice none 0 0]] w fun e w' => e = .returned (.bool true) ∧ Below w.heap.size w w' := by
  have hsa : ∀ W, Calls Tryz.prog 30 #[.float .f64 f, .float .f64 g] W fun e w' => e = .returned (.bool true) ∧ W = w' := by
    intro W
    rcases hfg with rfl | ⟨h1, h2⟩
    · exact refSameF_any f W
    · exact refSameF_nan f g h1 h2 W
  have hrow : ∀ W, Arr W w.heap.size nilS (cellsT []) := fun W => ⟨none, 0, rfl, fun h => absurd h (by simp [cellsT])⟩
  have htx := fun W => refTexts_any [] [] w.heap.size w.heap.size nilS nilS (by simp) W (hrow W) (hrow W)
  have hli := fun W => refLists_same [] (by simp) [] [] rfl rfl none none 0 0 0 0 0 0 W (fun h => absurd h (by simp)) (fun h => absurd h (by simp)) (fun i h => absurd h (by simp)) (fun i h => absurd h (by simp)) (fun i h => absurd h (by simp))
  rw [decide_eq_true (rfl : ([] : List ByteArray) = [])] at htx
  unfold nilS at htx
  have HTX := Lib.hid htx
  have HLI := Lib.hid hli
  have HSA := Lib.hid hsa
  have hsf := run_store_float Tryz.prog
  clear htx hli hsa hfg hrow
  go_enter Tryz.func9, Tryz.ntmps9
  go_wp2_with fail
  obtain ⟨q1, q2⟩ := two_newS w (.cells #[.int .i64 3, .float .f64 f, .string ⟨#[]⟩, .slice none 0 0, .slice none 0 0] 27) (.cells #[.int .i64 3, .float .f64 g, .string ⟨#[]⟩, .slice none 0 0, .slice none 0 0] 27)
  have hb0 := ((Below.refl w.heap.size w).alloc (Nat.le_refl _) (.cells #[.int .i64 3, .float .f64 f, .string ⟨#[]⟩, .slice none 0 0, .slice none 0 0] 27)).alloc (by simp) (.cells #[.int .i64 3, .float .f64 g, .string ⟨#[]⟩, .slice none 0 0, .slice none 0 0] 27)
  generalize ((w.alloc (.cells #[.int .i64 3, .float .f64 f, .string ⟨#[]⟩, .slice none 0 0, .slice none 0 0] 27)).alloc (.cells #[.int .i64 3, .float .f64 g, .string ⟨#[]⟩, .slice none 0 0, .slice none 0 0] 27)) = W0 at q1 q2 hb0 ⊢
  refine (HTX.out _).mono ?_
  rintro e w2 ⟨rfl, n, hw⟩
  have hb2 : Below W0.heap.size W0 w2 := hw ▸ below_drewN (Below.refl _ _) n
  have p1 := (hb2.block _ (Array.getElem?_eq_some_iff.1 q1).1).trans q1
  have p2 := (hb2.block _ (Array.getElem?_eq_some_iff.1 q2).1).trans q2
  have B2 := Lib.hid (hb0.trans (hb2.mono hb0.size))
  clear hw hb2 hb0 q1 q2
  obtain ⟨x0, x1, x2, x3, x4, _⟩ := row5 p1
  obtain ⟨y0, y1, y2, y3, y4, _⟩ := row5 p2
  clear p1 p2
  go_wp2_with fail
  refine (HSA.out _).mono ?_
  rintro e w3 ⟨rfl, rfl⟩
  go_wp2_with fail
  refine (HLI.out _).mono ?_
  rintro e w3 ⟨rfl, hb3⟩
  go_wp2_with fail
  go_ret
  exact ⟨rfl, B2.out.trans (hb3.mono B2.out.size)⟩
end Go.Proofs.YtdlighmnlcklnaaGreatDoor
namespace Go.Proofs.YtdlighmnlcklnaaGreatDoor
open Go Go.RowKit

theorem one_same {a b : Nat} {z y : Nat} (hz : OneOf (Ieee.double.add a b) z) (hy : OneOf (Ieee.double.add b a) y) : z = y ∨ (9218868437227405312 < szB z ∧ 9218868437227405312 < szB y) := by
  have hy2 := hy.2
  rw [add_comm b a] at hy2
  rcases hz.2 with q | ⟨q, h1⟩ <;> rcases hy2 with r | ⟨r, h2⟩
  · rw [q] at r; exact Or.inl (Option.some.inj r)
  · rw [q] at r; cases r
  · rw [q] at r; cases r
  · exact Or.inr ⟨h1, h2⟩
set_option maxRecDepth 100000 in
set_option maxHeartbeats 4000000 in
theorem Same_numA (f g : Nat) (a1 a2 a3 a4 : Option Addr) (c1 c2 c3 c4 : Nat) (hfg : f = g ∨ (9218868437227405312 < szB f ∧ 9218868437227405312 < szB g)) (w : World) :
    Calls Tryz.prog 9 #[.agg #[.int .i64 3, .float .f64 f, .string ⟨#[]⟩, .slice a1 0 c1, .slice a2 0 c2], .agg #[.int .i64 3, .float .f64 g, .string ⟨#[]⟩, .slice a3 0 c3, .slice a4 0 c4]] w fun e w' => e = .returned (.bool true) ∧ Below w.heap.size w w' := by
  have hsa : ∀ W, Calls Tryz.prog 30 #[.float .f64 f, .float .f64 g] W fun e w' => e = .returned (.bool true) ∧ W = w' := by
    intro W
    rcases hfg with rfl | ⟨h1, h2⟩
    · exact refSameF_any f W
    · exact refSameF_nan f g h1 h2 W
  have hrow : ∀ W (A : Option Addr) (c : Nat), Arr W w.heap.size (.slice A 0 c) (cellsT []) := fun W A c => ⟨A, c, rfl, fun h => absurd h (by simp [cellsT])⟩
  have htx := fun W => refTexts_any [] [] w.heap.size w.heap.size (.slice a2 0 c2) (.slice a4 0 c4) (by simp) W (hrow W _ _) (hrow W _ _)
  have hli := fun W => refLists_same [] (by simp) [] [] rfl rfl a1 a3 c1 c3 0 0 0 0 W (fun h => absurd h (by simp)) (fun h => absurd h (by simp)) (fun i h => absurd h (by simp)) (fun i h => absurd h (by simp)) (fun i h => absurd h (by simp))
  rw [decide_eq_true (rfl : ([] : List ByteArray) = [])] at htx
  have HTX := Lib.hid htx
  have HLI := Lib.hid hli
  have HSA := Lib.hid hsa
  have hsf := run_store_float Tryz.prog
  clear htx hli hsa hfg hrow
  go_enter Tryz.func9, Tryz.ntmps9
  go_wp2_with fail
  obtain ⟨q1, q2⟩ := two_newS w (.cells #[.int .i64 3, .float .f64 f, .string ⟨#[]⟩, .slice a1 0 c1, .slice a2 0 c2] 27) (.cells #[.int .i64 3, .float .f64 g, .string ⟨#[]⟩, .slice a3 0 c3, .slice a4 0 c4] 27)
  have hb0 := ((Below.refl w.heap.size w).alloc (Nat.le_refl _) (.cells #[.int .i64 3, .float .f64 f, .string ⟨#[]⟩, .slice a1 0 c1, .slice a2 0 c2] 27)).alloc (by simp) (.cells #[.int .i64 3, .float .f64 g, .string ⟨#[]⟩, .slice a3 0 c3, .slice a4 0 c4] 27)
  generalize ((w.alloc (.cells #[.int .i64 3, .float .f64 f, .string ⟨#[]⟩, .slice a1 0 c1, .slice a2 0 c2] 27)).alloc (.cells #[.int .i64 3, .float .f64 g, .string ⟨#[]⟩, .slice a3 0 c3, .slice a4 0 c4] 27)) = W0 at q1 q2 hb0 ⊢
  refine (HTX.out _).mono ?_
  rintro e w2 ⟨rfl, n, hw⟩
  have hb2 : Below W0.heap.size W0 w2 := hw ▸ below_drewN (Below.refl _ _) n
  have p1 := (hb2.block _ (Array.getElem?_eq_some_iff.1 q1).1).trans q1
  have p2 := (hb2.block _ (Array.getElem?_eq_some_iff.1 q2).1).trans q2
  have B2 := Lib.hid (hb0.trans (hb2.mono hb0.size))
  clear hw hb2 hb0 q1 q2
  obtain ⟨x0, x1, x2, x3, x4, _⟩ := row5 p1
  obtain ⟨y0, y1, y2, y3, y4, _⟩ := row5 p2
  clear p1 p2
  go_wp2_with fail
  refine (HSA.out _).mono ?_
  rintro e w3 ⟨rfl, rfl⟩
  go_wp2_with fail
  refine (HLI.out _).mono ?_
  rintro e w3 ⟨rfl, hb3⟩
  go_wp2_with fail
  go_ret
  exact ⟨rfl, B2.out.trans (hb3.mono B2.out.size)⟩
end Go.Proofs.YtdlighmnlcklnaaGreatDoor
namespace Go.Proofs.YtdlighmnlcklnaaGreatDoor
open Go Go.RowKit

theorem opened_five {W : World} {B m : Nat} {v : V} {A : Option Addr} {n c : Nat} {kv : Value} (h : At W B (m + 1) v (.slice A n c) kv) : n = v.l.length ∧ ∃ (b o : Nat), (0 < v.l.length → A = some ⟨b, o, none⟩ ∧ b < B) ∧ ∀ i (h : i < v.l.length), ∃ x1 x2 x3 x4 x5 x6, FiveAt W b (o + i * 5) v.l[i] (.slice x1 x2 x3) (.slice x4 x5 x6) ∧ At W B m v.l[i] (.slice x1 x2 x3) (.slice x4 x5 x6) := by
  obtain ⟨_, _, _, a, c', b, o, e, hab, hi⟩ := h.opened
  cases e
  refine ⟨rfl, b, o, hab, fun i hlt => ?_⟩
  obtain ⟨lv, kv, h5, hat⟩ := hi i hlt
  obtain ⟨x1, x2, x3, x4, x5, x6, rfl, rfl⟩ := hat.slices
  exact ⟨_, _, _, _, _, _, h5, hat⟩
theorem opened_keys {W : World} {B m : Nat} {v : V} {lv : Value} {A : Option Addr} {n c : Nat} (h : At W B (m + 1) v lv (.slice A n c)) : n = v.ks.length ∧ ∃ ad : Addr, (0 < v.ks.length → A = some ad ∧ ad.block < B) ∧ ∀ i (hi : i < v.ks.length), W.cell? (ad.add i) = some (.string v.ks[i]) ∧ v.ks[i].size ≤ 1048576 := by
  obtain ⟨hs, hk, _⟩ := h.opened
  obtain ⟨A', ad, c', e, hA, hc⟩ := hk.1.dest
  rw [List.length_map] at e hA
  cases e
  refine ⟨rfl, ad, hA, fun i hi => ⟨hc i _ (by simp [hi]), ?_⟩⟩
  have := keysLen_up v.ks i hi
  have := keysLen_le v.ks (i + 1)
  have := hs.2.2.2.2.2.2
  omega
theorem trkM {a W W' : World} (h : Below a.heap.size a W) (hb : Below W.heap.size W W') : Below a.heap.size a W' := h.trans (hb.mono h.size)

set_option maxRecDepth 100000 in
set_option maxHeartbeats 16000000 in
theorem sums_bad (a : V) (m : Nat) (a1 : Option Addr) (n1 c1 : Nat) (a2 : Option Addr) (n2 c2 : Nat) (b : V) (a3 : Option Addr) (n3 c3 : Nat) (a4 : Option Addr) (n4 c4 : Nat) (w : World) (hN : NumW w)
    (ha : At w w.heap.size m a (.slice a1 n1 c1) (.slice a2 n2 c2)) (hb : At w w.heap.size m b (.slice a3 n3 c3) (.slice a4 n4 c4)) (hbad : ¬ (rightV 10000 a = true ∧ rightV 10000 b = true)) :
    Calls Tryz.prog 4 #[.agg (cellsV a (.slice a1 n1 c1) (.slice a2 n2 c2)), .agg (cellsV b (.slice a3 n3 c3) (.slice a4 n4 c4))] w fun e w' => e = .returned (.bool true) ∧ Below w.heap.size w w' := by
  have hsf := run_store_float Tryz.prog
  have HN := Lib.hid (fun W (hW : Below w.heap.size w W) => hN.below hW)
  have hrv := fun W (hW : Below w.heap.size w W) => refRightT_any m a _ _ W ((ha.below hW).more hW.size)
  have hrx := fun W (hW : Below w.heap.size w W) => refRightT_any m b _ _ W ((hb.below hW).more hW.size)
  obtain ⟨r1, h1⟩ : ∃ b, rightV 10000 a = b := ⟨_, rfl⟩
  obtain ⟨r2, h2⟩ : ∃ c, rightV 10000 b = c := ⟨_, rfl⟩
  simp only [h1] at hrv
  simp only [h2] at hrx
  rw [h1, h2] at hbad
  unfold cellsV at hrv hrx ⊢
  have HRV := Lib.hid hrv
  have HRX := Lib.hid hrx
  have HBAD := Lib.hid hbad
  have HS := Lib.hid (HW.start w)
  clear hrv hrx hbad h1 h2 hN ha hb
  go_enter Tryz.func4, Tryz.ntmps4
  go_wp2_with fail
  have H := Lib.hid (HS.out.two #[.int .i64 a.k, .float .f64 a.f, .string a.s, .slice a1 n1 c1, .slice a2 n2 c2] #[.int .i64 b.k, .float .f64 b.f, .string b.s, .slice a3 n3 c3, .slice a4 n4 c4] 27 27)
  clear HS
  refine (HRV.out _ H.out.bel).mono ?_
  rintro e w1 ⟨rfl, hb⟩
  have H1 := Lib.hid (H.out.below hb)
  obtain ⟨y0, y1, y2, y3, y4⟩ := row5p (H1.out.rows _ (.head _))
  clear hb H
  cases r1
  · go_wp2_with fail
    refine (heads_true _ (HN.out _ H1.out.bel)).mono ?_
    rintro e w9 ⟨rfl, hb9⟩
    go_wp2_with fail
    go_ret
    exact ⟨rfl, trkM H1.out.bel hb9⟩
  go_wp2_with fail
  refine (HRX.out _ H1.out.bel).mono ?_
  rintro e w2 ⟨rfl, hb⟩
  have H2 := Lib.hid (H1.out.below hb)
  clear hb y0 y1 y2 y3 y4 H1
  cases r2
  · go_wp2_with fail
    refine (heads_true _ (HN.out _ H2.out.bel)).mono ?_
    rintro e w9 ⟨rfl, hb9⟩
    go_wp2_with fail
    go_ret
    exact ⟨rfl, trkM H2.out.bel hb9⟩
  · have hbad := HBAD.out
    simp at hbad
set_option maxRecDepth 100000 in
set_option maxHeartbeats 16000000 in
theorem sums_good (a : V) (m : Nat) (a1 : Option Addr) (n1 c1 : Nat) (a2 : Option Addr) (n2 c2 : Nat) (b : V) (a3 : Option Addr) (n3 c3 : Nat) (a4 : Option Addr) (n4 c4 : Nat) (w : World) (hN : NumW w)
    (ha : At w w.heap.size (m + 2) a (.slice a1 n1 c1) (.slice a2 n2 c2)) (hb : At w w.heap.size (m + 2) b (.slice a3 n3 c3) (.slice a4 n4 c4)) (g1 : rightV 10000 a = true) (g2 : rightV 10000 b = true) (hbulk : bulkV (m + 2) a + bulkV (m + 2) b ≤ 1048576) :
    Calls Tryz.prog 4 #[.agg (cellsV a (.slice a1 n1 c1) (.slice a2 n2 c2)), .agg (cellsV b (.slice a3 n3 c3) (.slice a4 n4 c4))] w fun e w' => e = .returned (.bool true) ∧ Below w.heap.size w w' := by
  have hsf := run_store_float Tryz.prog
  have hka := fun W (hW : Below w.heap.size w W) => At.keep (fun p hp => hW.cell (by omega)) _ _ _ _ ha
  have hkb := fun W (hW : Below w.heap.size w W) => At.keep (fun p hp => hW.cell (by omega)) _ _ _ _ hb
  have hA := fun W (hW : Below w.heap.size w W) => (ha.below hW).more hW.size
  have hB := fun W (hW : Below w.heap.size w W) => (hb.below hW).more hW.size
  have hop1 := fun W (hW : Below w.heap.size w W) => plus_any a b m w.heap.size _ _ _ _ W hW.size (hN.below hW) (hka W hW) (hkb W hW) g1 g2 hbulk
  have hop3 := fun W (hW : Below w.heap.size w W) => plus_any b a m w.heap.size _ _ _ _ W hW.size (hN.below hW) (hkb W hW) (hka W hW) g2 g1 (by omega)
  have hop0 := fun W (hW : Below w.heap.size w W) => plus_null a (m + 1) w.heap.size _ _ W hW.size (hka W hW) g1
  have hsm := fun (W : World) (x : V) (lv kv lx kx : Value) (h1 : At W W.heap.size (m + 2) x lv kv) (h2 : At W W.heap.size (m + 2) x lx kx) => Same_refl (m + 2) x lv kv lx kx W h1 h2
  have hrv := fun W (hW : Below w.heap.size w W) => refRightT_any (m + 2) a _ _ W ((ha.below hW).more hW.size)
  have hrx := fun W (hW : Below w.heap.size w W) => refRightT_any (m + 2) b _ _ W ((hb.below hW).more hW.size)
  simp only [g1] at hrv
  simp only [g2] at hrx
  unfold cellsV
  simp only [cellsV] at hrv hrx hop1 hop3 hop0 hsm
  have HN := Lib.hid (fun W (hW : Below w.heap.size w W) => hN.below hW)
  have HRV := Lib.hid hrv
  have HRX := Lib.hid hrx
  have HO1 := Lib.hid hop1
  have HO3 := Lib.hid hop3
  have HO0 := Lib.hid hop0
  have HSM := Lib.hid hsm
  have HA := Lib.hid hA
  have HB := Lib.hid hB
  have HATA := Lib.hid ha
  have HATB := Lib.hid hb
  have HG := Lib.hid (And.intro g1 g2)
  have HBULK := Lib.hid hbulk
  have HS := Lib.hid (HW.start w)
  clear hrv hrx hop1 hop3 hop0 hsm hka hkb hA hB hN ha hb g1 g2 hbulk
  go_enter Tryz.func4, Tryz.ntmps4
  go_wp2_with fail
  have H := Lib.hid (HS.out.two #[.int .i64 a.k, .float .f64 a.f, .string a.s, .slice a1 n1 c1, .slice a2 n2 c2] #[.int .i64 b.k, .float .f64 b.f, .string b.s, .slice a3 n3 c3, .slice a4 n4 c4] 27 27)
  clear HS
  refine (HRV.out _ H.out.bel).mono ?_
  rintro e w1 ⟨rfl, hb⟩
  have H1 := Lib.hid (H.out.below hb)
  obtain ⟨y0, y1, y2, y3, y4⟩ := row5p (H1.out.rows _ (.head _))
  clear hb H
  go_wp2_with fail
  refine (HRX.out _ H1.out.bel).mono ?_
  rintro e w2 ⟨rfl, hb⟩
  have H2 := Lib.hid (H1.out.below hb)
  clear hb y0 y1 y2 y3 y4 H1
  obtain ⟨x0, x1, x2, x3, x4⟩ := row5p (H2.out.rows _ (.tail _ (.head _)))
  obtain ⟨y0, y1, y2, y3, y4⟩ := row5p (H2.out.rows _ (.head _))
  go_wp2_with fail
  refine (HO1.out _ H2.out.bel).mono ?_
  rintro e w3 ⟨⟨o, txt, hO, v, lv, kv, bb, k', s', rfl, hat, hor⟩, hb⟩
  obtain ⟨p1, p2, p3, p4, p5, p6, rfl, rfl⟩ := AtP.slices hat
  have hh := H2.out.below hb
  clear x0 x1 x2 x3 x4 y0 y1 y2 y3 y4 H2
  simp only [cellsV]
  have HOO := Lib.hid (And.intro hO hor)
  clear hO hor
  have HH := hh.two #[.int .i64 v.k, .float .f64 v.f, .string v.s, .slice p1 p2 p3, .slice p4 p5 p6] #[.bool bb, .int .i64 k', .float .f64 0, .string s', .slice none 0 0, .slice none 0 0] 27 31
  have hbw : Below w3.heap.size w3 ((w3.alloc (.cells #[.int .i64 v.k, .float .f64 v.f, .string v.s, .slice p1 p2 p3, .slice p4 p5 p6] 27)).alloc (.cells #[.bool bb, .int .i64 k', .float .f64 0, .string s', .slice none 0 0, .slice none 0 0] 31)) := ((Below.refl w3.heap.size w3).alloc (Nat.le_refl _) _).alloc (by simp) _
  have ATV := Lib.hid (((AtN.to_at hat (Nat.zero_le _)).below hbw).more hbw.size)
  obtain ⟨x0, x1, x2, x3, x4⟩ := row5p (HH.rows _ (.tail _ (.tail _ (.tail _ (.head _)))))
  have H4 := Lib.hid HH
  clear HH hat hb hbw hh
  go_wp2_with fail
  clear x0 x1 x2 x3 x4
  generalize ((w3.alloc (.cells #[.int .i64 v.k, .float .f64 v.f, .string v.s, .slice p1 p2 p3, .slice p4 p5 p6] 27)).alloc (.cells #[.bool bb, .int .i64 k', .float .f64 0, .string s', .slice none 0 0, .slice none 0 0] 31)) = W4 at H4 ATV ⊢
  refine (HO0.out _ H4.out.bel).mono ?_
  rintro e w5 ⟨⟨v2, lv2, kv2, bb2, k2', s2', rfl, hat2, hor2⟩, hb5⟩
  obtain ⟨q1, q2, q3, q4, q5, q6, rfl, rfl⟩ := AtP.slices hat2
  obtain ⟨e2, rfl, rfl, rfl⟩ : some a = some v2 ∧ bb2 = false ∧ k2' = 0 ∧ s2' = ⟨#[]⟩ := by
    rcases hor2 with h | ⟨h, -⟩
    · exact h
    · cases h
  obtain rfl := Option.some.inj e2
  simp only [cellsV]
  have hh := H4.out.below hb5
  have ATV5 := Lib.hid ((ATV.out.below hb5).more hb5.size)
  clear e2 hor2 H4 ATV
  have HH := hh.two #[.int .i64 a.k, .float .f64 a.f, .string a.s, .slice q1 q2 q3, .slice q4 q5 q6] #[.bool false, .int .i64 0, .float .f64 0, .string ⟨#[]⟩, .slice none 0 0, .slice none 0 0] 27 31
  have hbw : Below w5.heap.size w5 ((w5.alloc (.cells #[.int .i64 a.k, .float .f64 a.f, .string a.s, .slice q1 q2 q3, .slice q4 q5 q6] 27)).alloc (.cells #[.bool false, .int .i64 0, .float .f64 0, .string ⟨#[]⟩, .slice none 0 0, .slice none 0 0] 31)) := ((Below.refl w5.heap.size w5).alloc (Nat.le_refl _) _).alloc (by simp) _
  have ATN := Lib.hid (((AtN.to_at hat2 (Nat.zero_le _)).below hbw).more hbw.size)
  have ATV := Lib.hid ((ATV5.out.below hbw).more hbw.size)
  obtain ⟨z0, z1, z2, z3, z4, z5⟩ := row6p (HH.rows _ (.head _))
  obtain ⟨y0, y1, y2, y3, y4⟩ := row5p (HH.rows _ (.tail _ (.head _)))
  obtain ⟨x0, x1, x2, x3, x4⟩ := row5p (HH.rows _ (.tail _ (.tail _ (.tail _ (.tail _ (.tail _ (.head _)))))))
  have H6 := Lib.hid HH
  clear HH hat2 hb5 hbw hh ATV5
  go_wp2_with fail
  clear x0 x1 x2 x3 x4 y0 y1 y2 y3 y4 z0 z1 z2 z3 z4 z5
  generalize ((w5.alloc (.cells #[.int .i64 a.k, .float .f64 a.f, .string a.s, .slice q1 q2 q3, .slice q4 q5 q6] 27)).alloc (.cells #[.bool false, .int .i64 0, .float .f64 0, .string ⟨#[]⟩, .slice none 0 0, .slice none 0 0] 31)) = W6 at H6 ATN ATV ⊢
  refine (HSM.out _ _ _ _ _ _ ATN.out (HA.out _ H6.out.bel)).mono ?_
  rintro e w7 ⟨rfl, hb7⟩
  have H7 := Lib.hid (H6.out.below hb7)
  have ATV7 := Lib.hid ((ATV.out.below hb7).more hb7.size)
  clear H6 ATN ATV hb7
  obtain ⟨z0, z1, z2, z3, z4, z5⟩ := row6p (H7.out.rows _ (.tail _ (.tail _ (.head _))))
  obtain ⟨y0, y1, y2, y3, y4⟩ := row5p (H7.out.rows _ (.tail _ (.tail _ (.tail _ (.tail _ (.head _))))))
  obtain ⟨x0, x1, x2, x3, x4⟩ := row5p (H7.out.rows _ (.tail _ (.tail _ (.tail _ (.tail _ (.tail _ (.head _)))))))
  obtain ⟨hO, hor⟩ := HOO.out
  clear HOO
  rcases hor with ⟨rfl, rfl, rfl, rfl⟩ | ⟨rfl, rfl, rfl, rfl, rfl⟩
  · have hcase : a.k = b.k → a.k = 0 ∨ (a.k = 3 ∧ ∃ z, OneOf (Ieee.double.add a.f b.f) z ∧ v = numV z) ∨ (a.k = 4 ∧ v = strV (a.s ++ b.s)) ∨ (a.k = 5 ∧ v = catV a b) ∨ (a.k = 6 ∧ v = ovV a b) := by
      rcases hO with ⟨h, -⟩ | ⟨v', h, hc⟩
      · cases h
      · obtain rfl := Option.some.inj h
        exact hc
    clear hO
    by_cases hk : a.k = b.k
    · have hkn : (a.k != b.k) = false := by simpa using hk
      rcases hcase hk with k0 | ⟨k3, zz, hz, hv⟩ | ⟨k4, hv⟩ | ⟨k5, hv⟩ | ⟨k6, hv⟩
      · have t3 : (a.k == 3) = false := by rw [k0]; rfl
        have t4 : (a.k == 4) = false := by rw [k0]; rfl
        have t5 : (a.k == 5) = false := by rw [k0]; rfl
        have t6 : (a.k == 6) = false := by rw [k0]; rfl
        clear hk k0 hcase
        go_wp2_with fail
        refine (heads_true _ (HN.out _ H7.out.bel)).mono ?_
        rintro e w9 ⟨rfl, hb9⟩
        go_wp2_with fail
        go_ret
        exact ⟨rfl, trkM H7.out.bel hb9⟩
      · have hbk : b.k = 3 := hk ▸ k3
        have hvk : v.k = 3 := by rw [hv]; rfl
        have hvf : v.f = zz := by rw [hv]; rfl
        have hvs : v.s = ⟨#[]⟩ := by rw [hv]; rfl
        have hp2 : p2 = 0 := by have := (opened_five ATV7.out).1; rw [this, hv]; rfl
        have hp5 : p5 = 0 := by have := (opened_keys ATV7.out).1; rw [this, hv]; rfl
        subst hp2 hp5
        have haf : a.f < 18446744073709551616 := HATA.out.opened.1.2.2.1
        have hbf : b.f < 18446744073709551616 := HATB.out.opened.1.2.2.1
        have HF := Lib.hid (And.intro haf hbf)
        have HK := Lib.hid (And.intro k3 hbk)
        have HZ := Lib.hid hz
        have hh7 := H7.out
        simp only [hvk, hvf, hvs, k3, hbk] at hh7
        have hop3 := HO3.out
        simp only [k3, hbk] at hop3
        have H7N := Lib.hid hh7
        have HO3N := Lib.hid hop3
        clear hh7 hop3 H7 HO3 HO1 HO0 x0 x1 x2 x3 x4 y0 y1 y2 y3 y4 z0 z1 z2 z3 z4 z5 hk k3 hbk hvk hvf hvs hv hz haf hbf hcase hkn ATV7
        obtain ⟨z0, z1, z2, z3, z4, z5⟩ := row6p (H7N.out.rows _ (.tail _ (.tail _ (.head _))))
        obtain ⟨y0, y1, y2, y3, y4⟩ := row5p (H7N.out.rows _ (.tail _ (.tail _ (.tail _ (.tail _ (.head _))))))
        obtain ⟨x0, x1, x2, x3, x4⟩ := row5p (H7N.out.rows _ (.tail _ (.tail _ (.tail _ (.tail _ (.tail _ (.head _)))))))
        go_wp2_with fail
        clear x0 x1 x2 x3 x4 y0 y1 y2 y3 y4 z0 z1 z2 z3 z4 z5
        refine (HO3N.out _ H7N.out.bel).mono ?_
        rintro e w8 ⟨⟨o3, txt3, hO3, v3, lv3, kv3, bb3, k3', s3', rfl, hat3, hor3⟩, hb8⟩
        obtain ⟨u1, u2, u3, u4, u5, u6, rfl, rfl⟩ := AtP.slices hat3
        obtain ⟨z3, hz3, e3⟩ : ∃ z3, OneOf (Ieee.double.add b.f a.f) z3 ∧ o3 = some (numV z3) := by
          rcases hO3 with ⟨-, h⟩ | ⟨v', h1, h2⟩
          · exact absurd ⟨HK.out.2, HK.out.1⟩ h
          · rcases h2 (HK.out.2.trans HK.out.1.symm) with q | ⟨_, z3, hz, q⟩ | ⟨q, _⟩ | ⟨q, _⟩ | ⟨q, _⟩
            · exact absurd (HK.out.2.symm.trans q) (by decide)
            · exact ⟨z3, hz, h1.trans (congrArg some q)⟩
            · exact absurd (HK.out.2.symm.trans q) (by decide)
            · exact absurd (HK.out.2.symm.trans q) (by decide)
            · exact absurd (HK.out.2.symm.trans q) (by decide)
        subst e3
        obtain ⟨e3, rfl, rfl, rfl⟩ : some (numV z3) = some v3 ∧ bb3 = false ∧ k3' = 0 ∧ s3' = ⟨#[]⟩ := by
          rcases hor3 with h | ⟨h, -⟩
          · exact h
          · cases h
        have e3 := Option.some.inj e3
        have h3k : v3.k = 3 := by rw [← e3]; rfl
        have h3f : v3.f = z3 := by rw [← e3]; rfl
        have h3s : v3.s = ⟨#[]⟩ := by rw [← e3]; rfl
        have hu2 : u2 = 0 := by have := (opened_five (AtN.to_at hat3 (Nat.zero_le _))).1; rw [this, ← e3]; rfl
        have hu5 : u5 = 0 := by have := (opened_keys (AtN.to_at hat3 (Nat.zero_le _))).1; rw [this, ← e3]; rfl
        subst hu2 hu5
        simp only [cellsV, h3k, h3f, h3s]
        have HONE := Lib.hid (one_same HZ.out hz3)
        have hh := H7N.out.below hb8
        clear h3k h3f h3s e3 hz3 hor3 hO3 hat3 H7N
        have HH := hh.two #[.int .i64 3, .float .f64 z3, .string ⟨#[]⟩, .slice u1 0 u3, .slice u4 0 u6] #[.bool false, .int .i64 0, .float .f64 0, .string ⟨#[]⟩, .slice none 0 0, .slice none 0 0] 27 31
        obtain ⟨s0, s1, s2, s3, s4⟩ := row5p (HH.rows _ (.tail _ (.tail _ (.tail _ (.tail _ (.tail _ (.head _)))))))
        obtain ⟨y0, y1, y2, y3, y4⟩ := row5p (HH.rows _ (.tail _ (.tail _ (.tail _ (.tail _ (.tail _ (.tail _ (.head _))))))))
        have H9 := Lib.hid HH
        clear HH hh hb8
        go_wp2_with fail
        clear s0 s1 s2 s3 s4 y0 y1 y2 y3 y4
        generalize ((w8.alloc (.cells #[.int .i64 3, .float .f64 z3, .string ⟨#[]⟩, .slice u1 0 u3, .slice u4 0 u6] 27)).alloc (.cells #[.bool false, .int .i64 0, .float .f64 0, .string ⟨#[]⟩, .slice none 0 0, .slice none 0 0] 31)) = W9 at H9 ⊢
        refine (minus_num zz b.f ⟨#[]⟩ b.s p1 p4 a3 a4 0 0 n3 n4 p3 p6 c3 c4 (m + 1) W9).mono ?_
        rintro e w10 ⟨⟨o4, txt4, ⟨dd, hd, rfl⟩, v4, lv4, kv4, bb4, k4', s4', rfl, hat4, hor4⟩, hb10⟩
        obtain ⟨r1, r2, r3, r4, r5, r6, rfl, rfl⟩ := AtP.slices hat4
        obtain ⟨e4, rfl, rfl, rfl⟩ : some (numV dd) = some v4 ∧ bb4 = false ∧ k4' = 0 ∧ s4' = ⟨#[]⟩ := by
          rcases hor4 with h | ⟨h, -⟩
          · exact h
          · cases h
        have h4f : v4.f = dd := by rw [← Option.some.inj e4]; rfl
        simp only [cellsV, h4f]
        have HD := Lib.hid hd
        have hh := H9.out.below hb10
        clear h4f e4 hor4 hat4 hd H9
        have HH := hh.two #[.int .i64 v4.k, .float .f64 dd, .string v4.s, .slice r1 r2 r3, .slice r4 r5 r6] #[.bool false, .int .i64 0, .float .f64 0, .string ⟨#[]⟩, .slice none 0 0, .slice none 0 0] 27 31
        obtain ⟨x0, x1, x2, x3, x4⟩ := row5p (HH.rows _ (.tail _ (.tail _ (.tail _ (.tail _ (.tail _ (.tail _ (.tail _ (.tail _ (.tail _ (.head _)))))))))))
        obtain ⟨y0, y1, y2, y3, y4⟩ := row5p (HH.rows _ (.tail _ (.tail _ (.tail _ (.tail _ (.tail _ (.tail _ (.tail _ (.tail _ (.head _))))))))))
        have H11 := Lib.hid HH
        clear HH hh hb10
        go_wp2_with fail
        clear x0 x1 x2 x3 x4 y0 y1 y2 y3 y4
        generalize ((w10.alloc (.cells #[.int .i64 v4.k, .float .f64 dd, .string v4.s, .slice r1 r2 r3, .slice r4 r5 r6] 27)).alloc (.cells #[.bool false, .int .i64 0, .float .f64 0, .string ⟨#[]⟩, .slice none 0 0, .slice none 0 0] 31)) = W11 at H11 ⊢
        obtain ⟨x0, x1, x2, x3, x4⟩ := row5p (H11.out.rows _ (.tail _ (.tail _ (.tail _ (.tail _ (.tail _ (.tail _ (.tail _ (.tail _ (.tail _ (.head _)))))))))))
        obtain ⟨y0, y1, y2, y3, y4⟩ := row5p (H11.out.rows _ (.tail _ (.tail _ (.tail _ (.tail _ (.tail _ (.tail _ (.tail _ (.tail _ (.head _))))))))))
        obtain ⟨g0, g1, g2, g3, g4, g5⟩ := row6p (H11.out.rows _ (.tail _ (.tail _ (.head _))))
        obtain ⟨s0, s1, s2, s3, s4⟩ := row5p (H11.out.rows _ (.tail _ (.tail _ (.tail _ (.tail _ (.tail _ (.tail _ (.tail _ (.head _)))))))))
        obtain ⟨t0, t1, t2, t3, t4⟩ := row5p (H11.out.rows _ (.tail _ (.tail _ (.tail _ (.head _)))))
        have hback : ∀ (h1 : (FloatKind.f64.format.order (absB a.f) 4832362400168542208 == some .lt) = true) (h2 : (FloatKind.f64.format.order (absB b.f) 4832362400168542208 == some .lt) = true) (h3 : (FloatKind.f64.format.order (trB a.f) a.f == some .eq) = true) (h4 : (FloatKind.f64.format.order (trB b.f) b.f == some .eq) = true), (FloatKind.f64.format.order dd a.f == some .eq) = true := by
          intro h1 h2 h3 h4
          have sA := abs_low HF.out.1 h1
          have sB := abs_low HF.out.2 h2
          obtain ⟨X, X1, X2, X3⟩ := whole_of sA h3
          obtain ⟨Y, Y1, Y2, Y3⟩ := whole_of sB h4
          exact sum_back HF.out.1 HF.out.2 sA sB X1 X2 X3 Y1 Y2 Y3 HZ.out HD.out
        have HBACK := Lib.hid hback
        clear hback
        rcases Bool.eq_false_or_eq_true (FloatKind.f64.format.order (absB a.f) 4832362400168542208 == some .lt) with e1 | e1
        · rcases Bool.eq_false_or_eq_true (FloatKind.f64.format.order (absB b.f) 4832362400168542208 == some .lt) with e2 | e2
          · have HSA : Hid (szB a.f < 9218868437227405312) := Lib.hid (by have := abs_low HF.out.1 e1; omega)
            have HSB : Hid (szB b.f < 9218868437227405312) := Lib.hid (by have := abs_low HF.out.2 e2; omega)
            rcases Bool.eq_false_or_eq_true (FloatKind.f64.format.order (trB a.f) a.f == some .eq) with e3 | e3
            · rcases Bool.eq_false_or_eq_true (FloatKind.f64.format.order (trB b.f) b.f == some .eq) with e4 | e4
              · have hbk := HBACK.out e1 e2 e3 e4
                go_quiet (first | (go_at_call 10; exact Calls.quiet_of_same ((Abs_any _ _).mono (by rintro e w' ⟨rfl, rfl⟩; exact ⟨rfl, rfl⟩))) | (go_at_call 11; first | exact Calls.quiet_of_same ((Trunc_any _ HSA.out _).mono (by rintro e w' ⟨rfl, rfl⟩; exact ⟨rfl, rfl⟩)) | exact Calls.quiet_of_same ((Trunc_any _ HSB.out _).mono (by rintro e w' ⟨rfl, rfl⟩; exact ⟨rfl, rfl⟩))))
                go_wp2_with fail
                refine (Same_numA zz z3 p1 p4 u1 u4 p3 p6 u3 u6 HONE.out _).mono ?_
                rintro e w12 ⟨rfl, hb12⟩
                have H12 := Lib.hid ((H11.out.below (below_drewN (Below.refl _ _) _)).below hb12)
                clear x0 x1 x2 x3 x4 y0 y1 y2 y3 y4 g0 g1 g2 g3 g4 g5 s0 s1 s2 s3 s4 t0 t1 t2 t3 t4 hb12
                obtain ⟨x0, x1, x2, x3, x4⟩ := row5p (H12.out.rows _ (.tail _ (.tail _ (.tail _ (.tail _ (.tail _ (.tail _ (.tail _ (.tail _ (.tail _ (.head _)))))))))))
                obtain ⟨y0, y1, y2, y3, y4⟩ := row5p (H12.out.rows _ (.tail _ (.head _)))
                obtain ⟨z0, z1, z2, z3, z4, z5⟩ := row6p (H12.out.rows _ (.head _))
                go_wp2_with fail
                refine (heads_true _ (HN.out _ H12.out.bel)).mono ?_
                rintro e w13 ⟨rfl, hb13⟩
                go_wp2_with fail
                go_ret
                exact ⟨rfl, trkM H12.out.bel hb13⟩
              · go_quiet (first | (go_at_call 10; exact Calls.quiet_of_same ((Abs_any _ _).mono (by rintro e w' ⟨rfl, rfl⟩; exact ⟨rfl, rfl⟩))) | (go_at_call 11; first | exact Calls.quiet_of_same ((Trunc_any _ HSA.out _).mono (by rintro e w' ⟨rfl, rfl⟩; exact ⟨rfl, rfl⟩)) | exact Calls.quiet_of_same ((Trunc_any _ HSB.out _).mono (by rintro e w' ⟨rfl, rfl⟩; exact ⟨rfl, rfl⟩))))
                go_wp2_with fail
                refine (Same_numA zz z3 p1 p4 u1 u4 p3 p6 u3 u6 HONE.out _).mono ?_
                rintro e w12 ⟨rfl, hb12⟩
                have H12 := Lib.hid ((H11.out.below (below_drewN (Below.refl _ _) _)).below hb12)
                clear x0 x1 x2 x3 x4 y0 y1 y2 y3 y4 g0 g1 g2 g3 g4 g5 s0 s1 s2 s3 s4 t0 t1 t2 t3 t4 hb12
                obtain ⟨x0, x1, x2, x3, x4⟩ := row5p (H12.out.rows _ (.tail _ (.tail _ (.tail _ (.tail _ (.tail _ (.tail _ (.tail _ (.tail _ (.tail _ (.head _)))))))))))
                obtain ⟨y0, y1, y2, y3, y4⟩ := row5p (H12.out.rows _ (.tail _ (.head _)))
                obtain ⟨z0, z1, z2, z3, z4, z5⟩ := row6p (H12.out.rows _ (.head _))
                go_wp2_with fail
                refine (heads_true _ (HN.out _ H12.out.bel)).mono ?_
                rintro e w13 ⟨rfl, hb13⟩
                go_wp2_with fail
                go_ret
                exact ⟨rfl, trkM H12.out.bel hb13⟩
            · go_quiet (first | (go_at_call 10; exact Calls.quiet_of_same ((Abs_any _ _).mono (by rintro e w' ⟨rfl, rfl⟩; exact ⟨rfl, rfl⟩))) | (go_at_call 11; first | exact Calls.quiet_of_same ((Trunc_any _ HSA.out _).mono (by rintro e w' ⟨rfl, rfl⟩; exact ⟨rfl, rfl⟩)) | exact Calls.quiet_of_same ((Trunc_any _ HSB.out _).mono (by rintro e w' ⟨rfl, rfl⟩; exact ⟨rfl, rfl⟩))))
              go_wp2_with fail
              refine (Same_numA zz z3 p1 p4 u1 u4 p3 p6 u3 u6 HONE.out _).mono ?_
              rintro e w12 ⟨rfl, hb12⟩
              have H12 := Lib.hid ((H11.out.below (below_drewN (Below.refl _ _) _)).below hb12)
              clear x0 x1 x2 x3 x4 y0 y1 y2 y3 y4 g0 g1 g2 g3 g4 g5 s0 s1 s2 s3 s4 t0 t1 t2 t3 t4 hb12
              obtain ⟨x0, x1, x2, x3, x4⟩ := row5p (H12.out.rows _ (.tail _ (.tail _ (.tail _ (.tail _ (.tail _ (.tail _ (.tail _ (.tail _ (.tail _ (.head _)))))))))))
              obtain ⟨y0, y1, y2, y3, y4⟩ := row5p (H12.out.rows _ (.tail _ (.head _)))
              obtain ⟨z0, z1, z2, z3, z4, z5⟩ := row6p (H12.out.rows _ (.head _))
              go_wp2_with fail
              refine (heads_true _ (HN.out _ H12.out.bel)).mono ?_
              rintro e w13 ⟨rfl, hb13⟩
              go_wp2_with fail
              go_ret
              exact ⟨rfl, trkM H12.out.bel hb13⟩
          · go_quiet (first | (go_at_call 10; exact Calls.quiet_of_same ((Abs_any _ _).mono (by rintro e w' ⟨rfl, rfl⟩; exact ⟨rfl, rfl⟩))) | (go_at_call 11; first | exact Calls.quiet_of_same ((Trunc_any _ HSA.out _).mono (by rintro e w' ⟨rfl, rfl⟩; exact ⟨rfl, rfl⟩)) | exact Calls.quiet_of_same ((Trunc_any _ HSB.out _).mono (by rintro e w' ⟨rfl, rfl⟩; exact ⟨rfl, rfl⟩))))
            go_wp2_with fail
            refine (Same_numA zz z3 p1 p4 u1 u4 p3 p6 u3 u6 HONE.out _).mono ?_
            rintro e w12 ⟨rfl, hb12⟩
            have H12 := Lib.hid ((H11.out.below (below_drewN (Below.refl _ _) _)).below hb12)
            clear x0 x1 x2 x3 x4 y0 y1 y2 y3 y4 g0 g1 g2 g3 g4 g5 s0 s1 s2 s3 s4 t0 t1 t2 t3 t4 hb12
            obtain ⟨x0, x1, x2, x3, x4⟩ := row5p (H12.out.rows _ (.tail _ (.tail _ (.tail _ (.tail _ (.tail _ (.tail _ (.tail _ (.tail _ (.tail _ (.head _)))))))))))
            obtain ⟨y0, y1, y2, y3, y4⟩ := row5p (H12.out.rows _ (.tail _ (.head _)))
            obtain ⟨z0, z1, z2, z3, z4, z5⟩ := row6p (H12.out.rows _ (.head _))
            go_wp2_with fail
            refine (heads_true _ (HN.out _ H12.out.bel)).mono ?_
            rintro e w13 ⟨rfl, hb13⟩
            go_wp2_with fail
            go_ret
            exact ⟨rfl, trkM H12.out.bel hb13⟩
        · go_quiet (first | (go_at_call 10; exact Calls.quiet_of_same ((Abs_any _ _).mono (by rintro e w' ⟨rfl, rfl⟩; exact ⟨rfl, rfl⟩))) | (go_at_call 11; first | exact Calls.quiet_of_same ((Trunc_any _ HSA.out _).mono (by rintro e w' ⟨rfl, rfl⟩; exact ⟨rfl, rfl⟩)) | exact Calls.quiet_of_same ((Trunc_any _ HSB.out _).mono (by rintro e w' ⟨rfl, rfl⟩; exact ⟨rfl, rfl⟩))))
          go_wp2_with fail
          refine (Same_numA zz z3 p1 p4 u1 u4 p3 p6 u3 u6 HONE.out _).mono ?_
          rintro e w12 ⟨rfl, hb12⟩
          have H12 := Lib.hid ((H11.out.below (below_drewN (Below.refl _ _) _)).below hb12)
          clear x0 x1 x2 x3 x4 y0 y1 y2 y3 y4 g0 g1 g2 g3 g4 g5 s0 s1 s2 s3 s4 t0 t1 t2 t3 t4 hb12
          obtain ⟨x0, x1, x2, x3, x4⟩ := row5p (H12.out.rows _ (.tail _ (.tail _ (.tail _ (.tail _ (.tail _ (.tail _ (.tail _ (.tail _ (.tail _ (.head _)))))))))))
          obtain ⟨y0, y1, y2, y3, y4⟩ := row5p (H12.out.rows _ (.tail _ (.head _)))
          obtain ⟨z0, z1, z2, z3, z4, z5⟩ := row6p (H12.out.rows _ (.head _))
          go_wp2_with fail
          refine (heads_true _ (HN.out _ H12.out.bel)).mono ?_
          rintro e w13 ⟨rfl, hb13⟩
          go_wp2_with fail
          go_ret
          exact ⟨rfl, trkM H12.out.bel hb13⟩
      · have hvs : v.s = a.s ++ b.s := by rw [hv]; rfl
        have hsz := ATV7.out.opened.1.2.2.2.1
        rw [hvs, ByteArray.size_append] at hsz
        have sm := fun W : World => run_string_add_sum (P := Tryz.prog) W a.s b.s (by omega)
        obtain ⟨_, _, s2, _, _⟩ := row5p (H7.out.rows _ (.tail _ (.tail _ (.tail _ (.head _)))))
        rw [hvs] at s2
        have t3 : (a.k == 3) = false := by rw [k4]; rfl
        have t4 : (a.k == 4) = true := by rw [k4]; rfl
        clear hk k4 hcase hv hvs hsz
        go_wp2_with fail
        refine (heads_true _ (HN.out _ H7.out.bel)).mono ?_
        rintro e w9 ⟨rfl, hb9⟩
        go_wp2_with fail
        go_ret
        exact ⟨rfl, trkM H7.out.bel hb9⟩
      · obtain ⟨e1, -⟩ := opened_five HATA.out
        obtain ⟨e2, -⟩ := opened_five HATB.out
        obtain ⟨e3, -⟩ := opened_five ATV7.out
        have hlen : p2 = n1 + n3 := by rw [e3, hv, e1, e2]; exact List.length_append
        have hb1 : n1 ≤ 1048576 := by rw [e1]; exact HATA.out.opened.1.2.2.2.2.1
        have hb2 : n3 ≤ 1048576 := by rw [e2]; exact HATB.out.opened.1.2.2.2.2.1
        obtain ⟨_, _, _, s3, _⟩ := row5p (H7.out.rows _ (.tail _ (.tail _ (.tail _ (.head _)))))
        rw [hlen] at s3
        have t3 : (a.k == 3) = false := by rw [k5]; rfl
        have t4 : (a.k == 4) = false := by rw [k5]; rfl
        have t5 : (a.k == 5) = true := by rw [k5]; rfl
        clear hk k5 hcase hv hlen e1 e2 e3
        go_wp2_with fail
        refine (heads_true _ (HN.out _ H7.out.bel)).mono ?_
        rintro e w9 ⟨rfl, hb9⟩
        go_wp2_with fail
        go_ret
        exact ⟨rfl, trkM H7.out.bel hb9⟩
      · obtain ⟨hna, hla, -, -, -⟩ := rightM_obj HG.out.1 k6
        obtain ⟨hnb, hlb, -, -, hcb⟩ := rightM_obj HG.out.2 (hk ▸ k6)
        have hsum := fun j (hj : j < b.ks.length) (hj2 : j < b.l.length) => hv ▸ ov_get hna hnb hla hlb j hj hj2
        have hlv : v.ks.length ≤ v.l.length := by rw [hv]; exact Nat.le_of_eq (ov_len hna hnb hla hlb)
        have hgm := fun (W : World) (lv kv : Value) (key : ByteArray) (h : At W W.heap.size (m + 2) v lv kv) (hk : key.size ≤ 1000000000) (hc : cleanS key = key) => GetV_any v (m + 1) lv kv key hk W h hlv hc
        simp only [cellsV] at hgm
        obtain ⟨rfl, qb, oqb, habB, hfb⟩ := opened_five HATB.out
        obtain ⟨rfl, adb, hAb, hkb⟩ := opened_keys HATB.out
        have hbl := HATB.out.opened.1.2.2.2.2.1
        have hbl2 := HATB.out.opened.1.2.2.2.2.2.1
        have RB := Lib.hid (H7.out.rows _ (.tail _ (.tail _ (.tail _ (.tail _ (.head _))))))
        have RS := Lib.hid (H7.out.rows _ (.tail _ (.tail _ (.tail _ (.head _)))))
        have hB7 := H7.out.bel
        have hl1 : w.heap.size + 1 < w7.heap.size := H7.out.lt _ (.tail _ (.tail _ (.tail _ (.tail _ (.head _)))))
        have hl2 : w3.heap.size < w7.heap.size := H7.out.lt _ (.tail _ (.tail _ (.tail _ (.head _))))
        have HB7 := Lib.hid hB7
        have HSUM := Lib.hid hsum
        have HGM := Lib.hid hgm
        have HABB := Lib.hid habB
        have HFB := Lib.hid hfb
        have HAB := Lib.hid hAb
        have HKB := Lib.hid hkb
        have HLB := Lib.hid hlb
        have HCB := Lib.hid hcb
        have t3 : (a.k == 3) = false := by rw [k6]; rfl
        have t4 : (a.k == 4) = false := by rw [k6]; rfl
        have t5 : (a.k == 5) = false := by rw [k6]; rfl
        have t6 : (a.k == 6) = true := by rw [k6]; rfl
        clear hk k6 hcase hv hna hla hnb hlb hcb hsum hlv hgm habB hfb hAb hkb hB7 HO1 HO3 HO0 HATA HA HG HBULK
        go_wp2_with fail
        clear x0 x1 x2 x3 x4 y0 y1 y2 y3 y4 z0 z1 z2 z3 z4 z5 t3 t4 t5 t6 hkn H7
        generalize w3.heap.size = PM at RS hl2 ⊢
        go_loopw [14] (fun k W => ∃ j : Nat, j ≤ b.ks.length ∧ k = .int .i64 j ∧ Below w7.heap.size w7 W) (fun k _ => b.ks.length - (intOf k).toNat)
        case atStart => exact ⟨0, Nat.zero_le _, rfl, Below.refl _ _⟩
        case round =>
          obtain ⟨j, hj, rfl, hbel⟩ := hrel
          have HBW := Lib.hid (HB7.out.trans (hbel.mono HB7.out.size))
          have rB := (hbel.block _ (by omega)).trans RB.out
          have rS := (hbel.block _ (by omega)).trans RS.out
          have hszr := hbel.size
          have ATW := Lib.hid (fun W (hW : Below wr.heap.size wr W) => ((ATV7.out.below (hbel.trans (hW.mono hbel.size))).more (Nat.le_trans hbel.size hW.size)))
          have HBEL := Lib.hid hbel
          have HRB := Lib.hid rB
          have HRS := Lib.hid rS
          obtain ⟨y0, y1, y2, y3, y4⟩ := row5p rB
          clear hbel rB rS
          by_cases hlt : j < b.ks.length
          · have hjl : j < b.l.length := by have := HLB.out; omega
            have hmb := HSUM.out j hlt hjl
            obtain ⟨rfl, hadb⟩ := HAB.out (by omega)
            obtain ⟨hc, hsz⟩ := HKB.out j hlt
            have hcl := HCB.out _ (List.getElem_mem hlt)
            have hgm := fun W (hW : Below wr.heap.size wr W) => HGM.out W _ _ b.ks[j] (ATW.out W hW) (by omega) hcl
            rw [decide_eq_true hmb.1] at hgm
            simp only [hmb.2] at hgm
            have HGM1 := Lib.hid hgm
            have HC := Lib.hid hc
            clear hmb hgm hcl hc
            go_wp2_with fail
            refine wp_mono (sum_region23 wr PM (w.heap.size + 1) v.k v.f v.s p1 p4 p2 p3 p5 p6 _ _ _ _ adb b.ks.length c4 j b.ks[j] b.l[j] true (m + 2) HRS.out HRB.out hlt hbl2 (by have := HBW.out.size; omega) ((HBW.out.cell (p := adb.add j) (by rw [add_block]; exact hadb)).trans HC.out) (fun W' hW' => HGM1.out W' hW') _ _ _ _ _ _ _ _ _ _ _ _ _ _ _ _ _ _ _ _ _ _ _ _ _ _ _ _ _ _ _ _ _ _ _ _ _ _ _ _ _ _ _ _ _ _ _ _ _ _ _ _ _ _ _ _ _ _ _ _ _ _ _ _ _ _ _ _ _ _ _ _ _ _ _ _ _ _ _ _ _ _ _ _ _ _ _ _ _ _ _ _ _ _ _ _ _ _ _ _ _ _ _ _ _ _ _ _ _ _ _ _ _ _ _ _ _ _ _ _ _ _ _ _ _ _ _ _ _ _ _ _ _ _ _ _ _ _ _ _ _ _ _ _ _ _ _ _ _ _ _ _ _ _ _ _ _ _ _ _ _ _ _ _ _ _ _ _ _ _ _ _ _ _ _ _ _ _ _ _ _ _ _) ?_
            intro e ac W5 hreg
            cases e
            case normal =>
              obtain ⟨_, _, _, _, _, _, _, _, _, _, Q8, s1, s2, s3, s4, s5, s6, rfl, hrow8, hat8, hb5⟩ := hreg
              have HBW5 := Lib.hid (HBW.out.trans (hb5.mono HBW.out.size))
              have hz5 := hb5.size
              have HEND := Lib.hid (HBEL.out.trans (hb5.mono hszr))
              have rB5 := (hb5.block _ (by omega)).trans HRB.out
              have A8 := Lib.hid hat8
              obtain ⟨rfl, hqB⟩ := HABB.out (by omega)
              obtain ⟨e1, e2, e3, e4, e5, e6, h5, hatb⟩ := HFB.out j hjl
              obtain ⟨f0, f1, f2, f3, f4⟩ := h5.keep hqB (fun p hp => HBW5.out.cell hp)
              have AB : Hid (At W5 W5.heap.size (m + 2) b.l[j] (.slice e1 e2 e3) (.slice e4 e5 e6)) := Lib.hid (atP_levM _ (m + 2) _ _ _ (Nat.le_succ _) ((hatb.below HBW5.out).more HBW5.out.size))
              have hsame := fun W (hW : Below W5.heap.size W5 W) => HSM.out W _ _ _ _ _ ((A8.out.below hW).more hW.size) ((AB.out.below hW).more hW.size)
              have HSAME := Lib.hid hsame
              obtain ⟨x0, x1, x2, x3, x4⟩ := row5p hrow8
              clear y0 y1 y2 y3 y4
              obtain ⟨_, _, _, y3, y4⟩ := row5p rB5
              clear hrow8 hat8 rB5 h5 hatb hb5 hsame
              go_wp2_with fail
              go_still_tail 9, (by kernel_rfl)
              change wpList _ _ _ _ _ W5.drew
              go_wp2_with fail
              refine (HSAME.out _ (Below.refl _ _).drew).mono ?_
              rintro e w8 ⟨rfl, hb8⟩
              go_wp2_with fail
              go_roundw
              case rel => exact ⟨j + 1, by omega, by go_num, HEND.out.trans (((Below.refl W5.heap.size W5).drew.trans hb8).mono HEND.out.size)⟩
              case measure => simp [intOf]; omega
            all_goals exact False.elim hreg
          · go_wp2_with fail
            refine (heads_true _ (HN.out _ HBW.out)).mono ?_
            rintro e w9 ⟨rfl, hb9⟩
            go_wp2_with fail
            go_ret
            exact ⟨rfl, trkM HBW.out hb9⟩
    · have hkn : (a.k != b.k) = true := by simpa using hk
      clear hk hcase
      go_wp2_with fail
      refine (heads_true _ (HN.out _ H7.out.bel)).mono ?_
      rintro e w9 ⟨rfl, hb9⟩
      go_wp2_with fail
      go_ret
      exact ⟨rfl, trkM H7.out.bel hb9⟩
  · clear hO
    go_wp2_with fail
    refine (heads_true _ (HN.out _ H7.out.bel)).mono ?_
    rintro e w9 ⟨rfl, hb9⟩
    go_wp2_with fail
    go_ret
    exact ⟨rfl, trkM H7.out.bel hb9⟩
end Go.Proofs.YtdlighmnlcklnaaGreatDoor
namespace Go.Proofs.YtdlighmnlcklnaaGreatDoor
open Go Go.RowKit

theorem bulk_lev {w : World} {B : Nat} {m : Nat} {v : V} {lv kv : Value} (h : At w B m v lv kv) : ∀ n, bulkV (m + n) v = bulkV m v
  | 0 => rfl
  | n + 1 => (bulk_up (m + n) v lv kv (atP_levM m (m + n) _ _ _ (by omega) h)).trans (bulk_lev h n)
theorem valueSums_true (a : V) (m : Nat) (la ka : Value) (b : V) (m2 : Nat) (lb kb : Value) (w : World) (hN : NumW w) (ha : At w w.heap.size m a la ka) (hb : At w w.heap.size m2 b lb kb) (hbulk : bulkV m a + bulkV m2 b ≤ 1048576) :
    Calls Tryz.prog 4 #[.agg (cellsV a la ka), .agg (cellsV b lb kb)] w fun e w' => e = .returned (.bool true) ∧ Below w.heap.size w w' := by
  have h1 := bulk_lev ha (m2 + 2)
  have h2 := bulk_lev hb (m + 2)
  have ha' : At w w.heap.size (m + m2 + 2) a la ka := atP_levM m _ _ _ _ (by omega) ha
  have hb' : At w w.heap.size (m + m2 + 2) b lb kb := atP_levM m2 _ _ _ _ (by omega) hb
  have e1 : m + (m2 + 2) = m + m2 + 2 := by omega
  have e2 : m2 + (m + 2) = m + m2 + 2 := by omega
  rw [e1] at h1
  rw [e2] at h2
  obtain ⟨a1, n1, c1, a2, n2, c2, rfl, rfl⟩ := ha.slices
  obtain ⟨a3, n3, c3, a4, n4, c4, rfl, rfl⟩ := hb.slices
  by_cases hg : rightV 10000 a = true ∧ rightV 10000 b = true
  · exact sums_good a (m + m2) a1 n1 c1 a2 n2 c2 b a3 n3 c3 a4 n4 c4 w hN ha' hb' hg.1 hg.2 (by omega)
  · exact sums_bad a (m + m2 + 2) a1 n1 c1 a2 n2 c2 b a3 n3 c3 a4 n4 c4 w hN ha' hb' hg
end Go.Proofs.YtdlighmnlcklnaaGreatDoor
namespace Go.Proofs.YtdlighmnlcklnaaGreatDoor.valueSumsCard
open Go Go.Shelf Go.ChangeShapes Go.WideShapes Go.ChangeAt Go.RowKit Go.Lib

theorem own : ownKnob Tryz.prog.godebug = none := by kernel_rfl
theorem witness_lay {H : Type} {enc : TypeId × Value → H} {C : Checked} {os : Os} {f : FuncId} {fn : Func} {s : OpenSpec} {conds : List PathCond} {apart : Bool} {laid : List (String × DataW Unit)} (modest : Bool) (w0 : World) (args : Array Value) (hos : w0.os = os)
    (hsh : (w0.forCall (fun _ _ => 0) ⟨#[], args, []⟩).Shaped C.prog)
    (hok : Input.okWideB C.prog (w0.forCall (fun _ _ => 0) ⟨#[], args, []⟩) f ⟨#[], args, []⟩ = true)
    (hrow : s.preRow enc C.prog fn conds apart laid (w0.forCall (fun _ _ => 0) ⟨#[], args, []⟩).memory args) :
    ∃ (w : World) (tape : Tape) (i : Input), w.os = os ∧ (w.forCall tape i).Shaped C.prog ∧ i.vars = [] ∧ Input.okWide C.prog (w.forCall tape i) .any w.heap.size f i ∧
      s.preRow enc C.prog fn conds apart laid (w.forCall tape i).memory i.args ∧ ({ modest := modest } : Assume).holds C.prog (lone (Frame.enter C.prog f i.args .normal) [] (w.forCall tape i)) :=
  ⟨w0, fun _ _ => 0, ⟨#[], args, []⟩, hos, hsh, (Input.okWide_of_okWideB (base := 0) hok).1, (Input.okWide_of_okWideB hok).2, hrow, by
    simp only [Assume.holds]
    exact ⟨by simp, by simp, fun _ => Modest.zero, by simp, by simp⟩⟩
/-- A WORLD FOR THE WITNESS. -/
noncomputable def laidWorld (os : Os) : World := World.laidAll Tryz.prog os Rows.valueSumsUptoRow.laid
theorem laid_met (os : Os) (args : Array Value) : laidMet Tryz.prog Rows.valueSumsUptoRow.laid ((laidWorld os).forCall (fun _ _ => 0) ⟨#[], args, []⟩).memory :=
  laidMet_laidAll _ (by kernel_rfl) (by kernel_rfl)
theorem shaped (os : Os) (args : Array Value) : ((laidWorld os).forCall (fun _ _ => 0) ⟨#[], args, []⟩).Shaped Tryz.prog := World.shaped_of_ZipB (by kernel_rfl) (by kernel_rfl)
theorem reads (os : Os) {H : Type} (enc : TypeId × Value → H) : ∃ places, DataW.whole enc Tryz.prog ((laidWorld os).forCall (fun _ _ => 0) ⟨#[], #[.agg #[.int .i64 0, .float .f64 0, .string ⟨#[]⟩, .slice none 0 0, .slice none 0 0], .agg #[.int .i64 0, .float .f64 0, .string ⟨#[]⟩, .slice none 0 0, .slice none 0 0]], []⟩).memory Tryz.f4.params.toList Rows.valueSumsSpec.vars false (#[.agg #[.int .i64 0, .float .f64 0, .string ⟨#[]⟩, .slice none 0 0, .slice none 0 0], .agg #[.int .i64 0, .float .f64 0, .string ⟨#[]⟩, .slice none 0 0, .slice none 0 0]] : Array Value).toList 8 = some ([.agg [.lit (.int .i64 0), .lit (.float .f64 0), .lit (.string []), .nil, .nil], .agg [.lit (.int .i64 0), .lit (.float .f64 0), .lit (.string []), .nil, .nil]], [], places) :=
  ⟨[], by kernel_rfl⟩

set_option maxRecDepth 100000 in
theorem lifted (os : Os) (started : os.Started) (H : Type) (enc : TypeId × Value → H) (F : Stop.Interp) :
    ReturnsInHanded {} Tryz.checked os 4 .any ((Rows.OpenSpec.upto Rows.valueSumsSpec).preRow enc Tryz.prog Tryz.f4 Rows.valueSumsUptoRow.domain false Rows.valueSumsUptoRow.laid) (((Rows.OpenSpec.upto Rows.valueSumsSpec).at F).post enc Tryz.prog Tryz.f4 false true false false) := by
  obtain ⟨places, hx⟩ := reads os enc
  refine returnsInHanded_of_row (C := Tryz.checked) (s := Rows.OpenSpec.upto Rows.valueSumsSpec) own started (by kernel_rfl) Tryz.func4
    (witness_lay (enc := enc) (C := Tryz.checked) false (laidWorld os) #[.agg #[.int .i64 0, .float .f64 0, .string ⟨#[]⟩, .slice none 0 0, .slice none 0 0], .agg #[.int .i64 0, .float .f64 0, .string ⟨#[]⟩, .slice none 0 0, .slice none 0 0]] (World.laidAll_os _ _ _) (shaped os _) (by kernel_rfl)
      (OpenSpec.preRow_of_cond 8 hx (by kernel_rfl) (fun k hk => by cases hk; kernel_rfl) (by kernel_rfl) (laid_met os _))) ?_
  intro W base args ds gs before hval0 hW hx1 hx2 hx3 hL hx4 hx5
  have hval : ∀ (j : Nat) t v, Tryz.f4.params[j]? = some t → args[j]? = some v → Value.okWide Tryz.prog W .any base t v := hval0
  have hW' := hW
  obtain ⟨p, q, hA0, hV0, rfl, _, _⟩ := hW
  have hA : DataW.TrodAll enc Tryz.prog W 0 (fun _ => true) true Tryz.f4.params.toList args.toList ds p := hA0
  rw [Tryz.params4] at hA hval
  obtain ⟨v0, vs0, d0, ds0, p0, q0, hargs, rfl, rfl, h0, r0⟩ := trodAll_cons hA
  obtain ⟨v1, vs1, d1, ds1, p1, q1, rfl, rfl, rfl, h1, r1⟩ := trodAll_cons r0
  obtain ⟨rfl, rfl, rfl⟩ := trodAll_nil r1
  obtain rfl : args = #[v0, v1] := by cases args; simp_all
  obtain ⟨rfl, rfl⟩ := trodVars_none hV0
  have hb := of_decide_eq_true (hx2 _ rfl)
  simp only [List.append_nil, Rows.uptoBulkAll] at hb
  obtain ⟨x0, lv0, kv0, m0, rfl, hat0, bu0, back0⟩ := open_argB (hval 0 27 v0 rfl rfl) h0 (by omega)
  obtain ⟨x1, lv1, kv1, m1, rfl, hat1, bu1, back1⟩ := open_argB (hval 1 27 v1 rfl rfl) h1 (by omega)
  clear hA0 hV0 hval0
  refine (valueSums_true x0 m0 lv0 kv0 x1 m1 lv1 kv1 W (num_of_laid hL (by simp [Rows.valueSumsUptoRow]) (by simp [Rows.valueSumsUptoRow]) hx4) hat0 hat1 (by omega)).mono ?_
  rintro e W' ⟨rfl, bel⟩
  refine ⟨_, rfl, _, _, _, [], (p0 ++ (p1 ++ [])), [], hW', ?_, ?_, ?_, bel.frame _, fun h => by cases h⟩
  · exact trodAll_mk1 (shut_bool Tryz.underlying4 _)
  · exact trodAll_cons_mk (back0 _ bel) (trodAll_cons_mk (back1 _ bel) (trodAll_mk0))
  · rfl
end Go.Proofs.YtdlighmnlcklnaaGreatDoor.valueSumsCard
