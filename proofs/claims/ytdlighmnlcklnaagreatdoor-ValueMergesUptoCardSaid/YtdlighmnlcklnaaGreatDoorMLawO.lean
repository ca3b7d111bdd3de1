/- Operate of two objects that are multiplied; ValueMerges where it asks nothing. -/
import Derived.Test.YtdlighmnlcklnaaGreatDoorMLawP
import Derived.Test.YtdlighmnlcklnaaGreatDoorUHeadsL
import Derived.Test.YtdlighmnlcklnaaGreatDoorUSame
namespace Go.Proofs.YtdlighmnlcklnaaGreatDoor
open Go Go.RowKit

theorem Operate_prod (a b : V) (m B0 : Nat) (la ka lb kb : Value) (w : World) (hB0 : B0 ≤ w.heap.size) (ha : At w B0 (m + 1) a la ka) (hb : At w B0 (m + 1) b lb kb) (oa : okO (m + 1) a) (ob : okO (m + 1) b) (h6a : a.k = 6) (h6b : b.k = 6) (hS : Smalls (m + 1) (prodV (m + 1) a b)) :
    Calls Tryz.prog 7 #[.string ⟨#[42]⟩, .agg (cellsV a la ka), .agg (cellsV b lb kb)] w fun e w' => OutP 0 w.heap.size (m + 1) (if largeV (m + 1) (prodV (m + 1) a b) then none else some (prodV (m + 1) a b)) largeT e w' ∧ Below w.heap.size w w' := by
  have hp := fun W (hW : Below w.heap.size w W) => product_any (m + 1) a b la ka lb kb B0 W (Nat.le_trans hB0 hW.size) (At.keep (fun p hp => hW.cell (by omega)) _ _ _ _ ha) (At.keep (fun p hp => hW.cell (by omega)) _ _ _ _ hb) oa ob h6a h6b hS
  obtain ⟨a1, n1, c1, a2, n2, c2, rfl, rfl⟩ := ha.slices
  obtain ⟨a3, n3, c3, a4, n4, c4, rfl, rfl⟩ := hb.slices
  unfold cellsV at hp ⊢
  rw [h6a, h6b] at hp ⊢
  obtain ⟨M, hM⟩ : ∃ M, prodV (m + 1) a b = M := ⟨_, rfl⟩
  simp only [hM] at hp ⊢
  refine Operate_any ⟨#[42]⟩ 6 6 a.f b.f a.s b.s a1 a2 a3 a4 n1 n2 n3 n4 c1 c2 c3 c4 m B0 _ largeT w hB0 (fun W hW => ?_)
  refine operate_times 6 6 a.f b.f a.s b.s a1 a2 a3 a4 n1 n2 n3 n4 c1 c2 c3 c4 m B0 _ largeT W (Nat.le_trans hB0 hW.size) (fun W2 hW2 => ?_)
  refine multiply_obj a.f b.f a.s b.s a1 a2 a3 a4 n1 n2 n3 n4 c1 c2 c3 c4 m B0 M W2 (Nat.le_trans (Nat.le_trans hB0 hW.size) hW2.size) (fun W3 hW3 => ?_)
  exact hp W3 ((hW.trans (hW2.mono hW.size)).trans (hW3.mono (Nat.le_trans hW.size hW2.size)))
theorem trkM {a W W' : World} (h : Below a.heap.size a W) (hb : Below W.heap.size W W') : Below a.heap.size a W' := h.trans (hb.mono h.size)
set_option maxRecDepth 100000 in
set_option maxHeartbeats 8000000 in
theorem merges_bad (a : V) (m : Nat) (a1 : Option Addr) (n1 c1 : Nat) (a2 : Option Addr) (n2 c2 : Nat) (b : V) (a3 : Option Addr) (n3 c3 : Nat) (a4 : Option Addr) (n4 c4 : Nat) (w : World) (hN : NumW w)
    (ha : At w w.heap.size m a (.slice a1 n1 c1) (.slice a2 n2 c2)) (hb : At w w.heap.size m b (.slice a3 n3 c3) (.slice a4 n4 c4)) (hbad : ¬ (rightV 10000 a = true ∧ rightV 10000 b = true ∧ a.k = 6 ∧ b.k = 6)) :
    Calls Tryz.prog 3 #[.agg (cellsV a (.slice a1 n1 c1) (.slice a2 n2 c2)), .agg (cellsV b (.slice a3 n3 c3) (.slice a4 n4 c4))] w fun e w' => e = .returned (.bool true) ∧ Below w.heap.size w w' := by
  have hsf := run_store_float Tryz.prog
  have HN := Lib.hid (fun W (hW : Below w.heap.size w W) => hN.below hW)
  have hrv := fun W (hW : Below w.heap.size w W) => refRightT_any m a _ _ W ((ha.below hW).more hW.size)
  have hrx := fun W (hW : Below w.heap.size w W) => refRightT_any m b _ _ W ((hb.below hW).more hW.size)
  obtain ⟨r1, h1⟩ : ∃ b, rightV 10000 a = b := ⟨_, rfl⟩
  obtain ⟨r2, h2⟩ : ∃ c, rightV 10000 b = c := ⟨_, rfl⟩
  simp only [h1] at hrv
  simp only [h2] at hrx
  rw [h1, h2] at hbad
  unfold cellsV at hrv hrx ⊢
  have HRV := Lib.hid hrv
  have HRX := Lib.hid hrx
  have HBAD := Lib.hid hbad
  have HS := Lib.hid (HW.start w)
  clear hrv hrx hbad h1 h2 hN ha hb
  go_enter Tryz.func3, Tryz.ntmps3
  go_wp2_with fail
  have H := Lib.hid (HS.out.two #[.int .i64 a.k, .float .f64 a.f, .string a.s, .slice a1 n1 c1, .slice a2 n2 c2] #[.int .i64 b.k, .float .f64 b.f, .string b.s, .slice a3 n3 c3, .slice a4 n4 c4] 27 27)
  clear HS
  refine (HRV.out _ H.out.bel).mono ?_
  rintro e w1 ⟨rfl, hb⟩
  have H1 := Lib.hid (H.out.below hb)
  obtain ⟨x0, x1, x2, x3, x4⟩ := row5p (H1.out.rows _ (.tail _ (.head _)))
  obtain ⟨y0, y1, y2, y3, y4⟩ := row5p (H1.out.rows _ (.head _))
  clear hb H
  cases r1
  · go_wp2_with fail
    refine (heads_true _ (HN.out _ H1.out.bel)).mono ?_
    rintro e w9 ⟨rfl, hb⟩
    go_wp2_with fail
    go_ret
    exact ⟨rfl, trkM H1.out.bel hb⟩
  go_wp2_with fail
  refine (HRX.out _ H1.out.bel).mono ?_
  rintro e w2 ⟨rfl, hb⟩
  have H2 := Lib.hid (H1.out.below hb)
  clear hb x0 x1 x2 x3 x4 y0 y1 y2 y3 y4 H1
  obtain ⟨x0, x1, x2, x3, x4⟩ := row5p (H2.out.rows _ (.tail _ (.head _)))
  obtain ⟨y0, y1, y2, y3, y4⟩ := row5p (H2.out.rows _ (.head _))
  cases r2
  · go_wp2_with fail
    refine (heads_true _ (HN.out _ H2.out.bel)).mono ?_
    rintro e w9 ⟨rfl, hb⟩
    go_wp2_with fail
    go_ret
    exact ⟨rfl, trkM H2.out.bel hb⟩
  by_cases hk : a.k = 6
  · have hk1 : (a.k != 6) = false := by simpa using hk
    have hk2 : (b.k != 6) = true := by
      have : b.k ≠ 6 := fun e => HBAD.out (by simp [hk, e])
      simpa using this
    clear hk
    go_wp2_with fail
    refine (heads_true _ (HN.out _ H2.out.bel)).mono ?_
    rintro e w9 ⟨rfl, hb⟩
    go_wp2_with fail
    go_ret
    exact ⟨rfl, trkM H2.out.bel hb⟩
  · have hk1 : (a.k != 6) = true := by simpa using hk
    clear hk
    go_wp2_with fail
    refine (heads_true _ (HN.out _ H2.out.bel)).mono ?_
    rintro e w9 ⟨rfl, hb⟩
    go_wp2_with fail
    go_ret
    exact ⟨rfl, trkM H2.out.bel hb⟩
end Go.Proofs.YtdlighmnlcklnaaGreatDoor
