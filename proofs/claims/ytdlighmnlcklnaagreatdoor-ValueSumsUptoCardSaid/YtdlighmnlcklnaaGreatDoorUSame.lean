/- Same: two memories of one value are the same. -/
import Derived.Test.YtdlighmnlcklnaaGreatDoorURightR
import Derived.Test.YtdlighmnlcklnaaGreatDoorUKeys
import Derived.Test.YtdlighmnlcklnaaGreatDoorUCopy
import Derived.Test.YtdlighmnlcklnaaGreatDoorUBase
import Derived.Test.YtdlighmnlcklnaaGreatDoorUClone
namespace Go.Proofs.YtdlighmnlcklnaaGreatDoor
open Go Go.RowKit

set_option maxHeartbeats 400000 in
theorem refSameF_any (f : Nat) (w : World) : Calls Tryz.prog 30 #[.float .f64 f, .float .f64 f] w fun e w' => e = .returned (.bool true) ∧ w = w' := by
  have hbt := bits_of
  go_enter Tryz.func30, Tryz.ntmps30
  go_wp2_with fail
  go_ret
  exact ⟨rfl, rfl⟩
set_option maxRecDepth 100000 in
set_option maxHeartbeats 2000000 in
/-- Rows of the same values: Same is called for each pair. -/
theorem refLists_same (l : List V) (hl : l.length ≤ 1048576) (ps qs : List (Value × Value)) (hp : ps.length = l.length) (hq : qs.length = l.length) (a b : Option Addr) (ca cb : Nat) (ba oa bb ob : Nat) (w : World)
    (ha : 0 < l.length → a = some ⟨ba, oa, none⟩ ∧ ba < w.heap.size) (hb : 0 < l.length → b = some ⟨bb, ob, none⟩ ∧ bb < w.heap.size)
    (h1 : ∀ i (h : i < l.length), FiveAt w ba (oa + i * 5) l[i] (ps[i]'(by omega)).1 (ps[i]'(by omega)).2) (h2 : ∀ i (h : i < l.length), FiveAt w bb (ob + i * 5) l[i] (qs[i]'(by omega)).1 (qs[i]'(by omega)).2)
    (hcall : ∀ i (h : i < l.length) (W : World), Below w.heap.size w W → Calls Tryz.prog 9 #[.agg (cellsV l[i] (ps[i]'(by omega)).1 (ps[i]'(by omega)).2), .agg (cellsV l[i] (qs[i]'(by omega)).1 (qs[i]'(by omega)).2)] W fun e w' => e = .returned (.bool true) ∧ Below W.heap.size W w') :
    Calls Tryz.prog 31 #[.slice a l.length ca, .slice b l.length cb] w fun e w' => e = .returned (.bool true) ∧ Below w.heap.size w w' := by
  have HA := Lib.hid ha
  have HB := Lib.hid hb
  have H1 := Lib.hid h1
  have H2 := Lib.hid h2
  have HC := Lib.hid hcall
  clear ha hb h1 h2 hcall
  go_enter Tryz.func31, Tryz.ntmps31
  go_wp2_with fail
  go_loopw [5] (fun i W => ∃ j : Nat, j ≤ l.length ∧ i = .int .i64 j ∧ Below w.heap.size w W) (fun i _ => l.length - (intOf i).toNat)
  case atStart => exact ⟨0, Nat.zero_le _, rfl, Below.refl _ _⟩
  case round =>
    obtain ⟨j, hj, rfl, hbel⟩ := hrel
    have HBEL := Lib.hid hbel
    by_cases hlt : j < l.length
    · obtain ⟨rfl, hB1⟩ := HA.out (by omega)
      obtain ⟨rfl, hB2⟩ := HB.out (by omega)
      obtain ⟨f0, f1, f2, f3, f4⟩ := (H1.out j hlt).keep hB1 (fun p hp => hbel.cell hp)
      obtain ⟨g0, g1, g2, g3, g4⟩ := (H2.out j hlt).keep hB2 (fun p hp => hbel.cell hp)
      have hc := fun W (hW : Below w.heap.size w W) => HC.out j hlt W hW
      unfold cellsV at hc
      have HCJ := Lib.hid hc
      clear hc hbel
      have BD := Lib.hid HBEL.out.drew
      go_wp2_with fail
      go_region_with (go_at_call 9; (with_reducible refine (HCJ.out _ BD.out).mono ?_); rintro e w2 ⟨rfl, hb2⟩; have B2 := Lib.hid (BD.out.trans (hb2.mono BD.out.size)); clear hb2)
      all_goals
        go_wp2_with fail
        go_roundw
        case rel => exact ⟨j + 1, by omega, by go_num, B2.out⟩
        case measure => simp [intOf]; omega
    · have hj : j = l.length := by omega
      subst hj
      clear hbel
      go_wp2_with fail
      go_ret
      exact ⟨rfl, HBEL.out⟩
theorem two_newS (w : World) (o1 o2 : Obj) : ((w.alloc o1).alloc o2).heap[w.heap.size]? = some o1 ∧ ((w.alloc o1).alloc o2).heap[w.heap.size + 1]? = some o2 := by
  refine ⟨row_alloc3 (heap_alloc_new w o1) o2, ?_⟩
  have := heap_alloc_new (w.alloc o1) o2
  rw [World.size_alloc] at this
  exact this
set_option maxRecDepth 100000 in
set_option maxHeartbeats 4000000 in
theorem Same_refl (m : Nat) : ∀ (v : V) (lv kv lx kx : Value) (w : World), At w w.heap.size m v lv kv → At w w.heap.size m v lx kx →
    Calls Tryz.prog 9 #[.agg (cellsV v lv kv), .agg (cellsV v lx kx)] w fun e w' => e = .returned (.bool true) ∧ Below w.heap.size w w' := by
  induction m with
  | zero => intro v lv kv lx kx w h; exact h.elim
  | succ m ih =>
    intro v lv kv lx kx w h hx
    obtain ⟨hsm, ha, _, a, c, B, o, rfl, hab, hi⟩ := h.opened
    obtain ⟨_, ha', _, a', c', B', o', rfl, hab', hi'⟩ := hx.opened
    obtain ⟨ps, hp, hpp⟩ := pairs_of (P := fun i a b => ∃ h : i < v.l.length, FiveAt w B (o + i * 5) v.l[i] a b ∧ At w w.heap.size m v.l[i] a b) (fun i h => by obtain ⟨a, b, q⟩ := hi i h; exact ⟨a, b, h, q⟩)
    obtain ⟨qs, hq, hqq⟩ := pairs_of (P := fun i a b => ∃ h : i < v.l.length, FiveAt w B' (o' + i * 5) v.l[i] a b ∧ At w w.heap.size m v.l[i] a b) (fun i h => by obtain ⟨a, b, q⟩ := hi' i h; exact ⟨a, b, h, q⟩)
    have hls := hsm.2.2.2.2.1
    have hks := hsm.2.2.2.2.2.1
    have htx := fun W (hW : Below w.heap.size w W) => refTexts_any v.ks v.ks w.heap.size w.heap.size kv kx (by omega) W (ha.1.below hW) (ha'.1.below hW)
    have hli := fun W (hW : Below w.heap.size w W) => refLists_same v.l hls ps qs (by omega) (by omega) a a' c c' B o B' o' W (fun h => ⟨(hab h).1, Nat.lt_of_lt_of_le (hab h).2 hW.size⟩) (fun h => ⟨(hab' h).1, Nat.lt_of_lt_of_le (hab' h).2 hW.size⟩)
      (fun i h => (hpp i (by omega)).2.1.keep (hab (by omega)).2 (fun p hp => hW.cell hp)) (fun i h => (hqq i (by omega)).2.1.keep (hab' (by omega)).2 (fun p hp => hW.cell hp))
      (fun i h U hU => ih _ _ _ _ _ U (At.more (hW.trans (hU.mono hW.size)).size _ _ _ _ ((hpp i (by omega)).2.2.below (hW.trans (hU.mono hW.size)))) (At.more (hW.trans (hU.mono hW.size)).size _ _ _ _ ((hqq i (by omega)).2.2.below (hW.trans (hU.mono hW.size)))))
    rw [decide_eq_true (rfl : v.ks = v.ks)] at htx
    obtain ⟨A, ad, ck, rfl, _, _⟩ := ha.1.dest
    obtain ⟨A', ad', ck', rfl, _, _⟩ := ha'.1.dest
    rw [List.length_map] at *
    have HTX := Lib.hid htx
    have HLI := Lib.hid hli
    have hsf := run_store_float Tryz.prog
    unfold cellsV
    clear htx hli hpp hqq hi hi' hab hab' ha ha' h hx ih hsm
    go_enter Tryz.func9, Tryz.ntmps9
    go_wp2_with fail
    obtain ⟨q1, q2⟩ := two_newS w (.cells #[.int .i64 v.k, .float .f64 v.f, .string v.s, .slice a v.l.length c, .slice A v.ks.length ck] 27) (.cells #[.int .i64 v.k, .float .f64 v.f, .string v.s, .slice a' v.l.length c', .slice A' v.ks.length ck'] 27)
    have hb0 := ((Below.refl w.heap.size w).alloc (Nat.le_refl _) (.cells #[.int .i64 v.k, .float .f64 v.f, .string v.s, .slice a v.l.length c, .slice A v.ks.length ck] 27)).alloc (by simp) (.cells #[.int .i64 v.k, .float .f64 v.f, .string v.s, .slice a' v.l.length c', .slice A' v.ks.length ck'] 27)
    generalize ((w.alloc (.cells #[.int .i64 v.k, .float .f64 v.f, .string v.s, .slice a v.l.length c, .slice A v.ks.length ck] 27)).alloc (.cells #[.int .i64 v.k, .float .f64 v.f, .string v.s, .slice a' v.l.length c', .slice A' v.ks.length ck'] 27)) = W0 at q1 q2 hb0 ⊢
    refine (HTX.out _ hb0).mono ?_
    rintro e w2 ⟨rfl, n, hw⟩
    have hb2 : Below W0.heap.size W0 w2 := hw ▸ below_drewN (Below.refl _ _) n
    have p1 := (hb2.block _ (Array.getElem?_eq_some_iff.1 q1).1).trans q1
    have p2 := (hb2.block _ (Array.getElem?_eq_some_iff.1 q2).1).trans q2
    have B2 := Lib.hid (hb0.trans (hb2.mono hb0.size))
    clear hw hb2 hb0 q1 q2
    obtain ⟨x0, x1, x2, x3, x4, _⟩ := row5 p1
    obtain ⟨y0, y1, y2, y3, y4, _⟩ := row5 p2
    have P1 := Lib.hid p1
    have P2 := Lib.hid p2
    clear p1 p2
    go_wp2_with fail
    refine (refSameF_any _ _).mono ?_
    rintro e w3 ⟨rfl, rfl⟩
    go_wp2_with fail
    refine (HLI.out _ B2.out).mono ?_
    rintro e w3 ⟨rfl, hb3⟩
    go_wp2_with fail
    go_ret
    exact ⟨rfl, B2.out.trans (hb3.mono B2.out.size)⟩
end Go.Proofs.YtdlighmnlcklnaaGreatDoor
