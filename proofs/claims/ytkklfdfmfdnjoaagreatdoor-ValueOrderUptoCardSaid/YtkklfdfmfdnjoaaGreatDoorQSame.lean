/- Same: two memories of one value are the same. -/
import Derived.Test.YtkklfdfmfdnjoaaGreatDoorQRightR
import Derived.Test.YtkklfdfmfdnjoaaGreatDoorQKeys
import Derived.Test.YtkklfdfmfdnjoaaGreatDoorQCopy
import Derived.Test.YtkklfdfmfdnjoaaGreatDoorQBase
import Derived.Test.YtkklfdfmfdnjoaaGreatDoorQClone
import Derived.Test.YtkklfdfmfdnjoaaGreatDoorQPut
import Derived.Test.YtkklfdfmfdnjoaaGreatDoorQRunes
import Derived.Lib.MapLaws
namespace Go.Proofs.YtkklfdfmfdnjoaaGreatDoor
open Go Go.RowKit

set_option maxHeartbeats 400000 in
theorem refSameF_any (f : Nat) (w : World) : Calls Tryz.prog 54 #[.float .f64 f, .float .f64 f] w fun e w' => e = .returned (.bool true) ∧ w = w' := by
  have hbt := bits_of
  go_enter Tryz.func54, Tryz.ntmps54
  go_wp2_with fail
  go_ret
  exact ⟨rfl, rfl⟩
set_option maxRecDepth 100000 in
set_option maxHeartbeats 2000000 in
/-- Rows of the same values: Same is called for each pair. -/
theorem refLists_same (l : List V) (hl : l.length ≤ 1048576) (ps qs : List (Value × Value)) (hp : ps.length = l.length) (hq : qs.length = l.length) (a b : Option Addr) (ca cb : Nat) (ba oa bb ob : Nat) (w : World)
    (ha : 0 < l.length → a = some ⟨ba, oa, none⟩ ∧ ba < w.heap.size) (hb : 0 < l.length → b = some ⟨bb, ob, none⟩ ∧ bb < w.heap.size)
    (h1 : ∀ i (h : i < l.length), FiveAt w ba (oa + i * 5) l[i] (ps[i]'(by omega)).1 (ps[i]'(by omega)).2) (h2 : ∀ i (h : i < l.length), FiveAt w bb (ob + i * 5) l[i] (qs[i]'(by omega)).1 (qs[i]'(by omega)).2)
    (hcall : ∀ i (h : i < l.length) (W : World), Below w.heap.size w W → Calls Tryz.prog 15 #[.agg (cellsV l[i] (ps[i]'(by omega)).1 (ps[i]'(by omega)).2), .agg (cellsV l[i] (qs[i]'(by omega)).1 (qs[i]'(by omega)).2)] W fun e w' => e = .returned (.bool true) ∧ Below W.heap.size W w') :
    Calls Tryz.prog 55 #[.slice a l.length ca, .slice b l.length cb] w fun e w' => e = .returned (.bool true) ∧ Below w.heap.size w w' := by
  have HA := Lib.hid ha
  have HB := Lib.hid hb
  have H1 := Lib.hid h1
  have H2 := Lib.hid h2
  have HC := Lib.hid hcall
  clear ha hb h1 h2 hcall
  go_enter Tryz.func55, Tryz.ntmps55
  go_wp2_with fail
  go_loopw [5] (fun i W => ∃ j : Nat, j ≤ l.length ∧ i = .int .i64 j ∧ Below w.heap.size w W) (fun i _ => l.length - (intOf i).toNat)
  case atStart => exact ⟨0, Nat.zero_le _, rfl, Below.refl _ _⟩
  case round =>
    obtain ⟨j, hj, rfl, hbel⟩ := hrel
    have HBEL := Lib.hid hbel
    by_cases hlt : j < l.length
    · obtain ⟨rfl, hB1⟩ := HA.out (by omega)
      obtain ⟨rfl, hB2⟩ := HB.out (by omega)
      obtain ⟨f0, f1, f2, f3, f4⟩ := (H1.out j hlt).keep hB1 (fun p hp => hbel.cell hp)
      obtain ⟨g0, g1, g2, g3, g4⟩ := (H2.out j hlt).keep hB2 (fun p hp => hbel.cell hp)
      have hc := fun W (hW : Below w.heap.size w W) => HC.out j hlt W hW
      unfold cellsV at hc
      have HCJ := Lib.hid hc
      clear hc hbel
      have BD := Lib.hid HBEL.out.drew
      go_wp2_with fail
      go_region_with (go_at_call 15; (with_reducible refine (HCJ.out _ BD.out).mono ?_); rintro e w2 ⟨rfl, hb2⟩; have B2 := Lib.hid (BD.out.trans (hb2.mono BD.out.size)); clear hb2)
      all_goals
        go_wp2_with fail
        go_roundw
        case rel => exact ⟨j + 1, by omega, by go_num, B2.out⟩
        case measure => simp [intOf]; omega
    · have hj : j = l.length := by omega
      subst hj
      clear hbel
      go_wp2_with fail
      go_ret
      exact ⟨rfl, HBEL.out⟩
theorem two_newS (w : World) (o1 o2 : Obj) : ((w.alloc o1).alloc o2).heap[w.heap.size]? = some o1 ∧ ((w.alloc o1).alloc o2).heap[w.heap.size + 1]? = some o2 := by
  refine ⟨row_alloc3 (heap_alloc_new w o1) o2, ?_⟩
  have := heap_alloc_new (w.alloc o1) o2
  rw [World.size_alloc] at this
  exact this
set_option maxRecDepth 100000 in
set_option maxHeartbeats 4000000 in
theorem Same_refl (m : Nat) : ∀ (v : V) (lv kv lx kx : Value) (w : World), At w w.heap.size m v lv kv → At w w.heap.size m v lx kx →
    Calls Tryz.prog 15 #[.agg (cellsV v lv kv), .agg (cellsV v lx kx)] w fun e w' => e = .returned (.bool true) ∧ Below w.heap.size w w' := by
  induction m with
  | zero => intro v lv kv lx kx w h; exact h.elim
  | succ m ih =>
    intro v lv kv lx kx w h hx
    obtain ⟨hsm, ha, _, a, c, B, o, rfl, hab, hi⟩ := h.opened
    obtain ⟨_, ha', _, a', c', B', o', rfl, hab', hi'⟩ := hx.opened
    obtain ⟨ps, hp, hpp⟩ := pairs_of (P := fun i a b => ∃ h : i < v.l.length, FiveAt w B (o + i * 5) v.l[i] a b ∧ At w w.heap.size m v.l[i] a b) (fun i h => by obtain ⟨a, b, q⟩ := hi i h; exact ⟨a, b, h, q⟩)
    obtain ⟨qs, hq, hqq⟩ := pairs_of (P := fun i a b => ∃ h : i < v.l.length, FiveAt w B' (o' + i * 5) v.l[i] a b ∧ At w w.heap.size m v.l[i] a b) (fun i h => by obtain ⟨a, b, q⟩ := hi' i h; exact ⟨a, b, h, q⟩)
    have hls := hsm.2.2.2.2.1
    have hks := hsm.2.2.2.2.2.1
    have htx := fun W (hW : Below w.heap.size w W) => refTexts_any v.ks v.ks w.heap.size w.heap.size kv kx (by omega) W (ha.1.below hW) (ha'.1.below hW)
    have hli := fun W (hW : Below w.heap.size w W) => refLists_same v.l hls ps qs (by omega) (by omega) a a' c c' B o B' o' W (fun h => ⟨(hab h).1, Nat.lt_of_lt_of_le (hab h).2 hW.size⟩) (fun h => ⟨(hab' h).1, Nat.lt_of_lt_of_le (hab' h).2 hW.size⟩)
      (fun i h => (hpp i (by omega)).2.1.keep (hab (by omega)).2 (fun p hp => hW.cell hp)) (fun i h => (hqq i (by omega)).2.1.keep (hab' (by omega)).2 (fun p hp => hW.cell hp))
      (fun i h U hU => ih _ _ _ _ _ U (At.more (hW.trans (hU.mono hW.size)).size _ _ _ _ ((hpp i (by omega)).2.2.below (hW.trans (hU.mono hW.size)))) (At.more (hW.trans (hU.mono hW.size)).size _ _ _ _ ((hqq i (by omega)).2.2.below (hW.trans (hU.mono hW.size)))))
    rw [decide_eq_true (rfl : v.ks = v.ks)] at htx
    obtain ⟨A, ad, ck, rfl, _, _⟩ := ha.1.dest
    obtain ⟨A', ad', ck', rfl, _, _⟩ := ha'.1.dest
    rw [List.length_map] at *
    have HTX := Lib.hid htx
    have HLI := Lib.hid hli
    have hsf := run_store_float Tryz.prog
    unfold cellsV
    clear htx hli hpp hqq hi hi' hab hab' ha ha' h hx ih hsm
    go_enter Tryz.func15, Tryz.ntmps15
    go_wp2_with fail
    obtain ⟨q1, q2⟩ := two_newS w (.cells #[.int .i64 v.k, .float .f64 v.f, .string v.s, .slice a v.l.length c, .slice A v.ks.length ck] 27) (.cells #[.int .i64 v.k, .float .f64 v.f, .string v.s, .slice a' v.l.length c', .slice A' v.ks.length ck'] 27)
    have hb0 := ((Below.refl w.heap.size w).alloc (Nat.le_refl _) (.cells #[.int .i64 v.k, .float .f64 v.f, .string v.s, .slice a v.l.length c, .slice A v.ks.length ck] 27)).alloc (by simp) (.cells #[.int .i64 v.k, .float .f64 v.f, .string v.s, .slice a' v.l.length c', .slice A' v.ks.length ck'] 27)
    generalize ((w.alloc (.cells #[.int .i64 v.k, .float .f64 v.f, .string v.s, .slice a v.l.length c, .slice A v.ks.length ck] 27)).alloc (.cells #[.int .i64 v.k, .float .f64 v.f, .string v.s, .slice a' v.l.length c', .slice A' v.ks.length ck'] 27)) = W0 at q1 q2 hb0 ⊢
    refine (HTX.out _ hb0).mono ?_
    rintro e w2 ⟨rfl, n, hw⟩
    have hb2 : Below W0.heap.size W0 w2 := hw ▸ below_drewN (Below.refl _ _) n
    have p1 := (hb2.block _ (Array.getElem?_eq_some_iff.1 q1).1).trans q1
    have p2 := (hb2.block _ (Array.getElem?_eq_some_iff.1 q2).1).trans q2
    have B2 := Lib.hid (hb0.trans (hb2.mono hb0.size))
    clear hw hb2 hb0 q1 q2
    obtain ⟨x0, x1, x2, x3, x4, _⟩ := row5 p1
    obtain ⟨y0, y1, y2, y3, y4, _⟩ := row5 p2
    have P1 := Lib.hid p1
    have P2 := Lib.hid p2
    clear p1 p2
    go_wp2_with fail
    refine (refSameF_any _ _).mono ?_
    rintro e w3 ⟨rfl, rfl⟩
    go_wp2_with fail
    refine (HLI.out _ B2.out).mono ?_
    rintro e w3 ⟨rfl, hb3⟩
    go_wp2_with fail
    go_ret
    exact ⟨rfl, B2.out.trans (hb3.mono B2.out.size)⟩
end Go.Proofs.YtkklfdfmfdnjoaaGreatDoor
/- The program's Put of a key that is there: its walk. -/
namespace Go.Proofs.YtkklfdfmfdnjoaaGreatDoor
open Go Go.RowKit

set_option maxRecDepth 100000 in
set_option maxHeartbeats 8000000 in
theorem Put_hit (v x : V) (m : Nat) (lv kv lx kx : Value) (key : ByteArray) (hkey : key.size ≤ 1000000000) (w : World) (h : At w w.heap.size (m + 1) v lv kv) (hxa : At w w.heap.size m x lx kx) (hk6 : v.k = 6) (_hlen : v.ks.length ≤ v.l.length)
    (hS : Small (putV v (cleanS key) x)) (i : Nat) (hlt : i < v.l.length) (hin : Lib.idxOfS v.ks (cleanS key) = (i : Int)) :
    Calls Tryz.prog 35 #[.agg (cellsV v lv kv), .string key, .agg (cellsV x lx kx)] w fun e w' => ∃ lv' kv', e = .returned (.agg (cellsV (putV v (cleanS key) x) lv' kv')) ∧ AtP w' (fun b => w.heap.size ≤ b ∧ b < w'.heap.size) (m + 1) (putV v (cleanS key) x) lv' kv' ∧ Below w.heap.size w w' := by
  have hsf := run_store_float Tryz.prog
  obtain ⟨i0, hi0, hz0, hz1, hz2⟩ := info_parts infoVal
  have HKO := Lib.hid (fun W => keyOf_any key hkey W)
  have hpl := fun W (hb : Below w.heap.size w W) => place_any v (m + 1) lv kv (cleanS key) W ((h.below hb).more hb.size)
  have hco := fun W (hb : Below w.heap.size w W) => copyOf_own (m + 1) v lv kv W ((h.below hb).more hb.size)
  have hcx := fun W (hb : Below w.heap.size w W) => copyOf_any m x lx kx W ((hxa.below hb).more hb.size)
  obtain ⟨a1, n1, c1, a2, n2, c2, rfl, rfl⟩ := h.slices
  obtain ⟨a3, n3, c3, a4, n4, c4, rfl, rfl⟩ := hxa.slices
  have hsm := h.opened.1
  obtain ⟨K, hK⟩ : ∃ K, cleanS key = K := ⟨_, rfl⟩
  rw [hK] at hpl HKO hS hin ⊢
  have hput' : Lib.idxOfS v.ks K = (i : Int) → putV v K x = .mk v.k v.f v.s (v.l.set i x) v.ks := fun e => by unfold putV; rw [e, if_neg (by omega)]; simp
  obtain ⟨y, hy⟩ : ∃ y, Lib.idxOfS v.ks K = y := ⟨_, rfl⟩
  obtain ⟨R, hR⟩ : ∃ R, putV v K x = R := ⟨_, rfl⟩
  rw [hy] at hpl hput' hin
  rw [hR] at hS hput' ⊢
  subst hin
  have HR := hput' rfl
  have HPL := Lib.hid hpl
  have HCO := Lib.hid hco
  have HCX := Lib.hid hcx
  have HS := Lib.hid hS
  have HSM := Lib.hid hsm
  clear hpl hco hcx hK hkey hput' hy hR hS hsm h hxa
  unfold cellsV at HPL HCO HCX ⊢
  rw [hk6] at HPL HCO ⊢
  go_enter Tryz.func35, Tryz.ntmps35
  go_wp2_with fail
  have hr0 := row_alloc3 (row_alloc3 (heap_alloc_new w (.cells #[.int .i64 6, .float .f64 v.f, .string v.s, .slice a1 n1 c1, .slice a2 n2 c2] 27)) (.cells #[.int .i64 x.k, .float .f64 x.f, .string x.s, .slice a3 n3 c3, .slice a4 n4 c4] 27)) (.cells #[.int .i64 0, .float .f64 0, .string ⟨#[]⟩, .slice none 0 0, .slice none 0 0] 27)
  have hr1 := row_alloc3 (heap_alloc_new (w.alloc (.cells #[.int .i64 6, .float .f64 v.f, .string v.s, .slice a1 n1 c1, .slice a2 n2 c2] 27)) (.cells #[.int .i64 x.k, .float .f64 x.f, .string x.s, .slice a3 n3 c3, .slice a4 n4 c4] 27)) (.cells #[.int .i64 0, .float .f64 0, .string ⟨#[]⟩, .slice none 0 0, .slice none 0 0] 27)
  have hr2 := heap_alloc_new ((w.alloc (.cells #[.int .i64 6, .float .f64 v.f, .string v.s, .slice a1 n1 c1, .slice a2 n2 c2] 27)).alloc (.cells #[.int .i64 x.k, .float .f64 x.f, .string x.s, .slice a3 n3 c3, .slice a4 n4 c4] 27)) (.cells #[.int .i64 0, .float .f64 0, .string ⟨#[]⟩, .slice none 0 0, .slice none 0 0] 27)
  rw [World.size_alloc] at hr1
  rw [World.size_alloc, World.size_alloc] at hr2
  have hb0 : Below w.heap.size w (((w.alloc (.cells #[.int .i64 6, .float .f64 v.f, .string v.s, .slice a1 n1 c1, .slice a2 n2 c2] 27)).alloc (.cells #[.int .i64 x.k, .float .f64 x.f, .string x.s, .slice a3 n3 c3, .slice a4 n4 c4] 27)).alloc (.cells #[.int .i64 0, .float .f64 0, .string ⟨#[]⟩, .slice none 0 0, .slice none 0 0] 27)) := (((Below.refl w.heap.size w).alloc (Nat.le_refl _) _).alloc (by simp) _).alloc (by simp; omega) _
  have hz0 : w.heap.size + 3 = (((w.alloc (.cells #[.int .i64 6, .float .f64 v.f, .string v.s, .slice a1 n1 c1, .slice a2 n2 c2] 27)).alloc (.cells #[.int .i64 x.k, .float .f64 x.f, .string x.s, .slice a3 n3 c3, .slice a4 n4 c4] 27)).alloc (.cells #[.int .i64 0, .float .f64 0, .string ⟨#[]⟩, .slice none 0 0, .slice none 0 0] 27)).heap.size := by simp
  generalize (((w.alloc (.cells #[.int .i64 6, .float .f64 v.f, .string v.s, .slice a1 n1 c1, .slice a2 n2 c2] 27)).alloc (.cells #[.int .i64 x.k, .float .f64 x.f, .string x.s, .slice a3 n3 c3, .slice a4 n4 c4] 27)).alloc (.cells #[.int .i64 0, .float .f64 0, .string ⟨#[]⟩, .slice none 0 0, .slice none 0 0] 27)) = W0 at hr0 hr1 hr2 hb0 hz0 ⊢
  refine (HCO.out W0 hb0).mono ?_
  rintro e w1 ⟨lv1, kv1, ps, rfl, hov, _, hb1⟩
  obtain ⟨Al, cl, hl1⟩ := own_slC hov.lown
  obtain ⟨Ak, ck, hk1⟩ := own_slC hov.kown
  subst hl1
  subst hk1
  have hpa : PutA w w1.heap.size m #[.int .i64 6, .float .f64 v.f, .string v.s, .slice a1 n1 c1, .slice a2 n2 c2] #[.int .i64 x.k, .float .f64 x.f, .string x.s, .slice a3 n3 c3, .slice a4 n4 c4] v (.slice Al v.l.length cl) (.slice Ak v.ks.length ck) ps (w1.alloc (.cells (cellsV v (.slice Al v.l.length cl) (.slice Ak v.ks.length ck)) 27)) := by
    have hz1 := hb1.size
    refine ⟨row_alloc3 ((hb1.block _ (by omega)).trans hr0) _, row_alloc3 ((hb1.block _ (by omega)).trans hr1) _, row_alloc3 ((hb1.block _ (by omega)).trans hr2) _, heap_alloc_new _ _, by omega, ?_, (hb0.trans (hb1.mono hb0.size)).alloc (by omega) _⟩
    have q := hov.toH.keep (W' := w1.alloc (.cells (cellsV v (.slice Al v.l.length cl) (.slice Ak v.ks.length ck)) 27)) (fun k _ hk => ((Below.refl w1.heap.size w1).alloc (Nat.le_refl _) _).block k hk)
    rw [← hz0] at q
    exact q
  unfold cellsV at hpa
  rw [hk6] at hpa
  obtain ⟨x0, x1, x2, x3, x4, _⟩ := row5' hpa.h0
  have HPA := Lib.hid hpa
  clear hpa hov hb1 hr0 hr1 hr2 hb0 hz0 HCO
  go_wp2_with fail
  have hpa := HPA.out
  clear HPA x0 x1 x2 x3 x4
  generalize (w1.alloc (.cells #[.int .i64 6, .float .f64 v.f, .string v.s, .slice Al v.l.length cl, .slice Ak v.ks.length ck] 27)) = W1 at hpa ⊢
  generalize w1.heap.size = P at hpa ⊢
  refine (HKO.out _).mono ?_
  rintro e w2 ⟨rfl, hb2⟩
  have PA2 := Lib.hid (hpa.below hb2)
  clear hpa hb2
  obtain ⟨x0, x1, x2, x3, x4, _⟩ := row5' PA2.out.h0
  go_wp2_with fail
  refine (HPL.out _ PA2.out.bel).mono ?_
  rintro e w3 ⟨rfl, hb3⟩
  have PA3 := Lib.hid (PA2.out.below hb3)
  clear hb3 x0 x1 x2 x3 x4
  obtain ⟨p0, p1, p2, p3, p4, _⟩ := row5' PA3.out.hP
  rcases id PA3.out.own.lown.2 with ⟨_, h0⟩ | ⟨g, cap, cur, hsl, hgb, hgh, hgc, _, hgs, _⟩
  · omega
  injection hsl with e1 _ e2
  subst e1
  subst e2
  have hgl : g < w3.heap.size := (Array.getElem?_eq_some_iff.1 hgh).1
  have hgP : g < P := PA3.out.own.lH g rfl
  have hjl : i < ps.length := by have := PA3.out.own.len; omega
  have hcell := PA3.out.own.lown.cells (g := g) rfl
  have hfl : ∀ c u, c < 5 → (cellsV v.l[i] ps[i].1 ps[i].2)[c]? = some u → w3.cell? ⟨g, i * 5 + c, none⟩ = some u := fun c u hc hu => by
    have := hcell (i * 5 + c) u (by rw [flat5_at v.l ps (by have := PA3.out.own.len; omega) i hlt hjl c hc]; exact hu)
    rw [add_zero_off] at this
    exact this
  have f0 : w3.cell? ⟨g, i * 5, none⟩ = some (.int .i64 v.l[i].k) := hfl 0 _ (by omega) rfl
  have f1 : w3.cell? ⟨g, i * 5 + 1, none⟩ = some (.float .f64 v.l[i].f) := hfl 1 _ (by omega) rfl
  have f2 : w3.cell? ⟨g, i * 5 + 2, none⟩ = some (.string v.l[i].s) := hfl 2 _ (by omega) rfl
  have f3 : w3.cell? ⟨g, i * 5 + 3, none⟩ = some ps[i].1 := hfl 3 _ (by omega) rfl
  have f4 : w3.cell? ⟨g, i * 5 + 4, none⟩ = some ps[i].2 := hfl 4 _ (by omega) rfl
  have hfz : ∀ q, w3.frozen? ⟨g, q, none⟩ = false := fun q => by simp [World.frozen?, hgh]
  obtain ⟨x0, x1, x2, x3, x4, _⟩ := row5' PA3.out.h1
  have HFZ := Lib.hid hfz
  have PB := Lib.hid (PA3.out.below (Below.refl _ _).drew)
  clear hcell hfl hfz hgb hgh hgc hgs PA2
  go_wp2_with fail
  go_region_with (go_at_call 51; (with_reducible refine (HCX.out _ PB.out.bel).mono ?_); rintro e w6 ⟨aa, bb, he, hat6, hb6⟩; obtain ⟨s1, s2, s3, s4, s5, s6, rfl, rfl⟩ := AtP.slices hat6; subst he; have PB6 := Lib.hid (PB.out.below hb6); have HLT := PB.out.lt; obtain ⟨r0, r1, r2, r3, r4, _⟩ := row5' PB6.out.hP; have g0 := (hb6.cell (p := ⟨g, i * 5, none⟩) hgl).trans f0; have g1 := (hb6.cell (p := ⟨g, i * 5 + 1, none⟩) hgl).trans f1; have g2 := (hb6.cell (p := ⟨g, i * 5 + 2, none⟩) hgl).trans f2; have g3 := (hb6.cell (p := ⟨g, i * 5 + 3, none⟩) hgl).trans f3; have g4 := (hb6.cell (p := ⟨g, i * 5 + 4, none⟩) hgl).trans f4; have z0 := (hb6.frozen (p := ⟨g, i * 5, none⟩) hgl).trans (HFZ.out _); have z1 := (hb6.frozen (p := ⟨g, i * 5 + 1, none⟩) hgl).trans (HFZ.out _); have z2 := (hb6.frozen (p := ⟨g, i * 5 + 2, none⟩) hgl).trans (HFZ.out _); have z3 := (hb6.frozen (p := ⟨g, i * 5 + 3, none⟩) hgl).trans (HFZ.out _); have z4 := (hb6.frozen (p := ⟨g, i * 5 + 4, none⟩) hgl).trans (HFZ.out _); clear hb6)
  all_goals
    have hpc := putC_hit PB6.out hlt (HR ▸ HS.out) hat6 HLT
    rw [← HR] at hpc
    unfold set5at at hpc
    clear HR f0 f1 f2 f3 f4 g0 g1 g2 g3 g4 z0 z1 z2 z3 z4 p0 p1 p2 p3 p4 x0 x1 x2 x3 x4 r0 r1 r2 r3 r4 PB6 PB hat6 HLT
    generalize ((((w6.setCell ⟨g, i * 5, none⟩ (.int .i64 x.k)).setCell ⟨g, i * 5 + 1, none⟩ (.float .f64 x.f)).setCell ⟨g, i * 5 + 2, none⟩ (.string x.s)).setCell ⟨g, i * 5 + 3, none⟩ (.slice s1 s2 s3)).setCell ⟨g, i * 5 + 4, none⟩ (.slice s4 s5 s6) = W8 at hpc ⊢
    obtain ⟨b0, b1, b2, b3, b4, _⟩ := row5' hpc.hP
    obtain ⟨u0, u1, u2, u3, u4, v0, v1, v2, v3, v4⟩ := row5 hpc.h2
    have PC := Lib.hid hpc
    have HNP := hpc.nP
    clear hpc
    go_wp2_with fail
    refine bodyPost_ret_by (results_cell_row rfl _ _ (w.heap.size + 2) 27 _ (0, 0) _ rfl (set5_row PC.out.h2 (.int .i64 R.k) (.float .f64 R.f) (.string R.s) (.slice (some ⟨g, 0, none⟩) v.l.length cl) (.slice Ak v.ks.length ck)) Tryz.underlying27 rfl (by rw [hi0]; simp [hz1])) rfl ?_
    exact ⟨_, _, rfl, AtP.more (fun b hb => ⟨by have := hb.1; omega, by have := hb.2; simpa using this⟩) _ _ _ _ (AtP.keep (fun a ha => cell_of_block (set5_other (by have := ha.1; omega) ..)) _ _ _ _ PC.out.at_), set5_below0 PC.out.bel (by omega) ..⟩
theorem Put_any (v x : V) (m : Nat) (lv kv lx kx : Value) (key : ByteArray) (hkey : key.size ≤ 1000000000) (w : World) (h : At w w.heap.size (m + 1) v lv kv) (hxa : At w w.heap.size m x lx kx) (hk6 : v.k = 6) (hlen : v.ks.length ≤ v.l.length)
    (hS : Small (putV v (cleanS key) x)) :
    Calls Tryz.prog 35 #[.agg (cellsV v lv kv), .string key, .agg (cellsV x lx kx)] w fun e w' => ∃ lv' kv', e = .returned (.agg (cellsV (putV v (cleanS key) x) lv' kv')) ∧ AtP w' (fun b => w.heap.size ≤ b ∧ b < w'.heap.size) (m + 1) (putV v (cleanS key) x) lv' kv' ∧ Below w.heap.size w w' := by
  rcases idx_cases v.ks (cleanS key) with ⟨q, _⟩ | ⟨i, h1, h2, _⟩
  · exact Put_miss v x m lv kv lx kx key hkey w h hxa hk6 hlen hS q
  · exact Put_hit v x m lv kv lx kx key hkey w h hxa hk6 hlen hS i (by omega) h2
end Go.Proofs.YtkklfdfmfdnjoaaGreatDoor
/- What is cleaned: plain (the first part of layer 1's text). -/
namespace Go.Proofs.YtkklfdfmfdnjoaaGreatDoor
open Go Go.WideShapes

theorem dec_self {α : Type} [DecidableEq α] (l : α) : decide (l = l) = true := decide_eq_true rfl
theorem byte_nat (z : Int) (h0 : 0 ≤ z) (h1 : z < 256) : z.toNat.toUInt8.toNat = z.toNat := by
  show (UInt8.ofNat z.toNat).toNat = _
  rw [UInt8.toNat_ofNat']
  omega
/-- What is encoded is decoded again. -/
theorem dec_enc (p : Nat) (hr : right (p : Int) = true) (t : List UInt8) : Lib.decodeL (Lib.encodeRune (p : Int) ++ t) = (p, (Lib.encodeRune (p : Int)).length) := by
  obtain ⟨_, h1, h2⟩ := (right_iff p).1 hr
  rw [Lib.decodeL_N]
  unfold Lib.encodeRune
  by_cases c1 : p ≤ 127
  · rw [Lib.encodeRuneZ_one (by omega) (by omega)]
    simp only [List.map_cons, List.map_nil, List.cons_append, List.nil_append, List.length_cons, List.length_nil, List.getD_cons_zero]
    rw [byte_nat _ (by omega) (by omega)]
    unfold Lib.decodeN
    rw [if_pos (by omega)]
    simp
  · by_cases c2 : p ≤ 2047
    · rw [Lib.encodeRuneZ_two (by omega) (by omega)]
      simp only [List.map_cons, List.map_nil, List.cons_append, List.nil_append, List.length_cons, List.length_nil, List.getD_cons_zero, List.getD_cons_succ]
      rw [byte_nat _ (by omega) (by omega), byte_nat _ (by omega) (by omega)]
      unfold Lib.decodeN
      rw [if_neg (by omega), if_pos (by omega), if_pos (by omega)]
      refine Prod.ext ?_ rfl
      show _ = p
      omega
    · by_cases c3 : p ≤ 65535
      · rw [Lib.encodeRuneZ_three (by omega)]
        simp only [List.map_cons, List.map_nil, List.cons_append, List.nil_append, List.length_cons, List.length_nil, List.getD_cons_zero, List.getD_cons_succ]
        rw [byte_nat _ (by omega) (by omega), byte_nat _ (by omega) (by omega), byte_nat _ (by omega) (by omega)]
        unfold Lib.decodeN
        rw [if_neg (by omega), if_neg (by omega), if_pos (by omega), if_pos (by omega)]
        refine Prod.ext ?_ rfl
        show _ = p
        omega
      · rw [Lib.encodeRuneZ_four (by omega) (by omega)]
        simp only [List.map_cons, List.map_nil, List.cons_append, List.nil_append, List.length_cons, List.length_nil, List.getD_cons_zero, List.getD_cons_succ]
        rw [byte_nat _ (by omega) (by omega), byte_nat _ (by omega) (by omega), byte_nat _ (by omega) (by omega), byte_nat _ (by omega) (by omega)]
        unfold Lib.decodeN
        rw [if_neg (by omega), if_neg (by omega), if_neg (by omega), if_pos (by omega), if_pos (by omega)]
        refine Prod.ext ?_ rfl
        show _ = p
        omega
theorem enc_pos (p : Int) : 1 ≤ (Lib.encodeRune p).length := by
  have := (Lib.encodeRuneZ_length p).1
  unfold Lib.encodeRune
  rw [List.length_map]
  exact this
theorem enc_bad : (Lib.encodeRune ((65533 : Nat) : Int)).length = 3 := by kernel_rfl

/-- A text that is made of code points has these code points, and each of its pieces is one's bytes. -/
theorem pts_enc (s : ByteArray) : ∀ (l : List Nat) (pos : Nat), (∀ p ∈ l, right (p : Int) = true) → s.data.toList.drop pos = encAll l → pts s pos = l ∧ allGood s pos = true := by
  intro l
  induction l with
  | nil =>
    intro pos _ h
    have h' : s.data.toList.length ≤ pos := List.drop_eq_nil_iff.1 h
    rw [Array.length_toList] at h'
    have hs : ¬ pos < s.size := by show ¬ pos < s.data.size; omega
    exact ⟨pts_nil s pos hs, allGood_nil s pos hs⟩
  | cons p r ih =>
    intro pos hr h
    have hp := hr p (List.mem_cons_self ..)
    have e : encAll (p :: r) = Lib.encodeRune (p : Int) ++ encAll r := rfl
    rw [e] at h
    have hd : Utf8.decode s pos = (p, (Lib.encodeRune (p : Int)).length) := by rw [← Lib.decodeL_drop, h]; exact dec_enc p hp _
    have h1 := enc_pos (p : Int)
    have hlen := congrArg List.length h
    rw [List.length_drop, List.length_append, Array.length_toList] at hlen
    have hs : pos < s.size := by show pos < s.data.size; omega
    have hn : s.data.toList.drop (pos + (Lib.encodeRune (p : Int)).length) = encAll r := by
      rw [← List.drop_drop, h, List.drop_append_of_le_length (Nat.le_refl _), List.drop_length, List.nil_append]
    obtain ⟨i1, i2⟩ := ih _ (fun q hq => hr q (List.mem_cons_of_mem _ hq)) hn
    refine ⟨by rw [pts_cons s pos hs, hd, i1], ?_⟩
    rw [allGood_cons s pos hs, hd, i2, Bool.and_true]
    unfold good
    rw [hd, decide_eq_true_iff]
    rintro ⟨a, b⟩
    dsimp only at a b
    subst a
    rw [enc_bad] at b
    omega
theorem pts_right (s : ByteArray) (pos : Nat) : ∀ p ∈ pts s pos, right (p : Int) = true := by
  intro p hp
  obtain ⟨x, _, rfl⟩ := List.mem_map.1 hp
  exact right_pt s x
theorem clean_pts (s : ByteArray) : pts (cleanS s) 0 = pts s 0 ∧ allGood (cleanS s) 0 = true := pts_enc _ _ 0 (pts_right s 0) (by unfold cleanS; simp)
theorem clean_clean (s : ByteArray) : cleanS (cleanS s) = cleanS s := by
  show (⟨(encAll (pts (cleanS s) 0)).toArray⟩ : ByteArray) = _
  rw [(clean_pts s).1]
  rfl
theorem good_enc (s : ByteArray) : ∀ (k pos : Nat), s.size - pos ≤ k → allGood s pos = true → encAll (pts s pos) = s.data.toList.drop pos := by
  intro k
  induction k with
  | zero =>
    intro pos h _
    rw [pts_nil s pos (by omega), List.drop_eq_nil_iff.2 (by rw [Array.length_toList]; show s.size ≤ pos; omega)]
    rfl
  | succ k ih =>
    intro pos h hg
    by_cases hp : pos < s.size
    · have hw := wid s pos hp
      rw [allGood_cons s pos hp, Bool.and_eq_true] at hg
      rw [pts_cons s pos hp]
      have e : ∀ (p : Nat) (r : List Nat), encAll (p :: r) = Lib.encodeRune (p : Int) ++ encAll r := fun _ _ => rfl
      rw [e, ih _ (by omega) hg.2]
      have hne : s.data.toList.drop pos ≠ [] := by
        intro h0
        have := List.drop_eq_nil_iff.1 h0
        rw [Array.length_toList] at this
        have : s.size ≤ pos := this
        omega
      have hgd := hg.1
      unfold good at hgd
      rw [decide_eq_true_iff, ← Lib.decodeL_drop] at hgd
      have := Lib.encode_decode _ hne hgd
      rw [← Lib.decodeL_drop, this, ← List.drop_drop]
      exact List.take_append_drop _ _
    · rw [pts_nil s pos hp, List.drop_eq_nil_iff.2 (by rw [Array.length_toList]; show s.size ≤ pos; omega)]
      rfl
/-- A text is valid if and only if cleaning leaves it as it is. -/
theorem good_clean (s : ByteArray) : allGood s 0 = decide (cleanS s = s) := by
  rw [Bool.eq_iff_iff, decide_eq_true_iff]
  constructor
  · intro h
    apply bytes_inj
    show (encAll (pts s 0)).toArray.toList = _
    rw [good_enc s _ 0 (Nat.le_refl _) h, List.drop_zero]
  · intro h
    rw [← h]
    exact (clean_pts s).2
end Go.Proofs.YtkklfdfmfdnjoaaGreatDoor
/- The program's Keys. -/
namespace Go.Proofs.YtkklfdfmfdnjoaaGreatDoor
open Go Go.RowKit

theorem keysLen_perm {l m : List ByteArray} (h : l.Perm m) : keysLen l = keysLen m := (h.map ByteArray.size).sum_nat
set_option maxRecDepth 100000 in
set_option maxHeartbeats 1000000 in
theorem Keys_any (v : V) (m : Nat) (lv kv : Value) (w : World) (h : At w w.heap.size m v lv kv) :
    Calls Tryz.prog 34 #[.agg (cellsV v lv kv)] w fun e w' => ∃ kv', e = .returned kv' ∧ OwnKeys w' w.heap.size kv' (sortK v.ks) ∧ Below w.heap.size w w' := by
  have hsf := run_store_float Tryz.prog
  obtain ⟨m, rfl⟩ : ∃ n, m = n + 1 := by cases m with | zero => exact h.elim | succ m => exact ⟨m, rfl⟩
  obtain ⟨hsm, ha, _⟩ := h.opened
  have hck := fun o => copyKeys_any v.ks kv (w.alloc o) hsm.2.2.2.2.2.1 hsm.2.2.2.2.2.2 (KeysAt.more (ha.below ((Below.refl w.heap.size w).alloc (Nat.le_refl _) o)) (by simp))
  obtain ⟨a1, n1, k1, a2, n2, k2, rfl, rfl⟩ := h.slices
  have hks := hsm.2.2.2.2.2.1
  unfold cellsV
  have HCK := Lib.hid hck
  clear hck h ha hsm
  go_enter Tryz.func34, Tryz.ntmps34
  go_wp2_with fail
  refine (HCK.out _).mono ?_
  rintro e w1 ⟨v', rfl, hown, hb1⟩
  rw [World.size_alloc] at hown
  have hz := hb1.size
  rw [World.size_alloc] at hz
  have hb0 : Below w.heap.size w w1 := ((Below.refl w.heap.size w).alloc (Nat.le_refl _) _).trans (hb1.mono (by simp))
  have HS := Lib.hid (Sort_own v.ks v' w1 w.heap.size hks (by omega) (own_base hown (by omega)))
  have HB := Lib.hid hb0
  clear hown hb1 hb0
  go_wp2_with fail
  refine HS.out.mono ?_
  rintro e w2 ⟨rfl, hown, hb2⟩
  go_wp2_with fail
  go_ret
  exact ⟨_, rfl, hown, HB.out.trans hb2⟩
end Go.Proofs.YtkklfdfmfdnjoaaGreatDoor
