/- The writer: every value, joined. -/
import Derived.Test.YtpobdmkidopnnaaGreatDoorGAN
import Derived.Test.YtpobdmkidopnnaaGreatDoorGAK
import Derived.Test.YtpobdmkidopnnaaGreatDoorGAA
import Derived.Test.YtpobdmkidopnnaaGreatDoorGAD
import Derived.Test.YtpobdmkidopnnaaGreatDoorGAL
namespace Go.Proofs.YtpobdmkidopnnaaGreatDoor
open Go Go.RowKit

theorem WStep.of_below {b : Nat} {w w' : World} (h : Below w.heap.size w w') (hb : b ≤ w.heap.size) : WStep b w w' :=
  ⟨h.mono hb, fun k _o hk _ _ => (h.block k (Array.getElem?_eq_some_iff.1 hk).1).trans hk⟩
theorem IsW.below {w w' : World} {b : Nat} {l : List UInt8} {en : Int} (h : IsW w b l en) (hb : Below w.heap.size w w') : IsW w' b l en := by
  obtain ⟨p, hp, v, h1, h2⟩ := h
  exact ⟨p, hp, v, (hb.block b (Array.getElem?_eq_some_iff.1 h1).1).trans h1, own_belowV h2 hb⟩
set_option maxRecDepth 100000 in
set_option maxHeartbeats 8000000 in
theorem value_any3 (w0 : World) (hN : NumW w0) (b : Nat) (hb : w0.heap.size ≤ b) (en : Int) (m : Nat) : ValueC w0 b en m := by
  induction m with
  | zero => intro v lv kv d l w _ h; exact h.elim
  | succ m ih =>
    intro v lv kv d l w hr h hbel hw hfit hlen
    obtain ⟨hsm, ha, hcp, a, c, B, o, rfl, hab, hi⟩ := h.opened
    have hhead : headOK v = true := by
      cases d with
      | zero => cases hr
      | succ d => have hr : (headOK v && v.l.all (fun x => rightV d x)) = true := hr
                  rw [Bool.and_eq_true] at hr; exact hr.1
    rw [headOK_iff] at hhead
    obtain ⟨⟨hk0, hk6⟩, _, _, _, hkl, _⟩ := hhead
    have hp1 := fun (k : Int) P hP i l W => part1_any w0 b P hb hP en m ih v d hr k a c B o kv hsm.2.2.2.2.1 hab hi i l W
    have hp2 := fun (h6 : v.ks.length = v.l.length) (k : Int) P hP i l W => part2_any w0 b P hb hP en m ih v d hr k a c B o kv hsm.2.2.2.2.1 hab hi ha h6 i l W
    obtain ⟨A, ad, ck, rfl, hA, hac⟩ := ha.1.dest
    have hsf := run_store_float Tryz.prog
    rw [List.length_map] at hp1 hp2 ⊢
    obtain ⟨_, _, hf64, hss, hls, hks, _⟩ := hsm
    have HP1 := Lib.hid hp1
    have HP2 := Lib.hid hp2
    have HW := Lib.hid hw
    have HBEL := Lib.hid hbel
    have hNW : NumW w := hN.below hbel
    have HNW := Lib.hid hNW
    obtain ⟨p, hp, vv, hbb, hown⟩ := hw
    obtain ⟨c0, c1, c2, f0, f1, hsh, hlt⟩ := row3V hbb
    have HKL := Lib.hid hkl
    have hT : textV (m + 1) v = if v.k = 0 then nullT else if v.k = 1 then falseT else if v.k = 2 then trueT else if v.k = 3 then textB v.f else if v.k = 4 then quoteR v.s
      else if v.k = 5 then 91 :: (rowB (fun i => textV m (v.l.getD i default)) v.l.length ++ [93])
      else 123 :: (rowB (fun i => quoteR (v.ks.getD i default) ++ 58 :: textV m (v.l.getD i default)) v.l.length ++ [125]) := rfl
    obtain ⟨k, hk⟩ : ∃ k, v.k = k := ⟨_, rfl⟩
    unfold cellsV
    rw [hk] at hk0 hk6 hT HKL ⊢
    have hst2 : ∀ o1 o2, WStep b w ((w.alloc o1).alloc o2) := fun o1 o2 => ((WStep.refl b w).alloc (by omega) o1).alloc (by simp; omega) o2
    have HST2 := Lib.hid hst2
    clear ha hac hA hcp hi hab h ih hr hk hp1 hp2 hbel hNW hN hbb hown hp hsh hst2 hkl
    have hkk : k = 0 ∨ k = 1 ∨ k = 2 ∨ k = 3 ∨ k = 4 ∨ k = 5 ∨ k = 6 := by omega
    clear hk0 hk6
    rcases hkk with rfl | rfl | rfl | rfl | rfl | rfl | rfl
    · have hT : textV (m + 1) v = nullT := hT
      rw [hT] at hfit hlen ⊢
      clear hT
      have hlen' : l.length ≤ 1099511627776 := by rw [List.length_append] at hlen; omega
      have ht := fun W hW => WriteString_any b l en ⟨#[110, 117, 108, 108]⟩ W hW (by omega) (by decide)
      have HTX := Lib.hid ht
      clear ht
      go_enter Tryz.func100, Tryz.ntmps100
      go_wp2_with fail
      refine (HTX.out _ ((HW.out.alloc _).alloc _)).mono ?_
      rintro e w2 ⟨rfl, hw2, hs2⟩
      have HW2 := Lib.hid hw2
      have HS2 := Lib.hid hs2
      clear hw2 hs2
      go_wp2_with fail
      go_end0
      exact ⟨rfl, HW2.out, (HST2.out _ _).trans HS2.out⟩
    · have hT : textV (m + 1) v = falseT := hT
      rw [hT] at hfit hlen ⊢
      clear hT
      have hlen' : l.length ≤ 1099511627776 := by rw [List.length_append] at hlen; omega
      have ht := fun W hW => WriteString_any b l en ⟨#[102, 97, 108, 115, 101]⟩ W hW (by omega) (by decide)
      have HTX := Lib.hid ht
      clear ht
      go_enter Tryz.func100, Tryz.ntmps100
      go_wp2_with fail
      refine (HTX.out _ ((HW.out.alloc _).alloc _)).mono ?_
      rintro e w2 ⟨rfl, hw2, hs2⟩
      have HW2 := Lib.hid hw2
      have HS2 := Lib.hid hs2
      clear hw2 hs2
      go_wp2_with fail
      go_end0
      exact ⟨rfl, HW2.out, (HST2.out _ _).trans HS2.out⟩
    · have hT : textV (m + 1) v = trueT := hT
      rw [hT] at hfit hlen ⊢
      clear hT
      have hlen' : l.length ≤ 1099511627776 := by rw [List.length_append] at hlen; omega
      have ht := fun W hW => WriteString_any b l en ⟨#[116, 114, 117, 101]⟩ W hW (by omega) (by decide)
      have HTX := Lib.hid ht
      clear ht
      go_enter Tryz.func100, Tryz.ntmps100
      go_wp2_with fail
      refine (HTX.out _ ((HW.out.alloc _).alloc _)).mono ?_
      rintro e w2 ⟨rfl, hw2, hs2⟩
      have HW2 := Lib.hid hw2
      have HS2 := Lib.hid hs2
      clear hw2 hs2
      go_wp2_with fail
      go_end0
      exact ⟨rfl, HW2.out, (HST2.out _ _).trans HS2.out⟩
    · have hT : textV (m + 1) v = textB v.f := hT
      rw [hT] at hfit hlen ⊢
      clear hT
      have htl : (textB v.f).length ≤ 1099511627776 ∧ l.length ≤ 1099511627776 := by rw [List.length_append] at hlen; omega
      go_enter Tryz.func100, Tryz.ntmps100
      go_wp2_with fail
      have hrow0 := row_alloc3 (heap_alloc_new w (Obj.cells #[Value.pointer (some ⟨b, 0, none⟩)] 174)) (Obj.cells #[.int .i64 3, .float .f64 v.f, .string v.s, .slice a v.l.length c, .slice A v.ks.length ck] 27)
      have hrow1 := heap_alloc_new (w.alloc (Obj.cells #[Value.pointer (some ⟨b, 0, none⟩)] 174)) (Obj.cells #[.int .i64 3, .float .f64 v.f, .string v.s, .slice a v.l.length c, .slice A v.ks.length ck] 27)
      rw [World.size_alloc] at hrow1
      have hbl2 : Below w.heap.size w ((w.alloc (Obj.cells #[Value.pointer (some ⟨b, 0, none⟩)] 174)).alloc (Obj.cells #[.int .i64 3, .float .f64 v.f, .string v.s, .slice a v.l.length c, .slice A v.ks.length ck] 27)) := ((Below.refl w.heap.size w).alloc (Nat.le_refl _) _).alloc (by simp) _
      have hs2 := HST2.out (Obj.cells #[Value.pointer (some ⟨b, 0, none⟩)] 174) (Obj.cells #[.int .i64 3, .float .f64 v.f, .string v.s, .slice a v.l.length c, .slice A v.ks.length ck] 27)
      generalize ((w.alloc (Obj.cells #[Value.pointer (some ⟨b, 0, none⟩)] 174)).alloc (Obj.cells #[.int .i64 3, .float .f64 v.f, .string v.s, .slice a v.l.length c, .slice A v.ks.length ck] 27)) = w2 at hrow0 hrow1 hbl2 hs2 ⊢
      have g2 := row1V hrow0
      obtain ⟨e0, e1, e2, e3, e4, _, _, _, _, _⟩ := row5' hrow1
      have htx := Text_any v.f hf64 w2.drew ((HNW.out.below hbl2).below (Below.refl _ _).drew)
      have hw2 : IsW w2 b l en := HW.out.below hbl2
      have hbz : b ≤ w2.heap.size := by have := hbl2.size; omega
      obtain ⟨p', hp', vv', hbb', hown'⟩ := id hw2
      obtain ⟨d0, d1, d2, x0, x1, _, hlt2⟩ := row3V hbb'
      have HPZ : Hid (w.heap.size < w2.heap.size) := Lib.hid (Array.getElem?_eq_some_iff.1 hrow0).1
      have HTX := Lib.hid htx
      have HW2 := Lib.hid hw2
      have HS2 := Lib.hid hs2
      have hws := fun W hW => WriteString_any b l en ⟨(textB v.f).toArray⟩ W hW (by omega) (by show (textB v.f).toArray.size ≤ _; rw [List.size_toArray]; omega)
      have HWS := Lib.hid hws
      clear hrow0 hrow1 hbl2 hs2 htx hw2 hws hp' hbb' hown' c0 c1 c2 f0 f1
      go_region_with (first
        | (go_at_call 161; refine HTX.out.mono ?_; rintro e w3 ⟨rfl, hb3⟩; have g3 := (hb3.cell (p := ⟨w.heap.size, 0, none⟩) HPZ.out).trans g2; have y0 := (hb3.cell (p := ⟨b, 0, none⟩) hlt2).trans d0; have y1 := (hb3.cell (p := ⟨b, 1, none⟩) hlt2).trans d1; have y2 := (hb3.cell (p := ⟨b, 2, none⟩) hlt2).trans d2)
        | (go_at_call 160; refine (HWS.out w3 ((HW2.out.heap rfl : IsW w2.drew b l en).below hb3)).mono ?_; rintro e w4 ⟨rfl, hw4, hs4⟩))
      all_goals
        have HB3 : Hid (WStep b w2 w3) := Lib.hid (((WStep.refl _ _).drew).trans (WStep.of_below hb3 hbz))
        have HW4 := Lib.hid hw4
        have HS4 := Lib.hid hs4
        clear hb3 hw4 hs4
        go_wp2_with fail
        go_end0
        exact ⟨rfl, HW4.out, HS2.out.trans (HB3.out.trans HS4.out)⟩
    · have hT : textV (m + 1) v = quoteR v.s := hT
      rw [hT] at hfit hlen ⊢
      clear hT
      have ht := fun W hW => text_any b l en v.s W hW hfit hlen
      have HTX := Lib.hid ht
      clear ht
      go_enter Tryz.func100, Tryz.ntmps100
      go_wp2_with fail
      refine (HTX.out _ ((HW.out.alloc _).alloc _)).mono ?_
      rintro e w2 ⟨rfl, hw2, hs2⟩
      have HW2 := Lib.hid hw2
      have HS2 := Lib.hid hs2
      clear hw2 hs2
      go_wp2_with fail
      go_end0
      exact ⟨rfl, HW2.out, (HST2.out _ _).trans HS2.out⟩
    · have hT : textV (m + 1) v = 91 :: (rowB (fun i => textV m (v.l.getD i default)) v.l.length ++ [93]) := hT
      rw [hT] at hfit hlen ⊢
      clear hT
      have hro := fun W hE hW => row_any1 b en 91 93 v.l.length hls (fun i => textV m (v.l.getD i default)) (.pointer (some ⟨w.heap.size, 0, none⟩)) (.pointer (some ⟨w.heap.size + 1, 0, none⟩)) (WEnv w0 b w.heap.size #[.int .i64 5, .float .f64 v.f, .string v.s, .slice a v.l.length c, .slice A v.ks.length ck])
        (WEnv.step hlt hb) (fun i l W h1 h2 h3 h4 h5 => HP1.out 5 w.heap.size hlt i l W h1 h2 h3 h4 h5) l W hE hW hfit hlen
      have HRO := Lib.hid hro
      clear hro
      go_enter Tryz.func100, Tryz.ntmps100
      go_wp2_with fail
      refine (HRO.out _ ⟨row_alloc3 (heap_alloc_new w _) _, by have := heap_alloc_new (w.alloc (Obj.cells #[Value.pointer (some ⟨b, 0, none⟩)] 174)) (Obj.cells #[.int .i64 5, .float .f64 v.f, .string v.s, .slice a v.l.length c, .slice A v.ks.length ck] 27); simpa using this, HBEL.out.trans ((HST2.out _ _).1.mono hb)⟩ ((HW.out.alloc _).alloc _)).mono ?_
      rintro e w2 ⟨rfl, hw2, hs2⟩
      have HW2 := Lib.hid hw2
      have HS2 := Lib.hid hs2
      clear hw2 hs2
      go_wp2_with fail
      go_end0
      exact ⟨rfl, HW2.out, (HST2.out _ _).trans HS2.out⟩
    · have hT : textV (m + 1) v = 123 :: (rowB (fun i => quoteR (v.ks.getD i default) ++ 58 :: textV m (v.l.getD i default)) v.l.length ++ [125]) := hT
      rw [hT] at hfit hlen ⊢
      clear hT
      have h6 := HKL.out.resolve_left (by simp)
      have hro := fun W hE hW => row_any2 b en 123 125 v.l.length hls (fun i => quoteR (v.ks.getD i default) ++ 58 :: textV m (v.l.getD i default)) (.pointer (some ⟨w.heap.size, 0, none⟩)) (.pointer (some ⟨w.heap.size + 1, 0, none⟩)) (WEnv w0 b w.heap.size #[.int .i64 6, .float .f64 v.f, .string v.s, .slice a v.l.length c, .slice A v.ks.length ck])
        (WEnv.step hlt hb) (fun i l W h1 h2 h3 h4 h5 => HP2.out h6 6 w.heap.size hlt i l W h1 h2 h3 h4 h5) l W hE hW hfit hlen
      have HRO := Lib.hid hro
      clear hro h6
      go_enter Tryz.func100, Tryz.ntmps100
      go_wp2_with fail
      refine (HRO.out _ ⟨row_alloc3 (heap_alloc_new w _) _, by have := heap_alloc_new (w.alloc (Obj.cells #[Value.pointer (some ⟨b, 0, none⟩)] 174)) (Obj.cells #[.int .i64 6, .float .f64 v.f, .string v.s, .slice a v.l.length c, .slice A v.ks.length ck] 27); simpa using this, HBEL.out.trans ((HST2.out _ _).1.mono hb)⟩ ((HW.out.alloc _).alloc _)).mono ?_
      rintro e w2 ⟨rfl, hw2, hs2⟩
      have HW2 := Lib.hid hw2
      have HS2 := Lib.hid hs2
      clear hw2 hs2
      go_wp2_with fail
      go_end0
      exact ⟨rfl, HW2.out, (HST2.out _ _).trans HS2.out⟩
end Go.Proofs.YtpobdmkidopnnaaGreatDoor
namespace Go.Proofs.YtpobdmkidopnnaaGreatDoor
open Go Go.RowKit

theorem digB_ne (b : Nat) (h : szB b < 9218868437227405312) (hz : ¬ zeroB b) : 1 ≤ (digB b).length := by
  have hx : exB b ≤ 2046 := by unfold exB; unfold szB at h; omega
  have hm : mtB b < 4503599627370496 := Nat.mod_lt _ (by omega)
  obtain ⟨d1, d2, d3, d4⟩ := dec_all _ _ hz hx hm
  have s1 := strip_pos _ d1
  have s2 := strip_le (Lib.decDigits (decOf (exB b) (mtB b)).1)
  rw [Lib.decDigits_length] at s2
  unfold digB
  rw [List.length_take, Lib.decDigits_length]
  omega
theorem textB_ne (b : Nat) (hb : b < 18446744073709551616) : textB b ≠ [] := by
  unfold textB
  by_cases h1 : 9218868437227405312 < szB b
  · rw [if_pos h1]; simp
  · rw [if_neg h1]
    have hc := clamp_in b hb (by omega)
    by_cases h2 : longB (clampB b) = true
    · rw [if_pos h2]
      unfold fOf
      by_cases hz : zeroB (clampB b)
      · rw [if_pos hz]; simp
      · rw [if_neg hz]
        have hd := digB_ne _ hc.2 hz
        intro e
        have e := congrArg List.length e
        unfold fText at e
        simp only [List.length_append, List.length_nil] at e
        have e2 : (if ((digB (clampB b)).length : Int) ≤ dpB (clampB b) then digB (clampB b) ++ List.replicate ((dpB (clampB b)).toNat - (digB (clampB b)).length) 48 else if 0 < dpB (clampB b) then (digB (clampB b)).take (dpB (clampB b)).toNat ++ 46 :: (digB (clampB b)).drop (dpB (clampB b)).toNat else 48 :: 46 :: (List.replicate (-dpB (clampB b)).toNat 48 ++ digB (clampB b))).length = 0 := by omega
        split at e2
        · rw [List.length_append] at e2; omega
        · split at e2
          · simp at e2
          · simp at e2
    · rw [if_neg h2]
      unfold eOf
      by_cases hz : zeroB (clampB b)
      · rw [if_pos hz]; simp
      · rw [if_neg hz]
        unfold eText
        simp
theorem textV_ne (m : Nat) (v : V) (hf : v.f < 18446744073709551616) : textV (m + 1) v ≠ [] := by
  have e : textV (m + 1) v = if v.k = 0 then nullT else if v.k = 1 then falseT else if v.k = 2 then trueT else if v.k = 3 then textB v.f else if v.k = 4 then quoteR v.s
      else if v.k = 5 then 91 :: (rowB (fun i => textV m (v.l.getD i default)) v.l.length ++ [93])
      else 123 :: (rowB (fun i => quoteR (v.ks.getD i default) ++ 58 :: textV m (v.l.getD i default)) v.l.length ++ [125]) := rfl
  rw [e]
  split; (unfold nullT; simp)
  split; (unfold falseT; simp)
  split; (unfold trueT; simp)
  split; exact textB_ne _ hf
  split; (unfold quoteR; simp)
  split <;> simp
set_option maxRecDepth 100000 in
set_option maxHeartbeats 2000000 in
theorem Text_any3 (m : Nat) (v : V) (d : Nat) (lv kv : Value) (w : World) (hN : NumW w) (h : At w w.heap.size m v lv kv) (hr : rightV d v = true) (hlen : (textV m v).length ≤ 1099511627776) :
    Calls Tryz.prog 55 #[.agg (cellsV v lv kv)] w fun e w' => e = .returned (.string ⟨(textV m v).toArray⟩) ∧ Below w.heap.size w w' := by
  obtain ⟨m, rfl⟩ : ∃ m', m = m' + 1 := by cases m with | zero => exact h.elim | succ m => exact ⟨m, rfl⟩
  have hne := textV_ne m v h.opened.1.2.2.1
  have hv := fun o W => value_any3 (w.alloc o) (hN.below ((Below.refl _ _).alloc (Nat.le_refl _) _)) (w.heap.size + 1) (by simp) 9223372036854775807 (m + 1) v lv kv d [] W hr (At.more (by simp) _ _ _ _ (h.below ((Below.refl w.heap.size w).alloc (Nat.le_refl _) o)))
  have hsf := run_store_float Tryz.prog
  have HV := Lib.hid hv
  obtain ⟨a1, n1, k1, a2, n2, k2, rfl, rfl⟩ := h.slices
  clear hv h hN hr
  unfold cellsV at HV ⊢
  obtain ⟨T, hT⟩ : ∃ T, textV (m + 1) v = T := ⟨_, rfl⟩
  rw [hT] at HV hlen hne ⊢
  have HNE := Lib.hid hne
  clear hT hne
  go_enter Tryz.func55, Tryz.ntmps55
  go_wp2_with fail
  have hw0 : IsW ((w.alloc (.cells #[.int .i64 v.k, .float .f64 v.f, .string v.s, .slice a1 n1 k1, .slice a2 n2 k2] 27)).alloc (.cells #[.pointer none, .slice none 0 0, .int .i64 9223372036854775807] 111)) (w.heap.size + 1) [] 9223372036854775807 :=
    ⟨_, Or.inl rfl, _, by have := heap_alloc_new (w.alloc (.cells #[.int .i64 v.k, .float .f64 v.f, .string v.s, .slice a1 n1 k1, .slice a2 n2 k2] 27)) (.cells #[.pointer none, .slice none 0 0, .int .i64 9223372036854775807] 111); simpa using this, ⟨rfl, Or.inl ⟨rfl, rfl⟩⟩⟩
  refine (HV.out _ _ ((Below.refl _ _).alloc (Nat.le_refl _) _) hw0 (by simp; omega) (by simpa using hlen)).mono ?_
  rintro e w2 ⟨rfl, hw2, hs2⟩
  obtain ⟨vv, hb2, hown2⟩ := id hw2
  obtain ⟨c0, c1, c2, f0, f1, hsh, hlt⟩ := row3V hb2
  have hst := BString_any _ _ _ (by rw [List.nil_append]; exact HNE.out) w2 hw2.is
  rw [List.nil_append] at hst
  have HST := Lib.hid hst
  have HS2 : Hid (Below w.heap.size w w2) := Lib.hid ((((Below.refl w.heap.size w).alloc (Nat.le_refl _) _).alloc (by simp) _).trans (hs2.1.mono (by omega)))
  clear hw2 hs2 hb2 hown2 hsh hst hw0
  go_wp2_with fail
  refine HST.out.mono ?_
  rintro e w3 ⟨rfl, hb3⟩
  have HB3 := Lib.hid (HS2.out.trans (hb3.mono (by omega)))
  clear hb3
  go_wp2_with fail
  go_ret
  exact ⟨rfl, HB3.out⟩
set_option maxRecDepth 100000 in
set_option maxHeartbeats 2000000 in
theorem Short_fit (m : Nat) (v : V) (d : Nat) (lv kv : Value) (w : World) (hN : NumW w) (h : At w w.heap.size m v lv kv) (hr : rightV d v = true) (hlen : (textV m v).length ≤ 24) :
    Calls Tryz.prog 221 #[.agg (cellsV v lv kv)] w fun e w' => e = .returned (.string ⟨(textV m v).toArray⟩) ∧ Below w.heap.size w w' := by
  obtain ⟨m, rfl⟩ : ∃ m', m = m' + 1 := by cases m with | zero => exact h.elim | succ m => exact ⟨m, rfl⟩
  have hne := textV_ne m v h.opened.1.2.2.1
  have hv := fun o W => value_any3 (w.alloc o) (hN.below ((Below.refl _ _).alloc (Nat.le_refl _) _)) (w.heap.size + 1) (by simp) 96 (m + 1) v lv kv d [] W hr (At.more (by simp) _ _ _ _ (h.below ((Below.refl w.heap.size w).alloc (Nat.le_refl _) o)))
  have hsf := run_store_float Tryz.prog
  have HV := Lib.hid hv
  obtain ⟨a1, n1, k1, a2, n2, k2, rfl, rfl⟩ := h.slices
  clear hv h hN hr
  unfold cellsV at HV ⊢
  obtain ⟨T, hT⟩ : ∃ T, textV (m + 1) v = T := ⟨_, rfl⟩
  rw [hT] at HV hlen hne ⊢
  have HNE := Lib.hid hne
  have hsz : (⟨T.toArray⟩ : ByteArray).size = T.length := by show T.toArray.size = _; simp
  have hcnt := fun W => Count_any ⟨T.toArray⟩ (by rw [hsz]; omega) W
  have hcl : (st ⟨T.toArray⟩ 0).length ≤ 24 := Nat.le_trans (st_len _ _) (by rw [hsz]; omega)
  have HCNT := Lib.hid hcnt
  clear hT hne hcnt hsz
  go_enter Tryz.func221, Tryz.ntmps221
  go_wp2_with fail
  have hw0 : IsW ((w.alloc (.cells #[.int .i64 v.k, .float .f64 v.f, .string v.s, .slice a1 n1 k1, .slice a2 n2 k2] 27)).alloc (.cells #[.pointer none, .slice none 0 0, .int .i64 96] 111)) (w.heap.size + 1) [] 96 :=
    ⟨_, Or.inl rfl, _, by have := heap_alloc_new (w.alloc (.cells #[.int .i64 v.k, .float .f64 v.f, .string v.s, .slice a1 n1 k1, .slice a2 n2 k2] 27)) (.cells #[.pointer none, .slice none 0 0, .int .i64 96] 111); simpa using this, ⟨rfl, Or.inl ⟨rfl, rfl⟩⟩⟩
  refine (HV.out _ _ ((Below.refl _ _).alloc (Nat.le_refl _) _) hw0 (by simp; omega) (by simp; omega)).mono ?_
  rintro e w2 ⟨rfl, hw2, hs2⟩
  obtain ⟨vv, hb2, hown2⟩ := id hw2
  obtain ⟨c0, c1, c2, f0, f1, hsh, hlt⟩ := row3V hb2
  have hst := BString_any _ _ _ (by rw [List.nil_append]; exact HNE.out) w2 hw2.is
  rw [List.nil_append] at hst
  have HST := Lib.hid hst
  have HS2 : Hid (Below w.heap.size w w2) := Lib.hid ((((Below.refl w.heap.size w).alloc (Nat.le_refl _) _).alloc (by simp) _).trans (hs2.1.mono (by omega)))
  clear hw2 hs2 hb2 hown2 hsh hst hw0
  go_wp2_with fail
  refine HST.out.mono ?_
  rintro e w3 ⟨rfl, hb3⟩
  have HB3 := Lib.hid (HS2.out.trans (hb3.mono (by omega)))
  clear hb3 c0 c1 c2 f0 f1
  go_wp2_with fail
  refine (HCNT.out _).mono ?_
  rintro e w4 ⟨rfl, hb4⟩
  have HB4 := Lib.hid (HB3.out.trans (hb4.mono HB3.out.size))
  clear hb4
  go_wp2_with fail
  go_ret
  exact ⟨rfl, HB4.out⟩
end Go.Proofs.YtpobdmkidopnnaaGreatDoor
namespace Go.Proofs.YtpobdmkidopnnaaGreatDoor
open Go Go.RowKit

def nameV (k : Int) : ByteArray := if k = 0 then ⟨#[110, 117, 108, 108]⟩ else if k = 1 ∨ k = 2 then ⟨#[98, 111, 111, 108, 101, 97, 110]⟩ else if k = 3 then ⟨#[110, 117, 109, 98, 101, 114]⟩ else if k = 4 then ⟨#[115, 116, 114, 105, 110, 103]⟩ else if k = 5 then ⟨#[97, 114, 114, 97, 121]⟩ else ⟨#[111, 98, 106, 101, 99, 116]⟩
set_option maxRecDepth 100000 in
set_option maxHeartbeats 2000000 in
theorem Name_any (v : V) (a1 : Option Addr) (n1 c1 : Nat) (a2 : Option Addr) (n2 c2 : Nat) (h0 : 0 ≤ v.k) (h6 : v.k ≤ 6) (w : World) :
    Calls Tryz.prog 220 #[.agg (cellsV v (.slice a1 n1 c1) (.slice a2 n2 c2))] w fun e w' => e = .returned (.string (nameV v.k)) ∧ Below w.heap.size w w' := by
  unfold cellsV
  obtain ⟨k, hk⟩ : ∃ k, v.k = k := ⟨_, rfl⟩
  rw [hk] at h0 h6 ⊢
  have hc : k = 0 ∨ k = 1 ∨ k = 2 ∨ k = 3 ∨ k = 4 ∨ k = 5 ∨ k = 6 := by omega
  clear hk
  rcases hc with rfl | rfl | rfl | rfl | rfl | rfl | rfl
  all_goals
    go_enter Tryz.func220, Tryz.ntmps220
    go_wp2_with fail
    go_ret
    exact ⟨rfl, (Below.refl _ _).alloc (Nat.le_refl _) _⟩
def truthV (k : Int) : Bool := decide (1 < k)
end Go.Proofs.YtpobdmkidopnnaaGreatDoor
namespace Go.Proofs.YtpobdmkidopnnaaGreatDoor
open Go Go.RowKit

/-- Values with nothing in them. -/
def leafV (k : Int) (f : Nat) (s : ByteArray) : V := .mk k f s [] []
def numV (f : Nat) : V := leafV 3 f ⟨#[]⟩
def strV (s : ByteArray) : V := leafV 4 0 s
def nilS : Value := .slice none 0 0
theorem caps_nil : Caps nilS := fun A n c e => by cases e; exact ⟨Nat.le_refl _, by unfold maxLen; omega, fun _ => rfl⟩
theorem leaf_atP (w : World) (p : Nat → Prop) (m : Nat) (k : Int) (f : Nat) (s : ByteArray) (hk : -9223372036854775808 ≤ k ∧ k ≤ 9223372036854775807) (hf : f < 18446744073709551616) (hs : s.size ≤ 1048576) : AtP w p (m + 1) (leafV k f s) nilS nilS :=
  ⟨⟨hk.1, hk.2, hf, hs, Nat.zero_le _, Nat.zero_le _, Nat.zero_le _⟩, ⟨⟨none, 0, rfl, fun h => absurd h (by simp [leafV, V.ks])⟩, caps_nil⟩, caps_nil, none, 0, 0, 0, rfl, fun h => absurd h (by simp [leafV, V.l]), fun i h => absurd h (by simp [leafV, V.l])⟩
theorem leaf_at (w : World) (B m : Nat) (k : Int) (f : Nat) (s : ByteArray) (hk : -9223372036854775808 ≤ k ∧ k ≤ 9223372036854775807) (hf : f < 18446744073709551616) (hs : s.size ≤ 1048576) : At w B (m + 1) (leafV k f s) nilS nilS := leaf_atP w _ m k f s hk hf hs
set_option maxHeartbeats 400000 in
theorem Num_any (f : Nat) (w : World) : Calls Tryz.prog 38 #[.float .f64 f] w fun e w' => e = .returned (.agg #[.int .i64 3, .float .f64 f, .string ⟨#[]⟩, .slice none 0 0, .slice none 0 0]) ∧ Below w.heap.size w w' := by
  have hsf := run_store_float Tryz.prog
  obtain ⟨i0, hi0, hz0, hz1, hz2⟩ := info_parts infoVal
  go_enter Tryz.func38, Tryz.ntmps38
  go_wp2_with fail
  refine bodyPost_ret_by (results_cell_row rfl _ _ w.heap.size 27 _ (0, 0) _ rfl (heap_alloc_new w _) Tryz.underlying27 rfl (by rw [hi0]; simp [hz1])) rfl ?_
  exact ⟨rfl, (Below.refl w.heap.size w).alloc (Nat.le_refl _) _⟩
set_option maxHeartbeats 400000 in
theorem Str_any (s : ByteArray) (w : World) : Calls Tryz.prog 22 #[.string s] w fun e w' => e = .returned (.agg #[.int .i64 4, .float .f64 0, .string s, .slice none 0 0, .slice none 0 0]) ∧ Below w.heap.size w w' := by
  have hsf := run_store_float Tryz.prog
  obtain ⟨i0, hi0, hz0, hz1, hz2⟩ := info_parts infoVal
  go_enter Tryz.func22, Tryz.ntmps22
  go_wp2_with fail
  refine bodyPost_ret_by (results_cell_row rfl _ _ w.heap.size 27 _ (0, 0) _ rfl (heap_alloc_new w _) Tryz.underlying27 rfl (by rw [hi0]; simp [hz1])) rfl ?_
  exact ⟨rfl, (Below.refl w.heap.size w).alloc (Nat.le_refl _) _⟩
/-- {s: f} -/
def objV (s : ByteArray) (f : Nat) : V := .mk 6 0 ⟨#[]⟩ [numV f] [s]
theorem set5_below0 {B R : Nat} {w w' : World} (h : Below B w w') (q : B ≤ R) (x0 x1 x2 x3 x4 : Value) : Below B w (set5 w' R x0 x1 x2 x3 x4) := by
  unfold set5
  exact ((((h.setCell (p := ⟨R, 0, none⟩) q x0).setCell (p := ⟨R, 1, none⟩) q x1).setCell (p := ⟨R, 2, none⟩) q x2).setCell (p := ⟨R, 3, none⟩) q x3).setCell (p := ⟨R, 4, none⟩) q x4
theorem obj_at {W : World} {g1 g2 n : Nat} {s : ByteArray} {f : Nat} (hn : W.heap.size = n) (h2 : W.heap[g2]? = some (.cells #[.string s] 9 (0, 0))) (h1 : W.heap[g1]? = some (.cells #[.int .i64 3, .float .f64 f, .string ⟨#[]⟩, .slice none 0 0, .slice none 0 0] 27 (0, 0)))
    (hs : s.size ≤ 1000) (hf : f < 18446744073709551616) (hg : g2 < n ∧ g1 < n) : At W W.heap.size 2 (objV s f) (.slice (some ⟨g1, 0, none⟩) 1 1) (.slice (some ⟨g2, 0, none⟩) 1 1) := by
  obtain ⟨c0, c1, c2, c3, c4, _⟩ := row5 h1
  have hcap : ∀ g, Caps (.slice (some ⟨g, 0, none⟩) 1 1) := fun g A n c e => by cases e; exact ⟨Nat.le_refl _, by unfold maxLen; omega, fun e => by cases e⟩
  refine ⟨⟨by simp [objV, V.k], by simp [objV, V.k], by simp [objV, V.f], by show (⟨#[]⟩ : ByteArray).size ≤ _; decide, by simp [objV, V.l], by simp [objV, V.ks], by simp [objV, V.ks, keysLen]; omega⟩, ⟨⟨some ⟨g2, 0, none⟩, 1, rfl, fun _ => ⟨_, rfl, by show g2 < W.heap.size; omega, ?_⟩⟩, hcap _⟩, hcap _, some ⟨g1, 0, none⟩, 1, g1, 0, rfl, fun _ => ⟨rfl, by show g1 < W.heap.size; omega⟩, ?_⟩
  · intro j u hu
    have hu : ([Value.string s] : List Value)[j]? = some u := hu
    cases j with
    | zero => simp at hu; subst hu; simp [Addr.add, World.cell?, h2]
    | succ j => simp at hu
  · intro i hi
    have hi : i < 1 := hi
    obtain rfl : i = 0 := by omega
    exact ⟨nilS, nilS, ⟨c0, c1, c2, c3, c4⟩, leaf_at W _ 0 3 f ⟨#[]⟩ (by omega) hf (by decide)⟩
end Go.Proofs.YtpobdmkidopnnaaGreatDoor
namespace Go.Proofs.YtpobdmkidopnnaaGreatDoor
open Go Go.RowKit

theorem results_two_rows {P : Program} {fn : Func} {p q : Tmp} {ty tz : TypeId} (h : fn.results = #[.cell p ty, .cell q tz]) (tmps : Array Value) (w : World) (g1 g2 : Nat) (t1 t2 : TypeId) (cs1 cs2 : Array Value) (fr1 fr2 : Nat × Nat) (d1 d2 : TypeDesc)
    (hp : tmps.getD p undef = .pointer (some ⟨g1, 0, none⟩)) (hq : tmps.getD q undef = .pointer (some ⟨g2, 0, none⟩)) (hg1 : w.heap[g1]? = some (.cells cs1 t1 fr1)) (hg2 : w.heap[g2]? = some (.cells cs2 t2 fr2))
    (hu1 : P.underlying ty = some d1) (hd1 : (match d1 with | .struct _ | .array _ _ => true | _ => false) = true) (hi1 : (P.info? ty).map (·.size) = some cs1.size)
    (hu2 : P.underlying tz = some d2) (hd2 : (match d2 with | .struct _ | .array _ _ => true | _ => false) = true) (hi2 : (P.info? tz).map (·.size) = some cs2.size) :
    (results fn tmps).run P w = .ok (.tuple #[.agg cs1, .agg cs2]) w := by
  have hp' : tmps[p]?.getD undef = .pointer (some ⟨g1, 0, none⟩) := by simpa using hp
  have hq' : tmps[q]?.getD undef = .pointer (some ⟨g2, 0, none⟩) := by simpa using hq
  simp [results, h, hp', hq', asAddr, run_loadVar_row w g1 t1 ty cs1 fr1 d1 hg1 hu1 hd1 hi1, run_loadVar_row w g2 t2 tz cs2 fr2 d2 hg2 hu2 hd2 hi2]
theorem results_row_tmp {P : Program} {fn : Func} {p q : Tmp} {ty : TypeId} (h : fn.results = #[.cell p ty, .tmp q]) (tmps : Array Value) (w : World) (g1 : Nat) (t1 : TypeId) (cs1 : Array Value) (fr1 : Nat × Nat) (d1 : TypeDesc) (x : Value)
    (hp : tmps.getD p undef = .pointer (some ⟨g1, 0, none⟩)) (hq : tmps.getD q undef = x) (hg1 : w.heap[g1]? = some (.cells cs1 t1 fr1))
    (hu1 : P.underlying ty = some d1) (hd1 : (match d1 with | .struct _ | .array _ _ => true | _ => false) = true) (hi1 : (P.info? ty).map (·.size) = some cs1.size) :
    (results fn tmps).run P w = .ok (.tuple #[.agg cs1, x]) w := by
  have hp' : tmps[p]?.getD undef = .pointer (some ⟨g1, 0, none⟩) := by simpa using hp
  have hq' : tmps[q]?.getD undef = x := by simpa using hq
  simp [results, h, hp', hq', asAddr, run_loadVar_row w g1 t1 ty cs1 fr1 d1 hg1 hu1 hd1 hi1]
theorem infoErr : (Tryz.prog.info? 32).map (·.size) = some 6 := by kernel_rfl
theorem sizeVal : (Tryz.prog.info? 27).map (·.size) = some 5 := by kernel_rfl
theorem two_new (w : World) (o1 o2 : Obj) : ((w.alloc o1).alloc o2).heap[w.heap.size]? = some o1 ∧ ((w.alloc o1).alloc o2).heap[w.heap.size + 1]? = some o2 := by
  refine ⟨row_alloc3 (heap_alloc_new w o1) o2, ?_⟩
  have := heap_alloc_new (w.alloc o1) o2
  rw [World.size_alloc] at this
  exact this
def zeroA : Array Value := #[.int .i64 0, .float .f64 0, .string ⟨#[]⟩, .slice none 0 0, .slice none 0 0]
def errA (s : ByteArray) : Array Value := #[.bool true, .int .i64 4, .float .f64 0, .string s, .slice none 0 0, .slice none 0 0]
def okA : Array Value := #[.bool false, .int .i64 0, .float .f64 0, .string ⟨#[]⟩, .slice none 0 0, .slice none 0 0]
def tellB (m : Nat) (v : V) : ByteArray := nameV v.k ++ ⟨#[32, 40]⟩ ++ ⟨(textV m v).toArray⟩ ++ ⟨#[41]⟩
theorem name_size (k : Int) : (nameV k).size ≤ 7 := by
  unfold nameV
  split; decide
  split; decide
  split; decide
  split; decide
  split <;> decide
end Go.Proofs.YtpobdmkidopnnaaGreatDoor
namespace Go.Proofs.YtpobdmkidopnnaaGreatDoor
open Go Go.RowKit

/-- Four blocks of a call's own: two arguments', two results'. -/
structure R4 (n : Nat) (A B C D : Array Value) (W : World) : Prop where
  r0 : W.heap[n]? = some (.cells A 27 (0, 0))
  r1 : W.heap[n + 1]? = some (.cells B 27 (0, 0))
  r2 : W.heap[n + 2]? = some (.cells C 27 (0, 0))
  r3 : W.heap[n + 3]? = some (.cells D 32 (0, 0))
theorem R4.lt {n : Nat} {A B C D : Array Value} {W : World} (h : R4 n A B C D W) : n + 3 < W.heap.size := (Array.getElem?_eq_some_iff.1 h.r3).1
theorem R4.below {n : Nat} {A B C D : Array Value} {W W' : World} (h : R4 n A B C D W) (hb : Below W.heap.size W W') : R4 n A B C D W' := by
  have := h.lt
  exact ⟨(hb.block _ (by omega)).trans h.r0, (hb.block _ (by omega)).trans h.r1, (hb.block _ (by omega)).trans h.r2, (hb.block _ (by omega)).trans h.r3⟩
theorem R4.new (w : World) (A B C D : Array Value) : R4 w.heap.size A B C D ((((w.alloc (.cells A 27)).alloc (.cells B 27)).alloc (.cells C 27)).alloc (.cells D 32)) := by
  have e1 := heap_alloc_new (w.alloc (.cells A 27)) (.cells B 27)
  have e2 := heap_alloc_new ((w.alloc (.cells A 27)).alloc (.cells B 27)) (.cells C 27)
  have e3 := heap_alloc_new (((w.alloc (.cells A 27)).alloc (.cells B 27)).alloc (.cells C 27)) (.cells D 32)
  rw [World.size_alloc] at e1
  rw [World.size_alloc, World.size_alloc] at e2
  rw [World.size_alloc, World.size_alloc, World.size_alloc] at e3
  exact ⟨row_alloc3 (row_alloc3 (row_alloc3 (heap_alloc_new w _) _) _) _, row_alloc3 (row_alloc3 e1 _) _, row_alloc3 e2 _, e3⟩
theorem four_below (w : World) (o1 o2 o3 o4 : Obj) : Below w.heap.size w ((((w.alloc o1).alloc o2).alloc o3).alloc o4) :=
  ((((Below.refl w.heap.size w).alloc (Nat.le_refl _) o1).alloc (by simp) o2).alloc (by simp; omega) o3).alloc (by simp; omega) o4
/-- What the two results' cells hold, and that they may be written. -/
theorem R4.outs {n : Nat} {A B : Array Value} {W : World} (h : R4 n A B zeroA okA W) :
    (W.cell? ⟨n + 2, 0, none⟩ = some (.int .i64 0) ∧ W.cell? ⟨n + 2, 1, none⟩ = some (.float .f64 0) ∧ W.cell? ⟨n + 2, 2, none⟩ = some (.string ⟨#[]⟩) ∧ W.cell? ⟨n + 2, 3, none⟩ = some (.slice none 0 0) ∧ W.cell? ⟨n + 2, 4, none⟩ = some (.slice none 0 0)) ∧
    (W.cell? ⟨n + 3, 0, none⟩ = some (.bool false) ∧ W.cell? ⟨n + 3, 1, none⟩ = some (.int .i64 0) ∧ W.cell? ⟨n + 3, 2, none⟩ = some (.float .f64 0) ∧ W.cell? ⟨n + 3, 3, none⟩ = some (.string ⟨#[]⟩) ∧ W.cell? ⟨n + 3, 4, none⟩ = some (.slice none 0 0) ∧ W.cell? ⟨n + 3, 5, none⟩ = some (.slice none 0 0)) ∧
    (∀ q, W.frozen? ⟨n + 2, q, none⟩ = false) ∧ (∀ q, W.frozen? ⟨n + 3, q, none⟩ = false) := by
  refine ⟨?_, ?_, fun q => ?_, fun q => ?_⟩
  · simp [World.cell?, h.r2, zeroA]
  · simp [World.cell?, h.r3, okA]
  · simp [World.frozen?, h.r2]
  · simp [World.frozen?, h.r3]
def set6 (w : World) (R : Nat) (x0 x1 x2 x3 x4 x5 : Value) : World := (set5 w R x0 x1 x2 x3 x4).setCell ⟨R, 5, none⟩ x5
theorem set6_row {w : World} {R : Nat} {u0 u1 u2 u3 u4 u5 : Value} {t : TypeId} (h : w.heap[R]? = some (.cells #[u0, u1, u2, u3, u4, u5] t (0, 0))) (x0 x1 x2 x3 x4 x5 : Value) : (set6 w R x0 x1 x2 x3 x4 x5).heap[R]? = some (.cells #[x0, x1, x2, x3, x4, x5] t (0, 0)) :=
  row_setAt (row_setAt (row_setAt (row_setAt (row_setAt (row_setAt h 0 x0) 1 x1) 2 x2) 3 x3) 4 x4) 5 x5
theorem set6_other {w : World} {R k : Nat} (h : k ≠ R) (x0 x1 x2 x3 x4 x5 : Value) : (set6 w R x0 x1 x2 x3 x4 x5).heap[k]? = w.heap[k]? := by
  unfold set6
  rw [setCell_other_block _ h, set5_other h]
theorem set6_below {B R : Nat} {w w' : World} (h : Below B w w') (q : B ≤ R) (x0 x1 x2 x3 x4 x5 : Value) : Below B w (set6 w' R x0 x1 x2 x3 x4 x5) := (set5_below0 h q ..).setCell (p := ⟨R, 5, none⟩) q _
/-- The end of a call that answers a value and an error: both stored, both read. -/
theorem R4.ends {n : Nat} {A B : Array Value} {W w : World} (h : R4 n A B zeroA okA W) (hb : Below n w W) (x0 x1 x2 x3 x4 y0 y1 y2 y3 y4 y5 : Value) :
    (set6 (set5 W (n + 2) x0 x1 x2 x3 x4) (n + 3) y0 y1 y2 y3 y4 y5).heap[n + 2]? = some (.cells #[x0, x1, x2, x3, x4] 27 (0, 0)) ∧
    (set6 (set5 W (n + 2) x0 x1 x2 x3 x4) (n + 3) y0 y1 y2 y3 y4 y5).heap[n + 3]? = some (.cells #[y0, y1, y2, y3, y4, y5] 32 (0, 0)) ∧
    Below n w (set6 (set5 W (n + 2) x0 x1 x2 x3 x4) (n + 3) y0 y1 y2 y3 y4 y5) :=
  ⟨(set6_other (by omega) ..).trans (set5_row h.r2 ..), set6_row ((set5_other (by omega) ..).trans h.r3) .., set6_below (set5_below0 hb (by omega) ..) (by omega) ..⟩
theorem R4.ends2 {n : Nat} {A B : Array Value} {W w : World} (h : R4 n A B zeroA okA W) (hb : Below n w W) (x0 x1 x2 x3 x4 y0 y1 y2 y3 y4 y5 : Value) :
    (set5 (set6 W (n + 3) y0 y1 y2 y3 y4 y5) (n + 2) x0 x1 x2 x3 x4).heap[n + 2]? = some (.cells #[x0, x1, x2, x3, x4] 27 (0, 0)) ∧
    (set5 (set6 W (n + 3) y0 y1 y2 y3 y4 y5) (n + 2) x0 x1 x2 x3 x4).heap[n + 3]? = some (.cells #[y0, y1, y2, y3, y4, y5] 32 (0, 0)) ∧
    Below n w (set5 (set6 W (n + 3) y0 y1 y2 y3 y4 y5) (n + 2) x0 x1 x2 x3 x4) :=
  ⟨set5_row ((set6_other (by omega) ..).trans h.r2) .., (set5_other (by omega) ..).trans (set6_row h.r3 ..), set5_below0 (set6_below hb (by omega) ..) (by omega) ..⟩
end Go.Proofs.YtpobdmkidopnnaaGreatDoor
