/- The document's reading: zones. -/
import Derived.Test.YtpjncnoejdaplaaGreatDoorLBH
import Derived.Test.YtpjncnoejdaplaaGreatDoorLAL
import Derived.Test.YtpjncnoejdaplaaGreatDoorLAY
import Derived.LoopTactic
import Derived.StillTailTactics
import Derived.Test.YtpjncnoejdaplaaGreatDoorLBB
import Derived.Test.YtpjncnoejdaplaaGreatDoorLAT
namespace Go.Proofs.YtpjncnoejdaplaaGreatDoor
open Go Go.RowKit Go.Shelf

set_option maxRecDepth 100000 in
set_option maxHeartbeats 4000000 in
theorem rzone_any (rb : Nat) (r : Dr) (hl : r.s.length ≤ 70368744177664) (w : World) (h : DrAt w rb r) :
    Calls Tryz.prog 152 #[.pointer (some ⟨rb, 0, none⟩)] w fun e w' => e = .returned (.tuple #[]) ∧ DrPost rb w (zoneD r) w' := by
  have hl2 := drop_len (p := blankB) r.s
  have HR := Lib.hid h
  clear h
  obtain ⟨l, hls⟩ : ∃ l, r.s.dropWhile blankB = l := ⟨_, rfl⟩
  have HB := Lib.hid (show zoneD r = if l.head? = some 90 then r.left l.tail else if l.head? = some 43 ∨ l.head? = some 45 then pairD (colonD (pairD (r.left l.tail))) else (r.left l).err from by unfold zoneD; rw [hls])
  have HL := Lib.hid hl
  rw [hls] at hl2
  have hl3 : l.length ≤ 70368744177664 := by omega
  have HS := Lib.hid hls
  clear hl hl2 hls
  go_enter Tryz.func152, Tryz.ntmps152
  go_wp2_with fail
  refine (rblanks_any rb r HL.out _ HR.out).mono ?_
  rw [HS.out]
  rintro e w1 ⟨rfl, h1⟩
  have H1 := Lib.hid h1
  have c0 : w1.cell? ⟨rb, 0, none⟩ = some (.string ⟨l.toArray⟩) := h1.1.cell 0 _ rfl
  have z0 := h1.1.ice 0
  have z1 := h1.1.ice 1
  have c1 : w1.cell? ⟨rb, 1, none⟩ = some (.bool r.bad) := h1.1.cell 1 _ rfl
  clear h1 HS
  cases l with
  | nil =>
    have e := HB.out
    rw [if_neg (by simp), if_neg (by simp)] at e
    have HE := Lib.hid e
    clear e HB
    go_wp2_with fail
    refine bodyPost_ret (results_none rfl _ _ _) rfl ?_
    rw [HE.out]
    exact ⟨rfl, H1.out.setBad⟩
  | cons c l =>
    obtain ⟨s, hs⟩ : ∃ s : ByteArray, (⟨(c :: l).toArray⟩ : ByteArray) = s := ⟨_, rfl⟩
    obtain ⟨k1, k2, k3⟩ := head_byte c l s hs
    have k4 := k2 k1
    have hsz : s.size = l.length + 1 := by rw [← hs]; simp [ByteArray.size]
    rw [hs] at c0
    rw [List.length_cons] at hl3
    have hb1 : s.size ≤ 70368744177664 := by omega
    have hz : ((s.size : Int) == 0) = false := by rw [beq_eq_false_iff_ne]; omega
    rw [List.head?_cons, List.tail_cons] at HB
    clear hs k2 hsz
    by_cases a1 : c = 90
    · subst a1
      have e := HB.out
      rw [if_pos rfl] at e
      have HE := Lib.hid e
      clear e HB
      go_wp2_with fail
      refine bodyPost_ret (results_none rfl _ _ _) rfl ?_
      rw [HE.out]
      exact ⟨rfl, H1.out.setS _⟩
    · have a1' : ((c.toNat : Int) == 90) = false := by
        rw [beq_eq_false_iff_ne]
        intro e
        exact a1 (UInt8.toNat_inj.1 (by show c.toNat = 90; omega))
      by_cases a2 : c = 43 ∨ c = 45
      · have e := HB.out
        rw [if_neg (by simpa using a1), if_pos (by simpa using a2)] at e
        have HE := Lib.hid e
        obtain ⟨r2, hr2⟩ : ∃ r2, pairD (r.left l) = r2 := ⟨_, rfl⟩
        have hr2l := pairD_len (r.left l)
        rw [hr2] at hr2l
        have hl4 : r2.s.length ≤ 70368744177664 := Nat.le_trans hr2l (by show l.length ≤ _; omega)
        rw [hr2] at HE
        have HP : Hid (∀ W, DrPost rb w (r.left l) W → Calls Tryz.prog 172 #[.pointer (some ⟨rb, 0, none⟩)] W fun e w' => e = .returned (.tuple #[]) ∧ DrPost rb w r2 w') := Lib.hid (fun W hW => (rpair_any rb (r.left l) (by show l.length ≤ _; omega) W hW.1).mono (fun e w' ⟨x1, x2⟩ => ⟨x1, by rw [← hr2]; exact hW.trans x2⟩))
        have HS2 := Lib.hid (H1.out.setS l)
        clear e HB hr2 hr2l
        have a3 : ((c.toNat : Int) != 43) = false ∨ (((c.toNat : Int) != 43) = true ∧ ((c.toNat : Int) != 45) = false) := by
          rcases a2 with rfl | rfl
          · exact .inl (by decide)
          · exact .inr ⟨by decide, by decide⟩
        clear a1 a2
        rcases a3 with a3 | ⟨a3, a4⟩
        all_goals
          go_wp2_with fail
          refine (HP.out _ HS2.out).mono ?_
          rintro e w2 ⟨rfl, h2⟩
          have H2 := Lib.hid h2
          have c2 : w2.cell? ⟨rb, 0, none⟩ = some (.string ⟨r2.s.toArray⟩) := h2.1.cell 0 _ rfl
          have z2 := h2.1.ice 0
          clear h2
          obtain ⟨l2, hl5⟩ : ∃ l2, r2.s = l2 := ⟨_, rfl⟩
          rw [hl5] at c2 hl4
          have HC : Hid (colonD r2 = if l2.head? = some 58 then r2.left l2.tail else r2) := Lib.hid (by unfold colonD; rw [hl5])
          have HL5 := Lib.hid hl5
          clear hl5 c0 z0 z1 c1
          cases l2 with
          | nil =>
            have e2 := HC.out
            rw [if_neg (by simp)] at e2
            have HE2 := Lib.hid e2
            clear e2 HC
            go_wp2_with fail
            refine (rpair_any rb r2 (by rw [HL5.out]; exact hl4) _ H2.out.1).mono ?_
            rintro e w3 ⟨rfl, h3⟩
            have H3 := Lib.hid (H2.out.trans h3)
            clear h3
            go_wp2_with fail
            go_end0
            rw [HE.out, HE2.out]
            exact ⟨rfl, H3.out⟩
          | cons d l2 =>
            obtain ⟨s2, hs2⟩ : ∃ s : ByteArray, (⟨(d :: l2).toArray⟩ : ByteArray) = s := ⟨_, rfl⟩
            obtain ⟨m1, m2, m3⟩ := head_byte d l2 s2 hs2
            have m4 := m2 m1
            have msz : s2.size = l2.length + 1 := by rw [← hs2]; simp [ByteArray.size]
            rw [hs2] at c2
            rw [List.length_cons] at hl4
            have mb1 : s2.size ≤ 70368744177664 := by omega
            rw [List.head?_cons, List.tail_cons] at HC
            clear hs2 m2 msz
            by_cases b1 : d = 58
            · subst b1
              have e2 := HC.out
              rw [if_pos rfl] at e2
              have HE2 := Lib.hid e2
              have HS3 := Lib.hid (H2.out.setS l2)
              clear e2 HC
              go_wp2_with fail
              refine (rpair_any rb (r2.left l2) (by show l2.length ≤ _; omega) _ HS3.out.1).mono ?_
              rintro e w3 ⟨rfl, h3⟩
              have H3 := Lib.hid (HS3.out.trans h3)
              clear h3
              go_wp2_with fail
              go_end0
              rw [HE.out, HE2.out]
              exact ⟨rfl, H3.out⟩
            · have b1' : ((d.toNat : Int) == 58) = false := by
                rw [beq_eq_false_iff_ne]
                intro e
                exact b1 (UInt8.toNat_inj.1 (by show d.toNat = 58; omega))
              have e2 := HC.out
              rw [if_neg (by simpa using b1)] at e2
              have HE2 := Lib.hid e2
              clear e2 HC
              go_wp2_with fail
              refine (rpair_any rb r2 (by rw [HL5.out, List.length_cons]; exact hl4) _ H2.out.1).mono ?_
              rintro e w3 ⟨rfl, h3⟩
              have H3 := Lib.hid (H2.out.trans h3)
              clear h3
              go_wp2_with fail
              go_end0
              rw [HE.out, HE2.out]
              exact ⟨rfl, H3.out⟩
      · have e := HB.out
        rw [if_neg (by simpa using a1), if_neg (by simpa using a2)] at e
        have HE := Lib.hid e
        have a3 : ((c.toNat : Int) != 43) = true := by
          rw [bne_iff_ne]
          intro e
          exact a2 (.inl (UInt8.toNat_inj.1 (by show c.toNat = 43; omega)))
        have a4 : ((c.toNat : Int) != 45) = true := by
          rw [bne_iff_ne]
          intro e
          exact a2 (.inr (UInt8.toNat_inj.1 (by show c.toNat = 45; omega)))
        clear e HB a1 a2
        go_wp2_with fail
        refine bodyPost_ret (results_none rfl _ _ _) rfl ?_
        rw [HE.out]
        exact ⟨rfl, H1.out.setBad⟩
end Go.Proofs.YtpjncnoejdaplaaGreatDoor
namespace Go.Proofs.YtpjncnoejdaplaaGreatDoor
open Go Go.RowKit Go.Shelf

def Dr.timed (r : Dr) (x : Int) : Dr := { r with all := true, at' := x }
theorem DrPost.setTimed {rb : Nat} {w w1 : World} {r : Dr} (h : DrPost rb w r w1) (x : Int) : DrPost rb w (r.timed x) ((w1.setCell ⟨rb, 16, none⟩ (.bool true)).setCell ⟨rb, 17, none⟩ (.int .i64 x)) := ⟨row_setAt (row_setAt h.1 16 _) 17 _, Lib.grownBy_setB (Lib.grownBy_setB h.2 16 _) 17 _⟩
theorem rSplit_known (a : Int) (h1 : -1000000000000 ≤ a) (h2 : a ≤ 1000000000000) : ∃ (y m d h i : Int) (s : Nat) (wd yd : Int), ∀ w, Calls Tryz.prog 19 #[.float .f64 (fI a)] w fun e w' => e = .returned (.tuple #[.agg (timeV y m d h i s wd yd), .int .i64 (if knownS a then 0 else 110)]) ∧ Below w.heap.size w w' := by
  have hz := (fI_is a (by omega) (by omega)).1
  have hf := flI_fI a (by omega) (by omega)
  by_cases hk : knownS a
  · obtain ⟨k1, k2⟩ := hk
    obtain ⟨y, m, d, hD, hN⟩ := num_ex (a / 86400) k1 k2
    have e := fun w => refSplit_of (fI a) hz y m d (a % 86400) hD (by rw [hf]; exact hN.symm) (by rw [hf]) w
    rw [if_pos ⟨k1, k2⟩]
    exact ⟨_, _, _, _, _, _, _, _, e⟩
  · have e := fun w => refSplit_out _ hz (by rw [hf]; omega) (by rw [hf]; omega) (by rw [hf]; unfold knownS at hk; omega) w
    rw [if_neg hk]
    exact ⟨_, _, _, _, _, _, _, _, e⟩
/-- The seconds without their sign; then all of them. -/
def secA (r : Dr) : List UInt8 := if r.s.head? = some 45 then r.s.tail else r.s
def secN (r : Dr) : Int := if r.s.head? = some 45 then -digN 12 (secA r) else digN 12 (secA r)
def secD (r : Dr) : Dr :=
  if digK 12 (secA r) = 0 then (r.left ((secA r).drop (digK 12 (secA r)))).err
  else if knownS (secN r) then (r.left ((secA r).drop (digK 12 (secA r)))).timed (secN r) else (r.left ((secA r).drop (digK 12 (secA r)))).err.timed (secN r)
set_option maxRecDepth 100000 in
set_option maxHeartbeats 4000000 in
theorem rsec_any (rb : Nat) (r : Dr) (hl : r.s.length ≤ 70368744177664) (w : World) (h : DrAt w rb r) :
    Calls Tryz.prog 149 #[.pointer (some ⟨rb, 0, none⟩)] w fun e w' => e = .returned (.tuple #[]) ∧ DrPost rb w (secD r) w' := by
  have hsf := run_store_float Tryz.prog
  have hci := conv_int
  have HR := Lib.hid h.grown
  have c0 : w.cell? ⟨rb, 0, none⟩ = some (.string ⟨r.s.toArray⟩) := h.cell 0 _ rfl
  have z0 := h.ice 0
  clear h
  obtain ⟨l, hls⟩ : ∃ l, secA r = l := ⟨_, rfl⟩
  obtain ⟨a, ha⟩ : ∃ a, secN r = a := ⟨_, rfl⟩
  obtain ⟨K, hK⟩ : ∃ K, digK 12 l = K := ⟨_, rfl⟩
  obtain ⟨N, hN⟩ : ∃ N, digN 12 l = N := ⟨_, rfl⟩
  have hbd := digN_bd 12 (by omega) l
  rw [hN] at hbd
  have HB : Hid (secD r = if K = 0 then (r.left (l.drop K)).err else if knownS a then (r.left (l.drop K)).timed a else (r.left (l.drop K)).err.timed a) := Lib.hid (by unfold secD; rw [hls, ha, hK])
  have key : (r.s = l ∧ a = N ∧ r.s.head? ≠ some 45) ∨ (r.s = 45 :: l ∧ a = -N) := by
    by_cases hh : r.s.head? = some 45
    · right
      have e1 : l = r.s.tail := by rw [← hls]; unfold secA; rw [if_pos hh]
      constructor
      · cases hr : r.s with
        | nil => rw [hr] at hh; cases hh
        | cons c m => rw [hr] at hh e1; rw [List.head?_cons] at hh; rw [Option.some.inj hh, e1, List.tail_cons]
      · rw [← ha]; unfold secN; rw [if_pos hh, hls, hN]
    · left
      refine ⟨by rw [← hls]; unfold secA; rw [if_neg hh], ?_, hh⟩
      rw [← ha]; unfold secN; rw [if_neg hh, hls, hN]
  have HKN : Hid (digK 12 l = K ∧ digN 12 l = N) := Lib.hid ⟨hK, hN⟩
  have hab : -1000000000000 ≤ a ∧ a ≤ 1000000000000 := by omega
  obtain ⟨y, m, d, hh, i, ss, wd, yd, hSp⟩ := rSplit_known a hab.1 hab.2
  obtain ⟨c, hc⟩ : ∃ c : Int, (if knownS a then 0 else 110) = c := ⟨_, rfl⟩
  rw [hc] at hSp
  have HSp := Lib.hid hSp
  have HCd := Lib.hid hc
  obtain ⟨a1, a2⟩ := hab
  obtain ⟨v1, v2⟩ := hbd
  clear hSp hc hls ha hK hN
  unfold timeV at HSp
  have HD : Hid (∀ W, DrPost rb w (r.left l) W → Calls Tryz.prog 170 #[.pointer (some ⟨rb, 0, none⟩), .int .i64 12] W fun e w' => e = .returned (.tuple #[.int .i64 N, .bool (decide (0 < K))]) ∧ DrPost rb w (r.left (l.drop K)) w') := Lib.hid (fun W hW => by
    have hll : l.length ≤ 70368744177664 := by
      rcases key with ⟨e, _⟩ | ⟨e, _⟩
      · rw [← e]; exact hl
      · rw [e, List.length_cons] at hl; omega
    refine (rdigits_any 12 (by omega) rb (r.left l) hll W hW.1).mono ?_
    rw [show (r.left l).s = l from rfl, HKN.out.1, HKN.out.2]
    rintro e w' ⟨x1, x2⟩
    exact ⟨x1, hW.trans x2⟩)
  have HG : Hid (∀ W, DrPost rb w (r.left (l.drop K)) W → ∀ o, DrPost rb w (r.left (l.drop K)) (W.alloc o)) := Lib.hid (fun W hW o => hW.below ((Below.refl _ _).alloc (Nat.le_refl _) o))
  have start : (∃ s : ByteArray, r.s = 45 :: l ∧ a = -N ∧ (⟨r.s.toArray⟩ : ByteArray) = s) ∨ (r.s = [] ∧ l = [] ∧ a = N) ∨ (∃ (c : UInt8) (m : List UInt8), r.s = c :: m ∧ l = c :: m ∧ a = N ∧ c ≠ 45) := by
    rcases key with ⟨e1, e2, e3⟩ | ⟨e1, e2⟩
    · right
      cases hr : r.s with
      | nil => exact .inl ⟨rfl, by rw [← e1, hr], e2⟩
      | cons c m =>
        right
        refine ⟨c, m, rfl, by rw [← e1, hr], e2, ?_⟩
        intro e
        apply e3
        rw [hr, e, List.head?_cons]
    · exact .inl ⟨_, e1, e2, rfl⟩
  clear key
  have hw0 : r.s = l → DrPost rb w (r.left l) w := fun e => by rw [← e]; exact HR.out
  rcases start with ⟨s, e1, e2, hs⟩ | ⟨e1, e4, e2⟩ | ⟨c', m', e1, e4, e2, e3⟩
  case' inl =>
    have HS1 := Lib.hid (HR.out.setS l)
    rw [hs] at c0
    rw [e1] at hs hl
    rw [List.length_cons] at hl
    obtain ⟨k1, k2, k3⟩ := head_byte 45 l s hs
    have k4 := k2 k1
    have hsz : s.size = l.length + 1 := by rw [← hs]; simp [ByteArray.size]
    have hb1 : s.size ≤ 70368744177664 := by omega
    have HE2 := Lib.hid e2
    clear hs k2 hsz e1 e2 hl hw0
    go_enter Tryz.func149, Tryz.ntmps149
    go_wp2_with fail
  case' inr.inl =>
    have HS1 := Lib.hid (hw0 (by rw [e1, e4]))
    rw [e1] at c0
    have HE2 := Lib.hid e2
    clear e1 e2 e4 hl hw0
    go_enter Tryz.func149, Tryz.ntmps149
    go_wp2_with fail
  case' inr.inr =>
    have HS1 := Lib.hid (hw0 (by rw [e1, e4]))
    rw [e1] at c0 hl
    rw [List.length_cons] at hl
    obtain ⟨s, hs⟩ : ∃ s : ByteArray, (⟨(c' :: m').toArray⟩ : ByteArray) = s := ⟨_, rfl⟩
    obtain ⟨k1, k2, k3⟩ := head_byte c' m' s hs
    have k4 := k2 k1
    have hsz : s.size = m'.length + 1 := by rw [← hs]; simp [ByteArray.size]
    rw [hs] at c0
    have hb1 : s.size ≤ 70368744177664 := by omega
    have HE2 := Lib.hid e2
    have e3' : ((c'.toNat : Int) == 45) = false := by
      rw [beq_eq_false_iff_ne]
      intro e
      exact e3 (UInt8.toNat_inj.1 (by show c'.toNat = 45; omega))
    clear hs k2 hsz e1 e2 e4 hl hw0 e3
    go_enter Tryz.func149, Tryz.ntmps149
    go_wp2_with fail
  all_goals
    refine (HD.out _ HS1.out).mono ?_
    rintro e w2 ⟨rfl, h2⟩
    have H2 := Lib.hid h2
    clear c0 z0
    by_cases hk0 : 0 < K
    · have hkt : decide (0 < K) = true := decide_eq_true hk0
      rw [hkt]
      have hB := HB.out
      rw [if_neg (by omega)] at hB
      clear h2
      go_wp2_with fail
      rw [← HE2.out]
      refine (HSp.out _).mono ?_
      rintro e w3 ⟨rfl, hb⟩
      have H3 := Lib.hid (fun o => HG.out _ (H2.out.below hb) o)
      have x16 := fun o => (H3.out o).1.cell 16 _ rfl
      have x17 := fun o => (H3.out o).1.cell 17 _ rfl
      have x1 := fun o => (H3.out o).1.cell 1 _ rfl
      have y16 := fun o => (H3.out o).1.ice 16
      have y17 := fun o => (H3.out o).1.ice 17
      have y1 := fun o => (H3.out o).1.ice 1
      clear hb
      by_cases hkn : knownS a
      · have hcd : (c != 0) = false := by rw [← HCd.out, if_pos hkn]; rfl
        rw [if_pos hkn] at hB
        have HB2 := Lib.hid hB
        clear hkn hB hkt hk0
        go_wp2_with fail
        try rw [← HE2.out]
        go_end0
        rw [HB2.out]
        exact ⟨rfl, (H3.out _).setTimed a⟩
      · have hcd : (c != 0) = true := by rw [← HCd.out, if_neg hkn]; rfl
        rw [if_neg hkn] at hB
        have HB2 := Lib.hid hB
        clear hkn hB hkt hk0
        go_wp2_with fail
        try rw [← HE2.out]
        go_end0
        rw [HB2.out]
        exact ⟨rfl, (H3.out _).setBad.setTimed a⟩
    · have hkt : decide (0 < K) = false := decide_eq_false hk0
      rw [hkt]
      have z1 := h2.1.ice 1
      have c1 : w2.cell? ⟨rb, 1, none⟩ = some (.bool r.bad) := h2.1.cell 1 _ rfl
      have hB := HB.out
      rw [if_pos (by omega)] at hB
      have HB2 := Lib.hid hB
      clear h2 hB hk0 hkt
      go_wp2_with fail
      refine bodyPost_ret (results_none rfl _ _ _) rfl ?_
      rw [HB2.out]
      exact ⟨rfl, H2.out.setBad⟩
end Go.Proofs.YtpjncnoejdaplaaGreatDoor
namespace Go.Proofs.YtpjncnoejdaplaaGreatDoor
open Go Go.RowKit Go.Shelf

/-- Names, in a row of their own. -/
def NamesD (w : World) (rb g : Nat) (l : List ByteArray) : Prop := g ≠ rb ∧ w.heap[g]? = some (.cells (l.map Value.string).toArray 9 (0, 0))
def firstN (p : ByteArray → Bool) (l : List ByteArray) : Option Nat := l.findIdx? p
theorem firstN_some {p : ByteArray → Bool} {l : List ByteArray} {k : Nat} (h : k < l.length) (hn : ∀ j, (h : j < k) → p (l.getD j ⟨#[]⟩) = false) (hp : p (l.getD k ⟨#[]⟩) = true) : firstN p l = some k := by
  unfold firstN
  rw [List.findIdx?_eq_some_iff_getElem]
  refine ⟨h, ?_, ?_⟩
  · rw [← hp, List.getD_eq_getElem?_getD, List.getElem?_eq_getElem h]
    rfl
  · intro j hj
    have := hn j hj
    rw [List.getD_eq_getElem?_getD, List.getElem?_eq_getElem (by omega)] at this
    rw [show p l[j] = false from this]
    simp
theorem firstN_none {p : ByteArray → Bool} {l : List ByteArray} (hn : ∀ j, (h : j < l.length) → p (l.getD j ⟨#[]⟩) = false) : firstN p l = none := by
  unfold firstN
  rw [List.findIdx?_eq_none_iff]
  intro x hx
  obtain ⟨j, hj, rfl⟩ := List.mem_iff_getElem.1 hx
  have := hn j hj
  rw [List.getD_eq_getElem?_getD, List.getElem?_eq_getElem hj] at this
  exact this
def wholeP (l : List UInt8) (n : ByteArray) : Bool := begB n.data.toList l
def shortP (l : List UInt8) (n : ByteArray) : Bool := begB (n.data.toList.take 3) l
def nameD (names : List ByteArray) (r : Dr) : Int × Dr := match firstN (wholeP r.s) names with
  | some i => ((i : Int), r.left (r.s.drop (names.getD i ⟨#[]⟩).size))
  | none => match firstN (shortP r.s) names with
    | some i => ((i : Int), r.left (r.s.drop 3))
    | none => (0, r.err)
set_option maxRecDepth 100000 in
set_option maxHeartbeats 4000000 in
theorem rname_any (names : List ByteArray) (hl1 : names.length ≤ 100) (hsz : ∀ s ∈ names, 3 ≤ s.size ∧ s.size ≤ 1000) (rb g : Nat) (r : Dr) (hl : r.s.length ≤ 70368744177664) (w : World) (h : DrAt w rb r) (h1 : NamesD w rb g names) :
    Calls Tryz.prog 148 #[.pointer (some ⟨rb, 0, none⟩), .slice (some ⟨g, 0, none⟩) names.length names.length] w fun e w' => e = .returned (.int .i64 (nameD names r).1) ∧ DrPost rb w (nameD names r).2 w' := by
  obtain ⟨ng, hg1⟩ := h1
  have HGr := Lib.hid hg1
  have HSZ := Lib.hid hsz
  have HR := Lib.hid h.grown
  have hm : Hid (100 ≤ maxLen) := Lib.hid (by unfold maxLen; omega)
  obtain ⟨l, hls⟩ : ∃ l, r.s = l := ⟨_, rfl⟩
  have HB : Hid (nameD names r = match firstN (wholeP l) names with
    | some i => ((i : Int), r.left (l.drop (names.getD i ⟨#[]⟩).size))
    | none => match firstN (shortP l) names with
      | some i => ((i : Int), r.left (l.drop 3))
      | none => (0, r.err)) := Lib.hid (by unfold nameD; rw [hls])
  obtain ⟨s, hs⟩ : ∃ s : ByteArray, (⟨l.toArray⟩ : ByteArray) = s := ⟨_, rfl⟩
  have hsl : s.size = l.length := by rw [← hs]; simp [ByteArray.size]
  have hb1 : s.size ≤ 70368744177664 := by rw [hsl, ← hls]; exact hl
  have HDR : Hid (∀ k, s.extract k s.size = ⟨(l.drop k).toArray⟩) := Lib.hid (fun k => by rw [hsl, ← hs]; exact ba_drop2 l k)
  have HC : Hid (∀ W, DrPost rb w r W → W.cell? ⟨rb, 0, none⟩ = some (.string s)) := Lib.hid (fun W hW => by rw [← hs, ← hls]; exact hW.1.cell 0 _ rfl)
  have HN : Hid (∀ W, DrPost rb w r W → ∀ j, j < names.length → W.cell? ⟨g, j, none⟩ = some (.string (names.getD j ⟨#[]⟩))) := Lib.hid (fun W hW j hj => by
    refine cell_grown ?_ ng hW.2
    simp [World.cell?, HGr.out, hj])
  have HQ : Hid (∀ (wd : ByteArray), wd.size ≤ 1000 → ∀ W, DrPost rb w r W → Calls Tryz.prog 171 #[.pointer (some ⟨rb, 0, none⟩), .string wd] W fun e w' => e = .returned (.bool (begB wd.data.toList l)) ∧ DrPost rb w r w') := Lib.hid (fun wd hwd W hW => by
    rw [← hls]
    exact (rbegins_any wd (by omega) rb r hl W hW.1).mono (fun e w' ⟨x1, x2⟩ => ⟨x1, hW.trans x2⟩))
  have HSL := Lib.hid hsl
  clear hls hs hsl hl h hg1 hsz
  go_enter Tryz.func148, Tryz.ntmps148
  go_wp2_with fail
  go_loopw [5] (fun i wr => ∃ k : Nat, k ≤ names.length ∧ i = .int .i64 k ∧ Hid (∀ j, j < k → wholeP l (names.getD j ⟨#[]⟩) = false) ∧ Hid (DrPost rb w r wr)) (fun i _ => names.length - (intOf i).toNat)
  case atStart => exact ⟨0, by omega, rfl, Lib.hid (fun j hj => by omega), HR⟩
  case round =>
    obtain ⟨k, hk, rfl, HK, HI⟩ := hrel
    have hc0 := HC.out _ HI.out
    by_cases hlt : k < names.length
    · obtain ⟨nm, hnm⟩ : ∃ nm, names.getD k ⟨#[]⟩ = nm := ⟨_, rfl⟩
      have hmem : nm ∈ names := by
        rw [← hnm, List.getD_eq_getElem?_getD, List.getElem?_eq_getElem hlt]
        exact List.getElem_mem hlt
      obtain ⟨z1, z2⟩ := HSZ.out nm hmem
      have hc4 := HN.out _ HI.out k hlt
      rw [hnm] at hc4
      have HNM := Lib.hid hnm
      clear hnm hmem
      go_wp2_with fail
      refine (HQ.out nm z2 _ HI.out).mono ?_
      cases hb : begB nm.data.toList l with
      | true =>
        have hle : nm.size ≤ s.size := by
          have := begB_len hb
          rw [HSL.out]
          rw [Array.length_toList] at this
          exact this
        have HF : Hid (nameD names r = ((k : Int), r.left (l.drop nm.size))) := Lib.hid (by
          rw [HB.out, firstN_some hlt HK.out (by rw [HNM.out]; exact hb)]
          simp only [HNM.out])
        clear hb hc0 hc4
        rintro e w2 ⟨rfl, h2⟩
        have H2 := Lib.hid h2
        have hc0 := HC.out _ h2
        have hc4 := HN.out _ h2 k hlt
        rw [HNM.out] at hc4
        have z0 := h2.1.ice 0
        have hdr := HDR.out nm.size
        have i1 : (k : Int) < (names.length : Int) := by omega
        clear h2
        go_wp2_with fail
        go_still_tail 11, (by kernel_rfl)
        change wpList _ _ _ _ _ w2.drew
        have H3 := Lib.hid (H2.out.below (Below.refl w2.heap.size w2).drew)
        have hc0' := HC.out _ H3.out
        have z0' := H3.out.1.ice 0
        generalize w2.drew = w3 at H3 hc0' z0' ⊢
        clear hc0 z0 hc4
        go_wp2_with fail
        go_ret
        rw [HF.out]
        exact ⟨rfl, H3.out.setS _⟩
      | false =>
        rintro e w2 ⟨rfl, h2⟩
        have H2 := Lib.hid h2
        have HK2 : Hid (∀ j, j < k + 1 → wholeP l (names.getD j ⟨#[]⟩) = false) := Lib.hid (fun j hj => by
          by_cases hjk : j = k
          · rw [hjk, HNM.out]; exact hb
          · exact HK.out j (by omega))
        clear h2 hb
        go_wp2_with fail
        go_roundw
        case rel => exact ⟨k + 1, by omega, by go_num, HK2, H2⟩
        case measure =>
          show names.length - ((k : Int) + 1).toNat < names.length - ((k : Int)).toNat
          omega
    · obtain rfl : k = names.length := by omega
      have HB2 : Hid (nameD names r = match firstN (shortP l) names with
        | some i => ((i : Int), r.left (l.drop 3))
        | none => (0, r.err)) := Lib.hid (by rw [HB.out, firstN_none HK.out])
      clear hlt hk HK HB hc0
      go_wp2_with fail
      go_loopw [6] (fun i wr => ∃ k : Nat, k ≤ names.length ∧ i = .int .i64 k ∧ Hid (∀ j, j < k → shortP l (names.getD j ⟨#[]⟩) = false) ∧ Hid (DrPost rb w r wr)) (fun i _ => names.length - (intOf i).toNat)
      case atStart => exact ⟨0, by omega, rfl, Lib.hid (fun j hj => by omega), HI⟩
      case round =>
        obtain ⟨k, hk, rfl, HK, HI2⟩ := hrel
        by_cases hlt : k < names.length
        · obtain ⟨nm, hnm⟩ : ∃ nm, names.getD k ⟨#[]⟩ = nm := ⟨_, rfl⟩
          have hmem : nm ∈ names := by
            rw [← hnm, List.getD_eq_getElem?_getD, List.getElem?_eq_getElem hlt]
            exact List.getElem_mem hlt
          obtain ⟨z1, z2⟩ := HSZ.out nm hmem
          have hc4 := HN.out _ HI2.out k hlt
          rw [hnm] at hc4
          have HNM := Lib.hid hnm
          clear hnm hmem
          go_wp2_with fail
          refine (HQ.out (nm.extract 0 3) (by simp; omega) _ HI2.out).mono ?_
          rw [ba_take2]
          cases hb : begB (nm.data.toList.take 3) l with
          | true =>
            have hle : 3 ≤ s.size := by
              have := begB_len hb
              rw [HSL.out]
              rw [List.length_take, Array.length_toList] at this
              have e : nm.data.size = nm.size := rfl
              omega
            have HF : Hid (nameD names r = ((k : Int), r.left (l.drop 3))) := Lib.hid (by
              rw [HB2.out, firstN_some hlt HK.out (by rw [HNM.out]; exact hb)])
            clear hb hc4
            rintro e w2 ⟨rfl, h2⟩
            have H2 := Lib.hid h2
            have hc0 := HC.out _ h2
            have z0 := h2.1.ice 0
            have hdr := HDR.out 3
            clear h2
            go_wp2_with fail
            go_ret
            rw [HF.out]
            exact ⟨rfl, H2.out.setS _⟩
          | false =>
            rintro e w2 ⟨rfl, h2⟩
            have H2 := Lib.hid h2
            have HK2 : Hid (∀ j, j < k + 1 → shortP l (names.getD j ⟨#[]⟩) = false) := Lib.hid (fun j hj => by
              by_cases hjk : j = k
              · rw [hjk, HNM.out]; exact hb
              · exact HK.out j (by omega))
            clear h2 hb
            go_wp2_with fail
            go_roundw
            case rel => exact ⟨k + 1, by omega, by go_num, HK2, H2⟩
            case measure =>
              show names.length - ((k : Int) + 1).toNat < names.length - ((k : Int)).toNat
              omega
        · obtain rfl : k = names.length := by omega
          have HF : Hid (nameD names r = (0, r.err)) := Lib.hid (by rw [HB2.out, firstN_none HK.out])
          have z1 := HI2.out.1.ice 1
          have c1 := HI2.out.1.cell 1 _ rfl
          clear hlt hk HK HB2
          go_wp2_with fail
          go_ret
          rw [HF.out]
          exact ⟨rfl, HI2.out.setBad⟩
end Go.Proofs.YtpjncnoejdaplaaGreatDoor
namespace Go.Proofs.YtpjncnoejdaplaaGreatDoor
open Go Go.RowKit Go.Shelf

theorem DrPost.put {rb : Nat} {w w1 : World} {r : Dr} (h : DrPost rb w r w1) (k : Nat) (v : Value) (r' : Dr) (he : (cellsD r).setIfInBounds k v = cellsD r') : DrPost rb w r' (w1.setCell ⟨rb, k, none⟩ v) := by
  refine ⟨?_, Lib.grownBy_setB h.2 k _⟩
  unfold DrAt
  rw [← he]
  exact row_setAt h.1 k v
theorem numD_bd (most : Nat) (low high : Int) (h : low ≤ high) (r : Dr) : low ≤ (numD most low high r).1 ∧ (numD most low high r).1 ≤ high := by
  unfold numD
  split
  · next h2 => exact h2.2
  · exact ⟨Int.le_refl _, h⟩
def tellD (p : Nat) (n : Int) (r : Dr) : Dr :=
  if p = 1 then { r with year := n, anyY := true, late := false }
  else if p = 2 then { r with cent := n, late := true }
  else if p = 3 then { r with two := n, late := true }
  else if p = 4 then { r with month := n - 1, date := true }
  else if p = 5 then { r with day := n, date := true }
  else if p = 6 then { r with yday := n }
  else if p = 7 then { r with hour := n, twelv := false }
  else if p = 8 then { r with hour := n % 12, twelv := true }
  else if p = 10 then { r with min := n }
  else if p = 11 then { r with sec := n }
  else r
def RP.stepD (r : Dr) : RP → Dr
  | .num d a b p => tellD p (numD d a b r).1 (numD d a b r).2
  | .many l => r.left (r.s.dropWhile (if l = true then letterB else blankB))
  | .percent => byteD 37 r
  | .zone => zoneD r
  | .secs => secD r
  | .name ns _ p => if p = 9 then halfD r else tellD p ((nameD ns r).1 + 1) (nameD ns r).2
end Go.Proofs.YtpjncnoejdaplaaGreatDoor
namespace Go.Proofs.YtpjncnoejdaplaaGreatDoor
open Go Go.RowKit

/-- Was a century or a year's two digits told behind the year, or no year? -/
def lateP (a b c : Int) : Prop := 0 < max b c ∧ a ≤ max b c
instance (a b c : Int) : Decidable (lateP a b c) := by unfold lateP; infer_instance
/-- The document's state where the program's is known. -/
def encD (st : St) : Dr := { s := st.left, bad := false, year := st.n 1, cent := if 0 < st.t 2 then st.n 2 else -1, two := if 0 < st.t 3 then st.n 3 else -1, late := decide (lateP (st.t 1) (st.t 2) (st.t 3)), anyY := decide (0 < st.t 1), month := if 0 < st.t 4 then st.n 4 - 1 else 0, day := if 0 < st.t 5 then st.n 5 else 1, date := decide (0 < st.t 4 ∨ 0 < st.t 5), yday := st.n 6, hour := if st.t 7 < st.t 8 then st.n 8 % 12 else st.n 7, half := st.n 9, twelv := decide (st.t 7 < st.t 8), min := st.n 10, sec := st.n 11, all := decide (0 < st.t 12), at' := st.n 12 }
theorem inv_t {st : St} (h : Inv st) (p : Nat) (hp : p < 13) : 0 ≤ st.t p ∧ st.t p ≤ st.turns := by
  rcases h.2 p hp with ⟨a, -⟩ | ⟨a, b, -⟩
  · exact ⟨by omega, by have := h.1; omega⟩
  · exact ⟨by omega, b⟩
theorem enc_tell {st : St} (h : Inv st) (p : Nat) (hp : p < 12) (h9 : p ≠ 9) (v : Int) : tellD p v (encD st) = encD (tellS st p v) := by
  have t0 := h.1
  obtain ⟨a1, b1⟩ := inv_t h 1 (by omega)
  obtain ⟨a2, b2⟩ := inv_t h 2 (by omega)
  obtain ⟨a3, b3⟩ := inv_t h 3 (by omega)
  obtain ⟨a4, b4⟩ := inv_t h 4 (by omega)
  obtain ⟨a5, b5⟩ := inv_t h 5 (by omega)
  obtain ⟨a7, b7⟩ := inv_t h 7 (by omega)
  obtain ⟨a8, b8⟩ := inv_t h 8 (by omega)
  have c0 : (0 < st.turns + 1) = True := eq_true (by omega)
  have c1 : lateP (st.turns + 1) (st.t 2) (st.t 3) = False := eq_false (by unfold lateP; omega)
  have c2 : lateP (st.t 1) (st.turns + 1) (st.t 3) = True := eq_true (by unfold lateP; omega)
  have c3 : lateP (st.t 1) (st.t 2) (st.turns + 1) = True := eq_true (by unfold lateP; omega)
  have c7 : (st.turns + 1 < st.t 8) = False := eq_false (by omega)
  have c8 : (st.t 7 < st.turns + 1) = True := eq_true (by omega)
  have key : p = 0 ∨ p = 1 ∨ p = 2 ∨ p = 3 ∨ p = 4 ∨ p = 5 ∨ p = 6 ∨ p = 7 ∨ p = 8 ∨ p = 10 ∨ p = 11 := by omega
  rcases key with rfl | rfl | rfl | rfl | rfl | rfl | rfl | rfl | rfl | rfl | rfl
  all_goals
    simp [tellD, encD, tellS, updI, c0, c1, c2, c3, c7, c8]
theorem enc_half (st : St) (v : Int) : (encD st).halved v = encD (tellS st 9 v) := by
  simp [Dr.halved, encD, tellS, updI]
theorem enc_timed {st : St} (h : Inv st) (v : Int) : (encD st).timed v = encD (tellS st 12 v) := by
  have t0 := h.1
  have c0 : (0 < st.turns + 1) = True := eq_true (by omega)
  simp [Dr.timed, encD, tellS, updI, c0]
theorem enc_left (st : St) (l : List UInt8) : (encD st).left l = encD (leftS st l) := rfl
theorem enc_s (st : St) : (encD st).s = st.left := rfl
end Go.Proofs.YtpjncnoejdaplaaGreatDoor
