/- A text read as a time: the document's. -/
import Derived.Test.YtpjncnoejdaplaaGreatDoorLBL
namespace Go.Proofs.YtpjncnoejdaplaaGreatDoor
open Go Go.RowKit Go.Shelf

/-- What the document's Parse answers. -/
def RTimePost (w : World) (o : Option Int) (e : Ending) (w' : World) : Prop := (match o with
    | none => e = .returned (.tuple #[.agg (timeV 0 0 0 0 0 0 0 0), .int .i64 110])
    | some a => knownS a ∧ ∃ y m d, OkD y m d ∧ numI y m d = a / 86400 ∧ e = .returned (.tuple #[.agg (tmI y m d a), .int .i64 0])) ∧ Below w.heap.size w w'
theorem rdd_built (s : ByteArray) : Tryz.prog.built 75 [(0, .string s), (3, .int .i64 (-1)), (4, .int .i64 (-1)), (8, .int .i64 1)] = some (cellsD (encD (st0 s.data.toList))) := by kernel_rfl
theorem rdd_wpb {ops : Array Oper} {rest : List Oper} {o : Oper} {a : Act} {w : World} {Q : Exit → Act → World → Prop} (hg : o.guard = none) (parts : Array (Nat × Operand)) (ho : o.op = .build 75 parts) (s : ByteArray)
    (hp : (parts.map fun (i, x) => (i, a.eval x)).toList = [(0, .string s), (3, .int .i64 (-1)), (4, .int .i64 (-1)), (8, .int .i64 1)]) (h : wpList Tryz.prog ops Q rest (a.put o.dst (.agg (cellsD (encD (st0 s.data.toList))))) w) : wpList Tryz.prog ops Q (o :: rest) a w :=
  wpList_build hg _ parts ho (by rw [hp, rdd_built]; rfl) (by rw [hp, rdd_built]; exact h)
theorem rjoin_at (y m d h i n : Int) (hD : OkD y m d) (h1 : 0 ≤ h ∧ h ≤ 23) (h2 : 0 ≤ i ∧ i ≤ 59) (h3 : 0 ≤ n ∧ n ≤ 60) (a : Int) (ha : numI y m d * 86400 + h * 3600 + i * 60 + n = a) (w : World) :
    Calls Tryz.prog 36 #[.agg (timeV y m d h i (fI n) 0 0)] w fun e w' => e = .returned (.tuple #[.int .i64 (if knownS a then a else 0), .int .i64 (if knownS a then 0 else 110)]) ∧ Below w.heap.size w w' := by
  have hr := num_range y m d hD
  have hl := lenI_bd y m hD.2.1.1 hD.2.1.2
  have hfl := flI_fI n (by omega) (by omega)
  obtain ⟨⟨a1, a2⟩, ⟨b1, b2⟩, c1, c2⟩ := hD
  have e1 : m / 12 = 0 := by omega
  have e2 : m % 12 = m := by omega
  have e3 : secI (y + m / 12) (m % 12) d h i (fI n) = a := by
    rw [e1, e2, ← ha]
    unfold secI numI
    rw [Int.add_zero, hfl]
  have hF : Fits y m d h i (fI n) := ⟨fits_in _ (by omega) (by omega), fits_in _ (by omega) (by omega), fits_in _ (by omega) (by omega), fits_in _ (by omega) (by omega), fits_in _ (by omega) (by omega), fitS_fI60 n h3.1 h3.2⟩
  have hkn : knownB (y + m / 12) = true := by rw [e1]; exact knownB_true _ (by omega)
  by_cases hk : knownS a
  · rw [if_pos hk, if_pos hk]
    have e := refJoin_of y m d h i (fI n) 0 0 hF hkn (by rw [e3]; exact hk.1) (by rw [e3]; exact hk.2) w
    rw [e3] at e
    exact e
  · rw [if_neg hk, if_neg hk]
    exact refJoin_out y m d h i (fI n) 0 0 hF hkn (by rw [e3]; unfold knownS at hk; omega) w
theorem timeS_no {st : St} (ht : ¬ 0 < st.t 12) (h : dayS st = none) : timeS st = none := by
  unfold timeS
  rw [if_neg ht, h]
theorem timeS_yes {st : St} (ht : ¬ 0 < st.t 12) (k : Int) (h : dayS st = some k) : timeS st = if knownS (k * 86400 + hourS st * 3600 + st.n 10 * 60 + st.n 11) then some (k * 86400 + hourS st * 3600 + st.n 10 * 60 + st.n 11) else none := by
  unfold timeS
  rw [if_neg ht, h]
theorem day_q (y m d : Int) (h : OkD y m d) (w : World) : Calls Tryz.prog 34 #[.int .i64 y, .int .i64 m, .int .i64 d] w fun e w' => e = .returned (.tuple #[.int .i64 (numI y m d), .int .i64 0]) ∧ ∃ n, w' = w.drewN n := refDay_yes y m d h w
theorem hour_ways {st : St} (h : Inv st) : ((encD st).twelv = false ∧ (encD st).hour = hourS st) ∨ ((encD st).twelv = true ∧ (((encD st).half == 2) = false) ∧ (encD st).hour = hourS st) ∨ ((encD st).twelv = true ∧ (((encD st).half == 2) = true) ∧ (encD st).hour + 12 = hourS st) := by
  have h9 := h.at 9 (by omega) 1 2 (by decide) (by decide)
  have eh : (encD st).half = st.n 9 := rfl
  have e0 : (encD st).hour = if st.t 7 < st.t 8 then st.n 8 % 12 else st.n 7 := rfl
  rw [eh, e0]
  unfold hourS
  by_cases h7 : st.t 7 < st.t 8
  · right
    have et : (encD st).twelv = true := decide_eq_true h7
    rw [if_pos h7, if_neg (show ¬ st.t 8 ≤ st.t 7 by omega)]
    by_cases h2 : st.n 9 = 2
    · right
      exact ⟨et, by rw [h2]; rfl, by rw [if_pos h2]⟩
    · left
      exact ⟨et, by rw [beq_eq_false_iff_ne]; exact h2, by rw [if_neg h2]; omega⟩
  · left
    have et : (encD st).twelv = false := decide_eq_false h7
    rw [if_neg h7, if_pos (show st.t 8 ≤ st.t 7 by omega)]
    exact ⟨et, rfl⟩
/-- The ways in which a day is told, or is none. -/
theorem day_ways (st : St) (hI : Inv st) : (0 < st.n 6 ∧ ¬ (0 < st.t 4 ∨ 0 < st.t 5) ∧ st.n 6 ≤ 366 ∧ OkD (yearS st) 0 1 ∧ ∃ M D, OkD (yearS st) M D ∧ numI (yearS st) M D = numI (yearS st) 0 1 + st.n 6 - 1 ∧ dayS st = some (numI (yearS st) M D)) ∨
    (0 < st.n 6 ∧ ¬ (0 < st.t 4 ∨ 0 < st.t 5) ∧ st.n 6 ≤ 366 ∧ OkD (yearS st) 0 1 ∧ dayS st = none ∧ ((2932896 < numI (yearS st) 0 1 + st.n 6 - 1) ∨ ∃ y m d, y ≠ yearS st ∧ OkD y m d ∧ numI y m d = numI (yearS st) 0 1 + st.n 6 - 1)) ∨
    ((¬ 0 < st.n 6 ∨ (0 < st.t 4 ∨ 0 < st.t 5)) ∧ 0 ≤ st.n 6 ∧ -100 ≤ (encD st).month ∧ (encD st).month ≤ 100 ∧ -100 ≤ (encD st).day ∧ (encD st).day ≤ 100 ∧ OkD (yearS st) (encD st).month (encD st).day ∧ dayS st = some (numI (yearS st) (encD st).month (encD st).day)) ∨
    ((¬ 0 < st.n 6 ∨ (0 < st.t 4 ∨ 0 < st.t 5)) ∧ 0 ≤ st.n 6 ∧ -100 ≤ (encD st).month ∧ (encD st).month ≤ 100 ∧ -100 ≤ (encD st).day ∧ (encD st).day ≤ 100 ∧ ¬ OkD (yearS st) (encD st).month (encD st).day ∧ dayS st = none) := by
  have hy := yearS_bd hI
  have h4 := hI.at 4 (by omega) 1 12 (by decide) (by decide)
  have h5 := hI.at 5 (by omega) 1 31 (by decide) (by decide)
  have h6 := hI.at 6 (by omega) 1 366 (by decide) (by decide)
  have em : (encD st).month = monS st := by
    show (if 0 < st.t 4 then st.n 4 - 1 else 0) = (if st.t 4 = 0 then 1 else st.n 4) - 1
    repeat' split
    all_goals omega
  have ed : (encD st).day = domS st := by
    show (if 0 < st.t 5 then st.n 5 else 1) = if st.t 5 = 0 then 1 else st.n 5
    repeat' split
    all_goals omega
  have bm : -100 ≤ monS st ∧ monS st ≤ 100 := by
    unfold monS
    split <;> omega
  have bd : -100 ≤ domS st ∧ domS st ≤ 100 := by
    unfold domS
    split <;> omega
  rw [em, ed]
  by_cases hA : 0 < st.n 6 ∧ ¬ (0 < st.t 4 ∨ 0 < st.t 5)
  · obtain ⟨h1, h2⟩ := hA
    have e4 : monS st = 0 := by unfold monS; rw [if_pos (by omega)]; rfl
    have e5 : domS st = 1 := by unfold domS; rw [if_pos (by omega)]
    have hok : OkD (yearS st) 0 1 := ⟨by omega, by omega, by omega, by have := lenI_bd (yearS st) 0 (by omega) (by omega); omega⟩
    have hd : dayS st = if st.n 6 ≤ yearI (yearS st) then some (numI (yearS st) 0 1 + st.n 6 - 1) else none := by
      unfold dayS
      rw [e4, e5, if_pos hok, if_neg (by omega)]
    by_cases h3 : st.n 6 ≤ yearI (yearS st)
    · left
      obtain ⟨M, D, hD, hN⟩ := yday_in (yearS st) (st.n 6) hy (by omega) h3 hok
      exact ⟨h1, h2, by omega, hok, M, D, hD, hN, by rw [hd, if_pos h3, hN]⟩
    · right; left
      exact ⟨h1, h2, by omega, hok, by rw [hd, if_neg h3], yday_out (yearS st) (st.n 6) (by omega) (by omega) hok⟩
  · have hA2 : ¬ 0 < st.n 6 ∨ (0 < st.t 4 ∨ 0 < st.t 5) := by omega
    right; right
    by_cases hok : OkD (yearS st) (monS st) (domS st)
    · left
      refine ⟨hA2, by omega, bm.1, bm.2, bd.1, bd.2, hok, ?_⟩
      unfold dayS
      rw [if_pos hok, if_pos (by omega)]
    · right
      refine ⟨hA2, by omega, bm.1, bm.2, bd.1, bd.2, hok, ?_⟩
      unfold dayS
      rw [if_neg hok]
/-- What is known when the day was told: a month and a day of the month, and whether there is such a day. -/
def DayAtD (w : World) (rb : Nat) (st : St) (Y : Int) (W : World) : Prop := ∃ M D, Hid (ResZ w W) ∧ Hid (DrAt W rb { encD st with month := M, day := D }) ∧ Hid (-100 ≤ M ∧ M ≤ 100 ∧ -100 ≤ D ∧ D ≤ 100) ∧ Hid ((OkD Y M D ∧ dayS st = some (numI Y M D)) ∨ (¬ OkD Y M D ∧ dayS st = none))
set_option maxRecDepth 100000 in
set_option maxHeartbeats 40000000 in
theorem rParse_any (s f : ByteArray) (hs : s.size ≤ 70368744177664) (hf : f.size ≤ 70368744177664) (w : World) : Calls Tryz.prog 13 #[.string s, .string f] w fun e w' => RTimePost w (parseS s.data.toList f.data.toList) e w' := by
  have hsf := run_store_float Tryz.prog
  have hci := conv_int
  have HFS := Lib.hid hf
  have HS := Lib.hid hs
  clear hs hf
  go_enter Tryz.func13, Tryz.ntmps13
  go_upto_region 1 with fail
  go_cut [6] from 23 to 25 (fun v wx => v = .pointer (some ⟨w.heap.size + 1, 0, none⟩) ∧ Hid (ResZ w wx) ∧ Hid (DrAt wx (w.heap.size + 1) (encD (st0 s.data.toList))))
  case first =>
    have hz0 : ResZ w (w.alloc (.cells #[.int .i64 0, .int .i64 0, .int .i64 0, .int .i64 0, .int .i64 0, .float .f64 0, .int .i64 0, .int .i64 0] 24)) := ⟨heap_alloc_new w _, (Below.refl w.heap.size w).alloc (Nat.le_refl _) _⟩
    have hz1 := Lib.hid (hz0.below ((Below.refl _ _).alloc (Nat.le_refl _) (.cells (cellsD (encD (st0 s.data.toList))) 75)))
    have hr1 : DrAt ((w.alloc (.cells #[.int .i64 0, .int .i64 0, .int .i64 0, .int .i64 0, .int .i64 0, .float .f64 0, .int .i64 0, .int .i64 0] 24)).alloc (.cells (cellsD (encD (st0 s.data.toList))) 75)) (w.heap.size + 1) (encD (st0 s.data.toList)) := by
      have h := heap_alloc_new (w.alloc (.cells #[.int .i64 0, .int .i64 0, .int .i64 0, .int .i64 0, .int .i64 0, .float .f64 0, .int .i64 0, .int .i64 0] 24)) (.cells (cellsD (encD (st0 s.data.toList))) 75)
      rw [World.size_alloc] at h
      exact h
    have hr2 := Lib.hid hr1
    clear hz0 hr1
    go_wp2_with (first | (refine rdd_wpb rfl _ rfl s rfl ?_))
    go_meet
    exact ⟨rfl, hz1, hr2⟩
  case rest =>
  obtain ⟨rfl, HZ, HR⟩ := hcut
  obtain ⟨rb, hrb⟩ : ∃ rb, w.heap.size + 1 = rb := ⟨_, rfl⟩
  rw [hrb] at HR ⊢
  have HRB := Lib.hid hrb
  clear hrb
  have hlen : Hid ((encD (st0 s.data.toList)).s.length ≤ 70368744177664) := Lib.hid (by show s.data.toList.length ≤ _; rw [Array.length_toList]; exact HS.out)
  go_wp2_with fail
  refine (rformat_any rb f HFS.out (encD (st0 s.data.toList)) hlen.out _ HR.out).mono ?_
  have hfl := followD_len stepDA (fun c r => by
    unfold stepDA
    split
    · exact followD_len stepDP stepDP_len _ _ (Nat.le_refl _) _
    · exact stepDP_len _ _) _ f.data.toList (Nat.le_refl _) (encD (st0 s.data.toList))
  have hsim := read_sim s.data.toList f.data.toList
  obtain ⟨r1, hr1⟩ : ∃ r1, followD stepDA f.data.toList (encD (st0 s.data.toList)) = r1 := ⟨_, rfl⟩
  rw [hr1] at hfl hsim ⊢
  have HL1 : Hid (r1.s.length ≤ 70368744177664) := Lib.hid (Nat.le_trans hfl hlen.out)
  have HSIM := Lib.hid hsim
  rintro e w2 ⟨rfl, h2⟩
  have H2 := Lib.hid h2.1
  have HZ2 := Lib.hid (HZ.out.grown (by have := HRB.out; omega) h2.2)
  clear h2 hfl hsim hr1 hlen HZ HR
  go_wp2_with fail
  refine (rblanks_any rb r1 HL1.out _ H2.out).mono ?_
  rintro e w3 ⟨rfl, h3⟩
  have H3 := Lib.hid h3.1
  have HZ3 := Lib.hid (HZ2.out.grown (by have := HRB.out; omega) h3.2)
  clear h3 HZ2 H2
  obtain ⟨p0, p1, p2, p3, p4, p5, p6, p7⟩ := row8 HZ3.out.1
  obtain ⟨v0, v1, v2, v3, v4, v5, v6, v7⟩ := ice8 HZ3.out.1
  have z0 := H3.out.ice 0
  have z1 := H3.out.ice 1
  cases hfo : followT stepA f.data.toList (st0 s.data.toList) with
  | none =>
    have hb : r1.bad = true := by
      have := HSIM.out
      rw [hfo] at this
      exact this
    have HT : Hid (parseS s.data.toList f.data.toList = none) := Lib.hid (by unfold parseS; rw [hfo])
    have c1 : w3.cell? ⟨rb, 1, none⟩ = some (.bool true) := by rw [← hb]; exact H3.out.cell 1 _ rfl
    clear hfo hb
    go_wp2_with fail
    refine bodyPost_ret_by (results_row_tmp rfl _ _ w.heap.size 24 _ (0, 0) _ (.int .i64 110) rfl rfl (set8_row HZ3.out.1 ..) Tryz.underlying24 rfl sizeTime) rfl ?_
    rw [HT.out]
    exact ⟨rfl, set8_below HZ3.out.2 (Nat.le_refl _) ..⟩
  | some st =>
    have hr : r1 = encD st := by
      have := HSIM.out
      rw [hfo] at this
      exact this
    have HI : Hid (Inv (skipS blankB st)) := Lib.hid ((followT_inv stepA stepA_inv _ _ (Nat.le_refl _) _ st (inv_st0 _) hfo).left _)
    have HT : Hid (parseS s.data.toList f.data.toList = if (skipS blankB st).left = [] then timeS (skipS blankB st) else none) := Lib.hid (by unfold parseS; rw [hfo])
    have e1 : r1.left (r1.s.dropWhile blankB) = encD (skipS blankB st) := by rw [hr]; rfl
    have HL2 : Hid ((skipS blankB st).left.length ≤ 70368744177664) := Lib.hid (by
      have h1 : (skipS blankB st).left = (r1.left (r1.s.dropWhile blankB)).s := by rw [e1]; rfl
      rw [h1]
      exact Nat.le_trans (drop_len _) HL1.out)
    rw [e1] at H3
    clear hfo hr e1 HL1 HSIM
    obtain ⟨st2, hst2⟩ : ∃ st2, skipS blankB st = st2 := ⟨_, rfl⟩
    rw [hst2] at HI HT H3 HL2
    clear hst2
    have c1 : w3.cell? ⟨rb, 1, none⟩ = some (.bool false) := H3.out.cell 1 _ rfl
    have c0 : w3.cell? ⟨rb, 0, none⟩ = some (.string ⟨st2.left.toArray⟩) := H3.out.cell 0 _ rfl
    obtain ⟨S, hS⟩ : ∃ S : ByteArray, (⟨st2.left.toArray⟩ : ByteArray) = S := ⟨_, rfl⟩
    have hsz : S.size = st2.left.length := by rw [← hS]; simp [ByteArray.size]
    rw [hS] at c0
    have hb1 : S.size ≤ 70368744177664 := by rw [hsz]; exact HL2.out
    clear hS
    by_cases hnil : st2.left = []
    · have HF : Hid (parseS s.data.toList f.data.toList = timeS st2) := Lib.hid (by rw [HT.out, if_pos hnil])
      have hz : S.size = 0 := by rw [hsz, hnil]; rfl
      clear hnil hsz
      by_cases ht : 0 < st2.t 12
      · have c16 : w3.cell? ⟨rb, 16, none⟩ = some (.bool true) := by
          rw [H3.out.cell 16 _ rfl]
          show some (Value.bool (decide (0 < st2.t 12))) = _
          rw [decide_eq_true ht]
        have c17 : w3.cell? ⟨rb, 17, none⟩ = some (.int .i64 (st2.n 12)) := H3.out.cell 17 _ rfl
        have b12 := HI.out.at 12 (by omega) (-377705116800) 253402300799 (by decide) (by decide)
        have hk : knownS (st2.n 12) := ⟨by omega, by omega⟩
        replace HF := Lib.hid (HF.out.trans (show timeS st2 = some (st2.n 12) from by unfold timeS; rw [if_pos ht]))
        clear b12
        obtain ⟨y, m, d, hD, hN⟩ := num_ex (st2.n 12 / 86400) hk.1 hk.2
        have HSp := Lib.hid (fun w => rsplit_at (st2.n 12) hk y m d hD hN w)
        have HA := Lib.hid (And.intro hk (And.intro hD hN))
        unfold tmI at HSp
        obtain ⟨x3, e3⟩ : ∃ x, (st2.n 12) % 86400 / 3600 = x := ⟨_, rfl⟩
        obtain ⟨x4, e4⟩ : ∃ x, (st2.n 12) % 86400 / 60 % 60 = x := ⟨_, rfl⟩
        obtain ⟨x5, e5⟩ : ∃ x, fI ((st2.n 12) % 86400 % 60) = x := ⟨_, rfl⟩
        obtain ⟨x6, e6⟩ : ∃ x, (numI y m d + 4) % 7 = x := ⟨_, rfl⟩
        obtain ⟨x7, e7⟩ : ∃ x, numI y m d - beginI y 0 = x := ⟨_, rfl⟩
        have HV : Hid (tmI y m d (st2.n 12) = timeV y m d x3 x4 x5 x6 x7) := Lib.hid (by unfold tmI; rw [e3, e4, e5, e6, e7])
        rw [e3, e4, e5, e6, e7] at HSp
        unfold timeV at HSp
        clear e3 e4 e5 e6 e7 hk hD hN
        clear ht
        go_wp2_with fail
        refine (HSp.out _).mono ?_
        rintro e w4 ⟨rfl, hb⟩
        have hz4 := HZ3.out.below hb
        go_upto_region 8 with fail
        have hr2 := heap_alloc_new w4 (Obj.cells #[.int .i64 y, .int .i64 m, .int .i64 d, .int .i64 x3, .int .i64 x4, .float .f64 x5, .int .i64 x6, .int .i64 x7] 24)
        have hz5 := hz4.below ((Below.refl _ _).alloc (Nat.le_refl _) (Obj.cells #[.int .i64 y, .int .i64 m, .int .i64 d, .int .i64 x3, .int .i64 x4, .float .f64 x5, .int .i64 x6, .int .i64 x7] 24))
        obtain ⟨q, hq⟩ : ∃ q, w4.heap.size = q := ⟨_, rfl⟩
        rw [hq] at hr2 ⊢
        generalize w4.alloc (Obj.cells #[.int .i64 y, .int .i64 m, .int .i64 d, .int .i64 x3, .int .i64 x4, .float .f64 x5, .int .i64 x6, .int .i64 x7] 24) = X2 at hr2 hz5 ⊢
        have R2 := Lib.hid hr2
        have HZ5 := Lib.hid hz5
        clear hr2 hz5 hz4 hb hq p0 p1 p2 p3 p4 p5 p6 p7 v0 v1 v2 v3 v4 v5 v6 v7
        obtain ⟨u0, u1, u2, u3, u4, u5, u6, u7⟩ := row8 R2.out
        obtain ⟨p0, p1, p2, p3, p4, p5, p6, p7⟩ := row8 HZ5.out.1
        obtain ⟨v0, v1, v2, v3, v4, v5, v6, v7⟩ := ice8 HZ5.out.1
        go_wp2_with fail
        refine bodyPost_ret_by (results_row_tmp rfl _ _ w.heap.size 24 _ (0, 0) _ (.int .i64 0) rfl rfl (set8_row HZ5.out.1 ..) Tryz.underlying24 rfl sizeTime) rfl ?_
        rw [HF.out]
        exact ⟨⟨HA.out.1, y, m, d, HA.out.2.1, HA.out.2.2, by rw [HV.out]; rfl⟩, set8_below HZ5.out.2 (Nat.le_refl _) ..⟩
      · have c16 : w3.cell? ⟨rb, 16, none⟩ = some (.bool false) := by
          rw [H3.out.cell 16 _ rfl]
          show some (Value.bool (decide (0 < st2.t 12))) = _
          rw [decide_eq_false ht]
        have HTo := Lib.hid (fun W hW => rtold_any rb (encD st2) (cent_bd HI.out).1 (cent_bd HI.out).2 W hW)
        rw [told_enc HI.out] at HTo
        have hy := yearS_bd HI.out
        have hw := day_ways st2 HI.out
        obtain ⟨Y, hY⟩ : ∃ Y, yearS st2 = Y := ⟨_, rfl⟩
        rw [hY] at HTo hy hw
        have c10 : w3.cell? ⟨rb, 10, none⟩ = some (.int .i64 (st2.n 6)) := H3.out.cell 10 _ rfl
        have c9 : w3.cell? ⟨rb, 9, none⟩ = some (.bool (decide (0 < st2.t 4 ∨ 0 < st2.t 5))) := H3.out.cell 9 _ rfl
        obtain ⟨y1, y2⟩ := hy
        have HTT : Hid (st2.t 12 ≤ 0) := Lib.hid (by omega)
        clear hY ht
        go_wp2_with fail
        refine (HTo.out _ H3.out).mono ?_
        rintro e w4 ⟨rfl, rfl⟩
        obtain ⟨B, hB⟩ : ∃ B, (decide (0 < st2.n 6) && !(decide (0 < st2.t 4 ∨ 0 < st2.t 5))) = B := ⟨_, rfl⟩
        have HB := Lib.hid hB
        clear hB
        go_upto_region 10 with fail
        go_cut [9, 71] from 58 (fun y9 b wx => y9 = .int .i64 Y ∧ b = .bool B ∧ w4 = wx)
        case first =>
          by_cases g1 : 0 < st2.n 6
          · by_cases g2 : 0 < st2.t 4 ∨ 0 < st2.t 5
            · have hB := HB.out
              rw [decide_eq_true g1, decide_eq_true g2] at hB
              rw [decide_eq_true g2] at c9
              subst hB
              go_wp2_with fail
              go_meet
              exact ⟨rfl, rfl, rfl⟩
            · have hB := HB.out
              rw [decide_eq_true g1, decide_eq_false g2] at hB
              rw [decide_eq_false g2] at c9
              subst hB
              go_wp2_with fail
              go_meet
              exact ⟨rfl, rfl, rfl⟩
          · have hB := HB.out
            rw [decide_eq_false g1] at hB
            subst hB
            go_wp2_with fail
            go_meet
            exact ⟨rfl, rfl, rfl⟩
        case rest =>
        obtain ⟨rfl, rfl, rfl⟩ := hcut
        go_upto_if 71 with fail
        go_cut [9] from 58 (fun y9 wx => y9 = .int .i64 Y ∧ DayAtD w rb st2 Y wx)
        case first =>
          rcases hw with ⟨q1, q2, q3, q4, M, D, q5, q6, q7⟩ | ⟨q1, q2, q3, q4, q7, q8⟩ | hw
          · have hB := HB.out
            rw [decide_eq_true q1, decide_eq_false q2] at hB
            rw [decide_eq_false q2] at c9
            subst hB
            have HD1 := Lib.hid (fun W => day_q Y 0 1 q4 W)
            have hb := num_range Y 0 1 q4
            obtain ⟨N1, hN1⟩ : ∃ N1, numI Y 0 1 = N1 := ⟨_, rfl⟩
            rw [hN1] at HD1 hb q6
            have HDT := Lib.hid (show ∀ W : World, Calls Tryz.prog 35 #[.int .i64 (N1 + st2.n 6 - 1)] W fun e w' => e = .returned (.tuple #[.int .i64 Y, .int .i64 M, .int .i64 D, .int .i64 0]) ∧ ∃ n, w' = W.drewN n from fun W => by rw [← q6]; exact refDate_of Y M D q5 W)
            obtain ⟨hb1', hb2'⟩ := hb
            have HQ := Lib.hid (And.intro q5 q7)
            have hmd : Hid (-100 ≤ M ∧ M ≤ 100 ∧ -100 ≤ D ∧ D ≤ 100) := Lib.hid (by have h := q5.2; have hl := lenI_bd Y M h.1.1 h.1.2; omega)
            clear hN1 q5 q6 q7 q4
            go_wp2_with fail
            refine (HD1.out _).mono ?_
            rintro e w5 ⟨rfl, n5, rfl⟩
            have hz_a := HZ3.out.below (below_drewN (Below.refl _ _) n5)
            have hr_a := H3.out.below (below_drewN (Below.refl _ _) n5)
            generalize w4.drewN n5 = w6 at hz_a hr_a ⊢
            have HZ6 := Lib.hid hz_a
            have HR6 := Lib.hid (show DrAt w6 rb (encD st2) from hr_a)
            clear hz_a hr_a
            have d10 : w6.cell? ⟨rb, 10, none⟩ = some (.int .i64 (st2.n 6)) := HR6.out.cell 10 _ rfl
            clear p0 p1 p2 p3 p4 p5 p6 p7 v0 v1 v2 v3 v4 v5 v6 v7
            go_wp2_with fail
            refine (HDT.out _).mono ?_
            rintro e w7 ⟨rfl, n7, rfl⟩
            have hz_b := HZ6.out.below (below_drewN (Below.refl _ _) n7)
            have hr_b := HR6.out.below (below_drewN (Below.refl _ _) n7)
            generalize w6.drewN n7 = w8 at hz_b hr_b ⊢
            have HZ8 := Lib.hid hz_b
            have HR8 := Lib.hid (show DrAt w8 rb (encD st2) from hr_b)
            clear hz_b hr_b
            have hyy : (Y != Y) = false := by simp
            have d7 : w8.cell? ⟨rb, 7, none⟩ = some (.int .i64 (encD st2).month) := HR8.out.cell 7 _ rfl
            have d8 : w8.cell? ⟨rb, 8, none⟩ = some (.int .i64 (encD st2).day) := HR8.out.cell 8 _ rfl
            have i7 := HR8.out.ice 7
            have i8 := HR8.out.ice 8
            clear z0 z1
            go_wp2_with fail
            go_meet
            exact ⟨rfl, M, D, Lib.hid (HZ8.out.grown (by have := HRB.out; omega) ((HR8.out.grown.put 7 (.int .i64 M) { encD st2 with month := M } rfl).put 8 (.int .i64 D) { encD st2 with month := M, day := D } rfl).2), Lib.hid ((HR8.out.grown.put 7 (.int .i64 M) { encD st2 with month := M } rfl).put 8 (.int .i64 D) { encD st2 with month := M, day := D } rfl).1, hmd, Lib.hid (.inl HQ.out)⟩
          · have hB := HB.out
            rw [decide_eq_true q1, decide_eq_false q2] at hB
            rw [decide_eq_false q2] at c9
            subst hB
            have HN : Hid (parseS s.data.toList f.data.toList = none) := Lib.hid (by rw [HF.out, timeS_no (Int.not_lt.2 HTT.out) q7])
            have HD1 := Lib.hid (fun W => day_q Y 0 1 q4 W)
            have hb := num_range Y 0 1 q4
            obtain ⟨N1, hN1⟩ : ∃ N1, numI Y 0 1 = N1 := ⟨_, rfl⟩
            rw [hN1] at HD1 hb q8
            have hdt : (∀ W : World, Calls Tryz.prog 35 #[.int .i64 (N1 + st2.n 6 - 1)] W fun e w' => e = .returned (.tuple #[.int .i64 0, .int .i64 0, .int .i64 0, .int .i64 110]) ∧ ∃ n, w' = W.drewN n) ∨ ∃ y m d, (y != Y) = true ∧ (∀ W : World, Calls Tryz.prog 35 #[.int .i64 (N1 + st2.n 6 - 1)] W fun e w' => e = .returned (.tuple #[.int .i64 y, .int .i64 m, .int .i64 d, .int .i64 0]) ∧ ∃ n, w' = W.drewN n) := by
              rcases q8 with q8 | ⟨y, m, d, hne, hok, hN⟩
              · exact .inl (fun W => (refDate_no _ (.inr q8) W).mono fun _ _ ⟨x, z⟩ => ⟨x, 0, z.symm⟩)
              · exact .inr ⟨y, m, d, by rw [bne_iff_ne]; exact hne, fun W => by rw [← hN]; exact refDate_of y m d hok W⟩
            obtain ⟨hb1', hb2'⟩ := hb
            clear hN1 q8 q7 q4
            go_wp2_with fail
            refine (HD1.out _).mono ?_
            rintro e w5 ⟨rfl, n5, rfl⟩
            have hz_a := HZ3.out.below (below_drewN (Below.refl _ _) n5)
            have hr_a := H3.out.below (below_drewN (Below.refl _ _) n5)
            generalize w4.drewN n5 = w6 at hz_a hr_a ⊢
            have HZ6 := Lib.hid hz_a
            have HR6 := Lib.hid (show DrAt w6 rb (encD st2) from hr_a)
            clear hz_a hr_a
            have d10 : w6.cell? ⟨rb, 10, none⟩ = some (.int .i64 (st2.n 6)) := HR6.out.cell 10 _ rfl
            clear p0 p1 p2 p3 p4 p5 p6 p7 v0 v1 v2 v3 v4 v5 v6 v7
            obtain ⟨p0, p1, p2, p3, p4, p5, p6, p7⟩ := row8 HZ6.out.1
            obtain ⟨v0, v1, v2, v3, v4, v5, v6, v7⟩ := ice8 HZ6.out.1
            rcases hdt with hdt | ⟨y, m, d, hne, hdt⟩
            all_goals
              have HDT := Lib.hid hdt
              clear hdt
              go_wp2_with fail
              refine (HDT.out _).mono ?_
              rintro e w7 ⟨rfl, n7, rfl⟩
              have hz_b := HZ6.out.below (below_drewN (Below.refl _ _) n7)
              generalize w6.drewN n7 = w8 at hz_b ⊢
              have HZ8 := Lib.hid hz_b
              clear hz_b
              clear p0 p1 p2 p3 p4 p5 p6 p7 v0 v1 v2 v3 v4 v5 v6 v7
              obtain ⟨p0, p1, p2, p3, p4, p5, p6, p7⟩ := row8 HZ8.out.1
              obtain ⟨v0, v1, v2, v3, v4, v5, v6, v7⟩ := ice8 HZ8.out.1
              go_wp2_with fail
              refine bodyPost_ret_by (results_row_tmp rfl _ _ w.heap.size 24 _ (0, 0) _ (.int .i64 110) rfl rfl (set8_row HZ8.out.1 ..) Tryz.underlying24 rfl sizeTime) rfl ?_
              rw [HN.out]
              exact ⟨rfl, set8_below HZ8.out.2 (Nat.le_refl _) ..⟩
          · have hB : B = false := by
              have hB := HB.out
              have g : ¬ 0 < st2.n 6 ∨ (0 < st2.t 4 ∨ 0 < st2.t 5) := by
                rcases hw with hw | hw
                · have := hw.1; omega
                · have := hw.1; omega
              rcases g with g | g
              · rw [decide_eq_false g] at hB; exact hB.symm
              · rw [decide_eq_true g, Bool.not_true, Bool.and_false] at hB; exact hB.symm
            subst hB
            have hmd : Hid (-100 ≤ (encD st2).month ∧ (encD st2).month ≤ 100 ∧ -100 ≤ (encD st2).day ∧ (encD st2).day ≤ 100) := Lib.hid (by
              rcases hw with hw | hw
              · exact ⟨hw.2.2.1, hw.2.2.2.1, hw.2.2.2.2.1, hw.2.2.2.2.2.1⟩
              · exact ⟨hw.2.2.1, hw.2.2.2.1, hw.2.2.2.2.1, hw.2.2.2.2.2.1⟩)
            have hq : Hid ((OkD Y (encD st2).month (encD st2).day ∧ dayS st2 = some (numI Y (encD st2).month (encD st2).day)) ∨ (¬ OkD Y (encD st2).month (encD st2).day ∧ dayS st2 = none)) := Lib.hid (by
              rcases hw with hw | hw
              · exact .inl hw.2.2.2.2.2.2
              · exact .inr hw.2.2.2.2.2.2)
            clear hw
            go_wp2_with fail
            go_meet
            exact ⟨rfl, (encD st2).month, (encD st2).day, HZ3, H3, hmd, hq⟩
        case rest =>
        obtain ⟨rfl, M, D, HZ5, HR5, HMD, HWD⟩ := hcut
        obtain ⟨w5, rfl⟩ : ∃ w5 : World, w5 = wc := ⟨_, rfl⟩
        clear hw HB c9 c10 c16 c0 c1 H3 HZ3
        clear p0 p1 p2 p3 p4 p5 p6 p7 v0 v1 v2 v3 v4 v5 v6 v7
        have c7 : w5.cell? ⟨rb, 7, none⟩ = some (.int .i64 M) := HR5.out.cell 7 _ rfl
        have c8 : w5.cell? ⟨rb, 8, none⟩ = some (.int .i64 D) := HR5.out.cell 8 _ rfl
        obtain ⟨m1, m2, m3, m4⟩ := HMD.out
        rcases HWD.out with ⟨q5, q7⟩ | ⟨q5, q7⟩
        · have hhb := hourS_bd HI.out
          have hi10 := HI.out.at 10 (by omega) 0 59 (by decide) (by decide)
          have hi11 := HI.out.at 11 (by omega) 0 60 (by decide) (by decide)
          have hways := hour_ways HI.out
          have hhd : -100 ≤ (encD st2).hour ∧ (encD st2).hour ≤ 100 := by omega
          have hts := timeS_yes (Int.not_lt.2 HTT.out) _ q7
          obtain ⟨hr, hhr⟩ : ∃ hr, hourS st2 = hr := ⟨_, rfl⟩
          rw [hhr] at hhb hways hts
          obtain ⟨a, ha⟩ : ∃ a, numI Y M D * 86400 + hr * 3600 + st2.n 10 * 60 + st2.n 11 = a := ⟨_, rfl⟩
          rw [ha] at hts
          have HTS0 := Lib.hid hts
          have HJ := Lib.hid (fun W => rjoin_at Y M D hr (st2.n 10) (st2.n 11) q5 hhb (by omega) (by omega) a ha W)
          have HD := Lib.hid (fun W => day_q Y M D q5 W)
          obtain ⟨A1, hA1⟩ : ∃ A1, (if knownS a then a else 0) = A1 := ⟨_, rfl⟩
          obtain ⟨A2, hA2⟩ : ∃ A2 : Int, (if knownS a then 0 else 110) = A2 := ⟨_, rfl⟩
          rw [hA1, hA2] at HJ
          have HA1 := Lib.hid hA1
          have HA2 := Lib.hid hA2
          clear hA1 hA2
          unfold timeV at HJ
          obtain ⟨b1, b2⟩ := hhd
          clear hts ha hhr q7
          go_upto_region 17 with fail
          go_quiet ((go_at_call 34; exact Calls.quiet_of (HD.out _)))
          have hz_a := HZ5.out.below (below_drewN (Below.refl _ _) nq)
          have hr_a := HR5.out.below (below_drewN (Below.refl _ _) nq)
          generalize w5.drewN nq = w6 at hz_a hr_a ⊢
          have HZ6 := Lib.hid hz_a
          have HR6 := Lib.hid (show DrAt w6 rb ({ encD st2 with month := M, day := D }) from hr_a)
          clear hz_a hr_a
          have c7 := HR6.out.cell 7 (.int .i64 M) rfl
          have c8 := HR6.out.cell 8 (.int .i64 D) rfl
          have c11 := HR6.out.cell 11 (.int .i64 (encD st2).hour) rfl
          have c12 := HR6.out.cell 12 (.int .i64 (encD st2).half) rfl
          have c13 := HR6.out.cell 13 (.bool (encD st2).twelv) rfl
          have c14 := HR6.out.cell 14 (.int .i64 (st2.n 10)) rfl
          have c15 := HR6.out.cell 15 (.int .i64 (st2.n 11)) rfl
          obtain ⟨H0, hH0⟩ : ∃ H0, (encD st2).hour = H0 := ⟨_, rfl⟩
          obtain ⟨N9, hN9⟩ : ∃ N9, (encD st2).half = N9 := ⟨_, rfl⟩
          obtain ⟨T9, hT9⟩ : ∃ T9, (encD st2).twelv = T9 := ⟨_, rfl⟩
          rw [hH0] at c11 hways b1 b2
          rw [hN9] at c12 hways
          rw [hT9] at c13 hways
          clear hH0 hN9 hT9
          obtain ⟨b3, b4⟩ := hhb
          obtain ⟨BB, hBB⟩ : ∃ BB, (T9 && (N9 == 2)) = BB := ⟨_, rfl⟩
          have HBB := Lib.hid hBB
          have HW := Lib.hid hways
          clear hBB hways
          go_upto_region 20 with fail
          go_cut [18] from 122 (fun v wx => v = .int .i64 H0 ∧ w6 = wx)
          case first =>
            go_wp2_with fail
            go_meet
            exact ⟨rfl, rfl⟩
          case rest =>
          obtain ⟨rfl, rfl⟩ := hcut
          go_upto_region 21 with fail
          go_cut [18, 136] from 122 (fun v b wx => v = .int .i64 H0 ∧ b = .bool BB ∧ w6 = wx)
          case first =>
            have hBB := HBB.out
            rcases HW.out with ⟨rfl, g2⟩ | ⟨rfl, g1, g2⟩ | ⟨rfl, g1, g2⟩
            · replace hBB : false = BB := hBB
              subst hBB
              clear g2
              go_wp2_with fail
              go_meet
              exact ⟨rfl, rfl, rfl⟩
            · rw [g1] at hBB
              replace hBB : false = BB := hBB
              subst hBB
              clear g2
              go_wp2_with fail
              go_meet
              exact ⟨rfl, rfl, rfl⟩
            · rw [g1] at hBB
              replace hBB : true = BB := hBB
              subst hBB
              clear g2
              go_wp2_with fail
              go_meet
              exact ⟨rfl, rfl, rfl⟩
          case rest =>
          obtain ⟨rfl, rfl, rfl⟩ := hcut
          go_upto_if 136 with fail
          go_cut [18] from 122 (fun v wx => v = .int .i64 hr ∧ w6 = wx)
          case first =>
            have hBB := HBB.out
            rcases HW.out with ⟨rfl, g2⟩ | ⟨rfl, g1, g2⟩ | ⟨rfl, g1, g2⟩
            · replace hBB : false = BB := hBB
              subst hBB
              subst g2
              go_wp2_with fail
              go_meet
              exact ⟨rfl, rfl⟩
            · rw [g1] at hBB
              replace hBB : false = BB := hBB
              subst hBB
              subst g2
              go_wp2_with fail
              go_meet
              exact ⟨rfl, rfl⟩
            · rw [g1] at hBB
              replace hBB : true = BB := hBB
              subst hBB
              have G2 := Lib.hid g2
              clear g2
              go_wp2_with fail
              go_meet
              exact ⟨by rw [G2.out], rfl⟩
          case rest =>
          obtain ⟨rfl, rfl⟩ := hcut
          clear c11 c12 c13
          go_upto_region 23 with fail
          go_cut [19, 20] from 140 (fun v20 v21 wx => v20 = .int .i64 A1 ∧ v21 = .int .i64 A2 ∧ Hid (ResZ w wx))
          case first =>
            go_region_law ((go_simp; go_at_call 36; refine (HJ.out _).mono ?_; rintro e w7 ⟨rfl, hb⟩; have HZ7 : Hid (ResZ w w7) := Lib.hid (by first | exact HZ6.out.below hb | exact (HZ6.out.below (below_drewN (Below.refl _ _) _)).below hb | exact (HZ6.out.below (Below.refl _ _).drew).below hb); clear hb))
            all_goals
              go_wp2_with fail
              go_meet
              first | exact HZ7 | exact ⟨rfl, rfl, HZ7⟩ | exact ⟨rfl, rfl, Lib.hid (HZ7.out.below (below_drewN (Below.refl _ _) _))⟩ | exact ⟨rfl, rfl, Lib.hid (HZ7.out.below (Below.refl _ _).drew)⟩
          case rest =>
          obtain ⟨rfl, rfl, HZ7⟩ := hcut
          clear c7 c8 c14 c15
          have hts := HTS0.out
          by_cases hk : knownS a
          · have hA1 := HA1.out
            have hA2 := HA2.out
            rw [if_pos hk] at hA1 hA2 hts
            subst hA1 hA2
            have HTS := Lib.hid (HF.out.trans hts)
            clear hts
            obtain ⟨p0, p1, p2, p3, p4, p5, p6, p7⟩ := row8 HZ7.out.1
            obtain ⟨v0, v1, v2, v3, v4, v5, v6, v7⟩ := ice8 HZ7.out.1
            obtain ⟨y, m, d, hD, hN⟩ := num_ex (a / 86400) hk.1 hk.2
            have HSp := Lib.hid (fun w => rsplit_at a hk y m d hD hN w)
            have HA := Lib.hid (And.intro hk (And.intro hD hN))
            unfold tmI at HSp
            obtain ⟨x3, e3⟩ : ∃ x, a % 86400 / 3600 = x := ⟨_, rfl⟩
            obtain ⟨x4, e4⟩ : ∃ x, a % 86400 / 60 % 60 = x := ⟨_, rfl⟩
            obtain ⟨x5, e5⟩ : ∃ x, fI (a % 86400 % 60) = x := ⟨_, rfl⟩
            obtain ⟨x6, e6⟩ : ∃ x, (numI y m d + 4) % 7 = x := ⟨_, rfl⟩
            obtain ⟨x7, e7⟩ : ∃ x, numI y m d - beginI y 0 = x := ⟨_, rfl⟩
            have HV : Hid (tmI y m d a = timeV y m d x3 x4 x5 x6 x7) := Lib.hid (by unfold tmI; rw [e3, e4, e5, e6, e7])
            rw [e3, e4, e5, e6, e7] at HSp
            unfold timeV at HSp
            have hk1 := hk.1
            have hk2 := hk.2
            clear e3 e4 e5 e6 e7 hD hN hk
            go_wp2_with fail
            refine (HSp.out _).mono ?_
            rintro e w8 ⟨rfl, hb⟩
            have hz8 := HZ7.out.below hb
            go_upto_region 27 with fail
            have hr2 := heap_alloc_new w8 (Obj.cells #[.int .i64 y, .int .i64 m, .int .i64 d, .int .i64 x3, .int .i64 x4, .float .f64 x5, .int .i64 x6, .int .i64 x7] 24)
            have hz9 := hz8.below ((Below.refl _ _).alloc (Nat.le_refl _) (Obj.cells #[.int .i64 y, .int .i64 m, .int .i64 d, .int .i64 x3, .int .i64 x4, .float .f64 x5, .int .i64 x6, .int .i64 x7] 24))
            obtain ⟨q, hq⟩ : ∃ q, w8.heap.size = q := ⟨_, rfl⟩
            rw [hq] at hr2 ⊢
            generalize w8.alloc (Obj.cells #[.int .i64 y, .int .i64 m, .int .i64 d, .int .i64 x3, .int .i64 x4, .float .f64 x5, .int .i64 x6, .int .i64 x7] 24) = X2 at hr2 hz9 ⊢
            have R2 := Lib.hid hr2
            have HZ9 := Lib.hid hz9
            clear hr2 hz9 hz8 hb hq
            clear p0 p1 p2 p3 p4 p5 p6 p7 v0 v1 v2 v3 v4 v5 v6 v7
            obtain ⟨u0, u1, u2, u3, u4, u5, u6, u7⟩ := row8 R2.out
            obtain ⟨p0, p1, p2, p3, p4, p5, p6, p7⟩ := row8 HZ9.out.1
            obtain ⟨v0, v1, v2, v3, v4, v5, v6, v7⟩ := ice8 HZ9.out.1
            go_wp2_with fail
            refine bodyPost_ret_by (results_row_tmp rfl _ _ w.heap.size 24 _ (0, 0) _ (.int .i64 0) rfl rfl (set8_row HZ9.out.1 ..) Tryz.underlying24 rfl sizeTime) rfl ?_
            rw [HTS.out]
            exact ⟨⟨HA.out.1, y, m, d, HA.out.2.1, HA.out.2.2, by rw [HV.out]; rfl⟩, set8_below HZ9.out.2 (Nat.le_refl _) ..⟩
          · have hA1 := HA1.out
            have hA2 := HA2.out
            rw [if_neg hk] at hA1 hA2 hts
            subst hA1 hA2
            have HTS := Lib.hid (HF.out.trans hts)
            clear hts hk
            obtain ⟨p0, p1, p2, p3, p4, p5, p6, p7⟩ := row8 HZ7.out.1
            obtain ⟨v0, v1, v2, v3, v4, v5, v6, v7⟩ := ice8 HZ7.out.1
            go_wp2_with fail
            refine bodyPost_ret_by (results_row_tmp rfl _ _ w.heap.size 24 _ (0, 0) _ (.int .i64 110) rfl rfl (set8_row HZ7.out.1 ..) Tryz.underlying24 rfl sizeTime) rfl ?_
            rw [HTS.out]
            exact ⟨rfl, set8_below HZ7.out.2 (Nat.le_refl _) ..⟩
        · have HN : Hid (parseS s.data.toList f.data.toList = none) := Lib.hid (by rw [HF.out, timeS_no (Int.not_lt.2 HTT.out) q7])
          have HD2 : Hid (∀ W : World, Calls Tryz.prog 34 #[.int .i64 Y, .int .i64 M, .int .i64 D] W fun e w' => e = .returned (.tuple #[.int .i64 0, .int .i64 110]) ∧ w' = W) := Lib.hid (fun W => (refDay_no Y M D (by omega) (by omega) q5 W).mono fun _ _ ⟨x, z⟩ => ⟨x, z.symm⟩)
          clear q5 q7
          go_upto_region 17 with fail
          go_quiet ((go_at_call 34; exact Calls.quiet_of_same (HD2.out _)))
          have hz_a := HZ5.out.below (below_drewN (Below.refl _ _) nq)
          have hr_a := HR5.out.below (below_drewN (Below.refl _ _) nq)
          generalize w5.drewN nq = w6 at hz_a hr_a ⊢
          have HZ6 := Lib.hid hz_a
          have HR6 := Lib.hid (show DrAt w6 rb ({ encD st2 with month := M, day := D }) from hr_a)
          clear hz_a hr_a
          obtain ⟨p0, p1, p2, p3, p4, p5, p6, p7⟩ := row8 HZ6.out.1
          obtain ⟨v0, v1, v2, v3, v4, v5, v6, v7⟩ := ice8 HZ6.out.1
          go_wp2_with fail
          refine bodyPost_ret_by (results_row_tmp rfl _ _ w.heap.size 24 _ (0, 0) _ (.int .i64 110) rfl rfl (set8_row HZ6.out.1 ..) Tryz.underlying24 rfl sizeTime) rfl ?_
          rw [HN.out]
          exact ⟨rfl, set8_below HZ6.out.2 (Nat.le_refl _) ..⟩
    · have HF : Hid (parseS s.data.toList f.data.toList = none) := Lib.hid (by rw [HT.out, if_neg hnil])
      have hz : 0 < S.size := by
        rw [hsz]
        cases e : st2.left with
        | nil => exact absurd e hnil
        | cons c l => simp
      clear hnil hsz
      go_wp2_with fail
      refine bodyPost_ret_by (results_row_tmp rfl _ _ w.heap.size 24 _ (0, 0) _ (.int .i64 110) rfl rfl (set8_row HZ3.out.1 ..) Tryz.underlying24 rfl sizeTime) rfl ?_
      rw [HF.out]
      exact ⟨rfl, set8_below HZ3.out.2 (Nat.le_refl _) ..⟩
end Go.Proofs.YtpjncnoejdaplaaGreatDoor
