/- A format followed: the program's loop. -/
import Derived.Test.YtpjncnoejdaplaaGreatDoorLAP
import Derived.Test.YtpjncnoejdaplaaGreatDoorLAO
namespace Go.Proofs.YtpjncnoejdaplaaGreatDoor
open Go Go.RowKit Go.Shelf

theorem zeroRr (w : World) : (zeroValue 163).run Tryz.prog w = .ok .nilFunc w := by kernel_rfl
theorem eqlFn (fn : Nat) (caps : Array Value) (w : World) : (binOp .eql 163 (.func (.func fn) #[] caps) .nilFunc).run Tryz.prog w = .ok (.bool false) w := by kernel_rfl
theorem eqlNilFn (w : World) : (binOp .eql 163 .nilFunc .nilFunc).run Tryz.prog w = .ok (.bool true) w := by kernel_rfl
/-- What a step may turn. -/
def StepOK (f : St → Option St) : Prop := ∀ st s, f st = some s → s.left.length ≤ st.left.length ∧ st.turns ≤ s.turns ∧ s.turns ≤ st.turns + 20
/-- A map, and what its functions read. -/
def SemR (T : Int) (w : World) (mb n rb : Nat) (eb : Addr) (P : Nat → Prop) (sem : Nat → Option (St → Option St)) : Prop := ∃ f, MapF w mb n f ∧ mb ≠ rb ∧ ∀ c, P c → match sem c with
  | none => f c = .nilFunc
  | some step => isFn (f c) = true ∧ StepOK step ∧ ∀ w' st, w.grownBy w' (some rb) → RdAt w' rb st → StB st → st.turns ≤ T → CallsV (f c) (.pointer (some ⟨rb, 0, none⟩)) w' fun e w'' => StepPost rb eb w' (step st) e w''
theorem SemR.grown {T : Int} {w w' : World} {mb n rb : Nat} {eb : Addr} {P : Nat → Prop} {sem : Nat → Option (St → Option St)} (h : SemR T w mb n rb eb P sem) (hg : w.grownBy w' (some rb)) : SemR T w' mb n rb eb P sem := by
  obtain ⟨f, h1, h0, h2⟩ := h
  refine ⟨f, h1.block (hg.block mb h1.lt (fun e => h0 (Option.some.inj e))), h0, fun c hc => ?_⟩
  have h3 := h2 c hc
  cases e : sem c with
  | none => rw [e] at h3; exact h3
  | some t => rw [e] at h3; exact ⟨h3.1, h3.2.1, fun w'' st hg' => h3.2.2 w'' st (Lib.grownBy_trans hg hg')⟩
theorem followT_lit (sem : Nat → Option (St → Option St)) (c : UInt8) (r : List UInt8) (st : St) (h : c ≠ 37) : followT sem (c :: r) st = (literalS c st).bind (followT sem r) := by
  cases r with
  | nil =>
    unfold followT
    rw [if_neg h]
    cases literalS c st <;> simp [followT]
  | cons d r =>
    conv => lhs; unfold followT
    rw [if_neg h]
theorem followT_dir (sem : Nat → Option (St → Option St)) (d : UInt8) (r : List UInt8) (st : St) : followT sem (37 :: d :: r) st = match sem d.toNat with
      | some f => (f st).bind (followT sem r)
      | none => none := by
  conv => lhs; unfold followT
  rw [if_pos rfl]
  cases sem d.toNat <;> rfl
theorem literalS_ok (c : UInt8) : ∀ st s, literalS c st = some s → s.left.length ≤ st.left.length ∧ s.turns = st.turns := by
  intro st s h
  unfold literalS at h
  split at h
  · obtain rfl := Option.some.inj h
    exact ⟨dropWhile_le _ _, rfl⟩
  · cases e : st.left with
    | nil => rw [e] at h; cases h
    | cons d r =>
      rw [e] at h
      simp only at h
      split at h
      · obtain rfl := Option.some.inj h
        exact ⟨by show r.length ≤ _; simp, rfl⟩
      · cases h
/-- What the loop knows. -/
structure FolLoop (w W : World) (rb : Nat) (sem : Nat → Option (St → Option St)) (f : ByteArray) (st s : St) (k : Nat) : Prop where
  row : RdAt W rb s
  grown : w.grownBy W (some rb)
  len : s.left.length ≤ st.left.length
  t1 : st.turns ≤ s.turns
  t2 : s.turns ≤ st.turns + 20 * k
  eq : followT sem f.data.toList st = followT sem (f.data.toList.drop k) s
theorem FolLoop.stB {w W : World} {rb : Nat} {sem : Nat → Option (St → Option St)} {f : ByteArray} {st s : St} {k : Nat} (h : FolLoop w W rb sem f st s k) (hst : StB st) (hk : k ≤ 1048576) {T : Int} (hT : T ≤ 900000000000000) (ht : st.turns + 20971520 ≤ T) : StB s ∧ s.turns ≤ T := by
  have h1 := h.len
  have h2 := h.t1
  have h3 := h.t2
  have h4 := hst.len
  have h5 := hst.t1
  exact ⟨⟨by omega, by omega, by omega⟩, by omega⟩
set_option maxRecDepth 100000 in
set_option maxHeartbeats 4000000 in
theorem follow_any (f : ByteArray) (hf : f.size ≤ 1048576) (P : Nat → Prop) (hP : ∀ c ∈ f.data.toList, P c.toNat) (sem : Nat → Option (St → Option St)) (mb n rb : Nat) (hrb : 6 ≤ rb) (eb : Addr) (st : St) (hst : StB st) (T : Int) (hT : T ≤ 900000000000000) (ht : st.turns + 20971520 ≤ T) (w : World) (hE : ErrW w eb) (hR : RdAt w rb st) (hS : SemR T w mb n rb eb P sem) :
    Calls Tryz.prog 79 #[.pointer (some ⟨rb, 0, none⟩), .string f, .map (some mb)] w fun e w' => StepPost rb eb w (followT sem f.data.toList st) e w' := by
  have HS := Lib.hid hS
  have HP := Lib.hid hP
  have HE := Lib.hid hE
  have HST := Lib.hid hst
  have HT := Lib.hid ht
  have HTT := Lib.hid hT
  have HR := Lib.hid hR
  clear hS hP hE hst ht hT hR
  have q1 := eqlFn
  have q2 := eqlNilFn
  go_enter Tryz.func79, Tryz.ntmps79
  go_wp2_with fail
  go_loopw [7] (fun i wr => ∃ (k : Nat) (s : St), k ≤ f.size ∧ i = .int .i64 k ∧ Hid (FolLoop w wr rb sem f st s k)) (fun i _ => f.size - (intOf i).toNat)
  case atStart => exact ⟨0, st, by omega, rfl, Lib.hid ⟨HR.out, World.grownBy.refl _ _, Nat.le_refl _, by omega, by omega, rfl⟩⟩
  case round =>
    obtain ⟨k, s, hk, rfl, HL⟩ := hrel
    have HB := Lib.hid (HL.out.stB HST.out (by omega) HTT.out HT.out)
    have d5 := HE.out.grown hrb HL.out.grown
    unfold ErrW errV at d5
    by_cases hlt : k < f.size
    · obtain ⟨c, hc⟩ : ∃ c, f[k] = c := ⟨_, rfl⟩
      have HC : Hid (f.data.toList.drop k = c :: f.data.toList.drop (k + 1)) := Lib.hid (by rw [List.drop_eq_getElem_cons (lt_list hlt), ← hc]; rfl)
      by_cases h1 : c = 37
      · subst h1
        by_cases h2 : k + 1 < f.size
        · obtain ⟨d, hd⟩ : ∃ d, f[k + 1] = d := ⟨_, rfl⟩
          have hd8 := d.toNat_lt
          have HD : Hid (f.data.toList.drop (k + 1) = d :: f.data.toList.drop (k + 2)) := Lib.hid (by rw [List.drop_eq_getElem_cons (lt_list h2), ← hd]; rfl)
          have hmem : d ∈ f.data.toList := by rw [← hd]; exact List.getElem_mem (lt_list h2)
          have HF := Lib.hid (show followT sem f.data.toList st = match sem d.toNat with
              | some g => (g s).bind (followT sem (f.data.toList.drop (k + 2)))
              | none => none from by rw [HL.out.eq, HC.out, HD.out, followT_dir])
          obtain ⟨F, hM, _, hA⟩ := HS.out.grown HL.out.grown
          have hA1 := hA d.toNat (HP.out d hmem)
          have hlk := (hM.look Tryz.underlying131 (zeroRr _) (c := d.toNat) (by omega)).2
          have hne : ((k : Int) + 1 == (f.size : Int)) = false := by rw [beq_eq_false_iff_ne]; omega
          cases e : sem d.toNat with
          | none =>
            rw [e] at hA1 HF
            rw [show F d.toNat = .nilFunc from hA1] at hlk
            clear hM hA hA1 hmem e
            go_wp2_with fail
            go_ret
            rw [HF.out]
            exact ⟨⟨rfl, _, HL.out.row⟩, HL.out.grown⟩
          | some step =>
            rw [e] at hA1 HF
            obtain ⟨hfn, hok, hcall⟩ := hA1
            obtain ⟨fid, caps, hv, hen, hcl⟩ := hcall _ s (World.grownBy.refl _ _) HL.out.row HB.out.1 HB.out.2
            rw [hv] at hlk
            have HCL := Lib.hid hcl
            have HOK := Lib.hid hok
            clear hM hA hfn hcall hv hcl hok hmem e
            cases e2 : step s with
            | none =>
              rw [e2] at HCL
              have HF2 : Hid (followT sem f.data.toList st = none) := Lib.hid (by rw [HF.out]; simp only [e2]; rfl)
              clear e2
              go_wp2_with fail
              refine HCL.out.mono ?_
              rintro e w2 ⟨⟨rfl, s2, hr⟩, hg⟩
              have R2 := Lib.hid hr
              have G2 := Lib.hid (Lib.grownBy_trans HL.out.grown hg)
              clear hr hg
              unfold errV
              go_wp2_with fail
              go_ret
              rw [HF2.out]
              exact ⟨⟨rfl, _, R2.out⟩, G2.out⟩
            | some s2 =>
              rw [e2] at HCL
              have HO := Lib.hid (HOK.out s s2 e2)
              have HF2 : Hid (followT sem f.data.toList st = followT sem (f.data.toList.drop (k + 2)) s2) := Lib.hid (by rw [HF.out]; simp only [e2]; rfl)
              clear e2
              go_wp2_with fail
              refine HCL.out.mono ?_
              rintro e w2 ⟨⟨rfl, hr⟩, hg⟩
              have R2 := Lib.hid hr
              have G2 := Lib.hid (Lib.grownBy_trans HL.out.grown hg)
              clear hr hg
              go_wp2_with fail
              go_roundw
              case rel => exact ⟨k + 2, s2, by omega, by go_num, Lib.hid ⟨R2.out, G2.out, Nat.le_trans HO.out.1 HL.out.len, Int.le_trans HL.out.t1 HO.out.2.1, by have := HL.out.t2; have := HO.out.2.2; omega, HF2.out⟩⟩
              case measure => simp [intOf]; omega
        · have hkk : (k : Int) + 1 = (f.size : Int) := by omega
          have heq : ((k : Int) + 1 == (f.size : Int)) = true := by rw [beq_iff_eq]; exact hkk
          have HF : Hid (followT sem f.data.toList st = none) := Lib.hid (by
            rw [HL.out.eq, HC.out, List.drop_of_length_le (by simp; omega)]
            simp [followT])
          clear hkk
          go_wp2_with fail
          go_ret
          rw [HF.out]
          exact ⟨⟨rfl, _, HL.out.row⟩, HL.out.grown⟩
      · have hcn : ((c.toNat : Int) != 37) = true := by
          rw [bne_iff_ne]
          intro e
          exact h1 (UInt8.toNat_inj.1 (by have : (37 : UInt8).toNat = 37 := rfl
                                          omega))
        have HF : Hid (followT sem f.data.toList st = (literalS c s).bind (followT sem (f.data.toList.drop (k + 1)))) := Lib.hid (by rw [HL.out.eq, HC.out, followT_lit _ _ _ _ h1])
        clear h1
        cases e : literalS c s with
        | none =>
          have HE2 := Lib.hid e
          rw [e] at HF
          clear e d5
          go_wp2_with fail
          refine (literal_any c rb s HB.out.1.len _ HL.out.row).mono ?_
          rw [HE2.out]
          rintro e w2 ⟨rfl, hr, hg⟩
          have R2 := Lib.hid hr
          have G2 := Lib.hid (Lib.grownBy_trans HL.out.grown hg)
          clear hr hg
          have d5 := HE.out.grown hrb G2.out
          unfold ErrW errV at d5
          go_wp2_with fail
          go_ret
          rw [HF.out]
          exact ⟨⟨rfl, _, R2.out⟩, G2.out⟩
        | some s2 =>
          have HE2 := Lib.hid e
          have HO := Lib.hid (literalS_ok c s s2 e)
          rw [e] at HF
          clear e d5
          go_wp2_with fail
          refine (literal_any c rb s HB.out.1.len _ HL.out.row).mono ?_
          rw [HE2.out]
          rintro e w2 ⟨rfl, hr, hg⟩
          have R2 := Lib.hid (show RdAt w2 rb s2 from hr)
          have G2 := Lib.hid (Lib.grownBy_trans HL.out.grown hg)
          clear hr hg
          go_wp2_with fail
          go_roundw
          case rel => exact ⟨k + 1, s2, by omega, by go_num, Lib.hid ⟨R2.out, G2.out, Nat.le_trans HO.out.1 HL.out.len, by rw [HO.out.2]; exact HL.out.t1, by rw [HO.out.2]; have := HL.out.t2; omega, HF.out⟩⟩
          case measure => simp [intOf]; omega
    · have hkk : k = f.size := by omega
      subst hkk
      have HF : Hid (followT sem f.data.toList st = some s) := Lib.hid (by
        rw [HL.out.eq, List.drop_of_length_le (by simp)]
        simp [followT])
      clear hlt hk d5
      go_wp2_with fail
      go_ret
      rw [HF.out]
      exact ⟨⟨rfl, HL.out.row⟩, HL.out.grown⟩
end Go.Proofs.YtpjncnoejdaplaaGreatDoor
namespace Go.Proofs.YtpjncnoejdaplaaGreatDoor
open Go Go.RowKit Go.Shelf

def wpOK : WP → Bool
  | .pad d f _ => decide (d ≤ 3) && decide (f.size ≤ 1)
  | .text t => decide (t.size ≤ 10)
  | _ => true
theorem plain_128 : ∀ c : Fin 128, (plainW c.val).all wpOK = true := by decide
theorem plain_far (c : Nat) (h : 128 ≤ c) : plainW c = none := by
  unfold plainW
  iterate 33 rw [if_neg (by omega)]
theorem plainW_ok (c : Nat) (p : WP) (h : plainW c = some p) : wpOK p = true := by
  rcases Nat.lt_or_ge c 128 with hc | hc
  · have h1 := plain_128 ⟨c, hc⟩
    simp only [h, Option.all_some] at h1
    exact h1
  · rw [plain_far c hc] at h
    cases h
theorem day_len : ∀ k : Fin 7, (dayNames.getD k.val ⟨#[]⟩).size ≤ 9 := by decide
theorem month_len : ∀ k : Fin 12, (monthNames.getD k.val ⟨#[]⟩).size ≤ 9 := by decide
theorem nameAt_len (l : List ByteArray) (n : Nat) (h : ∀ k : Fin n, (l.getD k.val ⟨#[]⟩).size ≤ 9) (i : Int) (h1 : 0 ≤ i) (h2 : i < n) : (nameAt l i).length ≤ 9 := by
  have := h ⟨i.toNat, by omega⟩
  unfold nameAt
  simpa using this
theorem txt_len (m : Mom) (hm : MomOK m) (p : WP) (h : wpOK p = true) : (p.txt m).length ≤ 100 := by
  obtain ⟨g1, g2⟩ : 0 ≤ m.wd ∧ m.wd ≤ 6 := hm.2.2.2.2.2.2.1
  obtain ⟨b1, b2⟩ : 0 ≤ m.mo ∧ m.mo ≤ 11 := hm.2.1
  have hd := nameAt_len dayNames 7 day_len m.wd g1 (by omega)
  have hmo := nameAt_len monthNames 12 month_len m.mo b1 (by omega)
  cases p with
  | dayS => simp only [WP.txt, List.length_take]; omega
  | dayL => simp only [WP.txt]; omega
  | monS => simp only [WP.txt, List.length_take]; omega
  | monL => simp only [WP.txt]; omega
  | halfU => simp only [WP.txt]; split <;> simp
  | halfL => simp only [WP.txt]; split <;> simp
  | text t =>
    have : t.size ≤ 10 := by simpa [wpOK] using h
    simp only [WP.txt]
    have e : t.data.toList.length = t.size := by simp
    omega
  | pad d f n =>
    obtain ⟨h1, h2⟩ : d ≤ 3 ∧ f.size ≤ 1 := by simpa [wpOK] using h
    obtain ⟨q1, q2⟩ := NF.bound m hm n
    have h3 := digits_short (n.val m).natAbs (by omega)
    have h4 : (Lib.repeatL f.data.toList (d - (Lib.decDigits (n.val m).natAbs).length)).length ≤ 3 := by
      rw [Lib.repeatL_length]
      have e : f.data.toList.length ≤ 1 := by simpa using h2
      exact Nat.le_trans (Nat.mul_le_mul (Nat.sub_le _ _) e) (by omega)
    simp only [WP.txt, padT, List.length_append]
    split <;> simp <;> omega
theorem padOK_of (p : WP) (h : wpOK p = true) : padOK p := by
  cases p <;> simp only [padOK]
  obtain ⟨h1, h2⟩ : _ ∧ _ := by simpa [wpOK] using h
  exact ⟨by omega, by omega⟩
def isFlat (c : Nat) : Prop := formOf c = none
theorem sem_flat {w : World} {mb n : Nat} {m : Mom} {eb : Addr} (hm : MomOK m) (hG : GlobW w eb) (h : SpG WrAt w mb n specW) : SemAt w mb n m isFlat (semP m) := by
  obtain ⟨f, h1, h2⟩ := h
  refine ⟨f, h1, fun c hc => ?_⟩
  have h3 := h2 c
  unfold isFlat at hc
  unfold specW at h3
  rw [hc] at h3
  unfold semP
  cases e : plainW c with
  | none =>
    rw [e] at h3
    have h4 : f c = .nilFunc := h3
    show isFn (f c) = false
    rw [h4]
    rfl
  | some p =>
    rw [e] at h3
    have h4 : isFn (f c) = true ∧ WrAt w mb (f c) (.plain p) := h3
    have hok := plainW_ok c p e
    refine ⟨h4.1, Nat.le_trans (txt_len m hm p hok) (by omega), fun w' hb => ?_⟩
    exact write_any m hm p (padOK_of p hok) mb _ eb w' (hG.below hb) (wr_stays _ _ _ _ _ h4.2 fun k hk _ => hb.block k hk)
theorem form_flat (c : Nat) (f : ByteArray) (h : formOf c = some f) : (∀ d ∈ f.data.toList, isFlat d.toNat) ∧ f.size ≤ 20 ∧ (fmtT (fun _ => none) f.data.toList).length ≤ 20 := by
  unfold formOf at h
  unfold isFlat
  repeat' split at h
  all_goals first | (obtain rfl := Option.some.inj h; exact ⟨by decide, by decide, by decide⟩) | exact absurd h (by simp)
set_option maxRecDepth 100000 in
theorem write_form (m : Mom) (hm : MomOK m) (f : ByteArray) (hf : ∀ d ∈ f.data.toList, isFlat d.toNat) (hs : f.size ≤ 20) (mb n b1 b2 : Nat) (eb : Addr) (w : World) (hG : GlobW w eb) (hS : SpG WrAt w mb n specW)
    (h1 : BoxAt w mb b1 (.string f) 9) (h2 : BoxAt w mb b2 (.map (some mb)) 64) :
    Calls Tryz.prog 76 #[.agg (momV m), .pointer (some ⟨b1, 0, none⟩), .pointer (some ⟨b2, 0, none⟩)] w fun e w' => e = .returned (.string ⟨(fmtT (semP m) f.data.toList).toArray⟩) ∧ Below w.heap.size w w' := by
  have hc1 := box_cell' h1
  have hc2 := box_cell' h2
  have HA := Lib.hid ((Below.refl w.heap.size w).alloc (Nat.le_refl _) (Obj.cells (momV m) 57))
  have HW := Lib.hid (written_any m f (by omega) isFlat hf (semP m) mb n _ (sem_flat hm (hG.below HA.out) (hS.below wr_stays HA.out)))
  clear hm hf hG hS h1 h2
  unfold momV at HA HW ⊢
  go_enter Tryz.func76, Tryz.ntmps76
  go_wp2_with fail
  refine HW.out.mono ?_
  rintro e w1 ⟨rfl, hb⟩
  have HB := Lib.hid hb
  clear hb
  go_wp2_with fail
  go_ret
  exact ⟨rfl, HA.out.trans (HB.out.mono (by simp))⟩
theorem semP_len (m : Mom) (hm : MomOK m) (c : Nat) (t : List UInt8) (h : semP m c = some t) : t.length ≤ 100 := by
  unfold semP at h
  cases e : plainW c with
  | none => rw [e] at h; cases h
  | some p =>
    rw [e] at h
    obtain rfl := Option.some.inj h
    exact txt_len m hm p (plainW_ok c p e)
theorem fmtT_len2 (sem : Nat → Option (List UInt8)) (hs : ∀ c t, sem c = some t → t.length ≤ 100) : ∀ l : List UInt8, (fmtT sem l).length ≤ 100 * l.length
  | [] => by simp [fmtT]
  | [c] => by simp [fmtT]
  | c :: d :: r => by
    have h1 := fmtT_len2 sem hs r
    have h2 := fmtT_len2 sem hs (d :: r)
    unfold fmtT
    split
    · split
      · next t e =>
        have := hs _ _ e
        simp only [List.length_append, List.length_cons] at *
        omega
      · simp only [List.length_cons] at *
        omega
    · simp only [List.length_cons] at *
      omega
theorem sem_all {w : World} {mb n : Nat} {m : Mom} {eb : Addr} (hm : MomOK m) (hG : GlobW w eb) (h : SpG WrAt w mb n specW) : SemAt w mb n m (fun _ => True) (semA m) := by
  have h0 := sem_flat hm hG h
  have hS := h
  obtain ⟨f, h1, h2⟩ := h
  refine ⟨f, h1, fun c _ => ?_⟩
  have h3 := h2 c
  unfold specW at h3
  unfold semA
  cases e : formOf c with
  | none =>
    obtain ⟨f', h1', h2'⟩ := sem_flat hm hG hS
    rw [e] at h3
    unfold semP
    cases e2 : plainW c with
    | none =>
      rw [e2] at h3
      have h4 : f c = .nilFunc := h3
      show isFn (f c) = false
      rw [h4]
      rfl
    | some p =>
      rw [e2] at h3
      have h4 : isFn (f c) = true ∧ WrAt w mb (f c) (.plain p) := h3
      have hok := plainW_ok c p e2
      refine ⟨h4.1, Nat.le_trans (txt_len m hm p hok) (by omega), fun w' hb => ?_⟩
      exact write_any m hm p (padOK_of p hok) mb _ eb w' (hG.below hb) (wr_stays _ _ _ _ _ h4.2 fun k hk _ => hb.block k hk)
  | some g =>
    rw [e] at h3
    obtain ⟨h4, b1, b2, hv, hb1, hb2⟩ : isFn (f c) = true ∧ WrAt w mb (f c) (.form g) := h3
    obtain ⟨k1, k2, _⟩ := form_flat c g e
    refine ⟨h4, Nat.le_trans (fmtT_len2 _ (semP_len m hm) _) (by have : g.data.toList.length = g.size := by simp
                                                                 omega), fun w' hb => ?_⟩
    exact ⟨_, _, hv, enters_of Tryz.func76 (by kernel_rfl) rfl, write_form m hm g k1 k2 mb n b1 b2 eb w' (hG.below hb) (hS.below wr_stays hb) (hb1.stay fun k hk _ => hb.block k hk) (hb2.stay fun k hk _ => hb.block k hk)⟩
/-- A moment written. -/
theorem moment_any (m : Mom) (hm : MomOK m) (f : ByteArray) (hf : f.size ≤ 1048576) (mb n : Nat) (eb : Addr) (w : World) (hG : GlobW w eb) (hS : SpG WrAt w mb n specW) :
    Calls Tryz.prog 24 #[.agg (momV m), .string f, .map (some mb)] w fun e w' => e = .returned (.string ⟨(timeT m f).toArray⟩) ∧ Below w.heap.size w w' :=
  written_any m f hf (fun _ => True) (fun _ _ => trivial) (semA m) mb n w (sem_all hm hG hS)
end Go.Proofs.YtpjncnoejdaplaaGreatDoor
namespace Go.Proofs.YtpjncnoejdaplaaGreatDoor
open Go Go.RowKit Go.Shelf

/-- What one directive's step may turn. -/
def Step1 (f : St → Option St) : Prop := ∀ st s, f st = some s → s.left.length ≤ st.left.length ∧ st.turns ≤ s.turns ∧ s.turns ≤ st.turns + 1
theorem cutName_1 {nm : List UInt8} {st s : St} (e : cutName nm st = some s) : s.left.length ≤ st.left.length ∧ s.turns = st.turns := by
  unfold cutName at e
  split at e
  · obtain rfl := Option.some.inj e
    exact ⟨by show (st.left.drop _).length ≤ _; rw [List.length_drop]; omega, rfl⟩
  · cases e
theorem cutS_1 {p : List UInt8} {st s : St} (e : cutS p st = some s) : s.left.length ≤ st.left.length ∧ s.turns = st.turns := by
  rw [cutS_some e]
  exact ⟨by show (st.left.drop _).length ≤ _; rw [List.length_drop]; omega, rfl⟩
theorem cutS_1d (p : List UInt8) (st : St) : ((cutS p st).getD st).left.length ≤ st.left.length ∧ ((cutS p st).getD st).turns = st.turns := by
  cases e : cutS p st with
  | none => exact ⟨Nat.le_refl _, rfl⟩
  | some s => exact cutS_1 e
theorem nameS_1 (ns : List ByteArray) (k p : Nat) (st : St) : ∀ (n : Nat) (s : St), nameS ns k p st n = some s → s.left.length ≤ st.left.length ∧ st.turns ≤ s.turns ∧ s.turns ≤ st.turns + 1
  | 0, s, h => by cases h
  | n + 1, s, h => by
    unfold nameS at h
    simp only at h
    cases e : cutName (ns.getD (ns.length - (n + 1)) ⟨#[]⟩).data.toList st with
    | some x =>
      rw [e] at h
      obtain rfl := Option.some.inj h
      have h1 := cutName_1 e
      exact ⟨h1.1, by show _ ≤ x.turns + 1; omega, by show x.turns + 1 ≤ _; omega⟩
    | none =>
      rw [e] at h
      simp only at h
      cases e2 : cutName ((ns.getD (ns.length - (n + 1)) ⟨#[]⟩).data.toList.take k) st with
      | some x =>
        rw [e2] at h
        obtain rfl := Option.some.inj h
        have h1 := cutName_1 e2
        exact ⟨h1.1, by show _ ≤ x.turns + 1; omega, by show x.turns + 1 ≤ _; omega⟩
      | none =>
        rw [e2] at h
        exact nameS_1 ns k p st n s h
theorem drop_le' (l : List UInt8) (n : Nat) : (l.drop n).length ≤ l.length := by rw [List.length_drop]; omega
theorem step_1 (p : RP) : Step1 fun st => p.step st := by
  intro st s h
  cases p with
  | num d a b p =>
    unfold RP.step numberS at h
    simp only at h
    split at h
    · cases h
    · obtain rfl := Option.some.inj h
      exact ⟨Nat.le_trans (drop_le' _ _) (dropWhile_le _ _), by show st.turns ≤ st.turns + 1; omega, by show st.turns + 1 ≤ _; omega⟩
  | many l =>
    obtain rfl := Option.some.inj h
    exact ⟨dropWhile_le _ _, by show st.turns ≤ st.turns; omega, by show st.turns ≤ _; omega⟩
  | percent =>
    have h1 := cutS_1 (show cutS [37] st = some s from h)
    exact ⟨h1.1, by omega, by omega⟩
  | zone =>
    have h0 : zoneS st = some s := h
    unfold zoneS at h0
    simp only at h0
    have hl := dropWhile_le blankB st.left
    cases e : cutS [90] (skipS blankB st) with
    | some x =>
      rw [e] at h0
      obtain rfl := Option.some.inj h0
      have h1 := cutS_1 e
      exact ⟨Nat.le_trans h1.1 hl, by rw [h1.2]; exact Int.le_refl _, by rw [h1.2]; show st.turns ≤ _; omega⟩
    | none =>
      rw [e] at h0
      simp only at h0
      cases e2 : signS (skipS blankB st) with
      | none => rw [e2] at h0; cases h0
      | some t =>
        rw [e2] at h0
        simp only at h0
        have ht : t.left.length ≤ st.left.length ∧ t.turns = st.turns := by
          unfold signS at e2
          cases e3 : cutS [43] (skipS blankB st) with
          | some x =>
            rw [e3] at e2
            obtain rfl := Option.some.inj e2
            have h1 := cutS_1 e3
            exact ⟨Nat.le_trans h1.1 hl, h1.2⟩
          | none =>
            rw [e3] at e2
            have h1 := cutS_1 e2
            exact ⟨Nat.le_trans h1.1 hl, h1.2⟩
        split at h0
        · cases h0
        · obtain rfl := Option.some.inj h0
          have h2 := cutS_1d [58] (leftS t (t.left.drop (digK 2 t.left)))
          have h3 := drop_le' t.left (digK 2 t.left)
          refine ⟨Nat.le_trans (drop_le' _ _) (Nat.le_trans h2.1 (Nat.le_trans h3 ht.1)), ?_, ?_⟩
          · show st.turns ≤ ((cutS [58] (leftS t (t.left.drop (digK 2 t.left)))).getD (leftS t (t.left.drop (digK 2 t.left)))).turns
            rw [h2.2]
            show st.turns ≤ t.turns
            omega
          · show ((cutS [58] (leftS t (t.left.drop (digK 2 t.left)))).getD (leftS t (t.left.drop (digK 2 t.left)))).turns ≤ _
            rw [h2.2]
            show t.turns ≤ _
            omega
  | secs =>
    have h0 : secondsS st = some s := h
    unfold secondsS at h0
    simp only at h0
    generalize (if Lib.hasPrefix st.left [45] = true then (-1 : Int) else 1) * digN 12 ((cutS [45] st).getD st).left = a at h0
    have h2 := cutS_1d [45] st
    split at h0
    · cases h0
    · obtain rfl := Option.some.inj h0
      refine ⟨Nat.le_trans (drop_le' _ _) h2.1, ?_, ?_⟩
      · show st.turns ≤ ((cutS [45] st).getD st).turns + 1
        omega
      · show ((cutS [45] st).getD st).turns + 1 ≤ _
        omega
  | name ns k p => exact nameS_1 ns k p st ns.length s h
theorem followT_1 (sem : Nat → Option (St → Option St)) (hs : ∀ c f, sem c = some f → Step1 f) (n : Nat) : ∀ (l : List UInt8), l.length ≤ n → ∀ st s, followT sem l st = some s → s.left.length ≤ st.left.length ∧ st.turns ≤ s.turns ∧ s.turns ≤ st.turns + l.length := by
  induction n with
  | zero =>
    intro l hn st s h
    obtain rfl := List.length_eq_zero_iff.1 (Nat.le_zero.1 hn)
    rw [show followT sem [] st = some st by simp [followT]] at h
    obtain rfl := Option.some.inj h
    exact ⟨Nat.le_refl _, Int.le_refl _, by simp⟩
  | succ n ih =>
    intro l hn st s h
    cases l with
    | nil =>
      rw [show followT sem [] st = some st by simp [followT]] at h
      obtain rfl := Option.some.inj h
      exact ⟨Nat.le_refl _, Int.le_refl _, by simp⟩
    | cons c r =>
      rw [List.length_cons] at hn
      by_cases hc : c = 37
      · subst hc
        cases r with
        | nil => simp [followT] at h
        | cons d r =>
          rw [followT_dir] at h
          cases e : sem d.toNat with
          | none => rw [e] at h; cases h
          | some f =>
            rw [e] at h
            simp only at h
            cases e2 : f st with
            | none => rw [e2] at h; cases h
            | some x =>
              rw [e2] at h
              have h1 := hs _ _ e st x e2
              rw [List.length_cons] at hn
              have h2 := ih r (by omega) x s h
              simp only [List.length_cons]
              refine ⟨by omega, by omega, by omega⟩
      · rw [followT_lit _ _ _ _ hc] at h
        cases e2 : literalS c st with
        | none => rw [e2] at h; cases h
        | some x =>
          rw [e2] at h
          have h1 := literalS_ok c st x e2
          have h2 := ih r (by omega) x s h
          simp only [List.length_cons]
          refine ⟨by omega, by omega, by omega⟩
def rpOK : RP → Bool
  | .num d a b p => decide (d ≤ 12) && decide (-1000000 ≤ a ∧ a ≤ 1000000 ∧ -1000000 ≤ b ∧ b ≤ 1000000) && decide (p < 13)
  | .name ns k p => decide (ns.length ≤ 100) && ns.all (fun s => decide (k ≤ s.size ∧ s.size ≤ 1000)) && decide (p < 13)
  | _ => true
theorem plainR_128 : ∀ c : Fin 128, (plainR c.val).all rpOK = true := by decide
theorem plainR_far (c : Nat) (h : 128 ≤ c) : plainR c = none := by
  unfold plainR
  iterate 33 rw [if_neg (by omega)]
theorem plainR_ok (c : Nat) (p : RP) (h : plainR c = some p) : rpOK p = true := by
  rcases Nat.lt_or_ge c 128 with hc | hc
  · have h1 := plainR_128 ⟨c, hc⟩
    simp only [h, Option.all_some] at h1
    exact h1
  · rw [plainR_far c hc] at h
    cases h
theorem stay_grown {w w' : World} {rb mb B : Nat} (hr : rb < B) (hg : w.grownBy w' (some rb)) {b : Nat} {x : Value} {t : TypeId} (h : BoxB B w mb b x t) : w'.cell? ⟨b, 0, none⟩ = some x ∧ b ≠ rb :=
  ⟨cell_grown (box_cell h.2) (by show b ≠ rb; have := h.1; omega) hg, by have := h.1; omega⟩
theorem stayB {w w' : World} {rb mb B : Nat} (hr : rb < B) (hg : w.grownBy w' (some rb)) {b : Nat} {x : Value} {t : TypeId} (h : BoxB B w mb b x t) : BoxB B w' mb b x t :=
  ⟨h.1, h.2.1, (hg.block b (Array.getElem?_eq_some_iff.1 h.2.2).1 (fun e => by have := Option.some.inj e; have := h.1; omega)).trans h.2.2⟩
theorem read_any (p : RP) (hp : rpOK p = true) (B mb rb : Nat) (hr : rb < B) (hrb : 6 ≤ rb) (v : Value) (eb : Addr) (w w' : World) (hg : w.grownBy w' (some rb)) (hE : ErrW w' eb) (st : St) (hst : StB st) (hR : RdAt w' rb st) (h : RrAt B w mb v (.plain p)) :
    CallsV v (.pointer (some ⟨rb, 0, none⟩)) w' fun e w'' => StepPost rb eb w' (p.step st) e w'' := by
  match p, hp, h with
  | .num d a b p, hp, ⟨b1, b2, b3, b4, e, h1, h2, h3, h4⟩ =>
    simp only [rpOK, Bool.and_eq_true, decide_eq_true_eq] at hp
    obtain ⟨⟨hd, hab⟩, hp⟩ := hp
    exact ⟨_, _, e, enters_of Tryz.func162 (by kernel_rfl) rfl, number_any d hd a b hab p hp rb b1 b2 b3 b4 eb st hst w' hE hrb hR (stay_grown hr hg h1).1 (stay_grown hr hg h2).1 (stay_grown hr hg h3).1 (stay_grown hr hg h4).1 (stay_grown hr hg h1).2 (stay_grown hr hg h2).2 (stay_grown hr hg h3).2 (stay_grown hr hg h4).2⟩
  | .many true, _, ⟨b1, e, h1⟩ => exact ⟨_, _, e, enters_of Tryz.func166 (by kernel_rfl) rfl, many_any 139 letterB letter_any (enters_of Tryz.func139 (by kernel_rfl) rfl) rb b1 eb st hst w' hR (stay_grown hr hg h1).1⟩
  | .many false, _, ⟨b1, e, h1⟩ => exact ⟨_, _, e, enters_of Tryz.func166 (by kernel_rfl) rfl, many_any 82 blankB blank_any (enters_of Tryz.func82 (by kernel_rfl) rfl) rb b1 eb st hst w' hR (stay_grown hr hg h1).1⟩
  | .percent, _, h => exact ⟨_, _, h, enters_of Tryz.func138 (by kernel_rfl) rfl, percent_any rb eb st w' hE hrb hR⟩
  | .zone, _, h => exact ⟨_, _, h, enters_of Tryz.func140 (by kernel_rfl) rfl, zone_any rb eb st hst w' hE hrb hR⟩
  | .secs, _, h => exact ⟨_, _, h, enters_of Tryz.func136 (by kernel_rfl) rfl, seconds_any rb eb st hst w' hE hrb hR⟩
  | .name ns k p, hp, ⟨b1, b2, b3, e, ⟨hb1, g, hgB, hbx, hrow⟩, h2, h3⟩ =>
    simp only [rpOK, Bool.and_eq_true, decide_eq_true_eq, List.all_eq_true] at hp
    obtain ⟨⟨hl, hs⟩, hp⟩ := hp
    have hN : NamesR w' rb b1 ns := ⟨g, by omega, by omega, (stayB hr hg ⟨hb1, hbx⟩).2.2, (hg.block g (Array.getElem?_eq_some_iff.1 hrow.2).1 (fun e => by have := Option.some.inj e; omega)).trans hrow.2⟩
    exact ⟨_, _, e, enters_of Tryz.func184 (by kernel_rfl) rfl, name_any ns k p hl hs hp rb b1 b2 b3 eb st hst w' hE hrb hR hN (stay_grown hr hg h2).1 (stay_grown hr hg h3).1 (stay_grown hr hg h2).2 (stay_grown hr hg h3).2⟩
theorem step_ok {f : St → Option St} (h : Step1 f) : StepOK f := fun st s e => ⟨(h st s e).1, (h st s e).2.1, by have := (h st s e).2.2; omega⟩
theorem semR_flat {w : World} {B mb n rb : Nat} {eb : Addr} (hr : rb < B) (hrb : 6 ≤ rb) (hmb : mb ≠ rb) (hE : ErrW w eb) (h : SpG (RrAt B) w mb n specR) : SemR 900000000000000 w mb n rb eb isFlat stepP := by
  obtain ⟨f, h1, h2⟩ := h
  refine ⟨f, h1, hmb, fun c hc => ?_⟩
  have h3 := h2 c
  unfold isFlat at hc
  unfold specR at h3
  rw [hc] at h3
  unfold stepP
  cases e : plainR c with
  | none => rw [e] at h3; exact h3
  | some p =>
    rw [e] at h3
    have h4 : isFn (f c) = true ∧ RrAt B w mb (f c) (.plain p) := h3
    exact ⟨h4.1, step_ok (step_1 p), fun w' st hg hR hst _ => read_any p (plainR_ok c p e) B mb rb hr hrb _ eb w w' hg (hE.grown hrb hg) st hst hR h4.2⟩
set_option maxRecDepth 100000 in
theorem form_any (f : ByteArray) (hf : ∀ d ∈ f.data.toList, isFlat d.toNat) (hs : f.size ≤ 20) (B mb n rb b1 b2 : Nat) (_hr : rb < B) (hrb : 6 ≤ rb) (_hmb : mb ≠ rb) (eb : Addr) (w : World) (hE : ErrW w eb) (hS : SemR 900000000000000 w mb n rb eb isFlat stepP) (st : St) (hst : StB st) (ht : st.turns ≤ 100000000000000) (hR : RdAt w rb st)
    (h1 : BoxB B w mb b1 (.string f) 9) (h2 : BoxB B w mb b2 (.map (some mb)) 131) :
    Calls Tryz.prog 144 #[.pointer (some ⟨rb, 0, none⟩), .pointer (some ⟨b1, 0, none⟩), .pointer (some ⟨b2, 0, none⟩)] w fun e w' => StepPost rb eb w (followT stepP f.data.toList st) e w' := by
  have hc1 := box_cell h1.2
  have hc2 := box_cell h2.2
  have HW := Lib.hid (follow_any f (by omega) isFlat hf stepP mb n rb hrb eb st hst 900000000000000 (by omega) (by omega) w hE hR hS)
  clear hf hS h1 h2 hE hR hst ht
  go_enter Tryz.func144, Tryz.ntmps144
  go_wp2_with fail
  refine HW.out.mono ?_
  intro e w1 hq
  cases e2 : followT stepP f.data.toList st with
  | none =>
    rw [e2] at hq
    obtain ⟨⟨rfl, s, hr⟩, hg⟩ := hq
    have R := Lib.hid hr
    have G := Lib.hid hg
    have E2 := Lib.hid e2
    clear hr hg e2
    unfold errV
    go_wp2_with fail
    go_ret
    rw [E2.out]
    exact ⟨⟨rfl, _, R.out⟩, G.out⟩
  | some s =>
    rw [e2] at hq
    obtain ⟨⟨rfl, hr⟩, hg⟩ := hq
    have R := Lib.hid hr
    have G := Lib.hid hg
    have E2 := Lib.hid e2
    clear hr hg e2
    go_wp2_with fail
    go_ret
    rw [E2.out]
    exact ⟨⟨rfl, R.out⟩, G.out⟩
end Go.Proofs.YtpjncnoejdaplaaGreatDoor
namespace Go.Proofs.YtpjncnoejdaplaaGreatDoor
open Go Go.RowKit Go.Shelf

theorem stepP_1 (c : Nat) (f : St → Option St) (h : stepP c = some f) : Step1 f := by
  unfold stepP at h
  cases e : plainR c with
  | none => rw [e] at h; cases h
  | some p =>
    rw [e] at h
    obtain rfl := Option.some.inj h
    exact step_1 p
theorem form_ok (c : Nat) (g : ByteArray) (e : formOf c = some g) : StepOK (followT stepP g.data.toList) := by
  intro st s h
  obtain ⟨_, k2, _⟩ := form_flat c g e
  have hl : g.data.toList.length = g.size := by simp
  have := followT_1 stepP stepP_1 20 g.data.toList (by omega) st s h
  exact ⟨this.1, this.2.1, by omega⟩
theorem semR_all {w : World} {B mb n rb : Nat} {eb : Addr} (hr : rb < B) (hrb : 6 ≤ rb) (hmb : mb ≠ rb) (hE : ErrW w eb) (h : SpG (RrAt B) w mb n specR) : SemR 90000000000000 w mb n rb eb (fun _ => True) stepA := by
  have hS := semR_flat hr hrb hmb hE h
  obtain ⟨f, h1, h2⟩ := h
  refine ⟨f, h1, hmb, fun c _ => ?_⟩
  have h3 := h2 c
  unfold specR at h3
  unfold stepA
  cases e : formOf c with
  | none =>
    rw [e] at h3
    unfold stepP
    cases e2 : plainR c with
    | none => rw [e2] at h3; exact h3
    | some p =>
      rw [e2] at h3
      have h4 : isFn (f c) = true ∧ RrAt B w mb (f c) (.plain p) := h3
      exact ⟨h4.1, step_ok (step_1 p), fun w' st hg hR hst _ => read_any p (plainR_ok c p e2) B mb rb hr hrb _ eb w w' hg (hE.grown hrb hg) st hst hR h4.2⟩
  | some g =>
    rw [e] at h3
    obtain ⟨h4, b1, b2, hv, hb1, hb2⟩ : isFn (f c) = true ∧ RrAt B w mb (f c) (.form g) := h3
    obtain ⟨k1, k2, _⟩ := form_flat c g e
    refine ⟨h4, form_ok c g e, fun w' st hg hR hst ht => ?_⟩
    exact ⟨_, _, hv, enters_of Tryz.func144 (by kernel_rfl) rfl, form_any g k1 k2 B mb n rb b1 b2 hr hrb hmb eb w' (hE.grown hrb hg) (hS.grown hg) st hst (by omega) hR (stayB hr hg hb1) (stayB hr hg hb2)⟩
/-- A format followed by all readers. -/
theorem reading_any (f : ByteArray) (hf : f.size ≤ 1048576) (B mb n rb : Nat) (hr : rb < B) (hrb : 6 ≤ rb) (hmb : mb ≠ rb) (eb : Addr) (st : St) (hst : StB st) (ht : st.turns ≤ 1000000) (w : World) (hE : ErrW w eb) (hR : RdAt w rb st) (hS : SpG (RrAt B) w mb n specR) :
    Calls Tryz.prog 79 #[.pointer (some ⟨rb, 0, none⟩), .string f, .map (some mb)] w fun e w' => StepPost rb eb w (followT stepA f.data.toList st) e w' :=
  follow_any f hf (fun _ => True) (fun _ _ => trivial) stepA mb n rb hrb eb st hst 90000000000000 (by omega) (by omega) w hE hR (semR_all hr hrb hmb hE hS)
end Go.Proofs.YtpjncnoejdaplaaGreatDoor
