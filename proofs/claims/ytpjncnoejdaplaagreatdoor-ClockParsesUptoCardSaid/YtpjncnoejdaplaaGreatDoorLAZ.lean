/- What is written is read again, by six formats: plain. -/
import Derived.Test.YtpjncnoejdaplaaGreatDoorLAY
import Derived.Test.YtpjncnoejdaplaaGreatDoorLAX
namespace Go.Proofs.YtpjncnoejdaplaaGreatDoor
open Go

/-- A second of a known day, by its parts. -/
structure Sec (y m d a : Int) (c q M D h i s : Nat) : Prop where
  ok : OkD y m d
  num : numI y m d = a / 86400
  known : knownS a
  hy : y = c * 100 + q
  hm : m + 1 = M
  hd : d = D
  ht : a % 86400 = 3600 * h + 60 * i + s
  bc : 10 ≤ c ∧ c < 100
  bq : q < 100
  bM : 1 ≤ M ∧ M ≤ 12
  bD : 1 ≤ D ∧ D ≤ 31
  bh : h < 24
  bi : i < 60
  bs : s < 60
theorem sec_of (y m d a : Int) (hD : OkD y m d) (hN : numI y m d = a / 86400) (hk : knownS a) (hy : 1000 ≤ y) : ∃ c q M D h i s, Sec y m d a c q M D h i s := by
  have hl := lenI_bd y m hD.2.1.1 hD.2.1.2
  obtain ⟨⟨a1, a2⟩, ⟨b1, b2⟩, c1, c2⟩ := id hD
  exact ⟨y.toNat / 100, y.toNat % 100, (m + 1).toNat, d.toNat, (a % 86400 / 3600).toNat, (a % 86400 / 60 % 60).toNat, (a % 86400 % 60).toNat, hD, hN, hk, by omega, by omega, by omega, by omega, by omega, by omega, by omega, by omega, by omega, by omega, by omega⟩
theorem timeS_of {st : St} {y m d a : Int} (hD : OkD y m d) (hN : numI y m d = a / 86400) (hk : knownS a) (h12 : st.t 12 = 0) (hy : yearS st = y) (hm : monS st = m) (hd : domS st = d) (hx : 0 < st.t 4 ∨ 0 < st.t 5 ∨ st.t 6 = 0) (hh : hourS st * 3600 + st.n 10 * 60 + st.n 11 = a % 86400) : timeS st = some a := by
  have e : dayS st = some (numI y m d) := by
    unfold dayS
    rw [hy, hm, hd, if_pos hD, if_pos hx]
  unfold timeS
  rw [if_neg (by omega), e]
  simp only
  have e2 : numI y m d * 86400 + hourS st * 3600 + st.n 10 * 60 + st.n 11 = a := by rw [hN]; omega
  rw [e2, if_pos hk]
theorem parseS_of {s f : List UInt8} {st : St} {a : Int} (h : followT stepA f (st0 s) = some st) (hl : st.left = []) (ht : timeS st = some a) : parseS s f = some a := by
  unfold parseS
  rw [h]
  have e : skipS blankB st = st := by
    unfold skipS
    rw [hl, List.dropWhile_nil, ← hl]
    rfl
  simp only [e, hl, if_true, ht]
theorem pad2_nat (n : Nat) (h : n < 100) : padT 2 z0 (n : Int) = d2 n := by rw [pad2_is _ (by omega) (by omega)]; simp
theorem year_nat (c q : Nat) (hc : 10 ≤ c ∧ c < 100) (hq : q < 100) : padT 1 z0 ((c : Int) * 100 + q) = d2 c ++ d2 q := by
  rw [year_is _ (by omega) (by omega), show ((c : Int) * 100 + q).toNat / 100 = c by omega, show ((c : Int) * 100 + q).toNat % 100 = q by omega]
/-- What a moment writes, by its parts. -/
theorem Sec.parts {y m d a : Int} {c q M D h i s : Nat} (S : Sec y m d a c q M D h i s) : padT 1 z0 y = d2 c ++ d2 q ∧ padT 2 z0 (m + 1) = d2 M ∧ padT 2 z0 d = d2 D ∧ padT 2 z0 (a % 86400 / 3600) = d2 h ∧ padT 2 z0 (a % 86400 / 60 % 60) = d2 i ∧ padT 2 z0 (a % 86400 % 60) = d2 s := by
  have h1 := S.bi
  have h2 := S.bs
  have h3 := S.ht
  have h4 := S.bh
  have h5 := S.bM
  have h6 := S.bD
  refine ⟨by rw [S.hy]; exact year_nat c q S.bc S.bq, by rw [S.hm]; exact pad2_nat M (by omega), by rw [S.hd]; exact pad2_nat D (by omega), ?_, ?_, ?_⟩
  · rw [show a % 86400 / 3600 = (h : Int) by omega]; exact pad2_nat h (by omega)
  · rw [show a % 86400 / 60 % 60 = (i : Int) by omega]; exact pad2_nat i (by omega)
  · rw [show a % 86400 % 60 = (s : Int) by omega]; exact pad2_nat s (by omega)
theorem drop_sp (n : Nat) (hn : n < 100) (X : List UInt8) : (32 :: (d2 n ++ X)).dropWhile blankB = d2 n ++ X := by
  have h := dig_blank (d2_digL n hn (UInt8.ofNat (48 + n / 10)) (by simp [d2]))
  rw [List.dropWhile_cons, if_pos (by decide)]
  unfold d2
  rw [List.cons_append, List.dropWhile_cons, if_neg (by rw [h]; simp)]
def F1 : ByteArray := ⟨#[37, 89, 45, 37, 109, 45, 37, 100, 32, 37, 72, 58, 37, 77, 58, 37, 83]⟩
theorem back1 {y m d a : Int} {c q M D h i s : Nat} (S : Sec y m d a c q M D h i s) : parseS (timeT (mkMom y m d a) F1) F1.data.toList = some a := by
  obtain ⟨p1, p2, p3, p4, p5, p6⟩ := S.parts
  have e : timeT (mkMom y m d a) F1 = padT 1 z0 y ++ (45 :: (padT 2 z0 (m + 1) ++ (45 :: (padT 2 z0 d ++ (32 :: (padT 2 z0 (a % 86400 / 3600) ++ (58 :: (padT 2 z0 (a % 86400 / 60 % 60) ++ (58 :: (padT 2 z0 (a % 86400 % 60) ++ [])))))))))) := rfl
  rw [e, p1, p2, p3, p4, p5, p6, List.append_assoc]
  obtain ⟨q1, q2⟩ := S.bc
  have q3 := S.bq
  have q4 := S.bM
  have q5 := S.bD
  have q6 := S.bh
  have q7 := S.bi
  have q8 := S.bs
  refine parseS_of (st := tellS (leftS (tellS (leftS (tellS (leftS (tellS (leftS (tellS (leftS (tellS (st0 []) 1 (c * 100 + q)) []) 4 M) []) 5 D) []) 7 h) []) 10 i) []) 11 s) ?_ rfl ?_
  · show followT stepA [37, 89, 45, 37, 109, 45, 37, 100, 32, 37, 72, 58, 37, 77, 58, 37, 83] _ = _
    rw [fol_dir (stepA_plain (p := .num 4 0 9999 1) rfl rfl) (rd4 (by omega) q3 rfl (by omega) (by omega))]
    rw [fol_lit (by decide) (by decide) rfl, fol_dir (stepA_plain (p := .num 2 1 12 4) rfl rfl) (rd2 (by omega) rfl (by omega) (by omega))]
    rw [fol_lit (by decide) (by decide) rfl, fol_dir (stepA_plain (p := .num 2 1 31 5) rfl rfl) (rd2 (by omega) rfl (by omega) (by omega))]
    rw [fol_blank (by decide) (by decide) (drop_sp h (by omega) _), fol_dir (stepA_plain (p := .num 2 0 23 7) rfl rfl) (rd2 (by omega) rfl (by omega) (by omega))]
    rw [fol_lit (by decide) (by decide) rfl, fol_dir (stepA_plain (p := .num 2 0 59 10) rfl rfl) (rd2 (by omega) rfl (by omega) (by omega))]
    rw [fol_lit (by decide) (by decide) rfl, fol_dir (stepA_plain (p := .num 2 0 60 11) rfl rfl) (rd2 (by omega) rfl (by omega) (by omega)), fol_nil]
    rfl
  · refine timeS_of S.ok S.num S.known rfl ?_ ?_ ?_ (.inl (by simp [tellS, leftS, updI, st0])) ?_
    · rw [S.hy]; rfl
    · have := S.hm
      show (M : Int) - 1 = m
      omega
    · rw [S.hd]; rfl
    · have := S.ht
      show (h : Int) * 3600 + i * 60 + s = _
      omega
def F6 : ByteArray := ⟨#[37, 67, 37, 121, 37, 109, 37, 100, 84, 37, 72, 37, 77, 37, 83]⟩
theorem back6 {y m d a : Int} {c q M D h i s : Nat} (S : Sec y m d a c q M D h i s) : parseS (timeT (mkMom y m d a) F6) F6.data.toList = some a := by
  obtain ⟨p1, p2, p3, p4, p5, p6⟩ := S.parts
  obtain ⟨q1, q2⟩ := S.bc
  have q3 := S.bq
  have q4 := S.bM
  have q5 := S.bD
  have q6 := S.bh
  have q7 := S.bi
  have q8 := S.bs
  have p0 : padT 2 z0 (y / 100) = d2 c := by rw [S.hy, show ((c : Int) * 100 + q) / 100 = c by omega]; exact pad2_nat c (by omega)
  have p9 : padT 2 z0 (y - 100 * (y / 100)) = d2 q := by rw [S.hy, show ((c : Int) * 100 + q) / 100 = c by omega, show (c : Int) * 100 + q - 100 * c = q by omega]; exact pad2_nat q (by omega)
  have e : timeT (mkMom y m d a) F6 = padT 2 z0 (y / 100) ++ (padT 2 z0 (y - 100 * (y / 100)) ++ (padT 2 z0 (m + 1) ++ (padT 2 z0 d ++ (84 :: (padT 2 z0 (a % 86400 / 3600) ++ (padT 2 z0 (a % 86400 / 60 % 60) ++ (padT 2 z0 (a % 86400 % 60) ++ []))))))) := rfl
  rw [e, p0, p9, p2, p3, p4, p5, p6]
  refine parseS_of (st := tellS (leftS (tellS (leftS (tellS (leftS (tellS (leftS (tellS (leftS (tellS (leftS (tellS (st0 []) 2 c) []) 3 q) []) 4 M) []) 5 D) []) 7 h) []) 10 i) []) 11 s) ?_ rfl ?_
  · show followT stepA [37, 67, 37, 121, 37, 109, 37, 100, 84, 37, 72, 37, 77, 37, 83] _ = _
    rw [fol_dir (stepA_plain (p := .num 2 0 99 2) rfl rfl) (rd2 (by omega) rfl (by omega) (by omega))]
    rw [fol_dir (stepA_plain (p := .num 2 0 99 3) rfl rfl) (rd2 (by omega) rfl (by omega) (by omega))]
    rw [fol_dir (stepA_plain (p := .num 2 1 12 4) rfl rfl) (rd2 (by omega) rfl (by omega) (by omega))]
    rw [fol_dir (stepA_plain (p := .num 2 1 31 5) rfl rfl) (rd2 (by omega) rfl (by omega) (by omega))]
    rw [fol_lit (by decide) (by decide) rfl, fol_dir (stepA_plain (p := .num 2 0 23 7) rfl rfl) (rd2 (by omega) rfl (by omega) (by omega))]
    rw [fol_dir (stepA_plain (p := .num 2 0 59 10) rfl rfl) (rd2 (by omega) rfl (by omega) (by omega))]
    rw [fol_dir (stepA_plain (p := .num 2 0 60 11) rfl rfl) (rd2 (by omega) rfl (by omega) (by omega)), fol_nil]
    rfl
  · refine timeS_of S.ok S.num S.known rfl ?_ ?_ ?_ (.inl (by simp [tellS, leftS, updI, st0])) ?_
    · rw [S.hy]; rfl
    · have := S.hm
      show (M : Int) - 1 = m
      omega
    · rw [S.hd]; rfl
    · have := S.ht
      show (h : Int) * 3600 + i * 60 + s = _
      omega
theorem rd1 {n : Nat} {X : List UInt8} {st : St} {a b : Int} {p : Nat} (hn : n < 10) (hs : st.left = UInt8.ofNat (48 + n) :: 32 :: X) (ha : a ≤ n) (hb : (n : Int) ≤ b) : numberS 2 a b p st = some (tellS (leftS st (32 :: X)) p n) := by
  have hd : ∀ n : Fin 10, digitB (UInt8.ofNat (48 + n.val)) = true ∧ numOf [UInt8.ofNat (48 + n.val)] = (n.val : Int) := by decide
  obtain ⟨h1, h2⟩ := hd ⟨n, hn⟩
  simp only at h1 h2
  have e0 : skipS blankB st = st := by
    unfold skipS
    rw [hs, List.dropWhile_cons, if_neg (by rw [dig_blank h1]; simp), ← hs]
    rfl
  have e1 : digK 2 st.left = 1 := by
    unfold digK
    rw [hs]
    show (List.takeWhile digitB [UInt8.ofNat (48 + n), 32]).length = 1
    rw [List.takeWhile_cons, if_pos h1, List.takeWhile_cons, if_neg (by decide)]
    rfl
  have e2 : digN 2 st.left = n := by
    unfold digN
    rw [e1, hs]
    exact h2
  unfold numberS
  simp only [e0, e1, e2]
  rw [if_neg (by omega), hs]
  rfl
theorem letter_no (l : List UInt8) (h : l ≠ []) (hb : l.all (fun x => !blankB x) = true) (X : List UInt8) : (32 :: (l ++ X)).dropWhile blankB = l ++ X := by
  cases l with
  | nil => exact absurd rfl h
  | cons c l =>
    have := List.all_eq_true.1 hb c (by simp)
    rw [List.dropWhile_cons, if_pos (by decide), List.cons_append, List.dropWhile_cons, if_neg (by simpa using this)]
theorem mon_blank : ∀ k : Fin 12, (monthNames.getD k.val ⟨#[]⟩).data.toList.take 3 ≠ [] ∧ ((monthNames.getD k.val ⟨#[]⟩).data.toList.take 3).all (fun x => !blankB x) = true := by decide +kernel
theorem pad2_bl : ∀ n : Fin 100, padT 2 bl (n.val : Int) = if n.val < 10 then [32, UInt8.ofNat (48 + n.val)] else d2 n.val := by decide +kernel
def F2 : ByteArray := ⟨#[37, 99]⟩
theorem back2 {y m d a : Int} {c q M D h i s : Nat} (S : Sec y m d a c q M D h i s) : parseS (timeT (mkMom y m d a) F2) F2.data.toList = some a := by
  obtain ⟨p1, p2, p3, p4, p5, p6⟩ := S.parts
  obtain ⟨q1, q2⟩ := S.bc
  have q3 := S.bq
  have q4 := S.bM
  have q5 := S.bD
  have q6 := S.bh
  have q7 := S.bi
  have q8 := S.bs
  obtain ⟨wd, hwd⟩ : ∃ wd, (numI y m d + 4) % 7 = wd := ⟨_, rfl⟩
  have hw0 : 0 ≤ wd := by omega
  have hw1 : wd ≤ 6 := by omega
  have hm := S.hm
  have e : timeT (mkMom y m d a) F2 = (nameAt dayNames ((numI y m d + 4) % 7)).take 3 ++ (32 :: ((nameAt monthNames m).take 3 ++ (32 :: (padT 2 bl d ++ (32 :: (padT 2 z0 (a % 86400 / 3600) ++ (58 :: (padT 2 z0 (a % 86400 / 60 % 60) ++ (58 :: (padT 2 z0 (a % 86400 % 60) ++ (32 :: (padT 1 z0 y ++ [])))))))))))) ++ [] := rfl
  rw [e, List.append_nil, show padT 1 z0 y ++ ([] : List UInt8) = d2 c ++ (d2 q ++ []) from by rw [p1, List.append_assoc], p4, p5, p6, hwd]
  have pe := pad2_bl ⟨D, by omega⟩
  simp only at pe
  rw [← S.hd] at pe
  refine parseS_of (st := tellS (leftS (tellS (leftS (tellS (leftS (tellS (leftS (tellS (leftS (tellS (leftS (tellS (st0 []) 0 (wd + 1)) []) 4 (m + 1)) []) 5 D) []) 7 h) []) 10 i) []) 11 s) []) 1 (c * 100 + q)) ?_ rfl ?_
  · have f1 : stepA (99 : UInt8).toNat = some (followT stepP [37, 97, 32, 37, 98, 32, 37, 101, 32, 37, 72, 58, 37, 77, 58, 37, 83, 32, 37, 89]) := rfl
    show followT stepA [37, 99] _ = _
    refine (fol_dir f1 ?_).trans fol_nil
    rw [fol_dir (stepP_plain (p := .name dayNames 3 0) rfl) (rd_day hw0 hw1 (.inl rfl) rfl)]
    rw [fol_blank (by decide) (by decide) (letter_no _ (mon_blank ⟨m.toNat, by omega⟩).1 (mon_blank ⟨m.toNat, by omega⟩).2 _), fol_dir (stepP_plain (p := .name monthNames 3 4) rfl) (rd_mon (by omega) (by omega) (.inl rfl) rfl)]
    by_cases hd : D < 10
    · rw [if_pos hd] at pe
      have dg : digitB (UInt8.ofNat (48 + D)) = true := d2_digL D (by omega) _ (by unfold d2; rw [show D % 10 = D by omega]; simp)
      rw [pe, fol_blank (X := UInt8.ofNat (48 + D) :: 32 :: (d2 h ++ (58 :: (d2 i ++ (58 :: (d2 s ++ (32 :: (d2 c ++ (d2 q ++ []))))))))) (by decide) (by decide) (by
        show (32 :: 32 :: UInt8.ofNat (48 + D) :: _).dropWhile blankB = _
        rw [List.dropWhile_cons, if_pos (by decide), List.dropWhile_cons, if_pos (by decide), List.dropWhile_cons, if_neg (by rw [dig_blank dg]; simp)]
        rfl)]
      rw [fol_dir (stepP_plain (p := .num 2 1 31 5) rfl) (rd1 hd rfl (by omega) (by omega))]
      rw [fol_blank (by decide) (by decide) (drop_sp h (by omega) _), fol_dir (stepP_plain (p := .num 2 0 23 7) rfl) (rd2 (by omega) rfl (by omega) (by omega))]
      rw [fol_lit (by decide) (by decide) rfl, fol_dir (stepP_plain (p := .num 2 0 59 10) rfl) (rd2 (by omega) rfl (by omega) (by omega))]
      rw [fol_lit (by decide) (by decide) rfl, fol_dir (stepP_plain (p := .num 2 0 60 11) rfl) (rd2 (by omega) rfl (by omega) (by omega))]
      rw [fol_blank (by decide) (by decide) (drop_sp c (by omega) _), fol_dir (stepP_plain (p := .num 4 0 9999 1) rfl) (rd4 (by omega) q3 rfl (by omega) (by omega)), fol_nil]
      rfl
    · rw [if_neg hd] at pe
      rw [pe]
      rw [fol_blank (by decide) (by decide) (drop_sp D (by omega) _), fol_dir (stepP_plain (p := .num 2 1 31 5) rfl) (rd2 (by omega) rfl (by omega) (by omega))]
      rw [fol_blank (by decide) (by decide) (drop_sp h (by omega) _), fol_dir (stepP_plain (p := .num 2 0 23 7) rfl) (rd2 (by omega) rfl (by omega) (by omega))]
      rw [fol_lit (by decide) (by decide) rfl, fol_dir (stepP_plain (p := .num 2 0 59 10) rfl) (rd2 (by omega) rfl (by omega) (by omega))]
      rw [fol_lit (by decide) (by decide) rfl, fol_dir (stepP_plain (p := .num 2 0 60 11) rfl) (rd2 (by omega) rfl (by omega) (by omega))]
      rw [fol_blank (by decide) (by decide) (drop_sp c (by omega) _), fol_dir (stepP_plain (p := .num 4 0 9999 1) rfl) (rd4 (by omega) q3 rfl (by omega) (by omega)), fol_nil]
      rfl
  · refine timeS_of S.ok S.num S.known rfl ?_ ?_ ?_ (.inl (by simp [tellS, leftS, updI, st0])) ?_
    · rw [S.hy]; rfl
    · show m + 1 - 1 = m
      omega
    · rw [S.hd]; rfl
    · have := S.ht
      show (h : Int) * 3600 + i * 60 + s = _
      omega
/-- A number's digits, read again. -/
theorem dec_dig : ∀ (k n : Nat), n < 10 ^ (k + 1) → DigL (Lib.decDigits n) ∧ numOf (Lib.decDigits n) = (n : Int) ∧ 0 < (Lib.decDigits n).length ∧ (Lib.decDigits n).length ≤ k + 1 := by
  have one : ∀ n : Fin 10, digitB (UInt8.ofNat (48 + n.val)) = true ∧ numOf [UInt8.ofNat (48 + n.val)] = (n.val : Int) := by decide
  have snoc : ∀ (l : List UInt8) (n : Nat), n < 10 → numOf (l ++ [UInt8.ofNat (48 + n)]) = numOf l * 10 + n := by
    intro l n hn
    have h := (one ⟨n, hn⟩).2
    unfold numOf at h ⊢
    rw [List.foldl_append]
    simp only [List.foldl_cons, List.foldl_nil] at h ⊢
    omega
  have small : ∀ n, n < 10 → DigL (Lib.decDigits n) ∧ numOf (Lib.decDigits n) = (n : Int) ∧ (Lib.decDigits n).length = 1 := by
    intro n hn
    rw [Lib.decDigits_one hn]
    refine ⟨fun x hx => ?_, (one ⟨n, hn⟩).2, rfl⟩
    rw [List.mem_singleton] at hx
    rw [hx]
    exact (one ⟨n, hn⟩).1
  intro k
  induction k with
  | zero =>
    intro n h
    obtain ⟨a, b, c⟩ := small n (by simpa using h)
    exact ⟨a, b, by omega, by omega⟩
  | succ k ih =>
    intro n h
    by_cases h1 : n < 10
    · obtain ⟨a, b, c⟩ := small n h1
      exact ⟨a, b, by omega, by omega⟩
    · obtain ⟨a, b, c, d⟩ := ih (n / 10) (by rw [Nat.pow_succ] at h; omega)
      rw [Lib.decDigits, dif_neg h1]
      refine ⟨fun x hx => ?_, ?_, by simp, by rw [List.length_append]; simp; omega⟩
      · rcases List.mem_append.1 hx with hx | hx
        · exact a x hx
        · rw [List.mem_singleton] at hx
          rw [hx]
          exact (one ⟨n % 10, by omega⟩).1
      · rw [snoc _ _ (by omega), b]
        omega
def F3 : ByteArray := ⟨#[37, 115]⟩
theorem secs_of {a : Int} (hk : knownS a) : secondsS (st0 ((if a < 0 then [45] else []) ++ Lib.decDigits a.natAbs)) = some (tellS (st0 []) 12 a) := by
  obtain ⟨k1, k2⟩ := id hk
  obtain ⟨h1, h2, h3, h4⟩ := dec_dig 11 a.natAbs (by have : (10 : Nat) ^ 12 = 1000000000000 := by decide
                                                     show a.natAbs < 10 ^ 12
                                                     omega)
  obtain ⟨t, ht⟩ : ∃ t, Lib.decDigits a.natAbs = t := ⟨_, rfl⟩
  rw [ht] at h1 h2 h3 h4 ⊢
  have e1 : digK 12 t = t.length := by
    unfold digK
    rw [List.take_of_length_le (by omega), takeWhile_all h1]
  have e2 : digN 12 t = a.natAbs := by
    unfold digN
    rw [e1, List.take_length, h2]
  by_cases hs : a < 0
  · rw [if_pos hs]
    have c1 : cutS [45] (st0 ([45] ++ t)) = some (leftS (st0 []) t) := by
      unfold cutS
      rw [if_pos (by show Lib.hasPrefix (45 :: t) [45] = true; simp [Lib.hasPrefix])]
      rfl
    have c0 : Lib.hasPrefix (st0 ([45] ++ t)).left [45] = true := by show Lib.hasPrefix (45 :: t) [45] = true; simp [Lib.hasPrefix]
    unfold secondsS
    rw [c0, c1]
    simp only [Option.getD_some, if_true]
    show (if digK 12 t = 0 ∨ ¬ knownS (-1 * digN 12 t) then none else some (tellS (leftS (leftS (st0 []) t) (t.drop (digK 12 t))) 12 (-1 * digN 12 t))) = _
    rw [e1, e2, show -1 * ((a.natAbs : Nat) : Int) = a by omega, if_neg (fun h => h.elim (fun h => by omega) (fun h => h hk)), List.drop_length]
    rfl
  · rw [if_neg hs]
    have c2 : ∃ x r, t = x :: r ∧ x ≠ 45 := by
      cases t with
      | nil => simp at h3
      | cons x r =>
        refine ⟨x, r, rfl, ?_⟩
        rintro rfl
        exact absurd (h1 45 (by simp)) (by decide)
    have c0 : Lib.hasPrefix t [45] = false := by
      obtain ⟨x, r, rfl, hx⟩ := c2
      have hx' : ((45 : UInt8) == x) = false := by rw [beq_eq_false_iff_ne]; exact fun h => hx h.symm
      show ((45 : UInt8) == x && _) = false
      rw [hx', Bool.false_and]
    have c1 : cutS [45] (st0 ([] ++ t)) = none := by
      unfold cutS
      rw [if_neg (by show ¬ Lib.hasPrefix t [45] = true; rw [c0]; simp)]
    unfold secondsS
    rw [c1]
    show (if digK 12 t = 0 ∨ ¬ knownS ((if Lib.hasPrefix t [45] = true then -1 else 1) * digN 12 t) then none else some (tellS (leftS (st0 t) (t.drop (digK 12 t))) 12 ((if Lib.hasPrefix t [45] = true then -1 else 1) * digN 12 t))) = _
    rw [c0, e1, e2, if_neg (by simp : ¬ (false = true)), show 1 * ((a.natAbs : Nat) : Int) = a by omega, if_neg (fun h => h.elim (fun h => by omega) (fun h => h hk)), List.drop_length]
    rfl
theorem back3 {y m d a : Int} {c q M D h i s : Nat} (S : Sec y m d a c q M D h i s) : parseS (timeT (mkMom y m d a) F3) F3.data.toList = some a := by
  obtain ⟨k1, k2⟩ := id S.known
  have hl := (dec_dig 11 a.natAbs (by have : (10 : Nat) ^ 12 = 1000000000000 := by decide
                                      show a.natAbs < 10 ^ 12
                                      omega)).2.2.1
  have e : timeT (mkMom y m d a) F3 = padT 1 z0 a ++ [] := rfl
  have e2 : padT 1 z0 a = (if a < 0 then [45] else []) ++ Lib.decDigits a.natAbs := by
    unfold padT
    rw [show 1 - (Lib.decDigits a.natAbs).length = 0 by omega]
    rfl
  rw [e, e2, List.append_nil]
  refine parseS_of (st := tellS (st0 []) 12 a) ?_ rfl ?_
  · show followT stepA [37, 115] _ = _
    exact (fol_dir (stepA_plain (p := .secs) rfl rfl) (secs_of S.known)).trans fol_nil
  · unfold timeS
    rw [if_pos (by simp [tellS, updI, st0])]
    simp [tellS, updI]
theorem zone_end {st : St} (hs : st.left = [43, 48, 48, 48, 48]) : zoneS st = some (leftS st []) := by
  obtain ⟨l, n, t, k⟩ := st
  subst hs
  rfl
def F4 : ByteArray := ⟨#[37, 100, 47, 37, 98, 47, 37, 89, 32, 37, 73, 58, 37, 77, 58, 37, 83, 37, 112, 32, 37, 122]⟩
theorem back4 {y m d a : Int} {c q M D h i s : Nat} (S : Sec y m d a c q M D h i s) : parseS (timeT (mkMom y m d a) F4) F4.data.toList = some a := by
  obtain ⟨p1, p2, p3, p4, p5, p6⟩ := S.parts
  obtain ⟨q1, q2⟩ := S.bc
  have q3 := S.bq
  have q4 := S.bM
  have q5 := S.bD
  have q6 := S.bh
  have q7 := S.bi
  have q8 := S.bs
  have hm := S.hm
  have hT := S.ht
  obtain ⟨H, hH⟩ : ∃ H : Nat, (h + 11) % 12 + 1 = H := ⟨_, rfl⟩
  have p7 : padT 2 z0 ((a % 86400 / 3600 + 11) % 12 + 1) = d2 H := by
    rw [show (a % 86400 / 3600 + 11) % 12 + 1 = (H : Int) by omega]
    exact pad2_nat H (by omega)
  have p8 : (if a % 86400 / 3600 < 12 then ([65, 77] : List UInt8) else [80, 77]) = if decide (12 ≤ h) = true then [80, 77] else [65, 77] := by
    by_cases hh : h < 12
    · rw [if_pos (by omega), if_neg (by simp; omega)]
    · rw [if_neg (by omega), if_pos (by simp; omega)]
  have e : timeT (mkMom y m d a) F4 = padT 2 z0 d ++ (47 :: ((nameAt monthNames m).take 3 ++ (47 :: (padT 1 z0 y ++ (32 :: (padT 2 z0 ((a % 86400 / 3600 + 11) % 12 + 1) ++ (58 :: (padT 2 z0 (a % 86400 / 60 % 60) ++ (58 :: (padT 2 z0 (a % 86400 % 60) ++ ((if a % 86400 / 3600 < 12 then [65, 77] else [80, 77]) ++ (32 :: [43, 48, 48, 48, 48])))))))))))) := rfl
  rw [e, p3, p1, p7, p5, p6, p8, List.append_assoc]
  refine parseS_of (st := leftS (tellS (leftS (tellS (leftS (tellS (leftS (tellS (leftS (tellS (leftS (tellS (leftS (tellS (st0 []) 5 D) []) 4 (m + 1)) []) 1 (c * 100 + q)) []) 8 H) []) 10 i) []) 11 s) []) 9 (if decide (12 ≤ h) = true then 2 else 1)) []) ?_ rfl ?_
  · show followT stepA [37, 100, 47, 37, 98, 47, 37, 89, 32, 37, 73, 58, 37, 77, 58, 37, 83, 37, 112, 32, 37, 122] _ = _
    rw [fol_dir (stepA_plain (p := .num 2 1 31 5) rfl rfl) (rd2 (by omega) rfl (by omega) (by omega))]
    rw [fol_lit (by decide) (by decide) rfl, fol_dir (stepA_plain (p := .name monthNames 3 4) rfl rfl) (rd_mon (by omega) (by omega) (.inr rfl) rfl)]
    rw [fol_lit (by decide) (by decide) rfl, fol_dir (stepA_plain (p := .num 4 0 9999 1) rfl rfl) (rd4 (by omega) q3 rfl (by omega) (by omega))]
    rw [fol_blank (by decide) (by decide) (drop_sp H (by omega) _), fol_dir (stepA_plain (p := .num 2 1 12 8) rfl rfl) (rd2 (by omega) rfl (by omega) (by omega))]
    rw [fol_lit (by decide) (by decide) rfl, fol_dir (stepA_plain (p := .num 2 0 59 10) rfl rfl) (rd2 (by omega) rfl (by omega) (by omega))]
    rw [fol_lit (by decide) (by decide) rfl, fol_dir (stepA_plain (p := .num 2 0 60 11) rfl rfl) (rd2 (by omega) rfl (by omega) (by omega))]
    rw [fol_dir (stepA_plain (p := .name halfNames 2 9) rfl rfl) (rd_half (decide (12 ≤ h)) rfl)]
    rw [fol_blank (X := [43, 48, 48, 48, 48]) (by decide) (by decide) rfl, fol_dir (stepA_plain (p := .zone) rfl rfl) (zone_end rfl), fol_nil]
    rfl
  · refine timeS_of S.ok S.num S.known rfl ?_ ?_ ?_ (.inl (by simp [tellS, leftS, updI, st0])) ?_
    · rw [S.hy]; rfl
    · show m + 1 - 1 = m
      omega
    · rw [S.hd]; rfl
    · show ((H : Int) % 12 + (if (if decide (12 ≤ h) = true then (2 : Int) else 1) = 2 then 12 else 0)) * 3600 + i * 60 + s = _
      by_cases hh : h < 12
      · rw [if_neg (by rw [if_neg (by simp; omega)]; omega)]
        omega
      · rw [if_pos (by rw [if_pos (by simp; omega)])]
        omega
theorem pad3_is : ∀ n : Fin 400, padT 3 z0 (n.val : Int) = UInt8.ofNat (48 + n.val / 100) :: d2 (n.val % 100) := by decide +kernel
theorem rd3 {n : Nat} {X : List UInt8} {st : St} {a b : Int} {p : Nat} (hn : n < 400) (hs : st.left = UInt8.ofNat (48 + n / 100) :: (d2 (n % 100) ++ X)) (ha : a ≤ n) (hb : (n : Int) ≤ b) : numberS 3 a b p st = some (tellS (leftS st X) p n) := by
  have one : ∀ n : Fin 10, digitB (UInt8.ofNat (48 + n.val)) = true ∧ numOf [UInt8.ofNat (48 + n.val)] = (n.val : Int) := by decide
  obtain ⟨o1, o2⟩ := one ⟨n / 100, by omega⟩
  simp only at o1 o2
  have e : numOf ([UInt8.ofNat (48 + n / 100)] ++ d2 (n % 100)) = n := by
    rw [numOf_app _ _ (by omega), o2]
    omega
  have h : DigL ([UInt8.ofNat (48 + n / 100)] ++ d2 (n % 100)) := by
    intro x hx
    rcases List.mem_append.1 hx with h | h
    · rw [List.mem_singleton] at h; rw [h]; exact o1
    · exact d2_digL (n % 100) (by omega) x h
  have := rd_full (k := 3) (p := p) (a := a) (b := b) h rfl (by omega) (by rw [hs]; rfl) (by rw [e]; exact ha) (by rw [e]; exact hb)
  rw [e] at this
  exact this
def F5 : ByteArray := ⟨#[37, 106, 32, 37, 89, 32, 37, 84]⟩
theorem back5 {y m d a : Int} {c q M D h i s : Nat} (S : Sec y m d a c q M D h i s) : parseS (timeT (mkMom y m d a) F5) F5.data.toList = some a := by
  obtain ⟨p1, p2, p3, p4, p5, p6⟩ := S.parts
  obtain ⟨q1, q2⟩ := S.bc
  have q3 := S.bq
  have q4 := S.bM
  have q5 := S.bD
  have q6 := S.bh
  have q7 := S.bi
  have q8 := S.bs
  have hin := num_in y m d S.ok
  have y2 := yearI_two y
  have hnum := S.num
  have hk := S.known
  have hT := S.ht
  have hl := lenI_bd y 0 (by omega) (by omega)
  have hy1 : -9999 ≤ y ∧ y ≤ 9999 := S.ok.1
  obtain ⟨N, hN⟩ : ∃ N : Nat, numI y m d - beginI y 0 + 1 = N := ⟨(numI y m d - beginI y 0 + 1).toNat, by omega⟩
  have hN1 : 1 ≤ N ∧ N ≤ 366 := by omega
  have p7 : padT 3 z0 (numI y m d - beginI y 0 + 1) = UInt8.ofNat (48 + N / 100) :: d2 (N % 100) := by rw [hN]; exact pad3_is ⟨N, by omega⟩
  have e : timeT (mkMom y m d a) F5 = padT 3 z0 (numI y m d - beginI y 0 + 1) ++ (32 :: (padT 1 z0 y ++ (32 :: ((padT 2 z0 (a % 86400 / 3600) ++ (58 :: (padT 2 z0 (a % 86400 / 60 % 60) ++ (58 :: (padT 2 z0 (a % 86400 % 60) ++ []))))) ++ [])))) := rfl
  have e3 : (UInt8.ofNat (48 + N / 100) :: d2 (N % 100)) ++ (32 :: ((d2 c ++ d2 q) ++ (32 :: ((d2 h ++ (58 :: (d2 i ++ (58 :: (d2 s ++ []))))) ++ [])))) = UInt8.ofNat (48 + N / 100) :: (d2 (N % 100) ++ (32 :: (d2 c ++ (d2 q ++ (32 :: (d2 h ++ (58 :: (d2 i ++ (58 :: (d2 s ++ [])))))))))) := by simp
  rw [e, p7, p1, p4, p5, p6, e3]
  refine parseS_of (st := tellS (leftS (tellS (leftS (tellS (leftS (tellS (leftS (tellS (st0 []) 6 N) []) 1 (c * 100 + q)) []) 7 h) []) 10 i) []) 11 s) ?_ rfl ?_
  · have f1 : stepA (84 : UInt8).toNat = some (followT stepP [37, 72, 58, 37, 77, 58, 37, 83]) := rfl
    show followT stepA [37, 106, 32, 37, 89, 32, 37, 84] _ = _
    rw [fol_dir (stepA_plain (p := .num 3 1 366 6) rfl rfl) (rd3 (by omega) rfl (by omega) (by omega))]
    rw [fol_blank (by decide) (by decide) (drop_sp c (by omega) _), fol_dir (stepA_plain (p := .num 4 0 9999 1) rfl rfl) (rd4 (by omega) q3 rfl (by omega) (by omega))]
    rw [fol_blank (by decide) (by decide) (drop_sp h (by omega) _)]
    refine (fol_dir f1 ?_).trans fol_nil
    rw [fol_dir (stepP_plain (p := .num 2 0 23 7) rfl) (rd2 (by omega) rfl (by omega) (by omega))]
    rw [fol_lit (by decide) (by decide) rfl, fol_dir (stepP_plain (p := .num 2 0 59 10) rfl) (rd2 (by omega) rfl (by omega) (by omega))]
    rw [fol_lit (by decide) (by decide) rfl, fol_dir (stepP_plain (p := .num 2 0 60 11) rfl) (rd2 (by omega) rfl (by omega) (by omega)), fol_nil]
    rfl
  · have hy : yearS (tellS (leftS (tellS (leftS (tellS (leftS (tellS (leftS (tellS (st0 []) 6 N) []) 1 (c * 100 + q)) []) 7 h) []) 10 i) []) 11 s) = y := by rw [S.hy]; rfl
    have e1 : dayS (tellS (leftS (tellS (leftS (tellS (leftS (tellS (leftS (tellS (st0 []) 6 N) []) 1 (c * 100 + q)) []) 7 h) []) 10 i) []) 11 s) = some (numI y m d) := by
      unfold dayS
      rw [hy, show monS (tellS (leftS (tellS (leftS (tellS (leftS (tellS (leftS (tellS (st0 []) 6 N) []) 1 (c * 100 + q)) []) 7 h) []) 10 i) []) 11 s) = 0 from rfl, show domS (tellS (leftS (tellS (leftS (tellS (leftS (tellS (leftS (tellS (st0 []) 6 N) []) 1 (c * 100 + q)) []) 7 h) []) 10 i) []) 11 s) = 1 from rfl]
      rw [if_pos (show OkD y 0 1 from ⟨hy1, by omega, by omega, by omega⟩), if_neg (by simp [tellS, leftS, updI, st0])]
      rw [show (tellS (leftS (tellS (leftS (tellS (leftS (tellS (leftS (tellS (st0 []) 6 N) []) 1 (c * 100 + q)) []) 7 h) []) 10 i) []) 11 s).n 6 = (N : Int) from rfl, if_pos (by omega)]
      have : numI y 0 1 = beginI y 0 := by unfold numI; omega
      congr 1
      omega
    unfold timeS
    rw [if_neg (by simp [tellS, leftS, updI, st0]), e1]
    simp only
    have e2 : numI y m d * 86400 + hourS (tellS (leftS (tellS (leftS (tellS (leftS (tellS (leftS (tellS (st0 []) 6 N) []) 1 (c * 100 + q)) []) 7 h) []) 10 i) []) 11 s) * 3600 + (tellS (leftS (tellS (leftS (tellS (leftS (tellS (leftS (tellS (st0 []) 6 N) []) 1 (c * 100 + q)) []) 7 h) []) 10 i) []) 11 s).n 10 * 60 + (tellS (leftS (tellS (leftS (tellS (leftS (tellS (leftS (tellS (st0 []) 6 N) []) 1 (c * 100 + q)) []) 7 h) []) 10 i) []) 11 s).n 11 = a := by
      show numI y m d * 86400 + (h : Int) * 3600 + i * 60 + s = a
      omega
    rw [e2, if_pos hk]
end Go.Proofs.YtpjncnoejdaplaaGreatDoor
namespace Go.Proofs.YtpjncnoejdaplaaGreatDoor
open Go Go.RowKit Go.Shelf

set_option maxHeartbeats 400000 in
theorem kSameF_any (f : Nat) (w : World) : Calls Tryz.prog 37 #[.float .f64 f, .float .f64 f] w fun e w' => e = .returned (.bool true) ∧ w = w' := by
  have hbt := bits_mathK
  go_enter Tryz.func37, Tryz.ntmps37
  go_wp2_with fail
  go_ret
  exact ⟨rfl, rfl⟩
set_option maxRecDepth 100000 in
set_option maxHeartbeats 4000000 in
theorem same_any (y m d h i : Int) (s : Nat) (wd yd : Int) (w : World) : Calls Tryz.prog 14 #[.agg (timeV y m d h i s wd yd), .agg (timeV y m d h i s wd yd)] w fun e w' => e = .returned (.bool true) ∧ Below w.heap.size w w' := by
  have hsf := run_store_float Tryz.prog
  have h0 : ∀ w, (Op.equalIn 9999 22 (.float .f64 0) (.float .f64 0)).run Tryz.prog w = .ok true w := fun w => eqF_true 0 0 (by decide +kernel) w
  unfold timeV
  go_enter Tryz.func14, Tryz.ntmps14
  go_wp2_with fail
  refine (kSameF_any s _).mono ?_
  rintro e w1 ⟨rfl, rfl⟩
  go_wp2_with fail
  go_ret
  exact ⟨rfl, (((((Below.refl _ w).alloc (Nat.le_refl _) _).alloc (by simp) _).alloc (by simp; omega) _).alloc (by simp; omega) _)⟩
end Go.Proofs.YtpjncnoejdaplaaGreatDoor
