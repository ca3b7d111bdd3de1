/- base64: encoded. -/
import Derived.Test.YtpobdmkidopnnaaGreatDoorGAQ
import Derived.Deep.Cut
import Derived.Deep.CutRange
namespace Go.Proofs.YtpobdmkidopnnaaGreatDoor
open Go Go.RowKit Go.Shelf

def encStep (st : Nat × Nat) (c : UInt8) : (Nat × Nat) × List UInt8 :=
  if st.2 = 0 then (((st.1 * 2 ^ 8 + c.toNat) % 4, 2), [sig ((st.1 * 2 ^ 8 + c.toNat) / 4)])
  else if st.2 = 2 then (((st.1 * 2 ^ 8 + c.toNat) % 16, 4), [sig ((st.1 * 2 ^ 8 + c.toNat) / 16)])
  else ((0, 0), [sig ((st.1 * 2 ^ 8 + c.toNat) / 64), sig ((st.1 * 2 ^ 8 + c.toNat) % 64)])
def EncI (st : Nat × Nat) : Prop := (st.2 = 0 ∧ st.1 < 1) ∨ (st.2 = 2 ∧ st.1 < 4) ∨ (st.2 = 4 ∧ st.1 < 16)
theorem EncI.step {st : Nat × Nat} (h : EncI st) (c : UInt8) : EncI (encStep st c).1 := by
  have hc := c.toNat_lt
  rcases h with ⟨h1, h2⟩ | ⟨h1, h2⟩ | ⟨h1, h2⟩
  · unfold encStep; rw [if_pos h1]; exact .inr (.inl ⟨rfl, Nat.mod_lt _ (by omega)⟩)
  · unfold encStep; rw [if_neg (by omega), if_pos h1]; exact .inr (.inr ⟨rfl, Nat.mod_lt _ (by omega)⟩)
  · unfold encStep; rw [if_neg (by omega), if_neg (by omega)]; exact .inl ⟨rfl, Nat.zero_lt_one⟩
theorem put_enc (q x : Nat) (st : Nat × Nat) (hI : EncI st) (l : List UInt8) (c : UInt8) (W : World) (hQ : QAt q (st.1 : Int) (st.2 : Int) W) (hB : Bld x l W) (hq : q < x) (hl : l.length ≤ 17592186044416) :
    Calls Tryz.prog 137 #[.pointer (some ⟨x, 0, none⟩), .int .u8 c.toNat, .pointer (some ⟨q, 0, none⟩)] W fun e W' => e = .returned (.tuple #[]) ∧ QAt q (((encStep st c).1.1 : Nat) : Int) (((encStep st c).1.2 : Nat) : Int) W' ∧ Bld x (l ++ (encStep st c).2) W' ∧ Below q W W' := by
  obtain ⟨b, m⟩ := st
  rcases hI with ⟨h1, h2⟩ | ⟨h1, h2⟩ | ⟨h1, h2⟩
  · obtain rfl : m = 0 := h1
    exact put_enc0 q b x h2 l c W hQ hB hq hl
  · obtain rfl : m = 2 := h1
    exact put_enc2 q b x h2 l c W hQ hB hq hl
  · obtain rfl : m = 4 := h1
    exact put_enc4 q b x h2 l c W hQ hB hq hl
theorem eachS_inv {σ : Type} (P : σ → Prop) (step : σ → UInt8 → σ × List UInt8) (h : ∀ st c, P st → P (step st c).1) (l : List UInt8) : ∀ st, P st → P (eachS step st l) := by
  induction l with
  | nil => intro st hs; exact hs
  | cons c r ih => intro st hs; exact ih _ (h st c hs)
theorem encStep_le (st : Nat × Nat) (c : UInt8) : (encStep st c).2.length ≤ 2 := by
  unfold encStep
  repeat' split
  all_goals simp
/-- The signs, without what fills them up. -/
def encT (s : List UInt8) : List UInt8 :=
  eachO encStep (0, 0) s ++ if (eachS encStep (0, 0) s).2 = 0 then [] else [sig ((eachS encStep (0, 0) s).1 * 2 ^ (6 - (eachS encStep (0, 0) s).2))]
def encL (s : List UInt8) : List UInt8 := encT s ++ List.replicate ((4 - (encT s).length % 4) % 4) 61
def strLen : Value → Nat
  | .string s => s.size
  | _ => 0
theorem or_0 (n : Nat) (h : n < 64) : bits .or .i64 (n : Int) 0 = (n : Int) := by
  have : ∀ i : Fin 64, bits .or .i64 (i.val : Int) 0 = (i.val : Int) := by decide +kernel
  exact this ⟨n, h⟩
theorem sig_cut (n : Nat) (h : n < 64) : (ByteArray.mk #[65, 66, 67, 68, 69, 70, 71, 72, 73, 74, 75, 76, 77, 78, 79, 80, 81, 82, 83, 84, 85, 86, 87, 88, 89, 90, 97, 98, 99, 100, 101, 102, 103, 104, 105, 106, 107, 108, 109, 110, 111, 112, 113, 114, 115, 116, 117, 118, 119, 120, 121, 122, 48, 49, 50, 51, 52, 53, 54, 55, 56, 57, 43, 47]).extract n (n + 1) = ⟨#[sig n]⟩ := by
  have : ∀ k : Fin 64, (ByteArray.mk #[65, 66, 67, 68, 69, 70, 71, 72, 73, 74, 75, 76, 77, 78, 79, 80, 81, 82, 83, 84, 85, 86, 87, 88, 89, 90, 97, 98, 99, 100, 101, 102, 103, 104, 105, 106, 107, 108, 109, 110, 111, 112, 113, 114, 115, 116, 117, 118, 119, 120, 121, 122, 48, 49, 50, 51, 52, 53, 54, 55, 56, 57, 43, 47]).extract k.val (k.val + 1) = ⟨#[sig k.val]⟩ := by decide +kernel
  exact this ⟨n, h⟩
theorem sig_slice (n : Nat) (h : n < 64) (w : World) : (Instr.slice 9 (.string (ByteArray.mk #[65, 66, 67, 68, 69, 70, 71, 72, 73, 74, 75, 76, 77, 78, 79, 80, 81, 82, 83, 84, 85, 86, 87, 88, 89, 90, 97, 98, 99, 100, 101, 102, 103, 104, 105, 106, 107, 108, 109, 110, 111, 112, 113, 114, 115, 116, 117, 118, 119, 120, 121, 122, 48, 49, 50, 51, 52, 53, 54, 55, 56, 57, 43, 47])) (some (.int .i64 n)) (some (.int .i64 ((n : Int) + 1))) none).run Tryz.prog w = .ok (.string ⟨#[sig n]⟩) w := by
  have := run_slice_string (P := Tryz.prog) w 9 (ByteArray.mk #[65, 66, 67, 68, 69, 70, 71, 72, 73, 74, 75, 76, 77, 78, 79, 80, 81, 82, 83, 84, 85, 86, 87, 88, 89, 90, 97, 98, 99, 100, 101, 102, 103, 104, 105, 106, 107, 108, 109, 110, 111, 112, 113, 114, 115, 116, 117, 118, 119, 120, 121, 122, 48, 49, 50, 51, 52, 53, 54, 55, 56, 57, 43, 47]) .i64 .i64 (n : Int) ((n : Int) + 1) Tryz.underlying9 (by omega) (by omega) (by show (n : Int) + 1 ≤ 64; omega)
  rw [← sig_cut n h]
  simpa using this
set_option maxRecDepth 100000 in
set_option maxHeartbeats 4000000 in
theorem encoded_any (s : ByteArray) (hs : s.size ≤ 1099511627776) (w : World) :
    Calls Tryz.prog 80 #[.string s] w fun e w' => e = .returned (.string ⟨(encL s.data.toList).toArray⟩) ∧ Below w.heap.size w w' := by
  have HA := Lib.hid ((Below.refl w.heap.size w).alloc (Nat.le_refl _) (.cells #[.int .i64 0, .int .i64 0] 153))
  have HX := Lib.hid (heap_alloc_new w (.cells #[.int .i64 0, .int .i64 0] 153))
  have HP : Hid (PutOK (w.heap.size + 1) w.heap.size (.func (.func 137) #[] #[.pointer (some ⟨w.heap.size, 0, none⟩)]) (fun (st : Nat × Nat) W => EncI st ∧ QAt w.heap.size (st.1 : Int) (st.2 : Int) W) encStep) := Lib.hid {
    fn := ⟨_, _, rfl, enters_of Tryz.func137 (by kernel_rfl) rfl, fun st c l b W hb hI hB hl => (put_enc w.heap.size b st hI.1 l c W hI.2 hB (by omega) hl).mono fun e W' ⟨h1, h2, h3, h4⟩ => ⟨h1, ⟨hI.1.step c, h2⟩, h3, h4⟩⟩
    keep := fun _ W W' h hb => ⟨h.1, h.2.below (by omega) hb⟩
    small := fun st c => by have := encStep_le st c; omega }
  have hlen := eachO_le encStep 2 encStep_le s.data.toList (0, 0)
  have hEI := eachS_inv EncI encStep (fun st c h => h.step c) s.data.toList (0, 0) (.inl ⟨rfl, by omega⟩)
  have hT : encT s.data.toList = eachO encStep (0, 0) s.data.toList ++ if (eachS encStep (0, 0) s.data.toList).2 = 0 then [] else [sig ((eachS encStep (0, 0) s.data.toList).1 * 2 ^ (6 - (eachS encStep (0, 0) s.data.toList).2))] := rfl
  have hE : ∀ W : World, W.heap.size = w.heap.size + 1 → QAt w.heap.size 0 0 W → Calls Tryz.prog 136 #[.string s, .func (.func 137) #[] #[.pointer (some ⟨w.heap.size, 0, none⟩)]] W fun e w' => e = .returned (.string ⟨(eachO encStep (0, 0) s.data.toList).toArray⟩) ∧ QAt w.heap.size ((eachS encStep (0, 0) s.data.toList).1 : Int) ((eachS encStep (0, 0) s.data.toList).2 : Int) w' ∧ Below w.heap.size W w' := by
    intro W h1 h2
    refine (each_any w.heap.size _ (fun (st : Nat × Nat) W => EncI st ∧ QAt w.heap.size (st.1 : Int) (st.2 : Int) W) encStep s hs (0, 0) W (by rw [h1]; exact HP.out) ⟨.inl ⟨rfl, Nat.zero_lt_one⟩, h2⟩ (by omega)).mono ?_
    rintro e w' ⟨h3, h4, h5⟩
    exact ⟨h3, h4.2, h5⟩
  unfold encL
  obtain ⟨T, hTT⟩ : ∃ T, encT s.data.toList = T := ⟨_, rfl⟩
  rw [hTT] at hT ⊢
  obtain ⟨O, hO⟩ : ∃ O, eachO encStep (0, 0) s.data.toList = O := ⟨_, rfl⟩
  obtain ⟨⟨b, m⟩, hst⟩ : ∃ st, eachS encStep (0, 0) s.data.toList = st := ⟨_, rfl⟩
  rw [hO] at hT hE hlen
  rw [hst] at hT hE hEI
  simp only at hT hE
  have HE := Lib.hid hE
  have HT := Lib.hid hT
  have HI := Lib.hid hEI
  have hOl : O.length ≤ 2199023255552 := by have e : s.data.toList.length = s.size := (by simp); omega
  have hTl : T.length ≤ 2199023255553 := by
    rw [hT, List.length_append]
    split <;> simp <;> omega
  clear hE hT hTT hO hst hEI hlen HP
  go_enter Tryz.func80, Tryz.ntmps80
  go_wp2_with fail
  refine (HE.out _ (by simp) HX.out).mono ?_
  rintro e w1 ⟨rfl, h1, h2⟩
  have HQ := Lib.hid h1
  have HB := Lib.hid (HA.out.trans h2)
  clear h1 h2
  obtain ⟨c0, c1, f0, f1, hq⟩ := HQ.out.row
  go_upto_if 11 with fail
  go_cut [4] from 12 (fun v wx => v = .string ⟨T.toArray⟩ ∧ Hid (Below w.heap.size w wx))
  case first =>
    rcases HI.out with ⟨rfl, h2⟩ | ⟨rfl, h2⟩ | ⟨rfl, h2⟩
    · have hT := HT.out
      rw [if_pos rfl, List.append_nil] at hT
      subst hT
      go_wp2_with fail
      go_meet
      exact ⟨rfl, HB⟩
    · have hT := HT.out
      rw [if_neg (by omega)] at hT
      obtain ⟨X, hX⟩ : ∃ X, b * 2 ^ 4 = X := ⟨_, rfl⟩
      rw [show 6 - 2 = 4 from rfl, hX] at hT
      have bX : X < 64 := by omega
      have HP := Lib.hid (fun W h => push_any w.heap.size b 2 0 4 (by omega) (by omega) (by omega) (by omega) (by rw [hX]; exact or_0 X bX) W h)
      rw [hX] at HP
      have HQ2 := Lib.hid (show QAt w.heap.size ((b : Nat) : Int) ((2 : Nat) : Int) w1 from HQ.out)
      have HT2 := Lib.hid hT
      clear hX hT
      go_wp2_with fail
      refine (HP.out _ HQ2.out).mono ?_
      rintro e w2 ⟨rfl, h1, h2⟩
      have HQ3 := Lib.hid (show QAt w.heap.size (X : Int) 6 w2 from h1)
      have HB3 := Lib.hid (HB.out.trans (grown_below h2 (Nat.le_refl _) hq))
      clear h1 h2 c0 c1 f0 f1 hq
      go_wp2_with fail
      refine (take_any w.heap.size X 6 6 0 (by omega) (by omega) (by omega) (by omega) _ HQ3.out).mono ?_
      rintro e w3 ⟨rfl, h1, h2⟩
      have HB4 := Lib.hid (HB3.out.trans (grown_below h2 (Nat.le_refl _) HQ3.out.row.2.2.2.2))
      clear h1 h2
      rw [show X / 2 ^ 0 = X by omega]
      have hsl := sig_slice X bX
      go_wp2_with fail
      go_meet
      exact ⟨by rw [HT2.out]; exact congrArg Value.string (by apply ByteArray.ext; simp), HB4⟩
    · have hT := HT.out
      rw [if_neg (by omega)] at hT
      obtain ⟨X, hX⟩ : ∃ X, b * 2 ^ 2 = X := ⟨_, rfl⟩
      rw [show 6 - 4 = 2 from rfl, hX] at hT
      have bX : X < 64 := by omega
      have HP := Lib.hid (fun W h => push_any w.heap.size b 4 0 2 (by omega) (by omega) (by omega) (by omega) (by rw [hX]; exact or_0 X bX) W h)
      rw [hX] at HP
      have HQ2 := Lib.hid (show QAt w.heap.size ((b : Nat) : Int) ((4 : Nat) : Int) w1 from HQ.out)
      have HT2 := Lib.hid hT
      clear hX hT
      go_wp2_with fail
      refine (HP.out _ HQ2.out).mono ?_
      rintro e w2 ⟨rfl, h1, h2⟩
      have HQ3 := Lib.hid (show QAt w.heap.size (X : Int) 6 w2 from h1)
      have HB3 := Lib.hid (HB.out.trans (grown_below h2 (Nat.le_refl _) hq))
      clear h1 h2 c0 c1 f0 f1 hq
      go_wp2_with fail
      refine (take_any w.heap.size X 6 6 0 (by omega) (by omega) (by omega) (by omega) _ HQ3.out).mono ?_
      rintro e w3 ⟨rfl, h1, h2⟩
      have HB4 := Lib.hid (HB3.out.trans (grown_below h2 (Nat.le_refl _) HQ3.out.row.2.2.2.2))
      clear h1 h2
      rw [show X / 2 ^ 0 = X by omega]
      have hsl := sig_slice X bX
      go_wp2_with fail
      go_meet
      exact ⟨by rw [HT2.out]; exact congrArg Value.string (by apply ByteArray.ext; simp), HB4⟩
  case rest =>
  obtain ⟨rfl, HB2⟩ := hcut
  clear c0 c1 f0 f1 hq HI HT HQ HB
  go_wp2_with fail
  obtain ⟨P, hP⟩ : ∃ P, (4 - T.length % 4) % 4 = P := ⟨_, rfl⟩
  have HPP := Lib.hid hP
  clear hP
  go_loop [4] (fun v => ∃ j : Nat, j ≤ P ∧ v = .string ⟨(T ++ List.replicate j 61).toArray⟩) (fun v => T.length + 4 - strLen v)
  case atStart => exact ⟨0, Nat.zero_le _, by simp⟩
  case round =>
    obtain ⟨j, hj, rfl⟩ := hrel
    obtain ⟨S, hS⟩ : ∃ S : ByteArray, (⟨(T ++ List.replicate j 61).toArray⟩ : ByteArray) = S := ⟨_, rfl⟩
    have hsz : S.size = T.length + j := by rw [← hS]; simp [ByteArray.size]
    have hP4 : P < 4 := by have := HPP.out; omega
    have HS := Lib.hid hS
    rw [hS]
    clear hS
    by_cases hlt : j < P
    · have h4 : decide (0 < (S.size : Int) % 4) = true := decide_eq_true (by have := HPP.out; omega)
      have hss : S.size ≤ 2199023255560 := by omega
      have HN := Lib.hid (show S ++ ⟨#[61]⟩ = ⟨(T ++ List.replicate (j + 1) 61).toArray⟩ by rw [← HS.out]; apply ByteArray.ext; simp [List.replicate_succ'])
      have HSZ := Lib.hid hsz
      clear hsz
      go_wp2_with fail
      go_round
      case rel => exact ⟨j + 1, by omega, by rw [← HN.out]⟩
      case measure =>
        have := HSZ.out
        have e1 : (S ++ (⟨#[61]⟩ : ByteArray)).size = S.size + 1 := by rw [ByteArray.size_append]; rfl
        show T.length + 4 - (S ++ (⟨#[61]⟩ : ByteArray)).size < T.length + 4 - S.size
        omega
    · have h4 : decide (0 < (S.size : Int) % 4) = false := decide_eq_false (by have := HPP.out; omega)
      have HJ := Lib.hid (show j = P by omega)
      clear hsz hlt hj
      go_wp2_with fail
      go_ret
      exact ⟨ret_strF (by rw [← HS.out, HPP.out, HJ.out]), HB2.out⟩
end Go.Proofs.YtpobdmkidopnnaaGreatDoor
namespace Go.Proofs.YtpobdmkidopnnaaGreatDoor
open Go Go.RowKit Go.Shelf

def BAt (k : Nat) (v : Bool) (W : World) : Prop := W.heap[k]? = some (.cells #[.bool v] 4 (0, 0))
theorem BAt.row {k : Nat} {v : Bool} {W : World} (h : BAt k v W) : W.cell? ⟨k, 0, none⟩ = some (.bool v) ∧ W.frozen? ⟨k, 0, none⟩ = false ∧ k < W.heap.size := by
  unfold BAt at h
  refine ⟨?_, ?_, (Array.getElem?_eq_some_iff.1 h).1⟩ <;> simp [World.cell?, World.frozen?, h]
theorem BAt.set {k : Nat} {v : Bool} {W : World} (h : BAt k v W) (x : Bool) : BAt k x (W.setCell ⟨k, 0, none⟩ (.bool x)) := by
  unfold BAt at h ⊢
  simp [World.setCell, Array.getElem?_modify, h]
theorem BAt.below {k n : Nat} {v : Bool} {W W' : World} (h : BAt k v W) (hq : k < n) (hb : Below n W W') : BAt k v W' := (hb.block k hq).trans h
theorem BAt.grown {k q : Nat} {v : Bool} {W W' : World} (h : BAt k v W) (hq : k ≠ q) (hg : W.grownBy W' (some q)) : BAt k v W' := (hg.block k (Array.getElem?_eq_some_iff.1 h).1 (fun e => by cases e; exact hq rfl)).trans h
theorem QAt.grown {q k : Nat} {b m : Int} {W W' : World} (h : QAt q b m W) (hq : q ≠ k) (hg : W.grownBy W' (some k)) : QAt q b m W' := (hg.block q (Array.getElem?_eq_some_iff.1 h).1 (fun e => by cases e; exact hq rfl)).trans h
/-- A sign's number, -1 of what is none. -/
def idx (c : UInt8) : Int := Lib.indexByte sigT c
theorem idx_bd (c : UInt8) : -1 ≤ idx c ∧ idx c < 64 := by
  have : ∀ n : Fin 256, -1 ≤ idx (UInt8.ofNat n.val) ∧ idx (UInt8.ofNat n.val) < 64 := by decide +kernel
  have h := this ⟨c.toNat, c.toNat_lt⟩
  simpa using h
theorem idx_call (c : UInt8) (w : World) : Calls Tryz.prog 219 #[.string ⟨#[65, 66, 67, 68, 69, 70, 71, 72, 73, 74, 75, 76, 77, 78, 79, 80, 81, 82, 83, 84, 85, 86, 87, 88, 89, 90, 97, 98, 99, 100, 101, 102, 103, 104, 105, 106, 107, 108, 109, 110, 111, 112, 113, 114, 115, 116, 117, 118, 119, 120, 121, 122, 48, 49, 50, 51, 52, 53, 54, 55, 56, 57, 43, 47]⟩, .int .u8 c.toNat] w fun e w' => e = .returned (.int .i64 (idx c)) ∧ w = w' := by
  have hcc : (c.toNat : Int).toNat.toUInt8 = c := by simp
  have hix := Tryz.strings_IndexByte ⟨sigT.toArray⟩ (c.toNat : Int) w
  rw [hcc] at hix
  exact hix.mono fun e w' ⟨h1, h2⟩ => ⟨h1, h2.symm⟩
set_option maxRecDepth 100000 in
set_option maxHeartbeats 4000000 in
theorem put_dec_no (k q b x : Nat) (v : Bool) (m : Nat) (l : List UInt8) (c : UInt8) (W : World) (hV : BAt k v W) (hQ : QAt q b m W) (hB : Bld x l W) (hk : k < q) (hq : q < x) (_hl : l.length ≤ 17592186044416) (hn : idx c < 0) :
    Calls Tryz.prog 218 #[.pointer (some ⟨x, 0, none⟩), .int .u8 c.toNat, .pointer (some ⟨k, 0, none⟩), .pointer (some ⟨q, 0, none⟩)] W fun e W' => e = .returned (.tuple #[]) ∧ BAt k false W' ∧ QAt q b m W' ∧ Bld x l W' ∧ Below k W W' := by
  have hbd := idx_bd c
  have HIX := Lib.hid (fun w => idx_call c w)
  obtain ⟨j, hj⟩ : ∃ j, idx c = j := ⟨_, rfl⟩
  rw [hj] at hn HIX
  obtain ⟨c0, f0, hk0⟩ := hV.row
  have HV := Lib.hid hV
  have HQ := Lib.hid hQ
  have HB := Lib.hid hB
  clear hV hQ hB hj hbd
  go_enter Tryz.func218, Tryz.ntmps218
  go_wp2_with fail
  refine (HIX.out _).mono ?_
  rintro e w1 ⟨rfl, rfl⟩
  go_wp2_with fail
  have hg := Lib.grownBy_setB (World.grownBy.refl W (some k)) 0 (.bool false)
  exact bodyPost_ret (results_none rfl _ _ _) rfl ⟨rfl, HV.out.set false, HQ.out.grown (by omega) hg, HB.out.grown (by omega) hg, grown_below hg (Nat.le_refl _) hk0⟩
set_option maxRecDepth 100000 in
set_option maxHeartbeats 4000000 in
theorem put_dec0 (k q b x : Nat) (v : Bool) (hb : b < 1) (l : List UInt8) (c : UInt8) (W : World) (hV : BAt k v W) (hQ : QAt q b 0 W) (hB : Bld x l W) (hk : k < q) (hq : q < x) (_hl : l.length ≤ 17592186044416) (hn : 0 ≤ idx c) :
    Calls Tryz.prog 218 #[.pointer (some ⟨x, 0, none⟩), .int .u8 c.toNat, .pointer (some ⟨k, 0, none⟩), .pointer (some ⟨q, 0, none⟩)] W fun e W' => e = .returned (.tuple #[]) ∧ BAt k v W' ∧ QAt q (((b * 2 ^ 6 + (idx c).toNat) : Nat) : Int) 6 W' ∧ Bld x l W' ∧ Below k W W' := by
  have hbd := idx_bd c
  have HIX := Lib.hid (fun w => idx_call c w)
  obtain ⟨n, hn'⟩ : ∃ n : Nat, idx c = (n : Int) := ⟨(idx c).toNat, by omega⟩
  rw [hn'] at hbd HIX
  have e0 : (idx c).toNat = n := by rw [hn']; rfl
  rw [e0]
  obtain ⟨X, hX⟩ : ∃ X, b * 2 ^ 6 + n = X := ⟨_, rfl⟩
  have hor := or_6 b n (by omega) (by omega)
  rw [hX] at hor
  have HP := Lib.hid (fun w h => push_any q b 0 n 6 (by omega) (by omega) (by omega) (by omega) (by rw [hX]; exact hor) w h)
  rw [hX] at HP ⊢
  have bX : X < 64 := by omega
  have bn : n < 64 := by omega
  have HV := Lib.hid hV
  have HQ := Lib.hid hQ
  have HB := Lib.hid hB
  have hQq := hQ.row.2.2.2.2
  clear hor hX hQ hB hV hn hn' e0 hbd
  go_enter Tryz.func218, Tryz.ntmps218
  go_wp2_with fail
  refine (HIX.out _).mono ?_
  rintro e w1 ⟨rfl, rfl⟩
  go_wp2_with fail
  refine (HP.out _ HQ.out).mono ?_
  rintro e w2 ⟨rfl, h1, h2⟩
  have HQ0 := Lib.hid (show QAt q (X : Int) 6 w2 from h1)
  have HL0 := Lib.hid (HB.out.grown hq h2)
  have HV0 := Lib.hid (HV.out.grown (by omega) h2)
  have HW0 := Lib.hid (grown_below h2 (Nat.le_of_lt hk) hQq)
  clear h1 h2 HQ HB HP hQq HV
  obtain ⟨c0, c1, f0, f1, hq0⟩ := HQ0.out.row
  go_wp2_with fail
  go_end0
  exact ⟨rfl, HV0.out, HQ0.out, HL0.out, HW0.out⟩
set_option maxRecDepth 100000 in
set_option maxHeartbeats 4000000 in
theorem put_dec2 (k q b x : Nat) (v : Bool) (hb : b < 4) (l : List UInt8) (c : UInt8) (W : World) (hV : BAt k v W) (hQ : QAt q b 2 W) (hB : Bld x l W) (hk : k < q) (hq : q < x) (hl : l.length ≤ 17592186044416) (hn : 0 ≤ idx c) :
    Calls Tryz.prog 218 #[.pointer (some ⟨x, 0, none⟩), .int .u8 c.toNat, .pointer (some ⟨k, 0, none⟩), .pointer (some ⟨q, 0, none⟩)] W fun e W' => e = .returned (.tuple #[]) ∧ BAt k v W' ∧ QAt q (((b * 2 ^ 6 + (idx c).toNat) % 1 : Nat) : Int) 0 W' ∧ Bld x (l ++ [UInt8.ofNat ((b * 2 ^ 6 + (idx c).toNat) / 1)]) W' ∧ Below k W W' := by
  have hbd := idx_bd c
  have HIX := Lib.hid (fun w => idx_call c w)
  obtain ⟨n, hn'⟩ : ∃ n : Nat, idx c = (n : Int) := ⟨(idx c).toNat, by omega⟩
  rw [hn'] at hbd HIX
  have e0 : (idx c).toNat = n := by rw [hn']; rfl
  rw [e0]
  obtain ⟨X, hX⟩ : ∃ X, b * 2 ^ 6 + n = X := ⟨_, rfl⟩
  have hor := or_6 b n (by omega) (by omega)
  rw [hX] at hor
  have HP := Lib.hid (fun w h => push_any q b 2 n 6 (by omega) (by omega) (by omega) (by omega) (by rw [hX]; exact hor) w h)
  rw [hX] at HP ⊢
  have bX : X < 256 := by omega
  have bn : n < 64 := by omega
  have HV := Lib.hid hV
  have HQ := Lib.hid hQ
  have HB := Lib.hid hB
  have hQq := hQ.row.2.2.2.2
  clear hor hX hQ hB hV hn hn' e0 hbd
  go_enter Tryz.func218, Tryz.ntmps218
  go_wp2_with fail
  refine (HIX.out _).mono ?_
  rintro e w1 ⟨rfl, rfl⟩
  go_wp2_with fail
  refine (HP.out _ HQ.out).mono ?_
  rintro e w2 ⟨rfl, h1, h2⟩
  have HQ0 := Lib.hid (show QAt q (X : Int) 8 w2 from h1)
  have HL0 := Lib.hid (HB.out.grown hq h2)
  have HV0 := Lib.hid (HV.out.grown (by omega) h2)
  have HW0 := Lib.hid (grown_below h2 (Nat.le_of_lt hk) hQq)
  clear h1 h2 HQ HB HP hQq HV
  obtain ⟨c0, c1, f0, f1, hq0⟩ := HQ0.out.row
  go_wp2_with fail
  refine (take_any q X 8 8 0 (by omega) (by omega) (by omega) (by omega) _ HQ0.out).mono ?_
  rintro e w3 ⟨rfl, h1, h2⟩
  have HT0 := Lib.hid h1
  have HL1 := Lib.hid (HL0.out.grown hq h2)
  have HV1 := Lib.hid (HV0.out.grown (by omega) h2)
  have HW1 := Lib.hid (HW0.out.trans (grown_below h2 (Nat.le_of_lt hk) hq0))
  clear h1 h2 c0 c1 f0 f1 hq0
  obtain ⟨D, hD⟩ : ∃ D : UInt8, X / 2 ^ 0 = D.toNat := ⟨UInt8.ofNat (X / 2 ^ 0), by simp; omega⟩
  have HD := Lib.hid (show UInt8.ofNat (X / 1) = D by rw [show X / 1 = D.toNat from hD]; simp)
  rw [hD]
  have bD := D.toNat_lt
  clear hD
  go_wp2_with fail
  refine (writeByte_B x l D _ HL1.out (by omega)).mono ?_
  rintro e w4 ⟨rfl, h1, h2⟩
  have HL2 := Lib.hid h1
  have HQ2 := Lib.hid (HT0.out.below hq h2)
  have HV2 := Lib.hid (HV1.out.below (by omega) h2)
  have HW2 := Lib.hid (HW1.out.trans (h2.mono (by omega)))
  clear h1 h2
  go_wp2_with fail
  go_end0
  exact ⟨rfl, HV2.out, HQ2.out, by rw [HD.out]; exact HL2.out, HW2.out⟩
set_option maxRecDepth 100000 in
set_option maxHeartbeats 4000000 in
theorem put_dec4 (k q b x : Nat) (v : Bool) (hb : b < 16) (l : List UInt8) (c : UInt8) (W : World) (hV : BAt k v W) (hQ : QAt q b 4 W) (hB : Bld x l W) (hk : k < q) (hq : q < x) (hl : l.length ≤ 17592186044416) (hn : 0 ≤ idx c) :
    Calls Tryz.prog 218 #[.pointer (some ⟨x, 0, none⟩), .int .u8 c.toNat, .pointer (some ⟨k, 0, none⟩), .pointer (some ⟨q, 0, none⟩)] W fun e W' => e = .returned (.tuple #[]) ∧ BAt k v W' ∧ QAt q (((b * 2 ^ 6 + (idx c).toNat) % 4 : Nat) : Int) 2 W' ∧ Bld x (l ++ [UInt8.ofNat ((b * 2 ^ 6 + (idx c).toNat) / 4)]) W' ∧ Below k W W' := by
  have hbd := idx_bd c
  have HIX := Lib.hid (fun w => idx_call c w)
  obtain ⟨n, hn'⟩ : ∃ n : Nat, idx c = (n : Int) := ⟨(idx c).toNat, by omega⟩
  rw [hn'] at hbd HIX
  have e0 : (idx c).toNat = n := by rw [hn']; rfl
  rw [e0]
  obtain ⟨X, hX⟩ : ∃ X, b * 2 ^ 6 + n = X := ⟨_, rfl⟩
  have hor := or_6 b n (by omega) (by omega)
  rw [hX] at hor
  have HP := Lib.hid (fun w h => push_any q b 4 n 6 (by omega) (by omega) (by omega) (by omega) (by rw [hX]; exact hor) w h)
  rw [hX] at HP ⊢
  have bX : X < 1024 := by omega
  have bn : n < 64 := by omega
  have HV := Lib.hid hV
  have HQ := Lib.hid hQ
  have HB := Lib.hid hB
  have hQq := hQ.row.2.2.2.2
  clear hor hX hQ hB hV hn hn' e0 hbd
  go_enter Tryz.func218, Tryz.ntmps218
  go_wp2_with fail
  refine (HIX.out _).mono ?_
  rintro e w1 ⟨rfl, rfl⟩
  go_wp2_with fail
  refine (HP.out _ HQ.out).mono ?_
  rintro e w2 ⟨rfl, h1, h2⟩
  have HQ0 := Lib.hid (show QAt q (X : Int) 10 w2 from h1)
  have HL0 := Lib.hid (HB.out.grown hq h2)
  have HV0 := Lib.hid (HV.out.grown (by omega) h2)
  have HW0 := Lib.hid (grown_below h2 (Nat.le_of_lt hk) hQq)
  clear h1 h2 HQ HB HP hQq HV
  obtain ⟨c0, c1, f0, f1, hq0⟩ := HQ0.out.row
  go_wp2_with fail
  refine (take_any q X 10 8 2 (by omega) (by omega) (by omega) (by omega) _ HQ0.out).mono ?_
  rintro e w3 ⟨rfl, h1, h2⟩
  have HT0 := Lib.hid h1
  have HL1 := Lib.hid (HL0.out.grown hq h2)
  have HV1 := Lib.hid (HV0.out.grown (by omega) h2)
  have HW1 := Lib.hid (HW0.out.trans (grown_below h2 (Nat.le_of_lt hk) hq0))
  clear h1 h2 c0 c1 f0 f1 hq0
  obtain ⟨D, hD⟩ : ∃ D : UInt8, X / 2 ^ 2 = D.toNat := ⟨UInt8.ofNat (X / 2 ^ 2), by simp; omega⟩
  have HD := Lib.hid (show UInt8.ofNat (X / 4) = D by rw [show X / 4 = D.toNat from hD]; simp)
  rw [hD]
  have bD := D.toNat_lt
  clear hD
  go_wp2_with fail
  refine (writeByte_B x l D _ HL1.out (by omega)).mono ?_
  rintro e w4 ⟨rfl, h1, h2⟩
  have HL2 := Lib.hid h1
  have HQ2 := Lib.hid (HT0.out.below hq h2)
  have HV2 := Lib.hid (HV1.out.below (by omega) h2)
  have HW2 := Lib.hid (HW1.out.trans (h2.mono (by omega)))
  clear h1 h2
  go_wp2_with fail
  go_end0
  exact ⟨rfl, HV2.out, HQ2.out, by rw [HD.out]; exact HL2.out, HW2.out⟩
set_option maxRecDepth 100000 in
set_option maxHeartbeats 4000000 in
theorem put_dec6 (k q b x : Nat) (v : Bool) (hb : b < 64) (l : List UInt8) (c : UInt8) (W : World) (hV : BAt k v W) (hQ : QAt q b 6 W) (hB : Bld x l W) (hk : k < q) (hq : q < x) (hl : l.length ≤ 17592186044416) (hn : 0 ≤ idx c) :
    Calls Tryz.prog 218 #[.pointer (some ⟨x, 0, none⟩), .int .u8 c.toNat, .pointer (some ⟨k, 0, none⟩), .pointer (some ⟨q, 0, none⟩)] W fun e W' => e = .returned (.tuple #[]) ∧ BAt k v W' ∧ QAt q (((b * 2 ^ 6 + (idx c).toNat) % 16 : Nat) : Int) 4 W' ∧ Bld x (l ++ [UInt8.ofNat ((b * 2 ^ 6 + (idx c).toNat) / 16)]) W' ∧ Below k W W' := by
  have hbd := idx_bd c
  have HIX := Lib.hid (fun w => idx_call c w)
  obtain ⟨n, hn'⟩ : ∃ n : Nat, idx c = (n : Int) := ⟨(idx c).toNat, by omega⟩
  rw [hn'] at hbd HIX
  have e0 : (idx c).toNat = n := by rw [hn']; rfl
  rw [e0]
  obtain ⟨X, hX⟩ : ∃ X, b * 2 ^ 6 + n = X := ⟨_, rfl⟩
  have hor := or_6 b n (by omega) (by omega)
  rw [hX] at hor
  have HP := Lib.hid (fun w h => push_any q b 6 n 6 (by omega) (by omega) (by omega) (by omega) (by rw [hX]; exact hor) w h)
  rw [hX] at HP ⊢
  have bX : X < 4096 := by omega
  have bn : n < 64 := by omega
  have HV := Lib.hid hV
  have HQ := Lib.hid hQ
  have HB := Lib.hid hB
  have hQq := hQ.row.2.2.2.2
  clear hor hX hQ hB hV hn hn' e0 hbd
  go_enter Tryz.func218, Tryz.ntmps218
  go_wp2_with fail
  refine (HIX.out _).mono ?_
  rintro e w1 ⟨rfl, rfl⟩
  go_wp2_with fail
  refine (HP.out _ HQ.out).mono ?_
  rintro e w2 ⟨rfl, h1, h2⟩
  have HQ0 := Lib.hid (show QAt q (X : Int) 12 w2 from h1)
  have HL0 := Lib.hid (HB.out.grown hq h2)
  have HV0 := Lib.hid (HV.out.grown (by omega) h2)
  have HW0 := Lib.hid (grown_below h2 (Nat.le_of_lt hk) hQq)
  clear h1 h2 HQ HB HP hQq HV
  obtain ⟨c0, c1, f0, f1, hq0⟩ := HQ0.out.row
  go_wp2_with fail
  refine (take_any q X 12 8 4 (by omega) (by omega) (by omega) (by omega) _ HQ0.out).mono ?_
  rintro e w3 ⟨rfl, h1, h2⟩
  have HT0 := Lib.hid h1
  have HL1 := Lib.hid (HL0.out.grown hq h2)
  have HV1 := Lib.hid (HV0.out.grown (by omega) h2)
  have HW1 := Lib.hid (HW0.out.trans (grown_below h2 (Nat.le_of_lt hk) hq0))
  clear h1 h2 c0 c1 f0 f1 hq0
  obtain ⟨D, hD⟩ : ∃ D : UInt8, X / 2 ^ 4 = D.toNat := ⟨UInt8.ofNat (X / 2 ^ 4), by simp; omega⟩
  have HD := Lib.hid (show UInt8.ofNat (X / 16) = D by rw [show X / 16 = D.toNat from hD]; simp)
  rw [hD]
  have bD := D.toNat_lt
  clear hD
  go_wp2_with fail
  refine (writeByte_B x l D _ HL1.out (by omega)).mono ?_
  rintro e w4 ⟨rfl, h1, h2⟩
  have HL2 := Lib.hid h1
  have HQ2 := Lib.hid (HT0.out.below hq h2)
  have HV2 := Lib.hid (HV1.out.below (by omega) h2)
  have HW2 := Lib.hid (HW1.out.trans (h2.mono (by omega)))
  clear h1 h2
  go_wp2_with fail
  go_end0
  exact ⟨rfl, HV2.out, HQ2.out, by rw [HD.out]; exact HL2.out, HW2.out⟩
end Go.Proofs.YtpobdmkidopnnaaGreatDoor
namespace Go.Proofs.YtpobdmkidopnnaaGreatDoor
open Go Go.RowKit Go.Shelf

def decStep (st : Bool × Nat × Nat) (c : UInt8) : (Bool × Nat × Nat) × List UInt8 :=
  if idx c < 0 then ((false, st.2.1, st.2.2), [])
  else if st.2.2 = 0 then ((st.1, st.2.1 * 2 ^ 6 + (idx c).toNat, 6), [])
  else ((st.1, (st.2.1 * 2 ^ 6 + (idx c).toNat) % 2 ^ (st.2.2 - 2), st.2.2 - 2), [UInt8.ofNat ((st.2.1 * 2 ^ 6 + (idx c).toNat) / 2 ^ (st.2.2 - 2))])
def DecI (st : Bool × Nat × Nat) : Prop := (st.2.2 = 0 ∧ st.2.1 < 1) ∨ (st.2.2 = 2 ∧ st.2.1 < 4) ∨ (st.2.2 = 4 ∧ st.2.1 < 16) ∨ (st.2.2 = 6 ∧ st.2.1 < 64)
theorem DecI.step {st : Bool × Nat × Nat} (h : DecI st) (c : UInt8) : DecI (decStep st c).1 := by
  have hb := idx_bd c
  unfold decStep
  by_cases hn : idx c < 0
  · rw [if_pos hn]; exact h
  · rw [if_neg hn]
    rcases h with ⟨h1, h2⟩ | ⟨h1, h2⟩ | ⟨h1, h2⟩ | ⟨h1, h2⟩
    · rw [if_pos h1]; exact .inr (.inr (.inr ⟨rfl, by show st.2.1 * 2 ^ 6 + (idx c).toNat < 64; omega⟩))
    · rw [if_neg (by omega), h1]; exact .inl ⟨rfl, Nat.mod_lt _ (by omega)⟩
    · rw [if_neg (by omega), h1]; exact .inr (.inl ⟨rfl, Nat.mod_lt _ (by omega)⟩)
    · rw [if_neg (by omega), h1]; exact .inr (.inr (.inl ⟨rfl, Nat.mod_lt _ (by omega)⟩))
theorem put_dec (k q x : Nat) (st : Bool × Nat × Nat) (hI : DecI st) (l : List UInt8) (c : UInt8) (W : World) (hV : BAt k st.1 W) (hQ : QAt q (st.2.1 : Int) (st.2.2 : Int) W) (hB : Bld x l W) (hk : k < q) (hq : q < x) (hl : l.length ≤ 17592186044416) :
    Calls Tryz.prog 218 #[.pointer (some ⟨x, 0, none⟩), .int .u8 c.toNat, .pointer (some ⟨k, 0, none⟩), .pointer (some ⟨q, 0, none⟩)] W fun e W' => e = .returned (.tuple #[]) ∧ BAt k (decStep st c).1.1 W' ∧ QAt q (((decStep st c).1.2.1 : Nat) : Int) (((decStep st c).1.2.2 : Nat) : Int) W' ∧ Bld x (l ++ (decStep st c).2) W' ∧ Below k W W' := by
  obtain ⟨v, b, m⟩ := st
  by_cases hn : idx c < 0
  · unfold decStep
    rw [if_pos hn]
    refine (put_dec_no k q b x v m l c W hV hQ hB hk hq hl hn).mono fun e W' ⟨h1, h2, h3, h4, h5⟩ => ⟨h1, h2, h3, by rw [List.append_nil]; exact h4, h5⟩
  · have hn' : 0 ≤ idx c := by omega
    unfold decStep
    rw [if_neg hn]
    rcases hI with ⟨h1, h2⟩ | ⟨h1, h2⟩ | ⟨h1, h2⟩ | ⟨h1, h2⟩
    · obtain rfl : m = 0 := h1
      rw [if_pos rfl]
      refine (put_dec0 k q b x v h2 l c W hV hQ hB hk hq hl hn').mono fun e W' ⟨h1, h2, h3, h4, h5⟩ => ⟨h1, h2, h3, by rw [List.append_nil]; exact h4, h5⟩
    · obtain rfl : m = 2 := h1
      rw [if_neg (by show ¬ (2 = 0); omega)]
      exact (put_dec2 k q b x v h2 l c W hV hQ hB hk hq hl hn').mono fun e W' ⟨h1, h2, h3, h4, h5⟩ => ⟨h1, h2, h3, h4, h5⟩
    · obtain rfl : m = 4 := h1
      rw [if_neg (by show ¬ (4 = 0); omega)]
      exact (put_dec4 k q b x v h2 l c W hV hQ hB hk hq hl hn').mono fun e W' ⟨h1, h2, h3, h4, h5⟩ => ⟨h1, h2, h3, h4, h5⟩
    · obtain rfl : m = 6 := h1
      rw [if_neg (by show ¬ (6 = 0); omega)]
      exact (put_dec6 k q b x v h2 l c W hV hQ hB hk hq hl hn').mono fun e W' ⟨h1, h2, h3, h4, h5⟩ => ⟨h1, h2, h3, h4, h5⟩
theorem decStep_le (st : Bool × Nat × Nat) (c : UInt8) : (decStep st c).2.length ≤ 1 := by
  unfold decStep
  repeat' split
  all_goals simp
/-- A text without what fills it up. -/
def bareD (s : List UInt8) : List UInt8 := Lib.trimSuffix (Lib.trimSuffix s [61]) [61]
def dec0 (s : List UInt8) : Bool × Nat × Nat := ((((bareD s).length : Int) % 4 != 1), 0, 0)
def decL (s : List UInt8) : List UInt8 := eachO decStep (dec0 s) (bareD s)
def decK (s : List UInt8) : Bool := (eachS decStep (dec0 s) (bareD s)).1
theorem trim_le (s p : List UInt8) : (Lib.trimSuffix s p).length ≤ s.length := by
  unfold Lib.trimSuffix
  split
  · rw [List.length_take]; omega
  · omega
set_option maxRecDepth 100000 in
set_option maxHeartbeats 4000000 in
theorem decoded_any (s : ByteArray) (hs : s.size ≤ 1099511627776) (w : World) :
    Calls Tryz.prog 141 #[.string s] w fun e w' => e = .returned (.tuple #[.string ⟨(decL s.data.toList).toArray⟩, .bool (decK s.data.toList)]) ∧ Below w.heap.size w w' := by
  have HT := Lib.hid (fun (s : ByteArray) (hs : s.size ≤ 1099511627776) w => Tryz.strings_TrimSuffix s ⟨#[61]⟩ w (by omega))
  have hl1 := trim_le s.data.toList [61]
  have hl2 := trim_le (Lib.trimSuffix s.data.toList [61]) [61]
  have esz : s.data.toList.length = s.size := by simp
  obtain ⟨S1, hS1⟩ : ∃ S1 : ByteArray, (⟨(Lib.trimSuffix s.data.toList [61]).toArray⟩ : ByteArray) = S1 := ⟨_, rfl⟩
  obtain ⟨S2, hS2⟩ : ∃ S2 : ByteArray, (⟨(bareD s.data.toList).toArray⟩ : ByteArray) = S2 := ⟨_, rfl⟩
  have e1 : S1.data.toList = Lib.trimSuffix s.data.toList [61] := by rw [← hS1]
  have e2 : S2.data.toList = bareD s.data.toList := by rw [← hS2]
  have z1 : S1.size = (Lib.trimSuffix s.data.toList [61]).length := by rw [← e1]; simp
  have z2 : S2.size = (bareD s.data.toList).length := by rw [← e2]; simp
  have b1 : S1.size ≤ 1099511627776 := by omega
  have b2 : S2.size ≤ 1099511627776 := by rw [z2]; unfold bareD; omega
  have hT1 : ∀ w, Calls Tryz.prog 217 #[.string s, .string ⟨#[61]⟩] w fun e w' => e = .returned (.string S1) ∧ w = w' := fun w => (HT.out s hs w).mono fun e w' ⟨h1, h2⟩ => ⟨by rw [h1, ← hS1], h2.symm⟩
  have hT2 : ∀ w, Calls Tryz.prog 217 #[.string S1, .string ⟨#[61]⟩] w fun e w' => e = .returned (.string S2) ∧ w = w' := fun w => (HT.out S1 b1 w).mono fun e w' ⟨h1, h2⟩ => ⟨by rw [h1, ← hS2, e1]; rfl, h2.symm⟩
  have H1 := Lib.hid hT1
  have H2 := Lib.hid hT2
  have hd0 : dec0 s.data.toList = (((S2.size : Int) % 4 != 1), 0, 0) := by unfold dec0; rw [z2]
  unfold decL decK
  rw [hd0, ← e2]
  obtain ⟨v, hv⟩ : ∃ v, ((S2.size : Int) % 4 != 1) = v := ⟨_, rfl⟩
  rw [hv]
  have hE : ∀ W : World, W.heap.size = w.heap.size + 2 → BAt w.heap.size v W → QAt (w.heap.size + 1) 0 0 W → Calls Tryz.prog 136 #[.string S2, .func (.func 218) #[] #[.pointer (some ⟨w.heap.size, 0, none⟩), .pointer (some ⟨w.heap.size + 1, 0, none⟩)]] W fun e w' => e = .returned (.string ⟨(eachO decStep (v, 0, 0) S2.data.toList).toArray⟩) ∧ BAt w.heap.size (eachS decStep (v, 0, 0) S2.data.toList).1 w' ∧ Below w.heap.size W w' := by
    intro W h1 h2 h3
    have HP : PutOK (w.heap.size + 2) w.heap.size (.func (.func 218) #[] #[.pointer (some ⟨w.heap.size, 0, none⟩), .pointer (some ⟨w.heap.size + 1, 0, none⟩)]) (fun (st : Bool × Nat × Nat) W => DecI st ∧ BAt w.heap.size st.1 W ∧ QAt (w.heap.size + 1) (st.2.1 : Int) (st.2.2 : Int) W) decStep := {
      fn := ⟨_, _, rfl, enters_of Tryz.func218 (by kernel_rfl) rfl, fun st c l b W hb hI hB hl => (put_dec w.heap.size (w.heap.size + 1) b st hI.1 l c W hI.2.1 hI.2.2 hB (by omega) (by omega) hl).mono fun e W' ⟨h1, h2, h3, h4, h5⟩ => ⟨h1, ⟨hI.1.step c, h2, h3⟩, h4, h5⟩⟩
      keep := fun _ W W' h hb => ⟨h.1, h.2.1.below (by omega) hb, h.2.2.below (by omega) hb⟩
      small := fun st c => by have := decStep_le st c; omega }
    refine (each_any w.heap.size _ (fun (st : Bool × Nat × Nat) W => DecI st ∧ BAt w.heap.size st.1 W ∧ QAt (w.heap.size + 1) (st.2.1 : Int) (st.2.2 : Int) W) decStep S2 b2 (v, 0, 0) W (by rw [h1]; exact HP) ⟨.inl ⟨rfl, Nat.zero_lt_one⟩, h2, h3⟩ (by omega)).mono ?_
    rintro e w' ⟨h3, h4, h5⟩
    exact ⟨h3, h4.2.1, h5⟩
  have HE := Lib.hid hE
  have HA := Lib.hid (((Below.refl w.heap.size w).alloc (Nat.le_refl _) (.cells #[.bool v] 4)).alloc (by simp) (.cells #[.int .i64 0, .int .i64 0] 153))
  have HX1 := Lib.hid (show BAt w.heap.size v ((w.alloc (.cells #[.bool v] 4)).alloc (.cells #[.int .i64 0, .int .i64 0] 153)) from (((Below.refl _ _).alloc (Nat.le_refl _) _).block w.heap.size (by simp)).trans (heap_alloc_new w _))
  have HX2 := Lib.hid (show QAt (w.heap.size + 1) 0 0 ((w.alloc (.cells #[.bool v] 4)).alloc (.cells #[.int .i64 0, .int .i64 0] 153)) from by have h := heap_alloc_new (w.alloc (.cells #[.bool v] 4)) (.cells #[.int .i64 0, .int .i64 0] 153); rw [World.size_alloc] at h; exact h)
  clear hE HT hT1 hT2 hd0 e1 e2 z1 z2 hS1 hS2 hl1 hl2
  go_enter Tryz.func141, Tryz.ntmps141
  go_wp2_with fail
  refine (H1.out _).mono ?_
  rintro e w1 ⟨rfl, rfl⟩
  go_wp2_with fail
  refine (H2.out _).mono ?_
  rintro e w2 ⟨rfl, rfl⟩
  go_wp2_with fail
  refine (HE.out _ (by simp) HX1.out HX2.out).mono ?_
  rintro e w3 ⟨rfl, h1, h2⟩
  have HV := Lib.hid h1
  have HB := Lib.hid (HA.out.trans h2)
  clear h1 h2
  obtain ⟨c0, f0, hk0⟩ := HV.out.row
  go_wp2_with fail
  go_quiet (fail)
  go_wp2_with fail
  go_ret2
  exact ⟨rfl, below_drewN HB.out nq⟩
end Go.Proofs.YtpobdmkidopnnaaGreatDoor
