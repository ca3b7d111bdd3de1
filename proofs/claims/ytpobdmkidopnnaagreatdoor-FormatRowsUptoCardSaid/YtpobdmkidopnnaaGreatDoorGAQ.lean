/- markup, quoted, escaped, shielded. -/
import Derived.Test.YtpobdmkidopnnaaGreatDoorGAP
import Derived.Lib.BufferOwn
import Derived.StillTailTactics
namespace Go.Proofs.YtpobdmkidopnnaaGreatDoor
open Go Go.RowKit Go.Shelf

theorem eachO_le {σ : Type} (step : σ → UInt8 → σ × List UInt8) (m : Nat) (h : ∀ st c, (step st c).2.length ≤ m) (l : List UInt8) : ∀ st, (eachO step st l).length ≤ m * l.length := by
  induction l with
  | nil => intro st; simp [eachO]
  | cons c r ih =>
    intro st
    have h1 := h st c
    have h2 := ih (step st c).1
    unfold eachO
    rw [List.length_append, List.length_cons, Nat.mul_add]
    omega
theorem replL_le (L : List (UInt8 × ByteArray)) (hL : ∀ p ∈ L, p.2.size ≤ 10) (s : ByteArray) : (replL L s.data.toList).length ≤ 10 * s.size := by
  have := eachO_le (fun (_ : Unit) c => ((), swapT L c)) 10 (fun _ c => swapT_le L hL c) s.data.toList ()
  simpa [replL] using this
def LMark : List (UInt8 × ByteArray) := [(60, ⟨#[38, 108, 116, 59]⟩), (62, ⟨#[38, 103, 116, 59]⟩), (38, ⟨#[38, 97, 109, 112, 59]⟩), (39, ⟨#[38, 35, 51, 57, 59]⟩), (34, ⟨#[38, 113, 117, 111, 116, 59]⟩)]
def LQuot : List (UInt8 × ByteArray) := [(34, ⟨#[34, 34]⟩)]
def LEsc : List (UInt8 × ByteArray) := [(92, ⟨#[92, 92]⟩), (9, ⟨#[92, 116]⟩), (10, ⟨#[92, 110]⟩), (13, ⟨#[92, 114]⟩)]
def LSh : List (UInt8 × ByteArray) := [(39, ⟨#[39, 92, 39, 39]⟩)]
set_option maxRecDepth 100000 in
set_option maxHeartbeats 2000000 in
theorem markup_any (s : ByteArray) (hs : s.size ≤ 1099511627776) (w : World) : Calls Tryz.prog 84 #[.string s] w fun e w' => e = .returned (.string ⟨(replL LMark s.data.toList).toArray⟩) ∧ Below w.heap.size w w' := by
  have HA := Lib.hid ((Below.refl w.heap.size w).alloc (Nat.le_refl _) (.cells (swCells LMark).toArray 164))
  have HX := Lib.hid (heap_alloc_new w (.cells (swCells LMark).toArray 164))
  go_enter Tryz.func84, Tryz.ntmps84
  go_wp2_with fail
  refine (replaced_any LMark (by decide) (by decide) s hs w.heap.size _ _ HX.out).mono ?_
  rintro e w1 ⟨rfl, hb⟩
  have HB := Lib.hid (HA.out.trans (hb.mono (by simp)))
  clear hb
  go_wp2_with fail
  go_ret
  exact ⟨rfl, HB.out⟩
set_option maxRecDepth 100000 in
set_option maxHeartbeats 2000000 in
theorem escaped_any (s : ByteArray) (hs : s.size ≤ 1099511627776) (w : World) : Calls Tryz.prog 86 #[.string s] w fun e w' => e = .returned (.string ⟨(replL LEsc s.data.toList).toArray⟩) ∧ Below w.heap.size w w' := by
  have HA := Lib.hid ((Below.refl w.heap.size w).alloc (Nat.le_refl _) (.cells (swCells LEsc).toArray 164))
  have HX := Lib.hid (heap_alloc_new w (.cells (swCells LEsc).toArray 164))
  go_enter Tryz.func86, Tryz.ntmps86
  go_wp2_with fail
  refine (replaced_any LEsc (by decide) (by decide) s hs w.heap.size _ _ HX.out).mono ?_
  rintro e w1 ⟨rfl, hb⟩
  have HB := Lib.hid (HA.out.trans (hb.mono (by simp)))
  clear hb
  go_wp2_with fail
  go_ret
  exact ⟨rfl, HB.out⟩
set_option maxRecDepth 100000 in
set_option maxHeartbeats 2000000 in
theorem quoted_any (s : ByteArray) (hs : s.size ≤ 1099511627776) (w : World) : Calls Tryz.prog 83 #[.string s] w fun e w' => e = .returned (.string ⟨(34 :: (replL LQuot s.data.toList ++ [34])).toArray⟩) ∧ Below w.heap.size w w' := by
  have HA := Lib.hid ((Below.refl w.heap.size w).alloc (Nat.le_refl _) (.cells (swCells LQuot).toArray 164))
  have HX := Lib.hid (heap_alloc_new w (.cells (swCells LQuot).toArray 164))
  have hlen := replL_le LQuot (by decide) s
  go_enter Tryz.func83, Tryz.ntmps83
  go_wp2_with fail
  refine (replaced_any LQuot (by decide) (by decide) s hs w.heap.size _ _ HX.out).mono ?_
  rintro e w1 ⟨rfl, hb⟩
  have HB := Lib.hid (HA.out.trans (hb.mono (by simp)))
  clear hb
  go_wp2_with fail
  go_ret
  exact ⟨ret_strF (by apply ByteArray.ext; simp), HB.out⟩
set_option maxRecDepth 100000 in
set_option maxHeartbeats 2000000 in
theorem shielded_any (s : ByteArray) (hs : s.size ≤ 1099511627776) (w : World) : Calls Tryz.prog 150 #[.string s] w fun e w' => e = .returned (.string ⟨(39 :: (replL LSh s.data.toList ++ [39])).toArray⟩) ∧ Below w.heap.size w w' := by
  have HA := Lib.hid ((Below.refl w.heap.size w).alloc (Nat.le_refl _) (.cells (swCells LSh).toArray 164))
  have HX := Lib.hid (heap_alloc_new w (.cells (swCells LSh).toArray 164))
  have hlen := replL_le LSh (by decide) s
  go_enter Tryz.func150, Tryz.ntmps150
  go_wp2_with fail
  refine (replaced_any LSh (by decide) (by decide) s hs w.heap.size _ _ HX.out).mono ?_
  rintro e w1 ⟨rfl, hb⟩
  have HB := Lib.hid (HA.out.trans (hb.mono (by simp)))
  clear hb
  go_wp2_with fail
  go_ret
  exact ⟨ret_strF (by apply ByteArray.ext; simp), HB.out⟩
end Go.Proofs.YtpobdmkidopnnaaGreatDoor
namespace Go.Proofs.YtpobdmkidopnnaaGreatDoor
open Go Go.RowKit Go.Shelf

def keptB (c : UInt8) : Bool := (65 ≤ c.toNat && c.toNat ≤ 90) || (97 ≤ c.toNat && c.toNat ≤ 122) || (48 ≤ c.toNat && c.toNat ≤ 57) || c.toNat == 45 || c.toNat == 95 || c.toNat == 46 || c.toNat == 126
def hexT : List UInt8 := [48, 49, 50, 51, 52, 53, 54, 55, 56, 57, 65, 66, 67, 68, 69, 70]
def uriT (c : UInt8) : List UInt8 := if keptB c = true then [c] else [37, hexT.getD (c.toNat / 16) 0, hexT.getD (c.toNat % 16) 0]
theorem kept_index (c : UInt8) (h1 : ¬ (65 ≤ c.toNat ∧ c.toNat ≤ 90)) (h2 : ¬ (97 ≤ c.toNat ∧ c.toNat ≤ 122)) (h3 : ¬ (48 ≤ c.toNat ∧ c.toNat ≤ 57)) : decide (0 ≤ Lib.indexByte [45, 95, 46, 126] c) = keptB c := by
  have h : ∀ n : Fin 256, ¬ (65 ≤ n.val ∧ n.val ≤ 90) → ¬ (97 ≤ n.val ∧ n.val ≤ 122) → ¬ (48 ≤ n.val ∧ n.val ≤ 57) → decide (0 ≤ Lib.indexByte [45, 95, 46, 126] (UInt8.ofNat n.val)) = keptB (UInt8.ofNat n.val) := by decide +kernel
  have := h ⟨c.toNat, c.toNat_lt⟩ h1 h2 h3
  simpa using this
theorem kept_in (c : UInt8) (h : (65 ≤ c.toNat ∧ c.toNat ≤ 90) ∨ (97 ≤ c.toNat ∧ c.toNat ≤ 122) ∨ (48 ≤ c.toNat ∧ c.toNat ≤ 57)) : keptB c = true := by
  unfold keptB
  rcases h with ⟨a, b⟩ | ⟨a, b⟩ | ⟨a, b⟩ <;> simp [a, b]
set_option maxRecDepth 100000 in
set_option maxHeartbeats 4000000 in
theorem isPlain_any (c : UInt8) (w : World) : Calls Tryz.prog 152 #[.int .u8 c.toNat] w fun e w' => e = .returned (.bool (keptB c)) ∧ w' = w := by
  have hc := c.toNat_lt
  have hcc : (c.toNat : Int).toNat.toUInt8 = c := by simp
  have hix := Tryz.strings_IndexByte ⟨#[45, 95, 46, 126]⟩ (c.toNat : Int) w
  rw [hcc] at hix
  obtain ⟨j, hj⟩ : ∃ j, Lib.indexByte [45, 95, 46, 126] c = j := ⟨_, rfl⟩
  have HX : Hid (Calls Tryz.prog 219 #[.string ⟨#[45, 95, 46, 126]⟩, .int .u8 c.toNat] w fun e w' => e = .returned (.int .i64 j) ∧ w' = w) := Lib.hid (by rw [← hj]; exact hix)
  have hk := kept_index c
  rw [hj] at hk
  have HK := Lib.hid hk
  clear hix hcc hj hk
  obtain ⟨B, hB⟩ : ∃ B, keptB c = B := ⟨_, rfl⟩
  have HB := Lib.hid hB
  rw [hB]
  clear hB
  by_cases h : 65 ≤ c.toNat ∧ c.toNat ≤ 90
  · have hb : true = B := by rw [← HB.out]; exact (kept_in c (.inl h)).symm
    subst hb
    have q0 : decide (65 ≤ (c.toNat : Int)) = true := decide_eq_true (by omega)
    have q1 : decide ((c.toNat : Int) ≤ 90) = true := decide_eq_true (by omega)
    clear h
    go_enter Tryz.func152, Tryz.ntmps152
    go_wp2_with fail
    go_ret
    exact ⟨rfl, rfl⟩
  have n0 := h
  clear h
  by_cases h : 97 ≤ c.toNat ∧ c.toNat ≤ 122
  · have hb : true = B := by rw [← HB.out]; exact (kept_in c (.inr (.inl h))).symm
    subst hb
    have q0 : decide (65 ≤ (c.toNat : Int)) = true := decide_eq_true (by omega)
    have q1 : decide ((c.toNat : Int) ≤ 90) = false := decide_eq_false (by omega)
    have q2 : decide (97 ≤ (c.toNat : Int)) = true := decide_eq_true (by omega)
    have q3 : decide ((c.toNat : Int) ≤ 122) = true := decide_eq_true (by omega)
    clear h
    go_enter Tryz.func152, Tryz.ntmps152
    go_wp2_with fail
    go_ret
    exact ⟨rfl, rfl⟩
  have n1 := h
  clear h
  by_cases h : 48 ≤ c.toNat ∧ c.toNat ≤ 57
  · have hb : true = B := by rw [← HB.out]; exact (kept_in c (.inr (.inr h))).symm
    subst hb
    have q0 : decide (65 ≤ (c.toNat : Int)) = false := decide_eq_false (by omega)
    have q1 : decide (97 ≤ (c.toNat : Int)) = false := decide_eq_false (by omega)
    have q2 : decide (48 ≤ (c.toNat : Int)) = true := decide_eq_true (by omega)
    have q3 : decide ((c.toNat : Int) ≤ 57) = true := decide_eq_true (by omega)
    clear h
    go_enter Tryz.func152, Tryz.ntmps152
    go_wp2_with fail
    go_ret
    exact ⟨rfl, rfl⟩
  have n2 := h
  clear h
  have hjb := (HK.out n0 n1 n2).trans HB.out
  subst hjb
  have g : (c.toNat < 48) ∨ (58 ≤ c.toNat ∧ c.toNat ≤ 64) ∨ (91 ≤ c.toNat ∧ c.toNat ≤ 96) ∨ (123 ≤ c.toNat) := by omega
  rcases g with g | g | g | g
  · have q0 : decide (65 ≤ (c.toNat : Int)) = false := decide_eq_false (by omega)
    have q1 : decide (97 ≤ (c.toNat : Int)) = false := decide_eq_false (by omega)
    have q2 : decide (48 ≤ (c.toNat : Int)) = false := decide_eq_false (by omega)
    clear g n0 n1 n2 HB
    go_enter Tryz.func152, Tryz.ntmps152
    go_wp2_with fail
    refine HX.out.mono ?_
    rintro e w2 ⟨rfl, rfl⟩
    go_wp2_with fail
    go_ret
    exact ⟨rfl, rfl⟩
  · have q0 : decide (65 ≤ (c.toNat : Int)) = false := decide_eq_false (by omega)
    have q1 : decide (97 ≤ (c.toNat : Int)) = false := decide_eq_false (by omega)
    have q2 : decide (48 ≤ (c.toNat : Int)) = true := decide_eq_true (by omega)
    have q3 : decide ((c.toNat : Int) ≤ 57) = false := decide_eq_false (by omega)
    clear g n0 n1 n2 HB
    go_enter Tryz.func152, Tryz.ntmps152
    go_wp2_with fail
    refine HX.out.mono ?_
    rintro e w2 ⟨rfl, rfl⟩
    go_wp2_with fail
    go_ret
    exact ⟨rfl, rfl⟩
  · have q0 : decide (65 ≤ (c.toNat : Int)) = true := decide_eq_true (by omega)
    have q1 : decide ((c.toNat : Int) ≤ 90) = false := decide_eq_false (by omega)
    have q2 : decide (97 ≤ (c.toNat : Int)) = false := decide_eq_false (by omega)
    have q3 : decide (48 ≤ (c.toNat : Int)) = true := decide_eq_true (by omega)
    have q4 : decide ((c.toNat : Int) ≤ 57) = false := decide_eq_false (by omega)
    clear g n0 n1 n2 HB
    go_enter Tryz.func152, Tryz.ntmps152
    go_wp2_with fail
    refine HX.out.mono ?_
    rintro e w2 ⟨rfl, rfl⟩
    go_wp2_with fail
    go_ret
    exact ⟨rfl, rfl⟩
  · have q0 : decide (65 ≤ (c.toNat : Int)) = true := decide_eq_true (by omega)
    have q1 : decide ((c.toNat : Int) ≤ 90) = false := decide_eq_false (by omega)
    have q2 : decide (97 ≤ (c.toNat : Int)) = true := decide_eq_true (by omega)
    have q3 : decide ((c.toNat : Int) ≤ 122) = false := decide_eq_false (by omega)
    have q4 : decide (48 ≤ (c.toNat : Int)) = true := decide_eq_true (by omega)
    have q5 : decide ((c.toNat : Int) ≤ 57) = false := decide_eq_false (by omega)
    clear g n0 n1 n2 HB
    go_enter Tryz.func152, Tryz.ntmps152
    go_wp2_with fail
    refine HX.out.mono ?_
    rintro e w2 ⟨rfl, rfl⟩
    go_wp2_with fail
    go_ret
    exact ⟨rfl, rfl⟩
end Go.Proofs.YtpobdmkidopnnaaGreatDoor
namespace Go.Proofs.YtpobdmkidopnnaaGreatDoor
open Go Go.RowKit Go.Shelf

theorem hex_lit (n : Nat) (h : n < 16) (h' : n < (ByteArray.mk #[48, 49, 50, 51, 52, 53, 54, 55, 56, 57, 65, 66, 67, 68, 69, 70]).size) : (ByteArray.mk #[48, 49, 50, 51, 52, 53, 54, 55, 56, 57, 65, 66, 67, 68, 69, 70])[n]'h' = hexT.getD n 0 := by
  have : ∀ k : Fin 16, (ByteArray.mk #[48, 49, 50, 51, 52, 53, 54, 55, 56, 57, 65, 66, 67, 68, 69, 70])[k.val]'(k.isLt) = hexT.getD k.val 0 := by decide
  exact this ⟨n, h⟩
set_option maxRecDepth 100000 in
set_option maxHeartbeats 4000000 in
theorem put_uri (b : Nat) (l : List UInt8) (c : UInt8) (W : World) (hB : Bld b l W) (hl : l.length ≤ 17592186044416) :
    Calls Tryz.prog 151 #[.pointer (some ⟨b, 0, none⟩), .int .u8 c.toNat] W fun e W' => e = .returned (.tuple #[]) ∧ Bld b (l ++ uriT c) W' ∧ Below b W W' := by
  have HB := Lib.hid hB
  have hc := c.toNat_lt
  obtain ⟨B, hk⟩ : ∃ B, keptB c = B := ⟨_, rfl⟩
  have HP := Lib.hid (fun w => isPlain_any c w)
  rw [hk] at HP
  clear hB
  cases B with
  | true =>
    have HT := Lib.hid (show uriT c = [c] by unfold uriT; rw [if_pos hk])
    clear hk
    go_enter Tryz.func151, Tryz.ntmps151
    go_wp2_with fail
    refine (HP.out _).mono ?_
    rintro e w2 ⟨rfl, rfl⟩
    go_wp2_with fail
    refine (writeByte_B b l c _ HB.out (by omega)).mono ?_
    rintro e w3 ⟨rfl, h1, h2⟩
    have H1 := Lib.hid h1
    have H2 := Lib.hid h2
    clear h1 h2
    go_wp2_with fail
    exact bodyPost_ret (results_none rfl _ _ _) rfl ⟨rfl, by rw [HT.out]; exact H1.out, H2.out⟩
  | false =>
    go_enter Tryz.func151, Tryz.ntmps151
    go_wp2_with fail
    refine (HP.out _).mono ?_
    rintro e w2 ⟨rfl, rfl⟩
    go_wp2_with fail
    refine (writeByte_B b l 37 _ HB.out (by omega)).mono ?_
    rintro e w3 ⟨rfl, h1, h2⟩
    have H1 := Lib.hid h1
    have H2 := Lib.hid h2
    clear h1 h2
    go_wp2_with fail
    refine (writeByte_B b (l ++ [37]) _ _ H1.out (by rw [List.length_append, List.length_singleton]; omega)).mono ?_
    rintro e w4 ⟨rfl, h1, h2⟩
    have H3 := Lib.hid h1
    have H4 := Lib.hid (H2.out.trans h2)
    clear h1 h2 H1 H2
    go_wp2_with fail
    refine (writeByte_B b _ _ _ H3.out (by simp only [List.length_append, List.length_singleton]; omega)).mono ?_
    rintro e w5 ⟨rfl, h1, h2⟩
    have H5 := Lib.hid h1
    have H6 := Lib.hid (H4.out.trans h2)
    clear h1 h2 H3 H4
    go_wp2_with fail
    go_end0
    refine ⟨rfl, ?_, H6.out⟩
    have h := H5.out
    rw [hex_lit _ (by omega), hex_lit _ (by omega), List.append_assoc, List.append_assoc] at h
    have e : uriT c = [37] ++ ([hexT.getD (c.toNat / 16) 0] ++ [hexT.getD (c.toNat % 16) 0]) := by unfold uriT; rw [if_neg (by rw [hk]; exact Bool.false_ne_true)]; rfl
    rw [e]
    exact h
theorem uriT_le (c : UInt8) : (uriT c).length ≤ 10 := by
  unfold uriT
  split <;> simp
def uriL (s : List UInt8) : List UInt8 := eachO (fun (_ : Unit) c => ((), uriT c)) () s
set_option maxRecDepth 100000 in
set_option maxHeartbeats 2000000 in
theorem address_any (s : ByteArray) (hs : s.size ≤ 1099511627776) (w : World) :
    Calls Tryz.prog 87 #[.string s] w fun e w' => e = .returned (.string ⟨(uriL s.data.toList).toArray⟩) ∧ Below w.heap.size w w' := by
  have HP : Hid (PutOK w.heap.size w.heap.size (.func (.func 151) #[] #[]) (fun (_ : Unit) (_ : World) => True) (fun _ c => ((), uriT c))) := Lib.hid {
    fn := ⟨_, _, rfl, enters_of Tryz.func151 (by kernel_rfl) rfl, fun _ c l b W hb _ hB hl => (put_uri b l c W hB hl).mono fun e W' ⟨h1, h2, h3⟩ => ⟨h1, trivial, h2, h3.mono hb⟩⟩
    keep := fun _ W W' h hb => trivial
    small := fun _ c => uriT_le c }
  go_enter Tryz.func87, Tryz.ntmps87
  go_wp2_with fail
  refine (each_any w.heap.size _ _ _ s hs () _ HP.out trivial (Nat.le_refl _)).mono ?_
  rintro e w1 ⟨rfl, _, hb⟩
  have HB := Lib.hid hb
  clear hb
  go_wp2_with fail
  go_ret
  exact ⟨rfl, HB.out⟩
end Go.Proofs.YtpobdmkidopnnaaGreatDoor
namespace Go.Proofs.YtpobdmkidopnnaaGreatDoor
open Go Go.RowKit Go.Shelf

def QAt (q : Nat) (b m : Int) (W : World) : Prop := W.heap[q]? = some (.cells #[.int .i64 b, .int .i64 m] 153 (0, 0))
theorem QAt.row {q : Nat} {b m : Int} {W : World} (h : QAt q b m W) : W.cell? ⟨q, 0, none⟩ = some (.int .i64 b) ∧ W.cell? ⟨q, 1, none⟩ = some (.int .i64 m) ∧ W.frozen? ⟨q, 0, none⟩ = false ∧ W.frozen? ⟨q, 1, none⟩ = false ∧ q < W.heap.size := by
  unfold QAt at h
  refine ⟨?_, ?_, ?_, ?_, (Array.getElem?_eq_some_iff.1 h).1⟩ <;> simp [World.cell?, World.frozen?, h]
theorem QAt.set0 {q : Nat} {b m : Int} {W : World} (h : QAt q b m W) (x : Int) : QAt q x m (W.setCell ⟨q, 0, none⟩ (.int .i64 x)) := by
  unfold QAt at h ⊢
  simp [World.setCell, Array.getElem?_modify, h]
theorem QAt.set1 {q : Nat} {b m : Int} {W : World} (h : QAt q b m W) (x : Int) : QAt q b x (W.setCell ⟨q, 1, none⟩ (.int .i64 x)) := by
  unfold QAt at h ⊢
  simp [World.setCell, Array.getElem?_modify, h]
theorem QAt.below {q n : Nat} {b m : Int} {W W' : World} (h : QAt q b m W) (hq : q < n) (hb : Below n W W') : QAt q b m W' := (hb.block q hq).trans h
theorem wrap_small (x : Nat) (h : x ≤ 1048576) : wrap64 (x : Int) = (x : Int) := by unfold wrap64; omega
theorem wrap_shl (b k : Nat) (hb : b < 64) (hk : k ≤ 8) : wrap64 ((b : Int) * 2 ^ k) = ((b * 2 ^ k : Nat) : Int) := by
  have h2 : 2 ^ k ≤ 2 ^ 8 := Nat.pow_le_pow_right (by omega) hk
  have h3 : b * 2 ^ k ≤ 64 * 256 := Nat.mul_le_mul (by omega) (by simpa using h2)
  have e : ((b : Int) * 2 ^ k) = ((b * 2 ^ k : Nat) : Int) := by push_cast; rfl
  rw [e]
  exact wrap_small _ (by omega)
theorem grown_drewN (w : World) (n : Nat) (o : Option Nat) : w.grownBy (w.drewN n) o := ⟨rfl, rfl, rfl, Nat.le_refl _, fun _ _ _ => rfl⟩
theorem shr_div (b r : Nat) : (b : Int) / 2 ^ r = ((b / 2 ^ r : Nat) : Int) := by push_cast; rfl
set_option maxRecDepth 100000 in
set_option maxHeartbeats 2000000 in
theorem push_any (q b m n k : Nat) (hb : b < 64) (_hn : n < 256) (hk : k ≤ 8) (hm : m ≤ 8) (hor : bits .or .i64 ((b * 2 ^ k : Nat) : Int) (n : Int) = ((b * 2 ^ k + n : Nat) : Int)) (w : World) (h : QAt q b m w) :
    Calls Tryz.prog 138 #[.pointer (some ⟨q, 0, none⟩), .int .i64 n, .int .i64 k] w fun e w' => e = .returned (.tuple #[]) ∧ QAt q ((b * 2 ^ k + n : Nat) : Int) ((m + k : Nat) : Int) w' ∧ w.grownBy w' (some q) := by
  obtain ⟨c0, c1, f0, f1, hq⟩ := h.row
  have H := Lib.hid h
  have HO := Lib.hid hor
  have HW := Lib.hid (wrap_shl b k hb hk)
  clear h hor
  go_enter Tryz.func138, Tryz.ntmps138
  go_wp2_with fail
  go_end0
  rw [HW.out, HO.out]
  exact ⟨rfl, (H.out.set0 _).set1 _, Lib.grownBy_setB (Lib.grownBy_setB (World.grownBy.refl _ _) 0 _) 1 _⟩
set_option maxRecDepth 100000 in
set_option maxHeartbeats 2000000 in
theorem take_any (q b m k r : Nat) (hb : b < 16384) (hk : k ≤ 8) (hm : m ≤ 14) (hr : m = r + k) (w : World) (h : QAt q b m w) :
    Calls Tryz.prog 140 #[.pointer (some ⟨q, 0, none⟩), .int .i64 k] w fun e w' => e = .returned (.int .i64 ((b / 2 ^ r : Nat) : Int)) ∧ QAt q ((b % 2 ^ r : Nat) : Int) (r : Int) w' ∧ w.grownBy w' (some q) := by
  obtain ⟨c0, c1, f0, f1, hq⟩ := h.row
  have H := Lib.hid h
  have he : (m : Int) - (k : Int) = (r : Int) := by omega
  have hr0 : r ≤ 14 := by omega
  have h1 := h
  unfold QAt at h1
  have H1 := Lib.hid (h.set1 (r : Int))
  have HG := Lib.hid (Lib.grownBy_setB (World.grownBy.refl w (some q)) 1 (.int .i64 r))
  clear h hr h1
  have hdm := Nat.div_add_mod b (2 ^ r)
  have hml := Nat.mod_le b (2 ^ r)
  have hsh := shr_div b r
  obtain ⟨D, hD⟩ : ∃ D, b / 2 ^ r = D := ⟨_, rfl⟩
  obtain ⟨M, hM⟩ : ∃ M, b % 2 ^ r = M := ⟨_, rfl⟩
  rw [hD] at hdm hsh
  rw [hM] at hdm hml
  rw [hD, hM]
  have hle : D * 2 ^ r ≤ 16384 := by rw [Nat.mul_comm]; omega
  have HE := Lib.hid (show wrap64 ((D : Int) * 2 ^ r) = ((b - M : Nat) : Int) by
    have e : ((D : Int) * 2 ^ r) = ((D * 2 ^ r : Nat) : Int) := by push_cast; rfl
    rw [e, wrap_small _ (by omega), Nat.mul_comm]
    congr 1
    omega)
  have HSH := Lib.hid hsh
  have hDb : D ≤ 16384 := Nat.le_trans (Nat.le_mul_of_pos_right D (Nat.pow_pos (by omega))) hle
  clear hdm hsh hD hM hle
  go_enter Tryz.func140, Tryz.ntmps140
  go_upto_region 2 with fail
  generalize w.setCell ⟨q, 1, none⟩ (.int .i64 r) = w1 at H1 HG ⊢
  obtain ⟨d0, d1, d2, d3, hq1⟩ := H1.out.row
  go_quiet (fail)
  have H2 := Lib.hid (H1.out.below hq1 (below_drewN (Below.refl _ _) nq))
  have HG2 := Lib.hid (Lib.grownBy_trans HG.out (grown_drewN w1 nq (some q)))
  generalize w1.drewN nq = w2 at H2 HG2 ⊢
  clear d0 d1 d2 d3 hq1 H1 HG
  obtain ⟨d0, d1, d2, d3, hq1⟩ := H2.out.row
  rw [HSH.out]
  clear c0 c1 f0 f1 hq he
  go_upto_region 3 with fail
  go_still_tail 11, (by kernel_rfl)
  change wpList _ _ _ _ _ w2.drew
  have H3 := Lib.hid (H2.out.below hq1 (Below.refl _ _).drew)
  have HG3 := Lib.hid (Lib.grownBy_trans HG2.out (show w2.grownBy w2.drew (some q) from ⟨rfl, rfl, rfl, Nat.le_refl _, fun _ _ _ => rfl⟩))
  generalize w2.drew = w3 at H3 HG3 ⊢
  clear d0 d1 d2 d3 hq1 H2 HG2
  obtain ⟨d0, d1, d2, d3, hq1⟩ := H3.out.row
  go_wp2_with fail
  go_ret
  have hx : wrap64 ((b : Int) - ((b - M : Nat) : Int)) = (M : Int) := by
    unfold wrap64
    omega
  rw [HE.out, hx]
  exact ⟨rfl, H3.out.set0 _, Lib.grownBy_setB HG3.out 0 _⟩
end Go.Proofs.YtpobdmkidopnnaaGreatDoor
namespace Go.Proofs.YtpobdmkidopnnaaGreatDoor
open Go Go.RowKit Go.Shelf

theorem Bld.grown {b q : Nat} {l : List UInt8} {W W' : World} (h : Bld b l W) (hq : q < b) (hg : W.grownBy W' (some q)) : Bld b l W' := by
  have key : ∀ {p : Value}, Lib.BuilderAt 109 5 b b p (Lib.byteCells l) W → Lib.BuilderAt 109 5 b b p (Lib.byteCells l) W' := by
    intro p h
    obtain ⟨h1, v, hb, hown, hne⟩ := h
    exact ⟨h1, v, (hg.block b (Array.getElem?_eq_some_iff.1 hb).1 (fun e => by cases e; omega)).trans hb, hown.kept hg (.inr fun hx => by have := (hown.lt q hx).1; omega), hne⟩
  exact h.elim (fun h => .inl (key h)) (fun h => .inr (key h))
theorem grown_below {q n : Nat} {W W' : World} (h : W.grownBy W' (some q)) (hn : n ≤ q) (hq : q < W.heap.size) : Below n W W' :=
  ⟨h.os, h.tape, h.output, h.size, fun k hk => h.block k (by omega) (fun e => by cases e; omega)⟩
def sigT : List UInt8 := [65, 66, 67, 68, 69, 70, 71, 72, 73, 74, 75, 76, 77, 78, 79, 80, 81, 82, 83, 84, 85, 86, 87, 88, 89, 90, 97, 98, 99, 100, 101, 102, 103, 104, 105, 106, 107, 108, 109, 110, 111, 112, 113, 114, 115, 116, 117, 118, 119, 120, 121, 122, 48, 49, 50, 51, 52, 53, 54, 55, 56, 57, 43, 47]
def sig (n : Nat) : UInt8 := sigT.getD n 0
theorem or_8 (b c : Nat) (hb : b < 16) (hc : c < 256) : bits .or .i64 ((b * 2 ^ 8 : Nat) : Int) (c : Int) = ((b * 2 ^ 8 + c : Nat) : Int) := by
  have : ∀ i : Fin 16, ∀ j : Fin 256, bits .or .i64 ((i.val * 2 ^ 8 : Nat) : Int) (j.val : Int) = ((i.val * 2 ^ 8 + j.val : Nat) : Int) := by decide +kernel
  exact this ⟨b, hb⟩ ⟨c, hc⟩
theorem or_6 (b c : Nat) (hb : b < 64) (hc : c < 64) : bits .or .i64 ((b * 2 ^ 6 : Nat) : Int) (c : Int) = ((b * 2 ^ 6 + c : Nat) : Int) := by
  have : ∀ i : Fin 64, ∀ j : Fin 64, bits .or .i64 ((i.val * 2 ^ 6 : Nat) : Int) (j.val : Int) = ((i.val * 2 ^ 6 + j.val : Nat) : Int) := by decide +kernel
  exact this ⟨b, hb⟩ ⟨c, hc⟩
theorem sig_lit (n : Nat) (h : n < 64) (h' : n < (ByteArray.mk #[65, 66, 67, 68, 69, 70, 71, 72, 73, 74, 75, 76, 77, 78, 79, 80, 81, 82, 83, 84, 85, 86, 87, 88, 89, 90, 97, 98, 99, 100, 101, 102, 103, 104, 105, 106, 107, 108, 109, 110, 111, 112, 113, 114, 115, 116, 117, 118, 119, 120, 121, 122, 48, 49, 50, 51, 52, 53, 54, 55, 56, 57, 43, 47]).size) : (ByteArray.mk #[65, 66, 67, 68, 69, 70, 71, 72, 73, 74, 75, 76, 77, 78, 79, 80, 81, 82, 83, 84, 85, 86, 87, 88, 89, 90, 97, 98, 99, 100, 101, 102, 103, 104, 105, 106, 107, 108, 109, 110, 111, 112, 113, 114, 115, 116, 117, 118, 119, 120, 121, 122, 48, 49, 50, 51, 52, 53, 54, 55, 56, 57, 43, 47])[n]'h' = sig n := by
  have : ∀ k : Fin 64, (ByteArray.mk #[65, 66, 67, 68, 69, 70, 71, 72, 73, 74, 75, 76, 77, 78, 79, 80, 81, 82, 83, 84, 85, 86, 87, 88, 89, 90, 97, 98, 99, 100, 101, 102, 103, 104, 105, 106, 107, 108, 109, 110, 111, 112, 113, 114, 115, 116, 117, 118, 119, 120, 121, 122, 48, 49, 50, 51, 52, 53, 54, 55, 56, 57, 43, 47])[k.val]'(k.isLt) = sig k.val := by decide
  exact this ⟨n, h⟩
set_option maxRecDepth 100000 in
set_option maxHeartbeats 4000000 in
theorem put_enc0 (q b x : Nat) (hb : b < 1) (l : List UInt8) (c : UInt8) (W : World) (hQ : QAt q b 0 W) (hB : Bld x l W) (hq : q < x) (hl : l.length ≤ 17592186044416) :
    Calls Tryz.prog 137 #[.pointer (some ⟨x, 0, none⟩), .int .u8 c.toNat, .pointer (some ⟨q, 0, none⟩)] W fun e W' => e = .returned (.tuple #[]) ∧ QAt q (((b * 2 ^ 8 + c.toNat) % 4 : Nat) : Int) 2 W' ∧ Bld x (l ++ [sig ((b * 2 ^ 8 + c.toNat) / 4)]) W' ∧ Below q W W' := by
  have hc := c.toNat_lt
  obtain ⟨X, hX⟩ : ∃ X, b * 2 ^ 8 + c.toNat = X := ⟨_, rfl⟩
  have hor := or_8 b c.toNat (by omega) (by omega)
  rw [hX] at hor
  have HP := Lib.hid (fun w h => push_any q b 0 c.toNat 8 (by omega) (by omega) (by omega) (by omega) (by rw [hX]; exact hor) w h)
  rw [hX] at HP
  have bX : X < 256 := by omega
  have HX := Lib.hid hX
  have HQ := Lib.hid hQ
  have HB := Lib.hid hB
  have hQq := hQ.row.2.2.2.2
  clear hor hX hQ hB
  go_enter Tryz.func137, Tryz.ntmps137
  go_wp2_with fail
  refine (HP.out _ HQ.out).mono ?_
  rintro e w1 ⟨rfl, h1, h2⟩
  have HQ0 := Lib.hid (show QAt q (X : Int) 8 w1 from h1)
  have HL0 := Lib.hid (HB.out.grown hq h2)
  have HW0 := Lib.hid (grown_below h2 (Nat.le_refl _) hQq)
  clear h1 h2 HQ HB HP hQq
  go_wp2_with fail
  refine wp_loop_rounds 2 ?_
  rw [rounds_succ]
  obtain ⟨c0, c1, f0, f1, hq0⟩ := HQ0.out.row
  go_wp2_with fail
  refine (take_any q X 8 6 2 (by omega) (by omega) (by omega) (by omega) _ HQ0.out).mono ?_
  rintro e w2 ⟨rfl, h1, h2⟩
  have HT0 := Lib.hid h1
  have HL0b := Lib.hid (HL0.out.grown hq h2)
  have HW0b := Lib.hid (HW0.out.trans (grown_below h2 (Nat.le_refl _) hq0))
  clear h1 h2 c0 c1 f0 f1 hq0
  obtain ⟨D0, hD0⟩ : ∃ D, X / 2 ^ 2 = D := ⟨_, rfl⟩
  obtain ⟨M0, hM0⟩ : ∃ M, X % 2 ^ 2 = M := ⟨_, rfl⟩
  rw [hM0] at HT0
  have bD0 : D0 < 64 := by omega
  have bM0 : M0 < 4 := by omega
  have HDM0 := Lib.hid (And.intro hD0 hM0)
  rw [hD0]
  clear hD0 hM0
  go_wp2_with fail
  refine (writeByte_B x l _ _ HL0b.out (by omega)).mono ?_
  rintro e w3 ⟨rfl, h1, h2⟩
  rw [sig_lit _ bD0] at h1
  have HL1 := Lib.hid h1
  have HQ1 := Lib.hid (HT0.out.below hq h2)
  have HW1 := Lib.hid (HW0b.out.trans (h2.mono (Nat.le_of_lt hq)))
  clear h1 h2 HT0 HL0b HW0b HQ0 HL0 HW0
  go_wp2_with fail
  rw [rounds_succ]
  obtain ⟨c0, c1, f0, f1, hq0⟩ := HQ1.out.row
  go_wp2_with fail
  go_end0
  have e1 := HX.out
  obtain ⟨e2, e3⟩ := HDM0.out
  rw [e1, show X / 4 = D0 from e2, show X % 4 = M0 from e3]
  exact ⟨rfl, HQ1.out, HL1.out, HW1.out⟩
set_option maxRecDepth 100000 in
set_option maxHeartbeats 4000000 in
theorem put_enc2 (q b x : Nat) (hb : b < 4) (l : List UInt8) (c : UInt8) (W : World) (hQ : QAt q b 2 W) (hB : Bld x l W) (hq : q < x) (hl : l.length ≤ 17592186044416) :
    Calls Tryz.prog 137 #[.pointer (some ⟨x, 0, none⟩), .int .u8 c.toNat, .pointer (some ⟨q, 0, none⟩)] W fun e W' => e = .returned (.tuple #[]) ∧ QAt q (((b * 2 ^ 8 + c.toNat) % 16 : Nat) : Int) 4 W' ∧ Bld x (l ++ [sig ((b * 2 ^ 8 + c.toNat) / 16)]) W' ∧ Below q W W' := by
  have hc := c.toNat_lt
  obtain ⟨X, hX⟩ : ∃ X, b * 2 ^ 8 + c.toNat = X := ⟨_, rfl⟩
  have hor := or_8 b c.toNat (by omega) (by omega)
  rw [hX] at hor
  have HP := Lib.hid (fun w h => push_any q b 2 c.toNat 8 (by omega) (by omega) (by omega) (by omega) (by rw [hX]; exact hor) w h)
  rw [hX] at HP
  have bX : X < 1024 := by omega
  have HX := Lib.hid hX
  have HQ := Lib.hid hQ
  have HB := Lib.hid hB
  have hQq := hQ.row.2.2.2.2
  clear hor hX hQ hB
  go_enter Tryz.func137, Tryz.ntmps137
  go_wp2_with fail
  refine (HP.out _ HQ.out).mono ?_
  rintro e w1 ⟨rfl, h1, h2⟩
  have HQ0 := Lib.hid (show QAt q (X : Int) 10 w1 from h1)
  have HL0 := Lib.hid (HB.out.grown hq h2)
  have HW0 := Lib.hid (grown_below h2 (Nat.le_refl _) hQq)
  clear h1 h2 HQ HB HP hQq
  go_wp2_with fail
  refine wp_loop_rounds 2 ?_
  rw [rounds_succ]
  obtain ⟨c0, c1, f0, f1, hq0⟩ := HQ0.out.row
  go_wp2_with fail
  refine (take_any q X 10 6 4 (by omega) (by omega) (by omega) (by omega) _ HQ0.out).mono ?_
  rintro e w2 ⟨rfl, h1, h2⟩
  have HT0 := Lib.hid h1
  have HL0b := Lib.hid (HL0.out.grown hq h2)
  have HW0b := Lib.hid (HW0.out.trans (grown_below h2 (Nat.le_refl _) hq0))
  clear h1 h2 c0 c1 f0 f1 hq0
  obtain ⟨D0, hD0⟩ : ∃ D, X / 2 ^ 4 = D := ⟨_, rfl⟩
  obtain ⟨M0, hM0⟩ : ∃ M, X % 2 ^ 4 = M := ⟨_, rfl⟩
  rw [hM0] at HT0
  have bD0 : D0 < 64 := by omega
  have bM0 : M0 < 16 := by omega
  have HDM0 := Lib.hid (And.intro hD0 hM0)
  rw [hD0]
  clear hD0 hM0
  go_wp2_with fail
  refine (writeByte_B x l _ _ HL0b.out (by omega)).mono ?_
  rintro e w3 ⟨rfl, h1, h2⟩
  rw [sig_lit _ bD0] at h1
  have HL1 := Lib.hid h1
  have HQ1 := Lib.hid (HT0.out.below hq h2)
  have HW1 := Lib.hid (HW0b.out.trans (h2.mono (Nat.le_of_lt hq)))
  clear h1 h2 HT0 HL0b HW0b HQ0 HL0 HW0
  go_wp2_with fail
  rw [rounds_succ]
  obtain ⟨c0, c1, f0, f1, hq0⟩ := HQ1.out.row
  go_wp2_with fail
  go_end0
  have e1 := HX.out
  obtain ⟨e2, e3⟩ := HDM0.out
  rw [e1, show X / 16 = D0 from e2, show X % 16 = M0 from e3]
  exact ⟨rfl, HQ1.out, HL1.out, HW1.out⟩
set_option maxRecDepth 100000 in
set_option maxHeartbeats 4000000 in
theorem put_enc4 (q b x : Nat) (hb : b < 16) (l : List UInt8) (c : UInt8) (W : World) (hQ : QAt q b 4 W) (hB : Bld x l W) (hq : q < x) (hl : l.length ≤ 17592186044416) :
    Calls Tryz.prog 137 #[.pointer (some ⟨x, 0, none⟩), .int .u8 c.toNat, .pointer (some ⟨q, 0, none⟩)] W fun e W' => e = .returned (.tuple #[]) ∧ QAt q ((0 : Nat) : Int) 0 W' ∧ Bld x (l ++ [sig ((b * 2 ^ 8 + c.toNat) / 64), sig ((b * 2 ^ 8 + c.toNat) % 64)]) W' ∧ Below q W W' := by
  have hc := c.toNat_lt
  obtain ⟨X, hX⟩ : ∃ X, b * 2 ^ 8 + c.toNat = X := ⟨_, rfl⟩
  have hor := or_8 b c.toNat (by omega) (by omega)
  rw [hX] at hor
  have HP := Lib.hid (fun w h => push_any q b 4 c.toNat 8 (by omega) (by omega) (by omega) (by omega) (by rw [hX]; exact hor) w h)
  rw [hX] at HP
  have bX : X < 4096 := by omega
  have HX := Lib.hid hX
  have HQ := Lib.hid hQ
  have HB := Lib.hid hB
  have hQq := hQ.row.2.2.2.2
  clear hor hX hQ hB
  go_enter Tryz.func137, Tryz.ntmps137
  go_wp2_with fail
  refine (HP.out _ HQ.out).mono ?_
  rintro e w1 ⟨rfl, h1, h2⟩
  have HQ0 := Lib.hid (show QAt q (X : Int) 12 w1 from h1)
  have HL0 := Lib.hid (HB.out.grown hq h2)
  have HW0 := Lib.hid (grown_below h2 (Nat.le_refl _) hQq)
  clear h1 h2 HQ HB HP hQq
  go_wp2_with fail
  refine wp_loop_rounds 3 ?_
  rw [rounds_succ]
  obtain ⟨c0, c1, f0, f1, hq0⟩ := HQ0.out.row
  go_wp2_with fail
  refine (take_any q X 12 6 6 (by omega) (by omega) (by omega) (by omega) _ HQ0.out).mono ?_
  rintro e w2 ⟨rfl, h1, h2⟩
  have HT0 := Lib.hid h1
  have HL0b := Lib.hid (HL0.out.grown hq h2)
  have HW0b := Lib.hid (HW0.out.trans (grown_below h2 (Nat.le_refl _) hq0))
  clear h1 h2 c0 c1 f0 f1 hq0
  obtain ⟨D0, hD0⟩ : ∃ D, X / 2 ^ 6 = D := ⟨_, rfl⟩
  obtain ⟨M0, hM0⟩ : ∃ M, X % 2 ^ 6 = M := ⟨_, rfl⟩
  rw [hM0] at HT0
  have bD0 : D0 < 64 := by omega
  have bM0 : M0 < 64 := by omega
  have HDM0 := Lib.hid (And.intro hD0 hM0)
  rw [hD0]
  clear hD0 hM0
  go_wp2_with fail
  refine (writeByte_B x l _ _ HL0b.out (by omega)).mono ?_
  rintro e w3 ⟨rfl, h1, h2⟩
  rw [sig_lit _ bD0] at h1
  have HL1 := Lib.hid h1
  have HQ1 := Lib.hid (HT0.out.below hq h2)
  have HW1 := Lib.hid (HW0b.out.trans (h2.mono (Nat.le_of_lt hq)))
  clear h1 h2 HT0 HL0b HW0b HQ0 HL0 HW0
  go_wp2_with fail
  rw [rounds_succ]
  obtain ⟨c0, c1, f0, f1, hq0⟩ := HQ1.out.row
  go_wp2_with fail
  refine (take_any q M0 6 6 0 (by omega) (by omega) (by omega) (by omega) _ HQ1.out).mono ?_
  rintro e w4 ⟨rfl, h1, h2⟩
  have HT1 := Lib.hid h1
  have HL1b := Lib.hid (HL1.out.grown hq h2)
  have HW1b := Lib.hid (HW1.out.trans (grown_below h2 (Nat.le_refl _) hq0))
  clear h1 h2 c0 c1 f0 f1 hq0
  obtain ⟨D1, hD1⟩ : ∃ D, M0 / 2 ^ 0 = D := ⟨_, rfl⟩
  obtain ⟨M1, hM1⟩ : ∃ M, M0 % 2 ^ 0 = M := ⟨_, rfl⟩
  rw [hM1] at HT1
  have bD1 : D1 < 64 := by omega
  have bM1 : M1 < 1 := by omega
  have HDM1 := Lib.hid (And.intro hD1 hM1)
  rw [hD1]
  clear hD1 hM1
  go_wp2_with fail
  refine (writeByte_B x _ _ _ HL1b.out (by rw [List.length_append, List.length_singleton]; omega)).mono ?_
  rintro e w5 ⟨rfl, h1, h2⟩
  rw [sig_lit _ bD1] at h1
  have HL2 := Lib.hid h1
  have HQ2 := Lib.hid (HT1.out.below hq h2)
  have HW2 := Lib.hid (HW1b.out.trans (h2.mono (Nat.le_of_lt hq)))
  clear h1 h2 HT1 HL1b HW1b HQ1 HL1 HW1
  go_wp2_with fail
  rw [rounds_succ]
  obtain ⟨c0, c1, f0, f1, hq0⟩ := HQ2.out.row
  go_wp2_with fail
  go_end0
  have e1 := HX.out
  obtain ⟨e2, e3⟩ := HDM0.out
  obtain ⟨e4, e5⟩ := HDM1.out
  have e6 : M1 = 0 := by omega
  have e7 : D1 = M0 := by omega
  rw [e1, show X / 64 = D0 from e2, show X % 64 = M0 from e3]
  refine ⟨rfl, ?_, ?_, HW2.out⟩
  · have := HQ2.out
    rw [e6] at this
    exact this
  · have := HL2.out
    rw [e7, List.append_assoc] at this
    exact this
end Go.Proofs.YtpobdmkidopnnaaGreatDoor
