/- The program's Escape: code points as escapes. -/
import Derived.Test.YtmicpdibnkmekaaGreatDoorUSheet
import Derived.Test.YtmicpdibnkmekaaGreatDoorUWriter
import Derived.Test.YtmicpdibnkmekaaGreatDoorURunes
import Derived.Test.YtmicpdibnkmekaaGreatDoorUWriteB
import Derived.Test.YtmicpdibnkmekaaGreatDoorUHeadsA
namespace Go.Proofs.YtmicpdibnkmekaaGreatDoor
open Go Go.RowKit

/-- \uXXXX. -/
def unitT (u : Nat) : List UInt8 := [92, 117, hexC (u / 4096 % 16), hexC (u / 256 % 16), hexC (u / 16 % 16), hexC (u % 16)]
/-- How a code point of a text stands in ASCII. -/
def escA (p : Nat) : List UInt8 := if p ≤ 127 then [p.toUInt8] else if p < 65536 then unitT p else unitT (55296 + (p - 65536) / 1024) ++ unitT (56320 + (p - 65536) % 1024)
def asciiR (s : ByteArray) (pos : Nat) : List UInt8 := (pts s pos).flatMap escA
set_option maxRecDepth 100000 in
theorem lies_own : LiesG 58 [] := by
  show liesAt Tryz.prog Tryz.prog.depth 58 (2 / Tryz.prog.cellsOf 58) 0 58 1 = true
  kernel_rfl
theorem and15 {x : Int} (h0 : 0 ≤ x) (h1 : x < 1073741824) : bits .and .i32 x 15 = x % 16 :=
  bits_mask .i32 30 (by decide) (fun n h0 h1 => IntWalk.i32_in _ (by omega)) 4 (by omega) x h0 (by omega)
set_option maxRecDepth 100000 in
set_option maxHeartbeats 2000000 in
theorem writeUnit_any (b : Nat) (l : List UInt8) (u : Nat) (hu : u < 65536) (w : World) (h : IsG 58 [] w b l) (hlen : l.length ≤ 1099511627776) :
    Calls Tryz.prog 122 #[.pointer (some ⟨b, 0, none⟩), .int .i32 u] w fun e w' => e = .returned (.tuple #[]) ∧ GAt 58 [] w' b (.pointer (some ⟨b, 0, none⟩)) (l ++ unitT u) ∧ WStep b w w' := by
  have h1 := WriteString_G lies_own b l ⟨#[92, 117]⟩ w h (by omega) (by decide)
  have hwb := fun (m : List UInt8) (hm : m.length ≤ 6) (c : UInt8) W hW => WriteByte_G lies_own b (l ++ m) c W hW (by simp; omega)
  have H1 := Lib.hid h1
  have HWB := Lib.hid hwb
  clear h1 hwb h
  go_enter Tryz.func122, Tryz.ntmps122
  go_wp2_with fail
  refine H1.out.mono ?_
  rintro e w1 ⟨rfl, hw1, hst⟩
  have HW1 := Lib.hid hw1
  have HST := Lib.hid hst
  clear hw1 hst
  go_wp2_with fail
  go_loopw [4] (fun i W => WStep b w1 W ∧ ((i = .int .i64 12 ∧ IsG 58 [] W b (l ++ [92, 117])) ∨ (i = .int .i64 8 ∧ IsG 58 [] W b (l ++ [92, 117, hexC (u / 4096 % 16)])) ∨ (i = .int .i64 4 ∧ IsG 58 [] W b (l ++ [92, 117, hexC (u / 4096 % 16), hexC (u / 256 % 16)]))
    ∨ (i = .int .i64 0 ∧ IsG 58 [] W b (l ++ [92, 117, hexC (u / 4096 % 16), hexC (u / 256 % 16), hexC (u / 16 % 16)])) ∨ (i = .int .i64 (-4) ∧ GAt 58 [] W b (.pointer (some ⟨b, 0, none⟩)) (l ++ unitT u)))) (fun i _ => (intOf i + 4).toNat)
  case atStart => exact ⟨WStep.refl _ _, Or.inl ⟨rfl, HW1.out.is⟩⟩
  case round =>
    obtain ⟨hs, hc⟩ := hrel
    have HS := Lib.hid hs
    clear hs
    rcases hc with ⟨rfl, hw⟩ | ⟨rfl, hw⟩ | ⟨rfl, hw⟩ | ⟨rfl, hw⟩ | ⟨rfl, hw⟩
    · have HW := Lib.hid hw
      have HC := Lib.hid (HWB.out [92, 117] (by simp) (hexC (u / 4096 % 16)) wr HW.out)
      obtain ⟨q, hq⟩ : ∃ q, u / 4096 % 16 = q := ⟨_, rfl⟩
      have hq16 : q < 16 := by omega
      have hb : bits .and .i32 ((u : Int) / 4096) 15 = (q : Int) := by rw [and15 (by omega) (by omega)]; omega
      have HQ := Lib.hid hq
      rw [hq, ← hex_is q hq16] at HC
      have hq0 : (0 : Int) ≤ (q : Int) := by omega
      have hq1 : (q : Int) < 16 := by omega
      clear hw hq
      go_wp2_with fail
      refine HC.out.mono ?_
      rintro e w2 ⟨rfl, hw2, hs2⟩
      rw [hex_is q hq16, ← HQ.out] at hw2
      have HW2 := Lib.hid hw2
      have HS2 := Lib.hid (HS.out.trans hs2)
      clear hw2 hs2 hb
      go_wp2_with fail
      go_roundw
      case rel => exact ⟨HS2.out, Or.inr (Or.inl (⟨by go_num, by rw [show l ++ [92, 117, hexC (u / 4096 % 16)] = l ++ [92, 117] ++ [hexC (u / 4096 % 16)] by simp]; exact HW2.out.is⟩))⟩
      case measure => simp [intOf]
    · have HW := Lib.hid hw
      have HC := Lib.hid (HWB.out [92, 117, hexC (u / 4096 % 16)] (by simp) (hexC (u / 256 % 16)) wr HW.out)
      obtain ⟨q, hq⟩ : ∃ q, u / 256 % 16 = q := ⟨_, rfl⟩
      have hq16 : q < 16 := by omega
      have hb : bits .and .i32 ((u : Int) / 256) 15 = (q : Int) := by rw [and15 (by omega) (by omega)]; omega
      have HQ := Lib.hid hq
      rw [hq, ← hex_is q hq16] at HC
      have hq0 : (0 : Int) ≤ (q : Int) := by omega
      have hq1 : (q : Int) < 16 := by omega
      clear hw hq
      go_wp2_with fail
      refine HC.out.mono ?_
      rintro e w2 ⟨rfl, hw2, hs2⟩
      rw [hex_is q hq16, ← HQ.out] at hw2
      have HW2 := Lib.hid hw2
      have HS2 := Lib.hid (HS.out.trans hs2)
      clear hw2 hs2 hb
      go_wp2_with fail
      go_roundw
      case rel => exact ⟨HS2.out, Or.inr (Or.inr (Or.inl (⟨by go_num, by rw [show l ++ [92, 117, hexC (u / 4096 % 16), hexC (u / 256 % 16)] = l ++ [92, 117, hexC (u / 4096 % 16)] ++ [hexC (u / 256 % 16)] by simp]; exact HW2.out.is⟩)))⟩
      case measure => simp [intOf]
    · have HW := Lib.hid hw
      have HC := Lib.hid (HWB.out [92, 117, hexC (u / 4096 % 16), hexC (u / 256 % 16)] (by simp) (hexC (u / 16 % 16)) wr HW.out)
      obtain ⟨q, hq⟩ : ∃ q, u / 16 % 16 = q := ⟨_, rfl⟩
      have hq16 : q < 16 := by omega
      have hb : bits .and .i32 ((u : Int) / 16) 15 = (q : Int) := by rw [and15 (by omega) (by omega)]; omega
      have HQ := Lib.hid hq
      rw [hq, ← hex_is q hq16] at HC
      have hq0 : (0 : Int) ≤ (q : Int) := by omega
      have hq1 : (q : Int) < 16 := by omega
      clear hw hq
      go_wp2_with fail
      refine HC.out.mono ?_
      rintro e w2 ⟨rfl, hw2, hs2⟩
      rw [hex_is q hq16, ← HQ.out] at hw2
      have HW2 := Lib.hid hw2
      have HS2 := Lib.hid (HS.out.trans hs2)
      clear hw2 hs2 hb
      go_wp2_with fail
      go_roundw
      case rel => exact ⟨HS2.out, Or.inr (Or.inr (Or.inr (Or.inl (⟨by go_num, by rw [show l ++ [92, 117, hexC (u / 4096 % 16), hexC (u / 256 % 16), hexC (u / 16 % 16)] = l ++ [92, 117, hexC (u / 4096 % 16), hexC (u / 256 % 16)] ++ [hexC (u / 16 % 16)] by simp]; exact HW2.out.is⟩))))⟩
      case measure => simp [intOf]
    · have HW := Lib.hid hw
      have HC := Lib.hid (HWB.out [92, 117, hexC (u / 4096 % 16), hexC (u / 256 % 16), hexC (u / 16 % 16)] (by simp) (hexC (u % 16)) wr HW.out)
      obtain ⟨q, hq⟩ : ∃ q, u % 16 = q := ⟨_, rfl⟩
      have hq16 : q < 16 := by omega
      have hb : bits .and .i32 (u : Int) 15 = (q : Int) := by rw [and15 (by omega) (by omega)]; omega
      have HQ := Lib.hid hq
      rw [hq, ← hex_is q hq16] at HC
      have hq0 : (0 : Int) ≤ (q : Int) := by omega
      have hq1 : (q : Int) < 16 := by omega
      clear hw hq
      go_wp2_with fail
      refine HC.out.mono ?_
      rintro e w2 ⟨rfl, hw2, hs2⟩
      rw [hex_is q hq16, ← HQ.out] at hw2
      have HW2 := Lib.hid hw2
      have HS2 := Lib.hid (HS.out.trans hs2)
      clear hw2 hs2 hb
      go_wp2_with fail
      go_roundw
      case rel => exact ⟨HS2.out, Or.inr (Or.inr (Or.inr (Or.inr (⟨by go_num, by unfold unitT; rw [show l ++ [92, 117, hexC (u / 4096 % 16), hexC (u / 256 % 16), hexC (u / 16 % 16), hexC (u % 16)] = l ++ [92, 117, hexC (u / 4096 % 16), hexC (u / 256 % 16), hexC (u / 16 % 16)] ++ [hexC (u % 16)] by simp]; exact HW2.out⟩))))⟩
      case measure => simp [intOf]
    · have HW := Lib.hid hw
      clear hw
      go_wp2_with fail
      go_end0
      exact ⟨rfl, HW.out, HST.out.trans HS.out⟩
theorem writeUnit_at (b : Nat) (l : List UInt8) (u : Nat) (x : Int) (e : x = (u : Int)) (hu : u < 65536) (w : World) (h : IsG 58 [] w b l) (hlen : l.length ≤ 1099511627776) :
    Calls Tryz.prog 122 #[.pointer (some ⟨b, 0, none⟩), .int .i32 x] w fun e w' => e = .returned (.tuple #[]) ∧ GAt 58 [] w' b (.pointer (some ⟨b, 0, none⟩)) (l ++ unitT u) ∧ WStep b w w' := by
  subst e
  exact writeUnit_any b l u hu w h hlen
set_option maxRecDepth 100000 in
set_option maxHeartbeats 2000000 in
theorem writeEscaped_any (b : Nat) (l : List UInt8) (p : Nat) (hp : 127 < p) (hp2 : p ≤ 1114111) (w : World) (h : IsG 58 [] w b l) (hlen : l.length ≤ 274877906944) :
    Calls Tryz.prog 74 #[.pointer (some ⟨b, 0, none⟩), .int .i32 p] w fun e w' => e = .returned (.tuple #[]) ∧ GAt 58 [] w' b (.pointer (some ⟨b, 0, none⟩)) (l ++ escA p) ∧ WStep b w w' := by
  by_cases h6 : p < 65536
  · have h1 := writeUnit_any b l p h6 w h (by omega)
    have e1 : escA p = unitT p := by unfold escA; rw [if_neg (by omega), if_pos h6]
    rw [e1]
    have H1 := Lib.hid h1
    have d0 : decide ((p : Int) < 65536) = true := by simp; omega
    clear h1 h e1 h6
    go_enter Tryz.func74, Tryz.ntmps74
    go_wp2_with fail
    refine H1.out.mono ?_
    rintro e w1 ⟨rfl, hw1, hst⟩
    have HW1 := Lib.hid hw1
    have HST := Lib.hid hst
    clear hw1 hst
    go_wp2_with fail
    refine bodyPost_ret (results_none rfl _ _ _) rfl ?_
    exact ⟨rfl, HW1.out, HST.out⟩
  · obtain ⟨k, rfl⟩ : ∃ k, p = k + 65536 := ⟨p - 65536, by omega⟩
    have e1 : escA (k + 65536) = unitT (55296 + k / 1024) ++ unitT (56320 + k % 1024) := by
      unfold escA
      rw [if_neg (by omega), if_neg h6, show k + 65536 - 65536 = k by omega]
    rw [e1]
    have h1 := writeUnit_at b l (55296 + k / 1024) (55296 + (k : Int) / 1024) (by omega) (by omega) w h (by omega)
    have h2 := fun W hW => writeUnit_at b (l ++ unitT (55296 + k / 1024)) (56320 + k % 1024) (56320 + ((k % 1024 : Nat) : Int)) (by omega) (by omega) W hW (by simp [unitT]; omega)
    have H1 := Lib.hid h1
    have H2 := Lib.hid h2
    have hb : bits .and .i32 (k : Int) 1023 = ((k % 1024 : Nat) : Int) := by
      have := bits_mask .i32 30 (by decide) (fun n h0 h1 => IntWalk.i32_in _ (by omega)) 10 (by omega) (k : Int) (by omega) (by omega)
      rw [show ((2 : Int) ^ 10 - 1) = 1023 by decide] at this
      rw [this]
      omega
    have hk1 : k ≤ 1048575 := by omega
    have hk0 : (0 : Int) ≤ (k : Int) := by omega
    have d0 : decide ((k : Int) + 65536 < 65536) = false := by simp; omega
    have e2 : ((k + 65536 : Nat) : Int) = (k : Int) + 65536 := by omega
    rw [e2]
    clear h1 h2 h e1 h6 hp hp2 e2
    go_enter Tryz.func74, Tryz.ntmps74
    go_wp2_with fail
    refine H1.out.mono ?_
    rintro e w1 ⟨rfl, hw1, hst⟩
    have HW1 := Lib.hid hw1.is
    have HST := Lib.hid hst
    clear hw1 hst
    go_wp2_with fail
    refine (H2.out w1 HW1.out).mono ?_
    rintro e w2 ⟨rfl, hw2, hst2⟩
    have HW2 := Lib.hid hw2
    have HST2 := Lib.hid hst2
    clear hw2 hst2
    go_wp2_with fail
    go_end0
    refine ⟨rfl, ?_, HST.out.trans HST2.out⟩
    rw [← List.append_assoc]
    exact HW2.out
end Go.Proofs.YtmicpdibnkmekaaGreatDoor
namespace Go.Proofs.YtmicpdibnkmekaaGreatDoor
open Go Go.RowKit

/-- What Escape answers. -/
def escT (asc : Bool) (s : ByteArray) : List UInt8 := if asc then asciiR ⟨(quoteR s).toArray⟩ 0 else quoteR s
theorem flat_len {α : Type} (f : α → List UInt8) (c : Nat) (h : ∀ x, (f x).length ≤ c) : ∀ l : List α, (l.flatMap f).length ≤ c * l.length
  | [] => by simp
  | x :: l => by
    have := flat_len f c h l
    have h1 := h x
    rw [List.flatMap_cons, List.length_append, List.length_cons, Nat.mul_succ]
    omega
theorem enc_le4 (p : Int) : (Lib.encodeRune p).length ≤ 4 := by
  have := Lib.runeCells_le p
  rw [Lib.runeCells_length] at this
  omega
theorem escR_len (r : Int) : (escR r).length ≤ 6 := by
  have := enc_le4 r
  unfold escR
  repeat' split
  all_goals first | (simp; done) | omega
theorem quoteR_len (s : ByteArray) : (quoteR s).length ≤ 6 * s.size + 2 := by
  have h1 := flat_len (fun p : Nat => escR ((p : Nat) : Int)) 6 (fun x => escR_len _) (pts s 0)
  have h2 := pts_len s 0
  unfold quoteR bodyR
  simp only [List.length_cons, List.length_append, List.length_nil]
  omega
theorem escA_len (p : Nat) : (escA p).length ≤ 12 := by
  unfold escA unitT
  repeat' split
  all_goals simp
theorem asciiR_len (s : ByteArray) (pos : Nat) : (asciiR s pos).length ≤ 12 * s.size := by
  have h1 := flat_len escA 12 escA_len (pts s pos)
  have h2 := pts_len s pos
  unfold asciiR
  omega
theorem size_arr (l : List UInt8) : (⟨l.toArray⟩ : ByteArray).size = l.length := by show l.toArray.size = _; simp
theorem escT_len (asc : Bool) (s : ByteArray) : (escT asc s).length ≤ 72 * s.size + 24 := by
  have h1 := quoteR_len s
  unfold escT
  split
  · have h2 := asciiR_len ⟨(quoteR s).toArray⟩ 0
    rw [size_arr] at h2
    omega
  · omega
theorem asciiR_cons (s : ByteArray) (pos : Nat) (h : pos < s.size) : asciiR s pos = escA (Utf8.decode s pos).1 ++ asciiR s (pos + (Utf8.decode s pos).2) := by
  unfold asciiR
  rw [pts_cons s pos h]
  rfl
theorem asciiR_nil (s : ByteArray) (pos : Nat) (h : ¬ pos < s.size) : asciiR s pos = [] := by
  unfold asciiR
  rw [pts_nil s pos h]
  rfl
theorem right_strP (s : ByteArray) (hv : allGood s 0 = true) : rightV 1 (strV s) = true := by
  have hk : okK (sortK ([] : List ByteArray)) = true := by simp [sortK, okK]
  show (headOK (strV s) && ([] : List V).all _) = true
  rw [List.all_nil, Bool.and_true, headOK_iff]
  exact ⟨⟨by show (0 : Int) ≤ 4; decide, by show (4 : Int) ≤ 6; decide⟩, Or.inr rfl, Or.inl rfl, Or.inr rfl, Or.inl (by show (4 : Int) ≠ 6; decide), Or.inr rfl, hv, hk⟩
theorem textV_str (m : Nat) (s : ByteArray) : textV (m + 1) (strV s) = quoteR s := rfl
theorem asciiR_ne (s : ByteArray) (h : 0 < s.size) : asciiR s 0 ≠ [] := by
  rw [asciiR_cons s 0 h]
  have : (escA (Utf8.decode s 0).1) ≠ [] := by unfold escA unitT; repeat' split
                                               all_goals simp
  simp [this]
set_option maxRecDepth 100000 in
set_option maxHeartbeats 4000000 in
theorem Escape_any (s : ByteArray) (asc : Bool) (hs : s.size ≤ 1048576) (hv : allGood s 0 = true) (w : World) (hN : NumW w) :
    Calls Tryz.prog 37 #[.string s, .bool asc] w fun e w' => e = .returned (.string ⟨(escT asc s).toArray⟩) ∧ Below w.heap.size w w' := by
  have hq := quoteR_len s
  have ht := fun W hW => Text_any3 1 (strV s) 1 nilS nilS W hW (leaf_at W W.heap.size 0 4 0 s (by decide) (by decide) hs) (right_strP s hv) (by rw [textV_str]; omega)
  rw [textV_str] at ht
  have HT := Lib.hid ht
  have HN := Lib.hid hN
  have hcs : cellsV (strV s) nilS nilS = #[.int .i64 4, .float .f64 0, .string s, .slice none 0 0, .slice none 0 0] := rfl
  rw [hcs] at HT
  clear ht hN hcs
  obtain ⟨t, ht⟩ : ∃ t : ByteArray, t = ⟨(quoteR s).toArray⟩ := ⟨_, rfl⟩
  have htz : t.size = (quoteR s).length := by rw [ht, size_arr]
  have htp : 0 < t.size := by rw [htz]; unfold quoteR; simp
  rw [← ht] at HT
  cases asc with
  | false =>
    have e1 : escT false s = quoteR s := rfl
    rw [e1, ← ht]
    clear e1 ht htz htp
    go_enter Tryz.func37, Tryz.ntmps37
    go_wp2_with fail
    refine (HT.out w HN.out).mono ?_
    rintro e w1 ⟨rfl, hb1⟩
    go_wp2_with fail
    go_ret
    exact ⟨rfl, hb1⟩
  | true =>
    have e1 : escT true s = asciiR t 0 := by rw [ht]; rfl
    rw [e1]
    have hal := asciiR_len t 0
    have hne := asciiR_ne t htp
    have HNE := Lib.hid hne
    clear e1 ht hne
    go_enter Tryz.func37, Tryz.ntmps37
    go_wp2_with fail
    refine (HT.out w HN.out).mono ?_
    rintro e w1 ⟨rfl, hb1⟩
    have HB1 := Lib.hid hb1
    clear hb1
    go_wp2_with fail
    have hit0 : (((w1.alloc (.cells #[.pointer none, .slice none 0 0] 58)).iter t 0)).heap[w1.heap.size + 1]? = some (.stringIter t 0) := by have := World.iter_heap (w1.alloc (.cells #[.pointer none, .slice none 0 0] 58)) t 0; simpa using this
    have hs0 : WStep w1.heap.size w1 (((w1.alloc (.cells #[.pointer none, .slice none 0 0] 58)).iter t 0)) := ((WStep.refl _ w1).alloc (Nat.le_refl _) _).alloc (by simp) _
    have hw0 : IsG 58 [] (((w1.alloc (.cells #[.pointer none, .slice none 0 0] 58)).iter t 0)) w1.heap.size [] :=
      IsG.alloc ⟨_, Or.inl rfl, _, heap_alloc_new w1 _, ⟨rfl, Or.inl ⟨rfl, rfl⟩⟩⟩ _
    have HIT0 := Lib.hid hit0
    have HS0 := Lib.hid hs0
    have HW0 := Lib.hid hw0
    clear hit0 hs0 hw0
    go_loopw [] (fun wr => ∃ (pos : Nat) (done : List UInt8), pos ≤ t.size ∧ IsG 58 [] wr w1.heap.size done ∧ done ++ asciiR t pos = asciiR t 0 ∧ wr.heap[w1.heap.size + 1]? = some (.stringIter t pos) ∧ WStep w1.heap.size w1 wr) (fun wr => t.size - wr.iterPos (w1.heap.size + 1))
    case atStart => exact ⟨0, [], Nat.zero_le _, HW0.out, rfl, HIT0.out, HS0.out⟩
    case round =>
      obtain ⟨pos, done, hp, hw, hd, hit, hst⟩ := hrel
      have HWR := Lib.hid hw
      have HD := Lib.hid hd
      have HSTR := Lib.hid hst
      clear hw hd hst HIT0 HS0 HW0
      by_cases hltp : pos < t.size
      · have hnx : ∀ ty, (Instr.next (.pointer (some ⟨w1.heap.size + 1, 0, none⟩)) true ty).run Tryz.prog wr = _ := fun ty => Lib.run_next_any_at wr (w1.heap.size + 1) t pos ty hit hltp
        have hwd := wid t pos hltp
        have hf := dec_fits t pos hltp
        have hr := dec_range t pos hltp
        have hbc := asciiR_cons t pos hltp
        have hit2 := Lib.iterAt_heap wr (w1.heap.size + 1) t pos (pos + (Utf8.decode t pos).2) hit
        have hw2 := HWR.out.iterAt (q := pos + (Utf8.decode t pos).2) hit
        have hs2 : WStep w1.heap.size w1 (wr.iterAt (w1.heap.size + 1) t (pos + (Utf8.decode t pos).2)) := HSTR.out.iterAt hit (by omega) (by omega)
        have hdl : done.length + (asciiR t pos).length = (asciiR t 0).length := by rw [← HD.out, List.length_append]
        have HBC := Lib.hid hbc
        have HIT := Lib.hid hit
        have HIT2 := Lib.hid hit2
        have HW2 := Lib.hid hw2
        have HS2 := Lib.hid hs2
        have HF := Lib.hid hf
        have HWD := Lib.hid hwd
        clear hbc hit hit2 hw2 hs2
        obtain ⟨p, hpp⟩ : ∃ p, (Utf8.decode t pos).1 = p := ⟨_, rfl⟩
        rw [hpp] at hr HBC hnx
        by_cases h7 : p ≤ 127
        · have ep : escA p = [p.toUInt8] := by unfold escA; rw [if_pos h7]
          have ec : ((p.toUInt8.toNat : Nat) : Int) = (p : Int) := by rw [UInt8.toNat_ofNat']; omega
          have hwb := WriteByte_G lies_own w1.heap.size done p.toUInt8 _ HW2.out (by omega)
          rw [ec] at hwb
          have HWB := Lib.hid hwb
          have d0 : decide (127 < (p : Int)) = false := by simp; omega
          have hp0 : (0 : Int) ≤ (p : Int) := by omega
          have hp1 : (p : Int) ≤ 127 := by omega
          have HEP := Lib.hid ep
          clear ep ec hwb hf hwd hdl hpp hr h7
          go_wp2_with fail
          refine HWB.out.mono ?_
          rintro e w4 ⟨rfl, hw4, hs4⟩
          have hit4 := hs4.iter HIT2.out (by omega)
          have HW4 := Lib.hid hw4.is
          have HS4 := Lib.hid hs4
          have HIT4 := Lib.hid hit4
          clear hw4 hs4 hit4
          go_wp2_with fail
          go_roundw
          case rel => exact ⟨pos + (Utf8.decode t pos).2, done ++ [p.toUInt8], HF.out.1, HW4.out, by rw [← HEP.out, List.append_assoc, ← HBC.out]; exact HD.out, HIT4.out, HS2.out.trans HS4.out⟩
          case measure => have := HWD.out; simp only [World.iterPos, HIT4.out, HIT.out]; omega
        · have hwe := writeEscaped_any w1.heap.size done p (by omega) hr _ HW2.out (by omega)
          have HWE := Lib.hid hwe
          have d0 : decide (127 < (p : Int)) = true := by simp; omega
          clear hwe hf hwd hdl hpp hr h7
          go_wp2_with fail
          refine HWE.out.mono ?_
          rintro e w4 ⟨rfl, hw4, hs4⟩
          have hit4 := hs4.iter HIT2.out (by omega)
          have HW4 := Lib.hid hw4.is
          have HS4 := Lib.hid hs4
          have HIT4 := Lib.hid hit4
          clear hw4 hs4 hit4
          go_wp2_with fail
          go_roundw
          case rel => exact ⟨pos + (Utf8.decode t pos).2, done ++ escA p, HF.out.1, HW4.out, by rw [List.append_assoc, ← HBC.out]; exact HD.out, HIT4.out, HS2.out.trans HS4.out⟩
          case measure => have := HWD.out; simp only [World.iterPos, HIT4.out, HIT.out]; omega
      · have hnx : ∀ ty, (Instr.next (.pointer (some ⟨w1.heap.size + 1, 0, none⟩)) true ty).run Tryz.prog wr = _ := fun ty => Lib.run_next_end_at wr (w1.heap.size + 1) t pos ty hit hltp
        have hdn : done = asciiR t 0 := by have := HD.out; rw [asciiR_nil t pos hltp, List.append_nil] at this; exact this
        have hbs := BString_G w1.heap.size done (by rw [hdn]; exact HNE.out) wr HWR.out
        rw [hdn] at hbs
        have HBS := Lib.hid hbs
        clear hit hbs hdn
        go_wp2_with fail
        refine HBS.out.mono ?_
        rintro e w3 ⟨rfl, hb3⟩
        have HB3 := Lib.hid hb3
        clear hb3
        go_wp2_with fail
        go_ret
        exact ⟨rfl, HB1.out.trans ((HSTR.out.1.trans HB3.out).mono HB1.out.size)⟩
end Go.Proofs.YtmicpdibnkmekaaGreatDoor
