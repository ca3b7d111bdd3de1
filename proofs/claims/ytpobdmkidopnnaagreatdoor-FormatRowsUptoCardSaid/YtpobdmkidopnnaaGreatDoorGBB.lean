/- The law's cells of a row. -/
import Derived.Test.YtpobdmkidopnnaaGreatDoorGBA
namespace Go.Proofs.YtpobdmkidopnnaaGreatDoor
open Go Go.RowKit Go.Shelf

/-- csv's cells. -/
def csvG (s : List UInt8) (out : List ByteArray) (l : List UInt8) (inn : Bool) : Option (List ByteArray) :=
  match s with
  | [] => some (out ++ [⟨l.toArray⟩])
  | c :: r =>
    if inn = true then
      if c = 34 then
        if r.head? = some 34 then csvG r.tail out (l ++ [34]) true
        else csvG r out l false
      else csvG r out (l ++ [c]) true
    else if c = 34 then csvG r out l true
    else if c = 44 then csvG r (out ++ [⟨l.toArray⟩]) [] false
    else none
termination_by s.length
decreasing_by
  all_goals simp_wf
  all_goals omega
theorem csvG_nil (out : List ByteArray) (l : List UInt8) (inn : Bool) : csvG [] out l inn = some (out ++ [⟨l.toArray⟩]) := by rw [csvG]
theorem csvG_cons (c : UInt8) (r : List UInt8) (out : List ByteArray) (l : List UInt8) (inn : Bool) : csvG (c :: r) out l inn =
    if inn = true then
      if c = 34 then
        if r.head? = some 34 then csvG r.tail out (l ++ [34]) true
        else csvG r out l false
      else csvG r out (l ++ [c]) true
    else if c = 34 then csvG r out l true
    else if c = 44 then csvG r (out ++ [⟨l.toArray⟩]) [] false
    else none := by rw [csvG]
def turnT (c : UInt8) : UInt8 := if c = 116 then 9 else if c = 110 then 10 else if c = 114 then 13 else c
/-- tsv's cells. -/
def tsvG : List UInt8 → List ByteArray → List UInt8 → Option (List ByteArray)
  | [], out, l => some (out ++ [⟨l.toArray⟩])
  | c :: r, out, l =>
    if c = 92 then (match r with | d :: r' => tsvG r' out (l ++ [turnT d]) | [] => none)
    else if c = 9 then tsvG r (out ++ [⟨l.toArray⟩]) []
    else tsvG r out (l ++ [c])
theorem tsvG_cons (c : UInt8) (r : List UInt8) (out : List ByteArray) (l : List UInt8) : tsvG (c :: r) out l =
    if c = 92 then (match r with | d :: r' => tsvG r' out (l ++ [turnT d]) | [] => none)
    else if c = 9 then tsvG r (out ++ [⟨l.toArray⟩]) []
    else tsvG r out (l ++ [c]) := by cases r <;> simp only [tsvG]
set_option maxHeartbeats 400000 in
theorem turned_any (c : UInt8) (w : World) : Calls Tryz.prog 57 #[.int .u8 c.toNat] w fun e w' => e = .returned (.int .u8 ((turnT c).toNat : Int)) ∧ w = w' := by
  unfold turnT
  by_cases h1 : c = 116
  · subst h1
    go_enter Tryz.func57, Tryz.ntmps57
    go_wp2_with fail
    go_ret
    exact ⟨rfl, rfl⟩
  · rw [if_neg h1]
    have n1 : ((c.toNat : Int) == 116) = false := neU h1
    by_cases h2 : c = 110
    · subst h2
      go_enter Tryz.func57, Tryz.ntmps57
      go_wp2_with fail
      go_ret
      exact ⟨rfl, rfl⟩
    · rw [if_neg h2]
      have n2 : ((c.toNat : Int) == 110) = false := neU h2
      by_cases h3 : c = 114
      · subst h3
        go_enter Tryz.func57, Tryz.ntmps57
        go_wp2_with fail
        go_ret
        exact ⟨rfl, rfl⟩
      · rw [if_neg h3]
        have n3 : ((c.toNat : Int) == 114) = false := neU h3
        clear h1 h2 h3
        go_enter Tryz.func57, Tryz.ntmps57
        go_wp2_with fail
        go_ret
        exact ⟨rfl, rfl⟩
set_option maxRecDepth 100000 in
set_option maxHeartbeats 4000000 in
theorem cells_csv (s : ByteArray) (hs : s.size ≤ 1000000000) (R : List ByteArray) (hR : csvG s.data.toList [] [] false = some R) (w : World) :
    Calls Tryz.prog 26 #[.string s, .bool true] w fun e w' => ∃ v, e = .returned v ∧ w'.ownsRow w.heap.size 9 1 v R.length (cellsT R) ∧ Below w.heap.size w w' := by
  have HR := Lib.hid hR
  clear hR
  go_enter Tryz.func26, Tryz.ntmps26
  go_wp2_with fail
  go_loopw [5, 6, 7, 8] (fun vo vb n i wr => ∃ (k : Nat) (out : List ByteArray) (l : List UInt8) (inn : Bool), n = .bool inn ∧ i = .int .i64 k ∧ k ≤ s.size ∧ l.length ≤ k ∧ out.length ≤ k ∧ Hid (Words w.heap.size w out l vo vb wr) ∧ Hid (csvG (s.data.toList.drop k) out l inn = some R)) (fun _ _ _ i _ => s.size - (intOf i).toNat)
  case atStart => exact ⟨0, [], [], false, rfl, rfl, by omega, by simp, by simp, Lib.hid ⟨World.ownsRow_nil _ _ _ _, World.ownsRow_nil _ _ _ _, Below.refl _ w⟩, HR⟩
  case round =>
    obtain ⟨k, out, l, inn, rfl, rfl, hk, hl, ho, HW, HS⟩ := hrel
    have hbs := HW.out.bel.size
    by_cases hlt : k < s.size
    · obtain ⟨c, hc⟩ : ∃ c, s[k] = c := ⟨_, rfl⟩
      have hD : s.data.toList.drop k = c :: s.data.toList.drop (k + 1) := by rw [List.drop_eq_getElem_cons (ltF hlt), ← hc]; rfl
      have hS := HS.out
      rw [hD, csvG_cons] at hS
      clear HS hD
      cases inn with
      | true =>
        rw [if_pos rfl] at hS
        by_cases h34 : c = 34
        · subst h34
          rw [if_pos rfl] at hS
          by_cases hlt2 : k + 1 < s.size
          · obtain ⟨d, hd⟩ : ∃ d, s[k + 1] = d := ⟨_, rfl⟩
            have hD : s.data.toList.drop (k + 1) = d :: s.data.toList.drop (k + 2) := by rw [List.drop_eq_getElem_cons (ltF hlt2), ← hd]; rfl
            rw [hD] at hS
            by_cases hd34 : d = 34
            · subst hd34
              have HS := Lib.hid (show csvG (s.data.toList.drop (k + 2)) out (l ++ [34]) true = some R by simpa using hS)
              clear hS hD
              go_wp2_with (at_builtin; refine app_one rfl _ _ _ rfl w.heap.size 5 _ 1 Tryz.underlying58 infoB8F rfl _ _ _ rfl (by exact HW.out.b) rfl rfl (by unfold maxLen; omega) (by omega) (by exact hbs) ?_)
              intro v' w1 h1 h2 _
              have HW2 := Lib.hid (HW.out.byte (c := 34) hbs h1 h2)
              clear h1 h2 HW
              go_wp2_with fail
              go_roundw
              case rel => exact ⟨k + 2, out, l ++ [34], true, rfl, by go_num, by omega, by simp; omega, by omega, HW2, HS⟩
              case measure => simp [intOf]; omega
            · have HS := Lib.hid (show csvG (s.data.toList.drop (k + 1)) out l false = some R by rw [hD]; simpa [hd34] using hS)
              have n34 : ((d.toNat : Int) == 34) = false := neU hd34
              clear hS hD hd34
              go_wp2_with fail
              go_roundw
              case rel => exact ⟨k + 1, out, l, false, rfl, by go_num, by omega, by omega, by omega, HW, HS⟩
              case measure => simp [intOf]; omega
          · have HS := Lib.hid (show csvG (s.data.toList.drop (k + 1)) out l false = some R by
              have e : s.data.toList.drop (k + 1) = [] := List.drop_of_length_le (by simp; omega)
              rw [e] at hS ⊢
              simpa using hS)
            have h3 : decide ((k : Int) + 1 < (s.size : Int)) = false := decide_eq_false (by omega)
            clear hS
            go_wp2_with fail
            go_roundw
            case rel => exact ⟨k + 1, out, l, false, rfl, by go_num, by omega, by omega, by omega, HW, HS⟩
            case measure => simp [intOf]; omega
        · rw [if_neg h34] at hS
          have n34 : ((c.toNat : Int) == 34) = false := neU h34
          have HS := Lib.hid hS
          clear hS h34
          go_wp2_with (at_builtin; refine app_one rfl _ _ _ rfl w.heap.size 5 _ 1 Tryz.underlying58 infoB8F rfl _ _ _ rfl (by exact HW.out.b) rfl rfl (by unfold maxLen; omega) (by omega) (by exact hbs) ?_)
          intro v' w1 h1 h2 _
          have HW2 := Lib.hid (HW.out.byte hbs h1 h2)
          clear h1 h2 HW
          go_wp2_with fail
          go_roundw
          case rel => exact ⟨k + 1, out, l ++ [c], true, rfl, by go_num, by omega, by simp; omega, by omega, HW2, HS⟩
          case measure => simp [intOf]; omega
      | false =>
        rw [if_neg (by simp)] at hS
        by_cases h34 : c = 34
        · subst h34
          rw [if_pos rfl] at hS
          have HS := Lib.hid hS
          clear hS
          go_wp2_with fail
          go_roundw
          case rel => exact ⟨k + 1, out, l, true, rfl, by go_num, by omega, by omega, by omega, HW, HS⟩
          case measure => simp [intOf]; omega
        · rw [if_neg h34] at hS
          by_cases h44 : c = 44
          · subst h44
            rw [if_pos rfl] at hS
            have HS := Lib.hid hS
            clear hS h34
            have hcv := own_textF HW.out.b
            go_wp2_with (at_builtin; refine app_one rfl _ _ _ rfl w.heap.size 9 _ 16 Tryz.underlying25 infoStr rfl _ _ _ rfl (by exact HW.out.o) rfl rfl (by unfold maxLen; omega) (by omega) (by exact hbs) ?_)
            intro v' w1 h1 h2 _
            have HW2 := Lib.hid (HW.out.word hbs h1 h2).none
            clear h1 h2 HW hcv
            go_wp2_with fail
            go_roundw
            case rel => exact ⟨k + 1, out ++ [⟨l.toArray⟩], [], false, rfl, by go_num, by omega, by simp, by simp; omega, HW2, HS⟩
            case measure => simp [intOf]; omega
          · rw [if_neg h44] at hS
            cases hS
    · have hkk : k = s.size := by omega
      have hS := HS.out
      rw [List.drop_of_length_le (by simp; omega), csvG_nil] at hS
      clear HS
      subst hkk
      have HE := Lib.hid (Option.some.inj hS)
      clear hS
      have hcv := own_textF HW.out.b
      clear hlt hk
      go_wp2_with (at_builtin; refine app_one rfl _ _ _ rfl w.heap.size 9 _ 16 Tryz.underlying25 infoStr rfl _ _ _ rfl (by exact HW.out.o) rfl rfl (by unfold maxLen; omega) (by omega) (by exact hbs) ?_)
      intro v' w1 h1 h2 _
      have HW2 := Lib.hid (HW.out.word hbs h1 h2)
      clear h1 h2 HW hcv
      go_wp2_with fail
      go_ret
      have e := HE.out
      subst e
      exact ⟨_, rfl, HW2.out.o, HW2.out.bel⟩
set_option maxRecDepth 100000 in
set_option maxHeartbeats 4000000 in
theorem cells_tsv (s : ByteArray) (hs : s.size ≤ 1000000000) (R : List ByteArray) (hR : tsvG s.data.toList [] [] = some R) (w : World) :
    Calls Tryz.prog 26 #[.string s, .bool false] w fun e w' => ∃ v, e = .returned v ∧ w'.ownsRow w.heap.size 9 1 v R.length (cellsT R) ∧ Below w.heap.size w w' := by
  have HR := Lib.hid hR
  clear hR
  go_enter Tryz.func26, Tryz.ntmps26
  go_wp2_with fail
  go_loopw [5, 6, 7, 8] (fun vo vb n i wr => ∃ (k : Nat) (out : List ByteArray) (l : List UInt8), n = .bool false ∧ i = .int .i64 k ∧ k ≤ s.size ∧ l.length ≤ k ∧ out.length ≤ k ∧ Hid (Words w.heap.size w out l vo vb wr) ∧ Hid (tsvG (s.data.toList.drop k) out l = some R)) (fun _ _ _ i _ => s.size - (intOf i).toNat)
  case atStart => exact ⟨0, [], [], rfl, rfl, by omega, by simp, by simp, Lib.hid ⟨World.ownsRow_nil _ _ _ _, World.ownsRow_nil _ _ _ _, Below.refl _ w⟩, HR⟩
  case round =>
    obtain ⟨k, out, l, rfl, rfl, hk, hl, ho, HW, HS⟩ := hrel
    have hbs := HW.out.bel.size
    by_cases hlt : k < s.size
    · obtain ⟨c, hc⟩ : ∃ c, s[k] = c := ⟨_, rfl⟩
      have hD : s.data.toList.drop k = c :: s.data.toList.drop (k + 1) := by rw [List.drop_eq_getElem_cons (ltF hlt), ← hc]; rfl
      have hS := HS.out
      rw [hD, tsvG_cons] at hS
      clear HS hD
      by_cases h92 : c = 92
      · subst h92
        rw [if_pos rfl] at hS
        by_cases hlt2 : k + 1 < s.size
        · obtain ⟨d, hd⟩ : ∃ d, s[k + 1] = d := ⟨_, rfl⟩
          have hD : s.data.toList.drop (k + 1) = d :: s.data.toList.drop (k + 2) := by rw [List.drop_eq_getElem_cons (ltF hlt2), ← hd]; rfl
          rw [hD] at hS
          have HS := Lib.hid (show tsvG (s.data.toList.drop (k + 2)) out (l ++ [turnT d]) = some R from hS)
          have HTn := Lib.hid (fun w => turned_any d w)
          obtain ⟨t, ht⟩ : ∃ t, turnT d = t := ⟨_, rfl⟩
          rw [ht] at HS HTn
          clear hS hD ht
          go_wp2_with fail
          refine (HTn.out _).mono ?_
          rintro e w0 ⟨rfl, rfl⟩
          go_wp2_with (at_builtin; refine app_one rfl _ _ _ rfl w.heap.size 5 _ 1 Tryz.underlying58 infoB8F rfl _ _ _ rfl (by exact HW.out.b) rfl rfl (by unfold maxLen; omega) (by omega) (by exact hbs) ?_)
          intro v' w1 h1 h2 _
          have HW2 := Lib.hid (HW.out.byte hbs h1 h2)
          clear h1 h2 HW
          go_wp2_with fail
          go_roundw
          case rel => exact ⟨k + 2, out, l ++ [t], rfl, by go_num, by omega, by simp; omega, by omega, HW2, HS⟩
          case measure => simp [intOf]; omega
        · rw [List.drop_of_length_le (by simp; omega)] at hS
          cases hS
      · rw [if_neg h92] at hS
        have n92 : ((c.toNat : Int) == 92) = false := neU h92
        by_cases h9 : c = 9
        · subst h9
          rw [if_pos rfl] at hS
          have HS := Lib.hid hS
          clear hS h92 n92
          have hcv := own_textF HW.out.b
          go_wp2_with (at_builtin; refine app_one rfl _ _ _ rfl w.heap.size 9 _ 16 Tryz.underlying25 infoStr rfl _ _ _ rfl (by exact HW.out.o) rfl rfl (by unfold maxLen; omega) (by omega) (by exact hbs) ?_)
          intro v' w1 h1 h2 _
          have HW2 := Lib.hid (HW.out.word hbs h1 h2).none
          clear h1 h2 HW hcv
          go_wp2_with fail
          go_roundw
          case rel => exact ⟨k + 1, out ++ [⟨l.toArray⟩], [], rfl, by go_num, by omega, by simp, by simp; omega, HW2, HS⟩
          case measure => simp [intOf]; omega
        · rw [if_neg h9] at hS
          have n9 : ((c.toNat : Int) == 9) = false := neU h9
          have HS := Lib.hid hS
          clear hS h92 h9
          go_wp2_with (at_builtin; refine app_one rfl _ _ _ rfl w.heap.size 5 _ 1 Tryz.underlying58 infoB8F rfl _ _ _ rfl (by exact HW.out.b) rfl rfl (by unfold maxLen; omega) (by omega) (by exact hbs) ?_)
          intro v' w1 h1 h2 _
          have HW2 := Lib.hid (HW.out.byte hbs h1 h2)
          clear h1 h2 HW
          go_wp2_with fail
          go_roundw
          case rel => exact ⟨k + 1, out, l ++ [c], rfl, by go_num, by omega, by simp; omega, by omega, HW2, HS⟩
          case measure => simp [intOf]; omega
    · have hkk : k = s.size := by omega
      have hS := HS.out
      rw [List.drop_of_length_le (by simp; omega), tsvG] at hS
      clear HS
      subst hkk
      have HE := Lib.hid (Option.some.inj hS)
      clear hS
      have hcv := own_textF HW.out.b
      clear hlt hk
      go_wp2_with (at_builtin; refine app_one rfl _ _ _ rfl w.heap.size 9 _ 16 Tryz.underlying25 infoStr rfl _ _ _ rfl (by exact HW.out.o) rfl rfl (by unfold maxLen; omega) (by omega) (by exact hbs) ?_)
      intro v' w1 h1 h2 _
      have HW2 := Lib.hid (HW.out.word hbs h1 h2)
      clear h1 h2 HW hcv
      go_wp2_with fail
      go_ret
      have e := HE.out
      subst e
      exact ⟨_, rfl, HW2.out.o, HW2.out.bel⟩
end Go.Proofs.YtpobdmkidopnnaaGreatDoor
namespace Go.Proofs.YtpobdmkidopnnaaGreatDoor
open Go Go.RowKit Go.Shelf

def cvQ (s : List UInt8) : List UInt8 := 34 :: (replL LQuot s ++ [34])
def tvQ (s : List UInt8) : List UInt8 := replL LEsc s
theorem csv_in (r : List UInt8) (hr : r.head? ≠ some 34) (out : List ByteArray) (s : List UInt8) : ∀ l, csvG (replL LQuot s ++ 34 :: r) out l true = csvG r out (l ++ s) false := by
  induction s with
  | nil =>
    intro l
    show csvG (34 :: r) out l true = _
    rw [csvG_cons, if_pos rfl, if_pos rfl, if_neg hr, List.append_nil]
  | cons c s ih =>
    intro l
    have e : replL LQuot (c :: s) = swapT LQuot c ++ replL LQuot s := rfl
    rw [e, List.append_assoc]
    by_cases h : c = 34
    · subst h
      have e2 : swapT LQuot 34 = [34, 34] := rfl
      rw [e2]
      show csvG (34 :: 34 :: (replL LQuot s ++ 34 :: r)) out l true = _
      rw [csvG_cons, if_pos rfl, if_pos rfl, if_pos (by rfl)]
      show csvG (replL LQuot s ++ 34 :: r) out (l ++ [34]) true = _
      rw [ih, List.append_assoc]
      rfl
    · have e2 : swapT LQuot c = [c] := by simp [swapT, LQuot, Ne.symm h]
      rw [e2]
      show csvG (c :: (replL LQuot s ++ 34 :: r)) out l true = _
      rw [csvG_cons, if_pos rfl, if_neg h, ih, List.append_assoc]
      rfl
theorem csv_word (s : List UInt8) (r : List UInt8) (hr : r.head? ≠ some 34) (out : List ByteArray) : csvG (cvQ s ++ r) out [] false = csvG r out s false := by
  unfold cvQ
  show csvG (34 :: (replL LQuot s ++ [34] ++ r)) out [] false = _
  rw [csvG_cons, if_neg (by simp), if_pos rfl, List.append_assoc]
  show csvG (replL LQuot s ++ 34 :: r) out [] true = _
  rw [csv_in r hr]
  rfl
theorem tail_head (sep : UInt8) (f : ByteArray → List UInt8) (ks : List ByteArray) (x : UInt8) (h : x ≠ sep) : (Lib.joinTail [sep] (ks.map f)).head? ≠ some x := by
  cases ks with
  | nil => simp [Lib.joinTail]
  | cons k ks =>
    rw [List.map_cons, joinTail_consF]
    simp [Ne.symm h]
theorem csv_tail (ks : List ByteArray) : ∀ (k : ByteArray) (out : List ByteArray), csvG (Lib.joinTail [44] (ks.map fun k => cvQ k.data.toList)) out k.data.toList false = some (out ++ k :: ks) := by
  induction ks with
  | nil =>
    intro k out
    show csvG [] out k.data.toList false = _
    rw [csvG_nil]
  | cons k2 ks ih =>
    intro k out
    rw [List.map_cons, joinTail_consF]
    show csvG (44 :: (cvQ k2.data.toList ++ _)) out k.data.toList false = _
    rw [csvG_cons, if_neg (by simp), if_neg (by decide), if_pos rfl, csv_word _ _ (tail_head 44 _ ks 34 (by decide)), ih]
    simp
theorem csv_cells (ks : List ByteArray) (h : ks ≠ []) : csvG (Lib.join (ks.map fun k => cvQ k.data.toList) [44]) [] [] false = some ks := by
  cases ks with
  | nil => exact absurd rfl h
  | cons k ks => rw [List.map_cons, Lib.join_cons, csv_word _ _ (tail_head 44 _ ks 34 (by decide)), csv_tail]; rfl
theorem tsv_word (r : List UInt8) (out : List ByteArray) (s : List UInt8) : ∀ l, tsvG (tvQ s ++ r) out l = tsvG r out (l ++ s) := by
  unfold tvQ
  induction s with
  | nil =>
    intro l
    show tsvG r out l = _
    rw [List.append_nil]
  | cons c s ih =>
    intro l
    have e : replL LEsc (c :: s) = swapT LEsc c ++ replL LEsc s := rfl
    rw [e, List.append_assoc]
    have hsp : ∀ d, turnT d = c → d ≠ 9 → tsvG ([92, d] ++ (replL LEsc s ++ r)) out l = tsvG r out (l ++ c :: s) := by
      intro d hd _
      show tsvG (92 :: d :: (replL LEsc s ++ r)) out l = _
      rw [tsvG_cons, if_pos rfl]
      show tsvG (replL LEsc s ++ r) out (l ++ [turnT d]) = _
      rw [hd, ih, List.append_assoc]
      rfl
    by_cases h1 : c = 92
    · subst h1; exact hsp 92 rfl (by decide)
    · by_cases h2 : c = 9
      · subst h2; exact hsp 116 rfl (by decide)
      · by_cases h3 : c = 10
        · subst h3; exact hsp 110 rfl (by decide)
        · by_cases h4 : c = 13
          · subst h4; exact hsp 114 rfl (by decide)
          · have e2 : swapT LEsc c = [c] := by simp [swapT, LEsc, Ne.symm h1, Ne.symm h2, Ne.symm h3, Ne.symm h4]
            rw [e2]
            show tsvG (c :: (replL LEsc s ++ r)) out l = _
            rw [tsvG_cons, if_neg h1, if_neg h2, ih, List.append_assoc]
            rfl
theorem tsv_tail (ks : List ByteArray) : ∀ (k : ByteArray) (out : List ByteArray), tsvG (Lib.joinTail [9] (ks.map fun k => tvQ k.data.toList)) out k.data.toList = some (out ++ k :: ks) := by
  induction ks with
  | nil =>
    intro k out
    show tsvG [] out k.data.toList = _
    simp [tsvG]
  | cons k2 ks ih =>
    intro k out
    rw [List.map_cons, joinTail_consF]
    show tsvG (9 :: (tvQ k2.data.toList ++ _)) out k.data.toList = _
    rw [tsvG_cons, if_neg (by decide), if_pos rfl, tsv_word, List.nil_append, ih]
    simp
theorem tsv_cells (ks : List ByteArray) (h : ks ≠ []) : tsvG (Lib.join (ks.map fun k => tvQ k.data.toList) [9]) [] [] = some ks := by
  cases ks with
  | nil => exact absurd rfl h
  | cons k ks => rw [List.map_cons, Lib.join_cons, tsv_word, List.nil_append, tsv_tail]; rfl
theorem rowT_arr (Q : List UInt8 → List UInt8) (sep : List UInt8) (ks : List ByteArray) (m : Nat) : rowT Q m sep (arrV ks) = Lib.join (ks.map fun k => Q k.data.toList) sep := by
  unfold rowT
  rw [range_elems ks (fun v => rcellT Q m v) (fun k => Q k.data.toList) (fun k => rfl)]
theorem cvQ_le (k : ByteArray) : (cvQ k.data.toList).length ≤ 10 * k.size + 2 := by
  have := replL_le LQuot (by decide) k
  unfold cvQ
  simp only [List.length_cons, List.length_append, List.length_nil]
  omega
theorem tvQ_le (k : ByteArray) : (tvQ k.data.toList).length ≤ 10 * k.size + 2 := by
  have := replL_le LEsc (by decide) k
  unfold tvQ
  omega
end Go.Proofs.YtpobdmkidopnnaaGreatDoor
namespace Go.Proofs.YtpobdmkidopnnaaGreatDoor
open Go Go.RowKit Go.Shelf

/-- What Small answers of a string. -/
theorem small_two (s : ByteArray) : ∃ (ka : Int) (a : ByteArray) (eb : Bool) (ke : Int) (es : ByteArray), smallS s = .tuple #[.agg #[.int .i64 ka, .float .f64 0, .string a, .slice none 0 0, .slice none 0 0], .agg #[.bool eb, .int .i64 ke, .float .f64 0, .string es, .slice none 0 0, .slice none 0 0]] ∧ ((eb = false ∧ a = s) ∨ (eb = true ∧ es = largeT)) ∧ True := by
  by_cases hs : s.size ≤ 1048576
  · exact ⟨4, s, false, 0, ⟨#[]⟩, if_pos hs, .inl ⟨rfl, rfl⟩, trivial⟩
  · exact ⟨0, ⟨#[]⟩, true, 4, largeT, if_neg hs, .inr ⟨rfl, rfl⟩, trivial⟩
set_option maxRecDepth 100000 in
set_option maxHeartbeats 8000000 in
theorem formatRows_true (ks : List ByteArray) (lv : Value) (w : World) (hN : NumW w) (hA : Arr w w.heap.size lv (cellsT ks)) (hn : ks.length ≤ 1048576) (hl : keysLen ks ≤ 1048576) : Calls Tryz.prog 6 #[lv] w fun e w' => e = .returned (.bool true) ∧ Below w.heap.size w w' := by
  have hsf := run_store_float Tryz.prog
  have hsm := key_small ks hl
  have HSM := Lib.hid hsm
  have HT := Lib.hid (fun W (hW : Below w.heap.size w W) => headsF_true W (hN.below hW))
  have HN := Lib.hid (fun W (hW : Below w.heap.size w W) => hN.below hW)
  have HAr := Lib.hid hA
  have hlc : (Lib.join (ks.map fun k => cvQ k.data.toList) [44]).length ≤ 100000000 := by
    have := join_le (fun k => cvQ k.data.toList) cvQ_le [44] rfl ks
    omega
  have hlt' : (Lib.join (ks.map fun k => tvQ k.data.toList) [9]).length ≤ 100000000 := by
    have := join_le (fun k => tvQ k.data.toList) tvQ_le [9] rfl ks
    omega
  have HLc := Lib.hid hlc
  have HLt := Lib.hid hlt'
  obtain ⟨A, c, rfl, ha⟩ := hA
  rw [cellsT_length] at *
  clear hN hsm hlc hlt'
  go_enter Tryz.func6, Tryz.ntmps6
  go_wp2_with fail
  go_loopw [3, 4] (fun v i wr => ∃ k : Nat, k ≤ ks.length ∧ i = .int .i64 k ∧ Hid (wr.ownsRow w.heap.size 27 5 v k (flat5 ((ks.take k).map strV) (nils k))) ∧ Hid (∀ y ∈ ks.take k, allGood y 0 = true) ∧ Hid (Below w.heap.size w wr)) (fun _ i _ => ks.length - (intOf i).toNat)
  case atStart => exact ⟨0, by omega, rfl, Lib.hid (World.ownsRow_nil _ _ _ _), Lib.hid (by simp), Lib.hid (Below.refl _ w)⟩
  case round =>
    obtain ⟨k, hk, rfl, HO, HG, HB⟩ := hrel
    have hbs := HB.out.size
    by_cases hlt : k < ks.length
    · obtain ⟨ad, rfl, hB, hc⟩ := ha (by omega)
      obtain ⟨x, e1, ex⟩ := cellsT_at ks k hlt
      have h1 := (HB.out.cell (p := ad.add k) (by rw [arr_blk]; exact hB)).trans (hc k _ ex)
      have hxs := HSM.out x (List.mem_of_getElem? e1)
      have E1 := Lib.hid e1
      obtain ⟨G, hG⟩ : ∃ G, allGood x 0 = G := ⟨_, rfl⟩
      have HV := Lib.hid (fun w => refValid_any x (by omega) w)
      rw [hG] at HV
      have HA2 := Lib.hid (fun W (hW : Below w.heap.size w W) => (hW.cell (p := ad.add k) (by rw [arr_blk]; exact hB)).trans (hc k _ ex))
      have i0 : (0 : Int) ≤ (k : Int) := by omega
      have i1 : (k : Int) < (ks.length : Int) := by omega
      clear hc ha e1 ex
      cases G with
      | false =>
        clear hG
        go_wp2_with fail
        refine (HV.out _).mono ?_
        rintro e w1 ⟨rfl, rfl⟩
        go_wp2_with fail
        refine (HT.out _ HB.out).mono ?_
        rintro e w2 ⟨rfl, hb⟩
        have HB2 := Lib.hid (HB.out.trans (hb.mono hbs))
        clear hb
        go_wp2_with fail
        go_ret
        exact ⟨rfl, HB2.out⟩
      | true =>
        have HG2 := Lib.hid (good_snoc ks k x HG.out hG E1.out)
        clear hG
        go_wp2_with fail
        refine (HV.out _).mono ?_
        rintro e w1 ⟨rfl, rfl⟩
        go_wp2_with fail
        refine (Str_any _ _).mono ?_
        rintro e w2 ⟨rfl, hb⟩
        have HO2 := Lib.hid (own_belowF HO.out hb)
        have HB2 := Lib.hid (HB.out.trans (hb.mono hbs))
        have hbs2 := HB2.out.size
        clear hb h1
        go_wp2_with (at_builtin; refine app_five rfl _ _ _ rfl w.heap.size 27 _ 80 Tryz.underlying24 infoVal rfl _ _ _ rfl (by exact HO2.out) rfl (by simp [Value.oneCell']) (by unfold maxLen; omega) (by omega) (by exact hbs2) ?_)
        intro v' w3 h1 h2 h3
        have HO3 := Lib.hid (own_snocF ks k x hlt E1.out h1)
        have HB3 := Lib.hid (HB2.out.trans h3)
        clear h1 h2 h3
        go_wp2_with fail
        go_roundw
        case rel => exact ⟨k + 1, by omega, by go_num, HO3, HG2, HB3⟩
        case measure => simp [intOf]; omega
    · obtain rfl : k = ks.length := by omega
      have hat := arr_own ks HO.out hn HSM.out
      obtain ⟨a1, n1, c1, _, _, _, e, _⟩ := hat.slices
      subst e
      have hg2 : ∀ y ∈ ks, allGood y 0 = true := by have := HG.out; rwa [List.take_length] at this
      have hF := fun W (hW : Below wr.heap.size wr W) => F_csv 1 (arrV ks) (.slice a1 n1 c1) nilS W (HN.out W (HB.out.trans (hW.mono hbs))) (At.more hW.size _ _ _ _ (hat.below hW)) rfl (arr_nest ks) (arr_elems ks HSM.out hg2) (by rw [rowT_arr (fun s => 34 :: (replL LQuot s ++ [34]))]; have := HLc.out; unfold cvQ at this; omega)
      have hU := fun W (hW : Below wr.heap.size wr W) => F_tsv 1 (arrV ks) (.slice a1 n1 c1) nilS W (HN.out W (HB.out.trans (hW.mono hbs))) (At.more hW.size _ _ _ _ (hat.below hW)) rfl (arr_nest ks) (arr_elems ks HSM.out hg2) (by rw [rowT_arr (fun s => replL LEsc s)]; have := HLt.out; unfold tvQ at this; omega)
      rw [rowT_arr (fun s => 34 :: (replL LQuot s ++ [34]))] at hF
      rw [rowT_arr (fun s => replL LEsc s)] at hU
      obtain ⟨T, hT⟩ : ∃ T : ByteArray, (⟨(Lib.join (ks.map fun k => cvQ k.data.toList) [44]).toArray⟩ : ByteArray) = T := ⟨_, rfl⟩
      obtain ⟨U, hU'⟩ : ∃ U : ByteArray, (⟨(Lib.join (ks.map fun k => tvQ k.data.toList) [9]).toArray⟩ : ByteArray) = U := ⟨_, rfl⟩
      have hTl : T.data.toList = Lib.join (ks.map fun k => cvQ k.data.toList) [44] := by rw [← hT]
      have hUl : U.data.toList = Lib.join (ks.map fun k => tvQ k.data.toList) [9] := by rw [← hU']
      have hTz : T.size ≤ 100000000 := by rw [← hT]; show (Lib.join _ _).toArray.size ≤ _; rw [List.size_toArray]; exact HLc.out
      have hUz : U.size ≤ 100000000 := by rw [← hU']; show (Lib.join _ _).toArray.size ≤ _; rw [List.size_toArray]; exact HLt.out
      have hF2 : ∀ W, Below wr.heap.size wr W → Calls Tryz.prog 12 #[.string ⟨#[99, 115, 118]⟩, .agg (cellsV (arrV ks) (.slice a1 n1 c1) nilS)] W fun e w' => e = .returned (smallS T) ∧ Below W.heap.size W w' := by rw [← hT]; exact hF
      have hU2 : ∀ W, Below wr.heap.size wr W → Calls Tryz.prog 12 #[.string ⟨#[116, 115, 118]⟩, .agg (cellsV (arrV ks) (.slice a1 n1 c1) nilS)] W fun e w' => e = .returned (smallS U) ∧ Below W.heap.size W w' := by rw [← hU']; exact hU
      have HC := Lib.hid (fun (hne : ks ≠ []) w => cells_csv T (by omega) ks (by rw [hTl]; exact csv_cells ks hne) w)
      have HD := Lib.hid (fun (hne : ks ≠ []) w => cells_tsv U (by omega) ks (by rw [hUl]; exact tsv_cells ks hne) w)
      have HE := Lib.hid (show ks = [] → T = ⟨#[]⟩ ∧ U = ⟨#[]⟩ from fun e => by subst e; exact ⟨hT.symm, hU'.symm⟩)
      obtain ⟨ka, a, ea, ja, sa, ha0, hae, haE⟩ := small_two T
      obtain ⟨kb, b, eb, jb, sb, hb0, hbe, hbE⟩ := small_two U
      have HF := Lib.hid (ha0 ▸ hF2)
      have HU := Lib.hid (hb0 ▸ hU2)
      have HAE := Lib.hid hae
      have HBE := Lib.hid hbe
      clear hat hg2 hT hU' hTl hUl hlt ha hF hU hF2 hU2 ha0 hb0 hae hbe
      go_wp2_with fail
      refine (Arr_anyF _ _ _ _).mono ?_
      rintro e w1 ⟨rfl, hb⟩
      have H1 := Lib.hid ((HW.start wr).below hb)
      clear hb
      go_wp2_with fail
      refine (HF.out _ H1.out.bel).mono ?_
      rintro e w2 ⟨rfl, hb⟩
      have hx := (H1.out.below hb).two #[.int .i64 ka, .float .f64 0, .string a, .slice none 0 0, .slice none 0 0] #[.bool ea, .int .i64 ja, .float .f64 0, .string sa, .slice none 0 0, .slice none 0 0] 27 32
      clear hb H1 HF
      go_upto_region 9 with fail
      obtain ⟨n, hn'⟩ : ∃ n, w2.heap.size = n := ⟨_, rfl⟩
      rw [hn'] at hx ⊢
      generalize (w2.alloc (.cells #[.int .i64 ka, .float .f64 0, .string a, .slice none 0 0, .slice none 0 0] 27)).alloc (.cells #[.bool ea, .int .i64 ja, .float .f64 0, .string sa, .slice none 0 0, .slice none 0 0] 32) = W4 at hx ⊢
      have H2 := Lib.hid hx
      clear hx hn'
      go_wp2_with fail
      refine (Arr_anyF _ _ _ _).mono ?_
      rintro e w5 ⟨rfl, hb⟩
      have H3 := Lib.hid (H2.out.below hb)
      clear hb H2
      go_wp2_with fail
      refine (HU.out _ H3.out.bel).mono ?_
      rintro e w6 ⟨rfl, hb⟩
      have hx := (H3.out.below hb).two #[.int .i64 kb, .float .f64 0, .string b, .slice none 0 0, .slice none 0 0] #[.bool eb, .int .i64 jb, .float .f64 0, .string sb, .slice none 0 0, .slice none 0 0] 27 32
      clear hb H3 HU
      go_upto_region 10 with fail
      obtain ⟨m, hm'⟩ : ∃ m, w6.heap.size = m := ⟨_, rfl⟩
      rw [hm'] at hx ⊢
      generalize (w6.alloc (.cells #[.int .i64 kb, .float .f64 0, .string b, .slice none 0 0, .slice none 0 0] 27)).alloc (.cells #[.bool eb, .int .i64 jb, .float .f64 0, .string sb, .slice none 0 0, .slice none 0 0] 32) = W7 at hx ⊢
      have H4 := Lib.hid hx
      clear hx hm'
      have HB7 := Lib.hid (HB.out.trans (H4.out.bel.mono hbs))
      have e0 := H4.out.cellAt (m + 1) _ 32 0 (.bool eb) (.head _) rfl
      have e3 := H4.out.cellAt (m + 1) _ 32 3 (.string sb) (.head _) rfl
      have v2 := H4.out.cellAt m _ 27 2 (.string b) (.tail _ (.head _)) rfl
      have d0 := H4.out.cellAt (n + 1) _ 32 0 (.bool ea) (.tail _ (.tail _ (.head _))) rfl
      have d3 := H4.out.cellAt (n + 1) _ 32 3 (.string sa) (.tail _ (.tail _ (.head _))) rfl
      have u2 := H4.out.cellAt n _ 27 2 (.string a) (.tail _ (.tail _ (.tail _ (.head _)))) rfl
      have HA1 := HAE.out
      have HB1 := HBE.out
      unfold largeT at HA1 HB1
      rcases HA1 with ⟨rfl, rfl⟩ | ⟨rfl, rfl⟩
      · rcases HB1 with ⟨rfl, rfl⟩ | ⟨rfl, rfl⟩
        · by_cases hne : ks = []
          · obtain ⟨t1, t2⟩ := HE.out hne
            have hz : ((ks.length : Int) == 0) = true := by rw [hne]; rfl
            rw [t1] at u2
            rw [t2] at v2
            clear HC HD HE hne t1 t2 HLc HLt HSM HG HO
            go_wp2_with fail
            refine (HT.out _ HB7.out).mono ?_
            rintro e w8 ⟨rfl, hb⟩
            have HB8 := Lib.hid (HB7.out.trans (hb.mono HB7.out.size))
            clear hb
            go_wp2_with fail
            go_ret
            exact ⟨rfl, HB8.out⟩
          · have hz : ((ks.length : Int) == 0) = false := by
              rw [beq_eq_false_iff_ne]
              intro e
              exact hne (List.eq_nil_of_length_eq_zero (by omega))
            have HC1 := Lib.hid (HC.out hne)
            have HD1 := Lib.hid (HD.out hne)
            clear HC HD HE hne HLc HLt HSM HG HO
            go_wp2_with fail
            refine (HC1.out _).mono ?_
            rintro e w8 ⟨v, rfl, hown, hb⟩
            have H5 := Lib.hid (H4.out.below hb)
            have HB8 := Lib.hid (HB7.out.trans (hb.mono HB7.out.size))
            have hr0 := refTexts_any ks ks w8.heap.size w.heap.size v _ (by omega) w8 (Arr.of_own hown (Nat.le_refl _)) (HAr.out.below HB8.out)
            rw [decide_eq_true (rfl : ks = ks)] at hr0
            have HR := Lib.hid hr0
            clear hb hown hr0 H4 e0 e3 v2 d0 d3 u2
            go_wp2_with fail
            refine HR.out.mono ?_
            rintro e w9 ⟨rfl, q, rfl⟩
            have H6 := Lib.hid (H5.out.below (below_drewN (Below.refl _ _) q))
            have HB9 := Lib.hid (below_drewN HB8.out q)
            generalize w8.drewN q = W9 at H6 HB9 ⊢
            have v2 := H6.out.cellAt m _ 27 2 (.string b) (.tail _ (.head _)) rfl
            clear HR
            go_wp2_with fail
            refine (HD1.out _).mono ?_
            rintro e w10 ⟨v', rfl, hown, hb⟩
            have HB10 := Lib.hid (HB9.out.trans (hb.mono HB9.out.size))
            have hr0 := refTexts_any ks ks w10.heap.size w.heap.size v' _ (by omega) w10 (Arr.of_own hown (Nat.le_refl _)) (HAr.out.below HB10.out)
            rw [decide_eq_true (rfl : ks = ks)] at hr0
            have HR := Lib.hid hr0
            clear hb hown hr0 H6 v2
            go_wp2_with fail
            refine HR.out.mono ?_
            rintro e w11 ⟨rfl, q2, rfl⟩
            have HB11 := Lib.hid (below_drewN HB10.out q2)
            go_wp2_with fail
            refine (HT.out _ HB11.out).mono ?_
            rintro e w12 ⟨rfl, hb⟩
            have HB12 := Lib.hid (HB11.out.trans (hb.mono HB11.out.size))
            clear hb
            go_wp2_with fail
            go_ret
            exact ⟨rfl, HB12.out⟩
        · clear HC HD HE HLc HLt HSM HG HO
          go_wp2_with fail
          refine (HT.out _ HB7.out).mono ?_
          rintro e w8 ⟨rfl, hb⟩
          have HB8 := Lib.hid (HB7.out.trans (hb.mono HB7.out.size))
          clear hb
          go_wp2_with fail
          go_ret
          exact ⟨rfl, HB8.out⟩
      · rcases HB1 with ⟨rfl, rfl⟩ | ⟨rfl, rfl⟩
        · clear HC HD HE HLc HLt HSM HG HO
          go_wp2_with fail
          refine (HT.out _ HB7.out).mono ?_
          rintro e w8 ⟨rfl, hb⟩
          have HB8 := Lib.hid (HB7.out.trans (hb.mono HB7.out.size))
          clear hb
          go_wp2_with fail
          go_ret
          exact ⟨rfl, HB8.out⟩
        · clear HC HD HE HLc HLt HSM HG HO
          go_wp2_with fail
          refine (HT.out _ HB7.out).mono ?_
          rintro e w8 ⟨rfl, hb⟩
          have HB8 := Lib.hid (HB7.out.trans (hb.mono HB7.out.size))
          clear hb
          go_wp2_with fail
          go_ret
          exact ⟨rfl, HB8.out⟩
end Go.Proofs.YtpobdmkidopnnaaGreatDoor
