/- An array of strings, made by appending. -/
import Derived.Test.YtpobdmkidopnnaaGreatDoorGAY
import Derived.Test.YtpobdmkidopnnaaGreatDoorGAJ
import Derived.Lib.OwnKind
import Derived.Laws.BytesString
import Derived.Test.YtpobdmkidopnnaaGreatDoorGAH
namespace Go.Proofs.YtpobdmkidopnnaaGreatDoor
open Go Go.RowKit Go.Shelf

/-- What an append of one value of five cells gives. -/
theorem app_five {P : Program} {w : World} {ops : Array Oper} {rest : List Oper} {o : Oper} {a : Act} {Q : Exit → Act → World → Prop} {u0 u1 u2 u3 u4 : Value} (hgd : o.guard = none) (s x : Operand) (t : TypeId)
    (ho : o.op = .call { callee := .builtin .append, args := #[s, x], argTypes := #[t, t] })
    (base : Nat) (e : TypeId) (z : Value) (bytes : Nat) (ht : P.underlying t = some (.slice e)) (hi : (P.info? e).map (fun i => (i.zero, i.size, i.bytes)) = some (some z, 5, bytes))
    (hzs : z.cells.size = 5)
    (v : Value) (n : Nat) (xs : List Value) (hs : a.eval s = v) (hown : w.ownsRow base e 5 v n xs)
    (hx : a.eval x = .slice (some ⟨w.heap.size, 0, none⟩) 1 1) (hu : ∀ u ∈ [u0, u1, u2, u3, u4], u.oneCell' = true)
    (h63 : n + 1 ≤ maxLen) (hbytes : (n + 1) * bytes ≤ 140737488355328) (hbase : base ≤ w.heap.size)
    (h : ∀ v' w', w'.ownsRow base e 5 v' (n + 1) (xs ++ [u0, u1, u2, u3, u4]) → (w.alloc (.cells #[u0, u1, u2, u3, u4] e)).grownBy w' v.ownBlock → Below base w w' → wpList P ops Q rest (a.put o.dst v') w') :
    wpList P ops Q (o :: rest) a (w.alloc (.cells #[u0, u1, u2, u3, u4] e)) := by
  obtain ⟨i0, hi0, hz0, hz1, hz2⟩ := info_parts hi
  refine wpList_append_own _ hgd s x t ho base e i0 z 5 bytes ht hi0 hz0 hz1 hz2 hzs (by omega) v n xs hs (hown.alloc _) ⟨w.heap.size, 0, none⟩ 1 1 [u0, u1, u2, u3, u4] hx rfl ?_ hu h63 hbytes (by simp; omega) ?_
  · intro j u' hj
    have hb : (w.alloc (.cells #[u0, u1, u2, u3, u4] e)).heap[w.heap.size]? = some (.cells #[u0, u1, u2, u3, u4] e (0, 0)) := heap_alloc_new w _
    rw [World.cell?_of_block (w := w.alloc (.cells #[u0, u1, u2, u3, u4] e)) (by rfl)]
    have : ((⟨w.heap.size, 0, none⟩ : Addr).add j) = ⟨w.heap.size, j, none⟩ := by unfold Addr.add; split <;> simp_all
    rw [this, cell_of_row _ _ j #[u0, u1, u2, u3, u4] e (0, 0) hb, ← Array.getElem?_toList]
    exact hj
  · intro v' w' h2 h3 _
    refine h v' w' h2 h3 ?_
    exact ((Below.refl base w).alloc hbase _).grown h3 (by simp; omega) (fun k hk => (hown.lt k hk).1)
/-- An array of strings. -/
def arrV (ks : List ByteArray) : V := .mk 5 0 ⟨#[]⟩ (ks.map strV) []
def nils (n : Nat) : List (Value × Value) := List.replicate n (nilS, nilS)
theorem arr_at (W : World) (B : Nat) (lv : Value) (ks : List ByteArray) (h : W.ownsRow B 27 5 lv ks.length (flat5 (ks.map strV) (nils ks.length))) (hn : ks.length ≤ 1048576) (hk : ∀ k ∈ ks, k.size ≤ 1048576) : At W W.heap.size 2 (arrV ks) lv nilS := by
  obtain ⟨a, c, b, o, rfl, hab, hf⟩ := own_five h (by simp [nils]) (by simp)
  refine ⟨⟨by show (-9223372036854775808 : Int) ≤ 5; omega, by show (5 : Int) ≤ 9223372036854775807; omega, by show 0 < 18446744073709551616; omega, by show 0 ≤ 1048576; omega, by show (ks.map strV).length ≤ 1048576; rw [List.length_map]; exact hn, Nat.zero_le _, Nat.zero_le _⟩, ⟨⟨none, 0, rfl, fun h => absurd h (by simp [arrV, V.ks])⟩, caps_nil⟩, Caps.of_own h, a, c, b, o, rfl, fun hp => ⟨(hab hp).1, (hab hp).2.2⟩, fun i hi => ?_⟩
  have hi2 : i < ks.length := by have : i < (ks.map strV).length := hi; simpa using this
  have h5 := hf i (by simpa using hi2) (by simpa [nils] using hi2)
  have e1 : (nils ks.length)[i]'(by simpa [nils] using hi2) = (nilS, nilS) := by simp [nils]
  rw [e1] at h5
  refine ⟨nilS, nilS, h5, ?_⟩
  have e2 : (arrV ks).l[i] = strV ks[i] := by simp [arrV, V.l]
  rw [e2]
  exact leaf_at W _ 0 4 0 _ (by omega) (by omega) (hk _ (List.getElem_mem _))
theorem arr_nest (ks : List ByteArray) : nestAt (arrV ks).l 0 < 0 := by
  have : ∀ (l : List ByteArray) (i : Nat), nestAt (l.map strV) i = -1 := by
    intro l
    induction l with
    | nil => intro i; rfl
    | cons k l ih =>
      intro i
      show (if nestedV (strV k) = true then (i : Int) else nestAt (l.map strV) (i + 1)) = -1
      rw [if_neg (by simp [nestedV, strV, leafV, V.k]), ih]
  show nestAt (ks.map strV) 0 < 0
  rw [this]
  omega
theorem arr_elems (ks : List ByteArray) (hk : ∀ k ∈ ks, k.size ≤ 1048576) (hg : ∀ k ∈ ks, allGood k 0 = true) : ElemsOK 1 (arrV ks) := by
  intro i hi
  have hi2 : i < ks.length := by have : i < (ks.map strV).length := hi; simpa using this
  have e2 : (arrV ks).l[i] = strV ks[i] := by simp [arrV, V.l]
  rw [e2]
  refine ⟨1, str_right _ (hg _ (List.getElem_mem _)), ?_⟩
  have h1 := str_text ks[i]
  have h2 := hk _ (List.getElem_mem hi2)
  omega
theorem flat5_str (ks : List ByteArray) (s : ByteArray) (n : Nat) (hn : n = ks.length) : flat5 ((ks ++ [s]).map strV) (nils (n + 1)) = flat5 (ks.map strV) (nils n) ++ [.int .i64 4, .float .f64 0, .string s, nilS, nilS] := by
  subst hn
  have e : nils (ks.length + 1) = nils ks.length ++ [(nilS, nilS)] := by simp [nils, List.replicate_succ']
  rw [List.map_append, e]
  exact flat5_snoc (strV s) (nilS, nilS) (ks.map strV) (nils ks.length) (by simp [nils])
end Go.Proofs.YtpobdmkidopnnaaGreatDoor
namespace Go.Proofs.YtpobdmkidopnnaaGreatDoor
open Go Go.RowKit Go.Shelf

theorem infoB8F : (Tryz.prog.info? 5).map (fun i => (i.zero, i.size, i.bytes)) = some (some (.int .u8 0), 1, 1) := by kernel_rfl
theorem own_textF {w : World} {base : Nat} {v : Value} {l : List UInt8} (h : w.ownsRow base 5 1 v l.length (Lib.byteCells l)) : (convert 58 9 v).run Tryz.prog w = .ok (.string ⟨l.toArray⟩) w := by
  rcases h.2 with ⟨rfl, h0⟩ | ⟨g, cap, cur, rfl, _, hg, _⟩
  · obtain rfl := List.eq_nil_of_length_eq_zero h0
    exact run_convert_bytes_nil w 58 5 Tryz.underlying58 Tryz.underlying5 _ _ 9 Tryz.underlying9
  · have hcell := h.cells (g := g) rfl
    have hl := run_loadCells_list (P := Tryz.prog) w ⟨g, 0, none⟩ (Lib.byteCells l) hcell
    rw [bcells_len] at hl
    have e1 : Lib.byteCells l = (l.map fun b => (b.toNat : Int)).map (Value.int .u8) := by unfold Lib.byteCells; rw [List.map_map]; rfl
    rw [e1] at hl
    rw [run_convert_bytes_string w 58 9 5 _ _ _ Tryz.underlying58 Tryz.underlying5 Tryz.underlying9, run_bytesToString w _ _ _ _ hl, foldl_push_bytes, List.map_map]
    have e2 : (l.map ((fun n : Int => UInt8.ofNat n.toNat) ∘ fun b => (b.toNat : Int))) = l := by
      conv => rhs; rw [← List.map_id l]
      apply List.map_congr_left
      intro x _
      simp
    rw [e2]
    simp [ByteArray.empty, ByteArray.emptyWithCapacity]
    rfl
/-- Rows of two types lie apart. -/
theorem own_apartF {w : World} {B C : Nat} {e f : TypeId} {j k : Nat} {a b : Value} {n m : Nat} {xs ys : List Value} (h : w.ownsRow B e j a n xs) (h2 : w.ownsRow C f k b m ys) (hef : e ≠ f) : a.ownBlock = none ∨ a.ownBlock ≠ b.ownBlock := by
  cases ha : a.ownBlock with
  | none => exact .inl rfl
  | some g =>
    refine .inr fun hb => ?_
    obtain ⟨c, z, h3⟩ := Lib.ownsRow_kind h g ha
    obtain ⟨c', z', h4⟩ := Lib.ownsRow_kind h2 g hb.symm
    rw [h3] at h4
    injection h4 with h5
    injection h5 with _ h6
    exact hef h6
/-- The words under way, and the word under way. -/
structure Words (B : Nat) (w : World) (out : List ByteArray) (l : List UInt8) (vo vb : Value) (W : World) : Prop where
  o : W.ownsRow B 9 1 vo out.length (cellsT out)
  b : W.ownsRow B 5 1 vb l.length (Lib.byteCells l)
  bel : Below B w W
theorem Words.byte {B : Nat} {w W W' : World} {out : List ByteArray} {l : List UInt8} {vo vb v' : Value} {c : UInt8} (h : Words B w out l vo vb W) (hB : B ≤ W.heap.size) (h1 : W'.ownsRow B 5 1 v' (l.length + 1) (Lib.byteCells l ++ [.int .u8 (c.toNat : Int)])) (h2 : (W.alloc (.cells #[.int .u8 (c.toNat : Int)] 5)).grownBy W' vb.ownBlock) : Words B w out (l ++ [c]) vo v' W' := by
  refine ⟨(h.o.alloc _).kept h2 (own_apartF h.o h.b (by decide)), ?_, ?_⟩
  · rw [bcells_app, List.length_append]; exact h1
  · exact (h.bel.alloc hB _).grown h2 (by simp; omega) (fun k hk => (h.b.lt k hk).1)
theorem Words.word {B : Nat} {w W W' : World} {out : List ByteArray} {l : List UInt8} {vo vb v' : Value} {s : ByteArray} (h : Words B w out l vo vb W) (hB : B ≤ W.heap.size) (h1 : W'.ownsRow B 9 1 v' (out.length + 1) (cellsT out ++ [.string s])) (h2 : (W.alloc (.cells #[.string s] 9)).grownBy W' vo.ownBlock) : Words B w (out ++ [s]) l v' vb W' := by
  refine ⟨?_, (h.b.alloc _).kept h2 (own_apartF h.b h.o (by decide)), ?_⟩
  · rw [cellsT_snoc, List.length_append]; exact h1
  · exact (h.bel.alloc hB _).grown h2 (by simp; omega) (fun k hk => (h.o.lt k hk).1)
theorem Words.none {B : Nat} {w W : World} {out : List ByteArray} {l : List UInt8} {vo vb : Value} (h : Words B w out l vo vb W) : Words B w out [] vo (.slice none 0 0) W := ⟨h.o, World.ownsRow_nil _ _ _ _, h.bel⟩
/-- A text's words. -/
def shG : List UInt8 → List ByteArray → List UInt8 → Bool → Bool → Option (List ByteArray × Bool)
  | [], out, l, inn, word => some (if word = true then out ++ [⟨l.toArray⟩] else out, !inn)
  | c :: r, out, l, inn, word =>
    if inn = true ∧ c ≠ 39 then shG r out (l ++ [c]) inn word
    else if c = 39 then shG r out l (!inn) true
    else if c = 92 then (match r with | d :: r' => shG r' out (l ++ [d]) inn true | [] => none)
    else if c = 32 then shG r (if word = true then out ++ [⟨l.toArray⟩] else out) [] inn false
    else none
theorem shG_cons (c : UInt8) (r : List UInt8) (out : List ByteArray) (l : List UInt8) (inn word : Bool) : shG (c :: r) out l inn word =
    if inn = true ∧ c ≠ 39 then shG r out (l ++ [c]) inn word
    else if c = 39 then shG r out l (!inn) true
    else if c = 92 then (match r with | d :: r' => shG r' out (l ++ [d]) inn true | [] => none)
    else if c = 32 then shG r (if word = true then out ++ [⟨l.toArray⟩] else out) [] inn false
    else none := by cases r <;> simp only [shG]
theorem neU {c x : UInt8} (h : c ≠ x) : ((c.toNat : Int) == (x.toNat : Int)) = false := by
  rw [beq_eq_false_iff_ne]
  intro e
  exact h (UInt8.toNat_inj.1 (by omega))
set_option maxRecDepth 100000 in
set_option maxHeartbeats 4000000 in
theorem shell_any (s : ByteArray) (hs : s.size ≤ 1000000000) (R : List ByteArray × Bool) (hR : shG s.data.toList [] [] false false = some R) (w : World) :
    Calls Tryz.prog 25 #[.string s] w fun e w' => ∃ v, e = .returned (.tuple #[v, .bool R.2]) ∧ w'.ownsRow w.heap.size 9 1 v R.1.length (cellsT R.1) ∧ Below w.heap.size w w' := by
  have HR := Lib.hid hR
  clear hR
  go_enter Tryz.func25, Tryz.ntmps25
  go_wp2_with fail
  go_loopw [4, 5, 6, 7, 8] (fun vo vb n d i wr => ∃ (k : Nat) (out : List ByteArray) (l : List UInt8) (inn word : Bool), n = .bool inn ∧ d = .bool word ∧ i = .int .i64 k ∧ k ≤ s.size ∧ l.length ≤ k ∧ out.length ≤ k ∧ Hid (Words w.heap.size w out l vo vb wr) ∧ Hid (shG (s.data.toList.drop k) out l inn word = some R)) (fun _ _ _ _ i _ => s.size - (intOf i).toNat)
  case atStart => exact ⟨0, [], [], false, false, rfl, rfl, rfl, by omega, by simp, by simp, Lib.hid ⟨World.ownsRow_nil _ _ _ _, World.ownsRow_nil _ _ _ _, Below.refl _ w⟩, HR⟩
  case round =>
    obtain ⟨k, out, l, inn, word, rfl, rfl, rfl, hk, hl, ho, HW, HS⟩ := hrel
    have hbs := HW.out.bel.size
    by_cases hlt : k < s.size
    · obtain ⟨c, hc⟩ : ∃ c, s[k] = c := ⟨_, rfl⟩
      have hD : s.data.toList.drop k = c :: s.data.toList.drop (k + 1) := by rw [List.drop_eq_getElem_cons (ltF hlt), ← hc]; rfl
      have hS := HS.out
      rw [hD] at hS
      clear HS hD
      by_cases h39 : c = 39
      · subst h39
        have HS := Lib.hid (show shG (s.data.toList.drop (k + 1)) out l (!inn) true = some R from by
          rw [shG_cons, if_neg (by simp), if_pos rfl] at hS; exact hS)
        clear hS
        cases inn with
        | false =>
          go_wp2_with fail
          go_roundw
          case rel => exact ⟨k + 1, out, l, true, true, rfl, rfl, by go_num, by omega, by omega, by omega, HW, HS⟩
          case measure => simp [intOf]; omega
        | true =>
          go_wp2_with fail
          go_roundw
          case rel => exact ⟨k + 1, out, l, false, true, rfl, rfl, by go_num, by omega, by omega, by omega, HW, HS⟩
          case measure => simp [intOf]; omega
      · have n39 : ((c.toNat : Int) == 39) = false := neU h39
        have n39' : ((c.toNat : Int) != 39) = true := by rw [bne, n39]; rfl
        cases inn with
        | true =>
          have HS := Lib.hid (show shG (s.data.toList.drop (k + 1)) out (l ++ [c]) true word = some R from by
            rw [shG_cons, if_pos ⟨rfl, h39⟩] at hS; exact hS)
          clear hS h39
          go_wp2_with (at_builtin; refine app_one rfl _ _ _ rfl w.heap.size 5 _ 1 Tryz.underlying58 infoB8F rfl _ _ _ rfl (by exact HW.out.b) rfl rfl (by unfold maxLen; omega) (by omega) (by exact hbs) ?_)
          intro v' w1 h1 h2 _
          have HW2 := Lib.hid (HW.out.byte hbs h1 h2)
          clear h1 h2 HW
          go_wp2_with fail
          go_roundw
          case rel => exact ⟨k + 1, out, l ++ [c], true, word, rfl, rfl, by go_num, by omega, by simp; omega, by omega, HW2, HS⟩
          case measure => simp [intOf]; omega
        | false =>
          rw [shG_cons, if_neg (by simp), if_neg h39] at hS
          by_cases h92 : c = 92
          · subst h92
            rw [if_pos rfl] at hS
            by_cases hlt2 : k + 1 < s.size
            · obtain ⟨d, hd⟩ : ∃ d, s[k + 1] = d := ⟨_, rfl⟩
              have hD : s.data.toList.drop (k + 1) = d :: s.data.toList.drop (k + 2) := by rw [List.drop_eq_getElem_cons (ltF hlt2), ← hd]; rfl
              rw [hD] at hS
              have HS := Lib.hid (show shG (s.data.toList.drop (k + 2)) out (l ++ [d]) false true = some R from hS)
              clear hS hD n39 n39' h39
              go_wp2_with (at_builtin; refine app_one rfl _ _ _ rfl w.heap.size 5 _ 1 Tryz.underlying58 infoB8F rfl _ _ _ rfl (by exact HW.out.b) rfl rfl (by unfold maxLen; omega) (by omega) (by exact hbs) ?_)
              intro v' w1 h1 h2 _
              have HW2 := Lib.hid (HW.out.byte hbs h1 h2)
              clear h1 h2 HW
              go_wp2_with fail
              go_roundw
              case rel => exact ⟨k + 2, out, l ++ [d], false, true, rfl, rfl, by go_num, by omega, by simp; omega, by omega, HW2, HS⟩
              case measure => simp [intOf]; omega
            · rw [List.drop_of_length_le (by simp; omega)] at hS
              cases hS
          · rw [if_neg h92] at hS
            by_cases h32 : c = 32
            · subst h32
              rw [if_pos rfl] at hS
              have HS := Lib.hid hS
              clear hS n39 n39' h39 h92
              cases word with
              | false =>
                go_wp2_with fail
                go_roundw
                case rel => exact ⟨k + 1, out, [], false, false, rfl, rfl, by go_num, by omega, by simp, by omega, Lib.hid HW.out.none, Lib.hid (by simpa using HS.out)⟩
                case measure => simp [intOf]; omega
              | true =>
                have hcv := own_textF HW.out.b
                go_wp2_with (at_builtin; refine app_one rfl _ _ _ rfl w.heap.size 9 _ 16 Tryz.underlying25 infoStr rfl _ _ _ rfl (by exact HW.out.o) rfl rfl (by unfold maxLen; omega) (by omega) (by exact hbs) ?_)
                intro v' w1 h1 h2 _
                have HW2 := Lib.hid (HW.out.word hbs h1 h2).none
                clear h1 h2 HW hcv
                go_wp2_with fail
                go_roundw
                case rel => exact ⟨k + 1, out ++ [⟨l.toArray⟩], [], false, false, rfl, rfl, by go_num, by omega, by simp, by simp; omega, HW2, Lib.hid (by simpa using HS.out)⟩
                case measure => simp [intOf]; omega
            · rw [if_neg h32] at hS
              cases hS
    · have hkk : k = s.size := by omega
      have hS := HS.out
      rw [List.drop_of_length_le (by simp; omega)] at hS
      clear HS
      subst hkk
      have e := Option.some.inj hS
      clear hS
      cases word with
      | false =>
        have HE := Lib.hid e
        clear e hlt hk
        go_wp2_with fail
        go_ret2
        have e := HE.out
        subst e
        exact ⟨_, rfl, HW.out.o, HW.out.bel⟩
      | true =>
        have hcv := own_textF HW.out.b
        have HE := Lib.hid e
        clear e hlt hk
        go_wp2_with (at_builtin; refine app_one rfl _ _ _ rfl w.heap.size 9 _ 16 Tryz.underlying25 infoStr rfl _ _ _ rfl (by exact HW.out.o) rfl rfl (by unfold maxLen; omega) (by omega) (by exact hbs) ?_)
        intro v' w1 h1 h2 _
        have HW2 := Lib.hid (HW.out.word hbs h1 h2)
        clear h1 h2 HW hcv
        go_wp2_with fail
        go_ret2
        have e := HE.out
        subst e
        exact ⟨_, rfl, HW2.out.o, HW2.out.bel⟩
end Go.Proofs.YtpobdmkidopnnaaGreatDoor
namespace Go.Proofs.YtpobdmkidopnnaaGreatDoor
open Go Go.RowKit Go.Shelf

def shQ (s : List UInt8) : List UInt8 := 39 :: (replL LSh s ++ [39])
theorem sh_in (r : List UInt8) (out : List ByteArray) (s : List UInt8) : ∀ l, shG (replL LSh s ++ 39 :: r) out l true true = shG r out (l ++ s) false true := by
  induction s with
  | nil =>
    intro l
    show shG (39 :: r) out l true true = _
    rw [shG_cons, if_neg (by simp), if_pos rfl, List.append_nil]
    rfl
  | cons c s ih =>
    intro l
    have e : replL LSh (c :: s) = swapT LSh c ++ replL LSh s := rfl
    rw [e, List.append_assoc]
    by_cases h : c = 39
    · subst h
      have e2 : swapT LSh 39 = [39, 92, 39, 39] := rfl
      rw [e2]
      show shG (39 :: 92 :: 39 :: 39 :: (replL LSh s ++ 39 :: r)) out l true true = _
      rw [shG_cons, if_neg (by simp), if_pos rfl, shG_cons, if_neg (by simp), if_neg (by decide), if_pos rfl]
      show shG (39 :: (replL LSh s ++ 39 :: r)) out (l ++ [39]) false true = _
      rw [shG_cons, if_neg (by simp), if_pos rfl]
      show shG (replL LSh s ++ 39 :: r) out (l ++ [39]) true true = _
      rw [ih, List.append_assoc]
      rfl
    · have e2 : swapT LSh c = [c] := by simp [swapT, LSh, Ne.symm h]
      rw [e2]
      show shG (c :: (replL LSh s ++ 39 :: r)) out l true true = _
      rw [shG_cons, if_pos ⟨rfl, h⟩, ih, List.append_assoc]
      rfl
theorem sh_word (s : List UInt8) (r : List UInt8) (out : List ByteArray) (w : Bool) : shG (shQ s ++ r) out [] false w = shG r out s false true := by
  unfold shQ
  show shG (39 :: (replL LSh s ++ [39] ++ r)) out [] false w = _
  rw [shG_cons, if_neg (by simp), if_pos rfl, List.append_assoc]
  show shG (replL LSh s ++ 39 :: r) out [] true true = _
  rw [sh_in]
  rfl
theorem joinTail_consF (sep x : List UInt8) (r : List (List UInt8)) : Lib.joinTail sep (x :: r) = sep ++ (x ++ Lib.joinTail sep r) := by simp [Lib.joinTail, List.append_assoc]
theorem sh_tail (ks : List ByteArray) : ∀ (k : ByteArray) (out : List ByteArray), shG (Lib.joinTail [32] (ks.map fun k => shQ k.data.toList)) out k.data.toList false true = some (out ++ k :: ks, true) := by
  induction ks with
  | nil =>
    intro k out
    show shG [] out k.data.toList false true = _
    simp [shG]
  | cons k2 ks ih =>
    intro k out
    rw [List.map_cons, joinTail_consF]
    show shG (32 :: (shQ k2.data.toList ++ _)) out k.data.toList false true = _
    rw [shG_cons, if_neg (by simp), if_neg (by decide), if_neg (by decide), if_pos rfl, sh_word, if_pos rfl, ih]
    simp
theorem sh_words (ks : List ByteArray) : shG (Lib.join (ks.map fun k => shQ k.data.toList) [32]) [] [] false false = some (ks, true) := by
  cases ks with
  | nil => rfl
  | cons k ks => rw [List.map_cons, Lib.join_cons, sh_word, sh_tail]; rfl
theorem range_elems {α : Type} (ks : List ByteArray) (f : V → α) (g : ByteArray → α) (h : ∀ k, f (strV k) = g k) : (List.range (arrV ks).l.length).map (fun i => f (elemV (arrV ks) i)) = ks.map g := by
  have e : (arrV ks).l.length = ks.length := by simp [arrV, V.l]
  apply List.ext_getElem
  · simp [e]
  · intro i h1 h2
    have h3 : i < ks.length := by simpa using h2
    rw [List.getElem_map, List.getElem_map, List.getElem_range, elemV_at _ _ (by omega)]
    have e2 : (arrV ks).l[i] = strV ks[i] := by simp [arrV, V.l]
    rw [e2, h]
theorem wordsT_arr (ks : List ByteArray) (m : Nat) : wordsT m (arrV ks) = Lib.join (ks.map fun k => shQ k.data.toList) [32] := by
  unfold wordsT
  rw [range_elems ks (fun v => cellT (fun s => 39 :: (replL LSh s ++ [39])) m v) (fun k => shQ k.data.toList) (fun k => if_pos rfl)]
/-- How long joined cells can be. -/
theorem join_le (f : ByteArray → List UInt8) (hf : ∀ k, (f k).length ≤ 10 * k.size + 2) (sep : List UInt8) (hs : sep.length = 1) (ks : List ByteArray) : (Lib.join (ks.map f) sep).length ≤ 10 * keysLen ks + 3 * ks.length := by
  have h : ∀ ks : List ByteArray, Lib.lens (ks.map f) ≤ 10 * keysLen ks + 2 * ks.length := by
    intro ks
    induction ks with
    | nil => simp [Lib.lens]
    | cons k ks ih =>
      have := hf k
      have e : keysLen (k :: ks) = k.size + keysLen ks := rfl
      simp only [Lib.lens, List.map_cons, List.sum_cons, List.length_cons] at ih ⊢
      rw [e]
      omega
  cases ks with
  | nil => exact Nat.zero_le _
  | cons k ks =>
    have h1 := h (k :: ks)
    rw [List.map_cons, Lib.join_length]
    rw [List.map_cons] at h1
    simp only [List.length_map, List.length_cons] at h1 ⊢
    rw [hs]
    omega
theorem shQ_le (k : ByteArray) : (shQ k.data.toList).length ≤ 10 * k.size + 2 := by
  have := replL_le LSh (by decide) k
  unfold shQ
  simp only [List.length_cons, List.length_append, List.length_nil]
  omega
end Go.Proofs.YtpobdmkidopnnaaGreatDoor
namespace Go.Proofs.YtpobdmkidopnnaaGreatDoor
open Go Go.RowKit Go.Shelf

theorem arr_blk (ad : Addr) (k : Nat) : (ad.add k).block = ad.block := by unfold Addr.add; split <;> rfl
theorem take_snocF (ks : List ByteArray) (k : Nat) (x : ByteArray) (h : ks[k]? = some x) : ks.take (k + 1) = ks.take k ++ [x] := by rw [List.take_add_one, h]; rfl
theorem good_snoc (ks : List ByteArray) (k : Nat) (x : ByteArray) (h : ∀ y ∈ ks.take k, allGood y 0 = true) (hx : allGood x 0 = true) (he : ks[k]? = some x) : ∀ y ∈ ks.take (k + 1), allGood y 0 = true := by
  intro y hy
  rw [take_snocF ks k x he] at hy
  rcases List.mem_append.1 hy with h1 | h1
  · exact h y h1
  · obtain rfl := List.mem_singleton.1 h1
    exact hx
theorem own_snocF {B : Nat} {v : Value} {W : World} (ks : List ByteArray) (k : Nat) (x : ByteArray) (hk : k < ks.length) (he : ks[k]? = some x)
    (h : W.ownsRow B 27 5 v (k + 1) (flat5 ((ks.map strV).take k) (nils k) ++ [.int .i64 4, .float .f64 0, .string x, nilS, nilS])) : W.ownsRow B 27 5 v (k + 1) (flat5 ((ks.take (k + 1)).map strV) (nils (k + 1))) := by
  rw [take_snocF ks k x he, flat5_str _ _ k (by rw [List.length_take]; omega), List.map_take]
  exact h
theorem arr_own {B : Nat} {v : Value} {W : World} (ks : List ByteArray) (h : W.ownsRow B 27 5 v ks.length (flat5 ((ks.take ks.length).map strV) (nils ks.length))) (hn : ks.length ≤ 1048576) (hk : ∀ k ∈ ks, k.size ≤ 1048576) : At W W.heap.size 2 (arrV ks) v nilS := by
  rw [List.take_length] at h
  exact arr_at W B v ks h hn hk
theorem key_small (ks : List ByteArray) (h : keysLen ks ≤ 1048576) : ∀ k ∈ ks, k.size ≤ 1048576 := by
  intro k hk
  induction ks with
  | nil => simp at hk
  | cons x ks ih =>
    have e : keysLen (x :: ks) = x.size + keysLen ks := rfl
    rcases List.mem_cons.1 hk with rfl | h1
    · omega
    · exact ih (by omega) h1
set_option maxRecDepth 100000 in
set_option maxHeartbeats 8000000 in
theorem formatShell_true (ks : List ByteArray) (lv : Value) (w : World) (hN : NumW w) (hA : Arr w w.heap.size lv (cellsT ks)) (hn : ks.length ≤ 1048576) (hl : keysLen ks ≤ 1048576) : Calls Tryz.prog 5 #[lv] w fun e w' => e = .returned (.bool true) ∧ Below w.heap.size w w' := by
  have hsf := run_store_float Tryz.prog
  have hsm := key_small ks hl
  have HSM := Lib.hid hsm
  have HT := Lib.hid (fun W (hW : Below w.heap.size w W) => headsF_true W (hN.below hW))
  have HN := Lib.hid (fun W (hW : Below w.heap.size w W) => hN.below hW)
  have HAr := Lib.hid hA
  have hlen : (Lib.join (ks.map fun k => shQ k.data.toList) [32]).length ≤ 100000000 := by
    have := join_le (fun k => shQ k.data.toList) shQ_le [32] rfl ks
    omega
  have HLen := Lib.hid hlen
  obtain ⟨A, c, rfl, ha⟩ := hA
  rw [cellsT_length] at *
  clear hN hsm hlen
  go_enter Tryz.func5, Tryz.ntmps5
  go_wp2_with fail
  go_loopw [3, 4] (fun v i wr => ∃ k : Nat, k ≤ ks.length ∧ i = .int .i64 k ∧ Hid (wr.ownsRow w.heap.size 27 5 v k (flat5 ((ks.take k).map strV) (nils k))) ∧ Hid (∀ y ∈ ks.take k, allGood y 0 = true) ∧ Hid (Below w.heap.size w wr)) (fun _ i _ => ks.length - (intOf i).toNat)
  case atStart => exact ⟨0, by omega, rfl, Lib.hid (World.ownsRow_nil _ _ _ _), Lib.hid (by simp), Lib.hid (Below.refl _ w)⟩
  case round =>
    obtain ⟨k, hk, rfl, HO, HG, HB⟩ := hrel
    have hbs := HB.out.size
    by_cases hlt : k < ks.length
    · obtain ⟨ad, rfl, hB, hc⟩ := ha (by omega)
      obtain ⟨x, e1, ex⟩ := cellsT_at ks k hlt
      have h1 := (HB.out.cell (p := ad.add k) (by rw [arr_blk]; exact hB)).trans (hc k _ ex)
      have hxs := HSM.out x (List.mem_of_getElem? e1)
      have E1 := Lib.hid e1
      obtain ⟨G, hG⟩ : ∃ G, allGood x 0 = G := ⟨_, rfl⟩
      have HV := Lib.hid (fun w => refValid_any x (by omega) w)
      rw [hG] at HV
      have HA2 := Lib.hid (fun W (hW : Below w.heap.size w W) => (hW.cell (p := ad.add k) (by rw [arr_blk]; exact hB)).trans (hc k _ ex))
      have i0 : (0 : Int) ≤ (k : Int) := by omega
      have i1 : (k : Int) < (ks.length : Int) := by omega
      clear hc ha e1 ex
      cases G with
      | false =>
        clear hG
        go_wp2_with fail
        refine (HV.out _).mono ?_
        rintro e w1 ⟨rfl, rfl⟩
        go_wp2_with fail
        refine (HT.out _ HB.out).mono ?_
        rintro e w2 ⟨rfl, hb⟩
        have HB2 := Lib.hid (HB.out.trans (hb.mono hbs))
        clear hb
        go_wp2_with fail
        go_ret
        exact ⟨rfl, HB2.out⟩
      | true =>
        have HG2 := Lib.hid (good_snoc ks k x HG.out hG E1.out)
        clear hG
        go_wp2_with fail
        refine (HV.out _).mono ?_
        rintro e w1 ⟨rfl, rfl⟩
        go_wp2_with fail
        refine (Str_any _ _).mono ?_
        rintro e w2 ⟨rfl, hb⟩
        have HO2 := Lib.hid (own_belowF HO.out hb)
        have HB2 := Lib.hid (HB.out.trans (hb.mono hbs))
        have hbs2 := HB2.out.size
        clear hb h1
        go_wp2_with (at_builtin; refine app_five rfl _ _ _ rfl w.heap.size 27 _ 80 Tryz.underlying24 infoVal rfl _ _ _ rfl (by exact HO2.out) rfl (by simp [Value.oneCell']) (by unfold maxLen; omega) (by omega) (by exact hbs2) ?_)
        intro v' w3 h1 h2 h3
        have HO3 := Lib.hid (own_snocF ks k x hlt E1.out h1)
        have HB3 := Lib.hid (HB2.out.trans h3)
        clear h1 h2 h3
        go_wp2_with fail
        go_roundw
        case rel => exact ⟨k + 1, by omega, by go_num, HO3, HG2, HB3⟩
        case measure => simp [intOf]; omega
    · obtain rfl : k = ks.length := by omega
      have hat := arr_own ks HO.out hn HSM.out
      obtain ⟨a1, n1, c1, _, _, _, e, _⟩ := hat.slices
      subst e
      have hg2 : ∀ y ∈ ks, allGood y 0 = true := by have := HG.out; rwa [List.take_length] at this
      have hF := fun W (hW : Below wr.heap.size wr W) => F_sh 1 (arrV ks) (.slice a1 n1 c1) nilS W (HN.out W (HB.out.trans (hW.mono hbs))) (At.more hW.size _ _ _ _ (hat.below hW)) rfl (arr_nest ks) (arr_elems ks HSM.out hg2) (by rw [wordsT_arr]; have := HLen.out; omega)
      rw [wordsT_arr] at hF
      obtain ⟨T, hT⟩ : ∃ T : ByteArray, (⟨(Lib.join (ks.map fun k => shQ k.data.toList) [32]).toArray⟩ : ByteArray) = T := ⟨_, rfl⟩
      have hTl : T.data.toList = Lib.join (ks.map fun k => shQ k.data.toList) [32] := by rw [← hT]
      have hTz : T.size ≤ 100000000 := by rw [← hT]; show (Lib.join _ _).toArray.size ≤ _; rw [List.size_toArray]; exact HLen.out
      rw [hT] at hF
      have HS := Lib.hid (fun w => shell_any T (by omega) (ks, true) (by rw [hTl]; exact sh_words ks) w)
      clear hat hg2 hT hTl hlt ha
      by_cases hs : T.size ≤ 1048576
      · have hss : smallS T = .tuple #[.agg (strA T), .agg okA] := if_pos hs
        rw [hss] at hF
        unfold strA okA at hF
        have HF := Lib.hid hF
        clear hF hss hs
        go_wp2_with fail
        refine (Arr_anyF _ _ _ _).mono ?_
        rintro e w1 ⟨rfl, hb⟩
        have H1 := Lib.hid ((HW.start wr).below hb)
        clear hb
        go_wp2_with fail
        refine (HF.out _ H1.out.bel).mono ?_
        rintro e w2 ⟨rfl, hb⟩
        have hx := (H1.out.below hb).two #[.int .i64 4, .float .f64 0, .string T, .slice none 0 0, .slice none 0 0] #[.bool false, .int .i64 0, .float .f64 0, .string ⟨#[]⟩, .slice none 0 0, .slice none 0 0] 27 32
        clear hb H1
        go_upto_region 9 with fail
        obtain ⟨n, hn'⟩ : ∃ n, w2.heap.size = n := ⟨_, rfl⟩
        rw [hn'] at hx ⊢
        generalize (w2.alloc (.cells #[.int .i64 4, .float .f64 0, .string T, .slice none 0 0, .slice none 0 0] 27)).alloc (.cells #[.bool false, .int .i64 0, .float .f64 0, .string ⟨#[]⟩, .slice none 0 0, .slice none 0 0] 32) = W4 at hx ⊢
        have H2 := Lib.hid hx
        clear hx hn'
        have e0 := H2.out.cellAt (n + 1) _ 32 0 (.bool false) (.head _) rfl
        have c2 := H2.out.cellAt n _ 27 2 (.string T) (.tail _ (.head _)) rfl
        go_wp2_with fail
        refine (HS.out _).mono ?_
        rintro e w5 ⟨v, rfl, hown, hb⟩
        have HB5 := Lib.hid ((HB.out.trans (H2.out.bel.mono hbs)).trans (hb.mono (Nat.le_trans hbs H2.out.bel.size)))
        have hr0 := refTexts_any ks ks w5.heap.size w.heap.size v _ (by omega) w5 (Arr.of_own hown (Nat.le_refl _)) (HAr.out.below HB5.out)
        rw [decide_eq_true (rfl : ks = ks)] at hr0
        have HR := Lib.hid hr0
        clear hb hown e0 c2 H2 hr0
        go_wp2_with fail
        refine HR.out.mono ?_
        rintro e w6 ⟨rfl, q, rfl⟩
        have HB6 := Lib.hid (below_drewN HB5.out q)
        go_wp2_with fail
        refine (HT.out _ HB6.out).mono ?_
        rintro e w8 ⟨rfl, hb⟩
        have HB8 := Lib.hid (HB6.out.trans (hb.mono HB6.out.size))
        clear hb
        go_wp2_with fail
        go_ret
        exact ⟨rfl, HB8.out⟩
      · have hss : smallS T = .tuple #[.agg zeroA, .agg (errA largeT)] := if_neg hs
        rw [hss] at hF
        unfold zeroA errA largeT at hF
        have HF := Lib.hid hF
        clear hF hss hs
        go_wp2_with fail
        refine (Arr_anyF _ _ _ _).mono ?_
        rintro e w1 ⟨rfl, hb⟩
        have H1 := Lib.hid ((HW.start wr).below hb)
        clear hb
        go_wp2_with fail
        refine (HF.out _ H1.out.bel).mono ?_
        rintro e w2 ⟨rfl, hb⟩
        have hx := (H1.out.below hb).two zeroA (errA largeT) 27 32
        unfold zeroA errA largeT at hx
        clear hb H1
        go_upto_region 9 with fail
        obtain ⟨n, hn'⟩ : ∃ n, w2.heap.size = n := ⟨_, rfl⟩
        rw [hn'] at hx ⊢
        generalize (w2.alloc (.cells #[.int .i64 0, .float .f64 0, .string ⟨#[]⟩, .slice none 0 0, .slice none 0 0] 27)).alloc (.cells #[.bool true, .int .i64 4, .float .f64 0, .string ⟨#[118, 97, 108, 117, 101, 32, 105, 115, 32, 116, 111, 111, 32, 108, 97, 114, 103, 101]⟩, .slice none 0 0, .slice none 0 0] 32) = W4 at hx ⊢
        have H2 := Lib.hid hx
        clear hx hn'
        have e0 := H2.out.cellAt (n + 1) _ 32 0 (.bool true) (.head _) rfl
        have e3 := H2.out.cellAt (n + 1) _ 32 3 (.string ⟨#[118, 97, 108, 117, 101, 32, 105, 115, 32, 116, 111, 111, 32, 108, 97, 114, 103, 101]⟩) (.head _) rfl
        have HB4 := Lib.hid (HB.out.trans (H2.out.bel.mono hbs))
        go_wp2_with fail
        refine (HT.out _ HB4.out).mono ?_
        rintro e w8 ⟨rfl, hb⟩
        have HB8 := Lib.hid (HB4.out.trans (hb.mono HB4.out.size))
        clear hb e0 e3 H2
        go_wp2_with fail
        go_ret
        exact ⟨rfl, HB8.out⟩
end Go.Proofs.YtpobdmkidopnnaaGreatDoor
namespace Go.Proofs.YtpobdmkidopnnaaGreatDoor
open Go Go.ChangeShapes Go.WideShapes Go.ChangeAt Go.RowKit Go.Lib Go.Deep

theorem readL : Tryz.prog.readableRec 25 = true := by kernel_rfl
set_option maxRecDepth 100000 in
theorem open_listB {H : Type} {enc : TypeId × Value → H} {W : World} {v : Value} {d : DataW H} {p : List MemPlace} (hval : Value.okWide Tryz.prog W .any 0 25 v) (h : DataW.Trod enc Tryz.prog W 0 (fun _ => true) true 25 v d p) (hb : Rows.uptoBulk d ≤ 1048576) :
    ∃ ks : List ByteArray, Arr W W.heap.size v (ks.map Value.string) ∧ ks.length ≤ 1048576 ∧ keysLen ks ≤ 1048576 ∧ ∀ W' : World, Below W.heap.size W W' → DataW.Trod enc Tryz.prog W' 0 (fun b => decide (b < W.heap.size)) true 25 v d p := by
  have h' := h
  obtain ⟨a0, len, cap, rfl⟩ := okWide_slice Tryz.underlying25 hval
  obtain ⟨fuel, hf⟩ := h
  obtain ⟨kv, ks, hcs, hat, h1, h2, _⟩ := open_keys hf hb
  have e : Value.slice a0 len cap = kv := by simpa [Value.cells] using hcs
  subst e
  exact ⟨ks, hat.1, h1, h2, fun W' bel => Below.trod laidOutV readL (of_decide_eq_true (by kernel_rfl)) h' bel (fun y hy => DataW.trod_lt _ _ _ _ hf y hy)⟩
end Go.Proofs.YtpobdmkidopnnaaGreatDoor
