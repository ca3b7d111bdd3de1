/- How long a value's text is at most. -/
import Derived.Test.YtdlighmnlcklnaaGreatDoorUBulk
import Derived.Test.YtdlighmnlcklnaaGreatDoorUText
import Derived.Test.YtdlighmnlcklnaaGreatDoorUShorts
import Derived.Test.YtdlighmnlcklnaaGreatDoorUHeadsD
import Derived.Test.YtdlighmnlcklnaaGreatDoorMOp
namespace Go.Proofs.YtdlighmnlcklnaaGreatDoor
open Go Go.RowKit

theorem eText_len (neg : Bool) (l : List UInt8) (x : Int) : (eText neg l x).length ≤ l.length + 20 := by
  unfold eText expD
  simp only [List.length_append]
  have h1 : (if neg then ([45] : List UInt8) else []).length ≤ 1 := by split <;> simp
  have h2 : (l.take 1).length ≤ l.length := by rw [List.length_take]; omega
  have h3 : (if l.length ≤ 1 then ([] : List UInt8) else 46 :: l.drop 1).length ≤ 1 + (l.length - 1) ∧ (l.take 1).length + (if l.length ≤ 1 then ([] : List UInt8) else 46 :: l.drop 1).length ≤ l.length + 1 := by
    rw [List.length_take]
    split
    · simp; omega
    · simp; omega
  have h4 : (if x < 0 then ([45] : List UInt8) else [43]).length = 1 := by split <;> rfl
  have h5 : (if x.natAbs < 10 then [48, UInt8.ofNat (48 + x.natAbs)] else if x.natAbs < 100 then [UInt8.ofNat (48 + x.natAbs / 10), UInt8.ofNat (48 + x.natAbs % 10)] else [UInt8.ofNat (48 + x.natAbs / 100), UInt8.ofNat (48 + x.natAbs / 10 % 10), UInt8.ofNat (48 + x.natAbs % 10)]).length ≤ 3 := by
    split
    · simp
    · split <;> simp
  simp only [List.length_cons, List.length_nil]
  omega
theorem fText_len (neg : Bool) (l : List UInt8) (dp : Int) : (fText neg l dp).length ≤ l.length + dp.natAbs + 10 := by
  unfold fText
  rw [List.length_append]
  have h1 : (if neg then ([45] : List UInt8) else []).length ≤ 1 := by split <;> simp
  have h2 : (if (l.length : Int) ≤ dp then l ++ List.replicate (dp.toNat - l.length) 48 else if 0 < dp then l.take dp.toNat ++ 46 :: l.drop dp.toNat else 48 :: 46 :: (List.replicate (-dp).toNat 48 ++ l)).length ≤ l.length + dp.natAbs + 5 := by
    split
    · rw [List.length_append, List.length_replicate]; omega
    · split
      · rw [List.length_append, List.length_cons, List.length_take, List.length_drop]; omega
      · simp only [List.length_cons, List.length_append, List.length_replicate]; omega
  omega
theorem textB_len (b : Nat) (hb : b < 18446744073709551616) : (textB b).length ≤ 1000 := by
  unfold textB
  by_cases h1 : 9218868437227405312 < szB b
  · rw [if_pos h1]; simp
  · rw [if_neg h1]
    have hc := clamp_in b hb (by omega)
    obtain ⟨c, hcc⟩ : ∃ c, clampB b = c := ⟨_, rfl⟩
    rw [hcc] at hc ⊢
    have hkey : ¬ zeroB c → (digB c).length ≤ 20 ∧ -360 ≤ dpB c ∧ dpB c ≤ 400 := by
      intro hz
      have hx : exB c ≤ 2046 := by unfold exB; have := hc.2; unfold szB at this; omega
      have hm : mtB c < 4503599627370496 := Nat.mod_lt _ (by omega)
      obtain ⟨d1, d2, d3, d4⟩ := dec_all _ _ hz hx hm
      have s3 := nine_digits _ d2
      have s2 := strip_le (Lib.decDigits (decOf (exB c) (mtB c)).1)
      rw [Lib.decDigits_length] at s2
      refine ⟨?_, ?_, ?_⟩
      · unfold digB
        rw [List.length_take, Lib.decDigits_length]
        omega
      · unfold dpB; omega
      · unfold dpB; omega
    split
    · unfold fOf
      split
      · rw [List.length_append]; split <;> simp
      · rename_i hz
        obtain ⟨k1, k2, k3⟩ := hkey hz
        have := fText_len (negB c) (digB c) (dpB c)
        omega
    · unfold eOf
      split
      · rw [List.length_append]; split <;> simp
      · rename_i hz
        obtain ⟨k1, k2, k3⟩ := hkey hz
        have := eText_len (negB c) (digB c) (dpB c - 1)
        omega
theorem enc_le4 (p : Int) : (Lib.encodeRune p).length ≤ 4 := by
  have := Lib.runeCells_le p
  rw [Lib.runeCells_length] at this
  omega
theorem flat_len {α : Type} (f : α → List UInt8) (c : Nat) (h : ∀ x, (f x).length ≤ c) : ∀ l : List α, (l.flatMap f).length ≤ c * l.length
  | [] => by simp
  | x :: l => by
    have := flat_len f c h l
    have h1 := h x
    rw [List.flatMap_cons, List.length_append, List.length_cons, Nat.mul_succ]
    omega
theorem escR_len (r : Int) : (escR r).length ≤ 6 := by
  have := enc_le4 r
  unfold escR
  repeat' split
  all_goals first | (simp; done) | omega
theorem quoteR_len (s : ByteArray) : (quoteR s).length ≤ 6 * s.size + 2 := by
  have h1 := flat_len (fun p : Nat => escR ((p : Nat) : Int)) 6 (fun x => escR_len _) (pts s 0)
  have h2 := pts_len s 0
  unfold quoteR bodyR
  simp only [List.length_cons, List.length_append, List.length_nil]
  omega
theorem rowB_len (T : Nat → List UInt8) : ∀ n, (rowB T n).length ≤ sumTo (fun i => (T i).length + 1) n
  | 0 => Nat.le_refl _
  | n + 1 => by
    have h := rowB_len T n
    show (rowB T n ++ (if n = 0 then T n else 44 :: T n)).length ≤ sumTo _ n + ((T n).length + 1)
    rw [List.length_append]
    split
    · omega
    · rw [List.length_cons]; omega
theorem text_bulk {w : World} {B : Nat} : ∀ (m : Nat) (v : V) (lv kv : Value), At w B m v lv kv → (textV m v).length + 4 ≤ 300 * bulkV m v := by
  intro m
  induction m with
  | zero => intro v lv kv h; exact h.elim
  | succ m ih =>
    intro v lv kv h
    obtain ⟨hsm, _, _, a, c, b, o, _, _, hi⟩ := h.opened
    have hch : ∀ i, i < v.l.length → (textV m (v.l.getD i default)).length + 4 ≤ 300 * bulkV m (v.l.getD i default) ∧ 5 ≤ bulkV m (v.l.getD i default) := by
      intro i hlt
      obtain ⟨lv', kv', _, h2⟩ := hi i hlt
      have hg : v.l.getD i default = v.l[i] := by simp [List.getD, hlt]
      rw [hg]
      exact ⟨ih _ _ _ h2, bulk_five h2⟩
    have hb : bulkV (m + 1) v = 5 + v.s.size + v.ks.length + keysLen v.ks + sumTo (fun i => bulkV m (v.l.getD i default)) v.l.length := rfl
    have h5 : 5 * v.l.length ≤ sumTo (fun i => bulkV m (v.l.getD i default)) v.l.length := by
      rw [← sumTo_const]
      exact sumTo_le _ fun i hlt => (hch i hlt).2
    have hs : sumTo (fun i => (textV m (v.l.getD i default)).length + 4) v.l.length ≤ 300 * sumTo (fun i => bulkV m (v.l.getD i default)) v.l.length := by
      rw [← sumTo_mul]
      exact sumTo_le _ fun i hlt => (hch i hlt).1
    have hs2 := sumTo_add (fun i => (textV m (v.l.getD i default)).length + 1) (fun _ => 3) v.l.length
    have hs3 : sumTo (fun i => (textV m (v.l.getD i default)).length + 1 + 3) v.l.length = sumTo (fun i => (textV m (v.l.getD i default)).length + 4) v.l.length := sumTo_congr _ fun i _ => rfl
    rw [hs3, sumTo_const] at hs2
    rw [hb]
    show (if v.k = 0 then nullT else if v.k = 1 then falseT else if v.k = 2 then trueT else if v.k = 3 then textB v.f else if v.k = 4 then quoteR v.s
      else if v.k = 5 then 91 :: (rowB (fun i => textV m (v.l.getD i default)) v.l.length ++ [93])
      else 123 :: (rowB (fun i => quoteR (v.ks.getD i default) ++ 58 :: textV m (v.l.getD i default)) v.l.length ++ [125])).length + 4 ≤ _
    have l0 : nullT.length = 4 := rfl
    have l1 : falseT.length = 5 := rfl
    have l2 : trueT.length = 4 := rfl
    have l3 := textB_len v.f hsm.2.2.1
    have l4 := quoteR_len v.s
    split
    · omega
    split
    · omega
    split
    · omega
    split
    · omega
    split
    · omega
    split
    · have l5 := rowB_len (fun i => textV m (v.l.getD i default)) v.l.length
      rw [List.length_cons, List.length_append, List.length_singleton]
      omega
    · have l6 := rowB_len (fun i => quoteR (v.ks.getD i default) ++ 58 :: textV m (v.l.getD i default)) v.l.length
      have l7 : sumTo (fun i => (quoteR (v.ks.getD i default) ++ 58 :: textV m (v.l.getD i default)).length + 1) v.l.length ≤ sumTo (fun i => (6 * (v.ks.getD i default).size + 3) + ((textV m (v.l.getD i default)).length + 1)) v.l.length := by
        refine sumTo_le _ fun i hlt => ?_
        have := quoteR_len (v.ks.getD i default)
        simp only [List.length_append, List.length_cons]
        omega
      rw [sumTo_add (fun i => 6 * (v.ks.getD i default).size + 3) (fun i => (textV m (v.l.getD i default)).length + 1), sumTo_add (fun i => 6 * (v.ks.getD i default).size) (fun _ => 3), sumTo_mul 6 (fun i => (v.ks.getD i default).size), sumTo_const] at l7
      have l8 := keys_sum v.ks v.l.length
      rw [List.length_cons, List.length_append, List.length_singleton]
      omega
end Go.Proofs.YtdlighmnlcklnaaGreatDoor
namespace Go.Proofs.YtdlighmnlcklnaaGreatDoor
open Go Go.RowKit

theorem shortS_le (s : ByteArray) : (shortS s).size ≤ s.size + 3 := by
  unfold shortS
  split
  · rw [ByteArray.size_append]
    have := sliceS_size s 0 21
    show _ + 3 ≤ _
    omega
  · omega
theorem shortS_size (s : List UInt8) : (shortS ⟨s.toArray⟩).size ≤ 100 := by
  by_cases h : 97 ≤ s.length
  · have e := short_same (a := s) (b := s.take 97) h (by rw [List.length_take]; omega) (by simp [List.take_take])
    rw [e]
    have h1 := shortS_le ⟨(s.take 97).toArray⟩
    have h2 : (⟨(s.take 97).toArray⟩ : ByteArray).size = 97 := by show (s.take 97).toArray.size = 97; rw [List.size_toArray, List.length_take]; omega
    omega
  · have h1 := shortS_le ⟨s.toArray⟩
    have h2 : (⟨s.toArray⟩ : ByteArray).size = s.length := by show s.toArray.size = _; simp
    omega
def tellS (m : Nat) (v : V) : ByteArray := nameV v.k ++ ⟨#[32, 40]⟩ ++ shortS ⟨(textV m v).toArray⟩ ++ ⟨#[41]⟩
theorem tellS_size (m : Nat) (v : V) : (tellS m v).size ≤ 1000 := by
  unfold tellS
  have h1 := name_size v.k
  have h2 := shortS_size (textV m v)
  rw [ByteArray.size_append, ByteArray.size_append, ByteArray.size_append]
  show (nameV v.k).size + 2 + (shortS ⟨(textV m v).toArray⟩).size + 1 ≤ 1000
  omega
set_option maxRecDepth 100000 in
set_option maxHeartbeats 2000000 in
theorem tellS_any (m : Nat) (v : V) (d : Nat) (lv kv : Value) (w : World) (hN : NumW w) (h : At w w.heap.size m v lv kv) (hr : rightV d v = true) (hlen : (textV m v).length ≤ 1000000000) (h0 : 0 ≤ v.k) (h6 : v.k ≤ 6) :
    Calls Tryz.prog 117 #[.agg (cellsV v lv kv)] w fun e w' => e = .returned (.string (tellS m v)) ∧ Below w.heap.size w w' := by
  have hsf := run_store_float Tryz.prog
  have hsh := fun W (hb : Below w.heap.size w W) => Short_any m v d lv kv W (hN.below hb) (At.more hb.size _ _ _ _ (h.below hb)) hr hlen
  obtain ⟨a1, n1, k1, a2, n2, k2, rfl, rfl⟩ := h.slices
  have hna := fun W => Name_any v a1 n1 k1 a2 n2 k2 h0 h6 W
  unfold cellsV at hsh hna ⊢
  unfold tellS
  obtain ⟨T, hT⟩ : ∃ T, shortS ⟨(textV m v).toArray⟩ = T := ⟨_, rfl⟩
  obtain ⟨N, hNm⟩ : ∃ N, nameV v.k = N := ⟨_, rfl⟩
  rw [hT] at hsh ⊢
  rw [hNm] at hna ⊢
  have hNs : N.size ≤ 7 := by rw [← hNm]; exact name_size _
  have hTs : T.size ≤ 100 := by rw [← hT]; exact shortS_size _
  have sm1 := fun W : World => run_string_add_sum (P := Tryz.prog) W N ⟨#[32, 40]⟩ (by show N.size + 2 ≤ _; omega)
  have sm2 := fun W : World => run_string_add_sum (P := Tryz.prog) W (N ++ ⟨#[32, 40]⟩) T (by rw [ByteArray.size_append]; show N.size + 2 + T.size ≤ _; omega)
  have sm3 := fun W : World => run_string_add_sum (P := Tryz.prog) W (N ++ ⟨#[32, 40]⟩ ++ T) ⟨#[41]⟩ (by rw [ByteArray.size_append, ByteArray.size_append]; show N.size + 2 + T.size + 1 ≤ _; omega)
  have HSH := Lib.hid hsh
  have HNA := Lib.hid hna
  clear hsh hna hT hNm h hN hr hlen h0 h6
  go_enter Tryz.func117, Tryz.ntmps117
  go_wp2_with fail
  have hr0 := heap_alloc_new w (Obj.cells #[.int .i64 v.k, .float .f64 v.f, .string v.s, .slice a1 n1 k1, .slice a2 n2 k2] 27)
  have hb0 := (Below.refl w.heap.size w).alloc (Nat.le_refl _) (Obj.cells #[.int .i64 v.k, .float .f64 v.f, .string v.s, .slice a1 n1 k1, .slice a2 n2 k2] 27)
  have hz0 : w.heap.size < (w.alloc (Obj.cells #[.int .i64 v.k, .float .f64 v.f, .string v.s, .slice a1 n1 k1, .slice a2 n2 k2] 27)).heap.size := by simp
  generalize w.alloc (Obj.cells #[.int .i64 v.k, .float .f64 v.f, .string v.s, .slice a1 n1 k1, .slice a2 n2 k2] 27) = W0 at hr0 hb0 hz0 ⊢
  obtain ⟨c0, c1, c2, c3, c4, _⟩ := row5' hr0
  have HR := Lib.hid hr0
  have HB := Lib.hid hb0.drew
  have HZ := Lib.hid hz0
  clear hr0 hb0 hz0
  go_region_with (first
    | (go_at_call 24; refine (HNA.out _).mono ?_; rintro e w2 ⟨rfl, hb2⟩; obtain ⟨x0, x1, x2, x3, x4, _⟩ := row5' ((hb2.block _ (by first | exact HZ.out | exact Nat.lt_of_lt_of_le HZ.out hb3.size)).trans (by first | exact HR.out | exact (hb3.block _ HZ.out).trans HR.out)))
    | (go_at_call 152; refine (HSH.out _ (by first | exact HB.out | exact HB.out.trans (hb2.mono HB.out.size))).mono ?_; rintro e w3 ⟨rfl, hb3⟩; obtain ⟨y0, y1, y2, y3, y4, _⟩ := row5' ((hb3.block _ (by first | exact HZ.out | exact Nat.lt_of_lt_of_le HZ.out hb2.size)).trans (by first | exact HR.out | exact (hb2.block _ HZ.out).trans HR.out))))
  all_goals
    go_wp2_with fail
    go_ret
    first
      | exact ⟨rfl, HB.out.trans ((hb2.mono HB.out.size).trans (hb3.mono (Nat.le_trans HB.out.size hb2.size)))⟩
      | exact ⟨rfl, HB.out.trans ((hb3.mono HB.out.size).trans (hb2.mono (Nat.le_trans HB.out.size hb3.size)))⟩
end Go.Proofs.YtdlighmnlcklnaaGreatDoor
namespace Go.Proofs.YtdlighmnlcklnaaGreatDoor
open Go Go.RowKit

theorem both_no (k : Int) (k1 k2 : Int) (f1 f2 : Nat) (s1 s2 : ByteArray) (a1 a2 a3 a4 : Option Addr) (n1 n2 n3 n4 c1 c2 c3 c4 : Nat) (w : World) (h : (k1 == k && k2 == k) = false) :
    Calls Tryz.prog 82 #[.int .i64 k, .agg #[.int .i64 k1, .float .f64 f1, .string s1, .slice a1 n1 c1, .slice a2 n2 c2], .agg #[.int .i64 k2, .float .f64 f2, .string s2, .slice a3 n3 c3, .slice a4 n4 c4]] w fun e w' => e = .returned (.bool false) ∧ Below w.heap.size w w' := by
  have := both_any k k1 k2 f1 f2 s1 s2 a1 a2 a3 a4 n1 n2 n3 n4 c1 c2 c3 c4 w
  rw [h] at this
  exact this
set_option maxRecDepth 100000 in
set_option maxHeartbeats 4000000 in
theorem add_none (ta tb : ByteArray) (k1 k2 : Int) (f1 f2 : Nat) (s1 s2 : ByteArray) (a1 a2 a3 a4 : Option Addr) (n1 n2 n3 n4 c1 c2 c3 c4 : Nat) (w : World)
    (hta : ∀ W, Below w.heap.size w W → Calls Tryz.prog 117 #[.agg #[.int .i64 k1, .float .f64 f1, .string s1, .slice a1 n1 c1, .slice a2 n2 c2]] W fun e w' => e = .returned (.string ta) ∧ Below W.heap.size W w')
    (htb : ∀ W, Below w.heap.size w W → Calls Tryz.prog 117 #[.agg #[.int .i64 k2, .float .f64 f2, .string s2, .slice a3 n3 c3, .slice a4 n4 c4]] W fun e w' => e = .returned (.string tb) ∧ Below W.heap.size W w')
    (la : ta.size ≤ 1000) (lb : tb.size ≤ 1000) (h1 : k1 ≠ 0) (h2 : k2 ≠ 0) (hno : ∀ k : Int, 3 ≤ k → k ≤ 6 → (k1 == k && k2 == k) = false) :
    Calls Tryz.prog 50 #[.agg #[.int .i64 k1, .float .f64 f1, .string s1, .slice a1 n1 c1, .slice a2 n2 c2], .agg #[.int .i64 k2, .float .f64 f2, .string s2, .slice a3 n3 c3, .slice a4 n4 c4]] w fun e w' => e = .returned (.tuple #[.agg zeroA, .agg (errA (ta ++ ⟨#[32, 97, 110, 100, 32]⟩ ++ tb ++ ⟨#[32]⟩ ++ ⟨#[99, 97, 110, 110, 111, 116, 32, 98, 101, 32, 97, 100, 100, 101, 100]⟩))]) ∧ Below w.heap.size w w' := by
  have hsf := run_store_float Tryz.prog
  have HTA := Lib.hid hta
  have HTB := Lib.hid htb
  have hrf := fun W (hW : Below w.heap.size w W) => refused_any ta tb ⟨#[99, 97, 110, 110, 111, 116, 32, 98, 101, 32, 97, 100, 100, 101, 100]⟩ #[.int .i64 k1, .float .f64 f1, .string s1, .slice a1 n1 c1, .slice a2 n2 c2] #[.int .i64 k2, .float .f64 f2, .string s2, .slice a3 n3 c3, .slice a4 n4 c4] k1 k2 f1 f2 s1 s2 a1 a2 a3 a4 n1 n2 n3 n4 c1 c2 c3 c4 W rfl rfl (fun V hV => HTA.out V (hW.trans (hV.mono hW.size))) (fun V hV => HTB.out V (hW.trans (hV.mono hW.size))) la lb (by decide)
  obtain ⟨S, hS⟩ : ∃ S, ta ++ ⟨#[32, 97, 110, 100, 32]⟩ ++ tb ++ ⟨#[32]⟩ ++ ⟨#[99, 97, 110, 110, 111, 116, 32, 98, 101, 32, 97, 100, 100, 101, 100]⟩ = S := ⟨_, rfl⟩
  rw [hS] at hrf ⊢
  have HRF := Lib.hid hrf
  clear hrf hta htb hS
  have HBO := Lib.hid (fun (k : Int) (hk : 3 ≤ k ∧ k ≤ 6) W => both_no k k1 k2 f1 f2 s1 s2 a1 a2 a3 a4 n1 n2 n3 n4 c1 c2 c3 c4 W (hno k hk.1 hk.2))
  have d1 : (k1 == 0) = false := by simpa using h1
  have d2 : (k2 == 0) = false := by simpa using h2
  clear h1 h2 hno
  go_enter Tryz.func50, Tryz.ntmps50
  go_wp2_with fail
  have hr := R4.new w #[.int .i64 k1, .float .f64 f1, .string s1, .slice a1 n1 c1, .slice a2 n2 c2] #[.int .i64 k2, .float .f64 f2, .string s2, .slice a3 n3 c3, .slice a4 n4 c4] zeroA okA
  have hb := four_below w (.cells #[.int .i64 k1, .float .f64 f1, .string s1, .slice a1 n1 c1, .slice a2 n2 c2] 27) (.cells #[.int .i64 k2, .float .f64 f2, .string s2, .slice a3 n3 c3, .slice a4 n4 c4] 27) (.cells zeroA 27) (.cells okA 31)
  have he : ((((w.alloc (.cells #[.int .i64 k1, .float .f64 f1, .string s1, .slice a1 n1 c1, .slice a2 n2 c2] 27)).alloc (.cells #[.int .i64 k2, .float .f64 f2, .string s2, .slice a3 n3 c3, .slice a4 n4 c4] 27)).alloc (.cells zeroA 27)).alloc (.cells okA 31)) = ((((w.alloc (.cells #[.int .i64 k1, .float .f64 f1, .string s1, .slice a1 n1 c1, .slice a2 n2 c2] 27)).alloc (.cells #[.int .i64 k2, .float .f64 f2, .string s2, .slice a3 n3 c3, .slice a4 n4 c4] 27)).alloc (.cells #[.int .i64 0, .float .f64 0, .string ⟨#[]⟩, .slice none 0 0, .slice none 0 0] 27)).alloc (.cells #[.bool false, .int .i64 0, .float .f64 0, .string ⟨#[]⟩, .slice none 0 0, .slice none 0 0] 31)) := rfl
  rw [he] at hr hb
  clear he
  generalize ((((w.alloc (.cells #[.int .i64 k1, .float .f64 f1, .string s1, .slice a1 n1 c1, .slice a2 n2 c2] 27)).alloc (.cells #[.int .i64 k2, .float .f64 f2, .string s2, .slice a3 n3 c3, .slice a4 n4 c4] 27)).alloc (.cells #[.int .i64 0, .float .f64 0, .string ⟨#[]⟩, .slice none 0 0, .slice none 0 0] 27)).alloc (.cells #[.bool false, .int .i64 0, .float .f64 0, .string ⟨#[]⟩, .slice none 0 0, .slice none 0 0] 31)) = W0 at hr hb ⊢
  obtain ⟨x0, x1, x2, x3, x4, _⟩ := row5' hr.r0
  obtain ⟨y0, y1, y2, y3, y4, _⟩ := row5' hr.r1
  have HR := Lib.hid hr
  have HB := Lib.hid hb
  clear hr hb
  refine (HBO.out 3 (by omega) _).mono ?_
  rintro e w2 ⟨rfl, hb2⟩
  have R2 := Lib.hid (HR.out.below hb2)
  have B2 := Lib.hid (HB.out.trans (hb2.mono HB.out.size))
  clear hb2 x0 x1 x2 x3 x4 y0 y1 y2 y3 y4
  obtain ⟨x0, x1, x2, x3, x4, _⟩ := row5' R2.out.r0
  obtain ⟨y0, y1, y2, y3, y4, _⟩ := row5' R2.out.r1
  go_wp2_with fail
  refine (HBO.out 4 (by omega) _).mono ?_
  rintro e w3 ⟨rfl, hb3⟩
  have R3 := Lib.hid (R2.out.below hb3)
  have B3 := Lib.hid (B2.out.trans (hb3.mono B2.out.size))
  clear hb3 x0 x1 x2 x3 x4 y0 y1 y2 y3 y4
  obtain ⟨x0, x1, x2, x3, x4, _⟩ := row5' R3.out.r0
  obtain ⟨y0, y1, y2, y3, y4, _⟩ := row5' R3.out.r1
  go_wp2_with fail
  refine (HBO.out 5 (by omega) _).mono ?_
  rintro e w4 ⟨rfl, hb4⟩
  have R4 := Lib.hid (R3.out.below hb4)
  have B4 := Lib.hid (B3.out.trans (hb4.mono B3.out.size))
  clear hb4 x0 x1 x2 x3 x4 y0 y1 y2 y3 y4
  obtain ⟨x0, x1, x2, x3, x4, _⟩ := row5' R4.out.r0
  obtain ⟨y0, y1, y2, y3, y4, _⟩ := row5' R4.out.r1
  go_wp2_with fail
  refine (HBO.out 6 (by omega) _).mono ?_
  rintro e w5 ⟨rfl, hb5⟩
  have R5 := Lib.hid (R4.out.below hb5)
  have B5 := Lib.hid (B4.out.trans (hb5.mono B4.out.size))
  clear hb5 x0 x1 x2 x3 x4 y0 y1 y2 y3 y4
  obtain ⟨x0, x1, x2, x3, x4, _⟩ := row5' R5.out.r0
  obtain ⟨y0, y1, y2, y3, y4, _⟩ := row5' R5.out.r1
  go_wp2_with fail
  refine (HRF.out _ B5.out).mono ?_
  rintro e w6 ⟨rfl, hb6⟩
  have R6 := Lib.hid (R5.out.below hb6)
  have B6 := Lib.hid (B5.out.trans (hb6.mono B5.out.size))
  clear hb6 x0 x1 x2 x3 x4 y0 y1 y2 y3 y4
  obtain ⟨x0, x1, x2, x3, x4, _⟩ := row5' R6.out.r0
  obtain ⟨y0, y1, y2, y3, y4, _⟩ := row5' R6.out.r1
  obtain ⟨⟨u0, u1, u2, u3, u4⟩, ⟨v0, v1, v2, v3, v4, v5⟩, g1, g2⟩ := R6.out.outs
  unfold zeroA errA
  go_wp2_with fail
  obtain ⟨q1, q2, q3⟩ := R6.out.ends B6.out (.int .i64 0) (.float .f64 0) (.string ⟨#[]⟩) (.slice none 0 0) (.slice none 0 0) (.bool true) (.int .i64 4) (.float .f64 0) (.string S) (.slice none 0 0) (.slice none 0 0)
  refine bodyPost_ret_by (results_two_rows rfl _ _ (w.heap.size + 2) (w.heap.size + 3) 27 31 _ _ (0, 0) (0, 0) _ _ rfl rfl q1 q2 Tryz.underlying27 rfl sizeVal Tryz.underlying31 rfl infoErr) rfl ?_
  exact ⟨rfl, q3⟩
/-- The same as what a call that may refuse answers. -/
theorem outP_err (B0 N m : Nat) (txt : ByteArray) (w' : World) : OutP B0 N (m + 1) none txt (.returned (.tuple #[.agg zeroA, .agg (errA txt)])) w' :=
  ⟨noV, _, _, true, 4, txt, rfl, noV_at _ _ _, Or.inr ⟨rfl, rfl, rfl, rfl, rfl⟩⟩
end Go.Proofs.YtdlighmnlcklnaaGreatDoor
