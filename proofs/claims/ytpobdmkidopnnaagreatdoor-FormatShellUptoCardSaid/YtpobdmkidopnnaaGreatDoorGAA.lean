/- Rows of cells that a call makes or is handed: what is read of them; the text of a row of bytes. No program stands here. -/
import Derived.WalkKit
import Derived.Below
import Derived.Laws.OwnMore
import Derived.Maps.AppendAt
import Derived.Deep.AppendLies
import Derived.Deep.Draws
import Derived.Lib.OthersKept
import Derived.Handy
import Derived.Laws.BytesArg
import Derived.Test.YtpobdmkidopnnaaGreatDoorProg
import Derived.ProofKit
import Derived.OpenShut
import Derived.Lib.Hide
import Derived.IntWalk
import Derived.Lib.UnsafeStr
import Derived.Lib.RuneCount
import Derived.Lib.RuneBytes
import Derived.Lib.DecodeN
import Derived.Lib.Strings
import Derived.Lib.IndexBytes
import Derived.PlainAid
import Derived.WalkLawsBesides
import Derived.Laws.Externs
import Derived.Laws.AppendOwnNone
namespace Go.Proofs.YtpobdmkidopnnaaGreatDoor
open Go Go.RowKit Go.WideShapes

theorem add_block (a : Addr) (n : Nat) : (a.add n).block = a.block := by unfold Addr.add; split <;> rfl

/-- 'v' is a slice whose elements (a cell each) are xs; they lie below block B. -/
def Arr (w : World) (B : Nat) (v : Value) (xs : List Value) : Prop :=
  ∃ A c, v = .slice A xs.length c ∧ (0 < xs.length → ∃ ad : Addr, A = some ad ∧ ad.block < B ∧ ∀ j u, xs[j]? = some u → w.cell? (ad.add j) = some u)

theorem below_drewN {B : Nat} {a w : World} (h : Below B a w) (n : Nat) : Below B a (w.drewN n) := ⟨h.os, h.tape, h.output, h.size, h.block⟩

section
variable {w w' : World} {B B' : Nat} {v : Value} {xs : List Value}
theorem Arr.keep (h : Arr w B v xs) (hk : ∀ p : Addr, p.block < B → w'.cell? p = w.cell? p) : Arr w' B v xs := by
  obtain ⟨A, c, rfl, h⟩ := h
  refine ⟨A, c, rfl, fun hn => ?_⟩
  obtain ⟨ad, e, hb, hc⟩ := h hn
  exact ⟨ad, e, hb, fun j u hu => (hk _ (by rw [add_block]; exact hb)).trans (hc j u hu)⟩
theorem Arr.below (h : Arr w B v xs) (hb : Below B w w') : Arr w' B v xs := h.keep fun _ hp => hb.cell hp
theorem Arr.more (h : Arr w B v xs) (hB : B ≤ B') : Arr w B' v xs := by
  obtain ⟨A, c, rfl, h⟩ := h
  refine ⟨A, c, rfl, fun hn => ?_⟩
  obtain ⟨ad, e, hb, hc⟩ := h hn
  exact ⟨ad, e, by omega, hc⟩
theorem Arr.nil (w : World) (B : Nat) : Arr w B (.slice none 0 0) [] := ⟨none, 0, rfl, fun h => absurd h (by simp)⟩
theorem Arr.of_own {base : Nat} {e : TypeId} {n : Nat} (h : w.ownsRow base e 1 v n xs) (hB : w.heap.size ≤ B) : Arr w B v xs := by
  have hl : xs.length = n := by have := h.1; omega
  rcases h.2 with ⟨rfl, h0⟩ | ⟨g, cap, cur, rfl, _, hh, _⟩
  · exact ⟨none, 0, by rw [hl, h0], fun hn => by omega⟩
  · refine ⟨some ⟨g, 0, none⟩, cap, by rw [hl], fun _ => ⟨_, rfl, ?_, h.cells (g := g) rfl⟩⟩
    have := (h.lt g rfl).2
    simp only
    omega
end

theorem arr_string {P : Program} {w : World} {B : Nat} {v : Value} {l : List UInt8} (h : Arr w B v (Lib.byteCells l)) (src dst e : TypeId)
    (hs : P.underlying src = some (.slice e)) (he : P.underlying e = some (.int .u8)) (hd : P.underlying dst = some .string) :
    (convert src dst v).run P w = .ok (.string ⟨l.toArray⟩) w := by
  obtain ⟨A, c, rfl, hc⟩ := h
  rw [Lib.byteCells_length] at *
  rcases A with _ | ad
  · have h0 : l = [] := by
      rcases Nat.eq_zero_or_pos l.length with h | h
      · exact List.eq_nil_of_length_eq_zero h
      · obtain ⟨ad, h2, _⟩ := hc h; cases h2
    subst h0
    exact run_convert_bytes_nil w src e hs he _ _ dst hd
  · have hcell : ∀ j u, (Lib.byteCells l)[j]? = some u → w.cell? (ad.add j) = some u := by
      intro j u hu
      rcases Nat.eq_zero_or_pos l.length with h | h
      · rw [List.eq_nil_of_length_eq_zero h] at hu; cases hu
      · obtain ⟨ae, h2, _, h3⟩ := hc h
        injection h2 with h2
        subst h2
        exact h3 j u hu
    have hl := run_loadCells_list (P := P) w ad (Lib.byteCells l) hcell
    rw [Lib.byteCells_length] at hl
    have e1 : Lib.byteCells l = (l.map fun b => (b.toNat : Int)).map (Value.int .u8) := by unfold Lib.byteCells; rw [List.map_map]; rfl
    rw [e1] at hl
    rw [run_convert_bytes_string w src dst e _ _ _ hs he hd, run_bytesToString w ad _ _ _ hl, foldl_push_bytes, List.map_map]
    have e2 : (l.map ((fun n : Int => UInt8.ofNat n.toNat) ∘ fun b => (b.toNat : Int))) = l := by
      conv => rhs; rw [← List.map_id l]
      apply List.map_congr_left
      intro x _
      simp
    rw [e2]
    simp [ByteArray.empty, ByteArray.emptyWithCapacity]
    rfl
end Go.Proofs.YtpobdmkidopnnaaGreatDoor
namespace Go.Proofs.YtpobdmkidopnnaaGreatDoor
open Go Go.RowKit

/-- A value: its kind, the bits of its number, its string, its values, its keys. -/
inductive V where
  | mk (k : Int) (f : Nat) (s : ByteArray) (l : List V) (ks : List ByteArray)
def V.k : V → Int | .mk k _ _ _ _ => k
def V.f : V → Nat | .mk _ f _ _ _ => f
def V.s : V → ByteArray | .mk _ _ s _ _ => s
def V.l : V → List V | .mk _ _ _ l _ => l
def V.ks : V → List ByteArray | .mk _ _ _ _ ks => ks
instance : Inhabited V := ⟨.mk 0 0 ⟨#[]⟩ [] []⟩

/-- What a value with these two slices reads as: its five cells. -/
def cellsV (v : V) (lv kv : Value) : Array Value := #[.int .i64 v.k, .float .f64 v.f, .string v.s, lv, kv]
def keysLen (ks : List ByteArray) : Nat := (ks.map ByteArray.size).sum
/-- The five cells at a place. -/
def FiveAt (w : World) (b o : Nat) (v : V) (lv kv : Value) : Prop :=
  w.cell? ⟨b, o, none⟩ = some (.int .i64 v.k) ∧ w.cell? ⟨b, o + 1, none⟩ = some (.float .f64 v.f) ∧ w.cell? ⟨b, o + 2, none⟩ = some (.string v.s) ∧ w.cell? ⟨b, o + 3, none⟩ = some lv ∧ w.cell? ⟨b, o + 4, none⟩ = some kv
/-- What belongs to a value's own cells: bounds that its bulk gives. -/
def Small (v : V) : Prop := -9223372036854775808 ≤ v.k ∧ v.k ≤ 9223372036854775807 ∧ v.f < 18446744073709551616 ∧ v.s.size ≤ 1048576 ∧ v.l.length ≤ 1048576 ∧ v.ks.length ≤ 1048576 ∧ keysLen v.ks ≤ 1048576
/-- 'v' is a slice whose elements (a cell each) are xs; they lie in a block of which p holds. -/
def ArrP (w : World) (p : Nat → Prop) (v : Value) (xs : List Value) : Prop :=
  ∃ A c, v = .slice A xs.length c ∧ (0 < xs.length → ∃ ad : Addr, A = some ad ∧ p ad.block ∧ ∀ j u, xs[j]? = some u → w.cell? (ad.add j) = some u)
/-- A slice has at least the room of its elements; nil has no room. -/
def Caps (v : Value) : Prop := ∀ A n c, v = .slice A n c → n ≤ c ∧ c ≤ maxLen ∧ (A = none → c = 0)
/-- A row of keys. -/
def KeysAtP (w : World) (p : Nat → Prop) (kv : Value) (ks : List ByteArray) : Prop := ArrP w p kv (ks.map Value.string) ∧ Caps kv
def KeysAt (w : World) (B : Nat) (kv : Value) (ks : List ByteArray) : Prop := Arr w B kv (ks.map Value.string) ∧ Caps kv
/-- The slices lv, kv are those of value v, of at most n levels; p holds of all blocks in which it lies. -/
def AtP (w : World) (p : Nat → Prop) : Nat → V → Value → Value → Prop
  | 0, _, _, _ => False
  | n + 1, v, lv, kv => Small v ∧ KeysAtP w p kv v.ks ∧ Caps lv ∧ ∃ (a : Option Addr) (c b o : Nat), lv = .slice a v.l.length c ∧ (0 < v.l.length → a = some ⟨b, o, none⟩ ∧ p b) ∧
      ∀ i (h : i < v.l.length), ∃ lv' kv', FiveAt w b (o + i * 5) (v.l[i]) lv' kv' ∧ AtP w p n (v.l[i]) lv' kv'
/-- .. all of it lies below block B. -/
def At (w : World) (B : Nat) (n : Nat) (v : V) (lv kv : Value) : Prop := AtP w (fun b => b < B) n v lv kv
theorem At.opened {w : World} {B n : Nat} {v : V} {lv kv : Value} (h : At w B (n + 1) v lv kv) : Small v ∧ KeysAt w B kv v.ks ∧ Caps lv ∧ ∃ (a : Option Addr) (c b o : Nat), lv = .slice a v.l.length c ∧ (0 < v.l.length → a = some ⟨b, o, none⟩ ∧ b < B) ∧
      ∀ i (h : i < v.l.length), ∃ lv' kv', FiveAt w b (o + i * 5) (v.l[i]) lv' kv' ∧ At w B n (v.l[i]) lv' kv' := h
theorem ArrP.keep {w w' : World} {p : Nat → Prop} {v : Value} {xs : List Value} (h : ArrP w p v xs) (hk : ∀ a : Addr, p a.block → w'.cell? a = w.cell? a) : ArrP w' p v xs := by
  obtain ⟨A, c, rfl, h⟩ := h
  refine ⟨A, c, rfl, fun hn => ?_⟩
  obtain ⟨ad, e, hb, hc⟩ := h hn
  exact ⟨ad, e, hb, fun j u hu => (hk _ (by rw [add_block]; exact hb)).trans (hc j u hu)⟩
theorem FiveAt.keepP {w w' : World} {p : Nat → Prop} {b o : Nat} {v : V} {lv kv : Value} (h : FiveAt w b o v lv kv) (hb : p b) (hk : ∀ a : Addr, p a.block → w'.cell? a = w.cell? a) : FiveAt w' b o v lv kv := by
  obtain ⟨h0, h1, h2, h3, h4⟩ := h
  exact ⟨(hk ⟨b, o, none⟩ hb).trans h0, (hk ⟨b, o + 1, none⟩ hb).trans h1, (hk ⟨b, o + 2, none⟩ hb).trans h2, (hk ⟨b, o + 3, none⟩ hb).trans h3, (hk ⟨b, o + 4, none⟩ hb).trans h4⟩
theorem AtP.keep {w w' : World} {p : Nat → Prop} (hk : ∀ a : Addr, p a.block → w'.cell? a = w.cell? a) : ∀ (n : Nat) (v : V) (lv kv : Value), AtP w p n v lv kv → AtP w' p n v lv kv
  | 0, _, _, _, h => h.elim
  | n + 1, v, lv, kv, h => by
    obtain ⟨hs, ha, hcp, a, c, b, o, e, hab, hi⟩ := h
    refine ⟨hs, ⟨ha.1.keep hk, ha.2⟩, hcp, a, c, b, o, e, hab, fun i hlt => ?_⟩
    obtain ⟨lv', kv', h5, h⟩ := hi i hlt
    exact ⟨lv', kv', h5.keepP (hab (by omega)).2 hk, AtP.keep hk n _ _ _ h⟩
theorem AtP.more {w : World} {p q : Nat → Prop} (hpq : ∀ b, p b → q b) : ∀ (n : Nat) (v : V) (lv kv : Value), AtP w p n v lv kv → AtP w q n v lv kv
  | 0, _, _, _, h => h.elim
  | n + 1, v, lv, kv, h => by
    obtain ⟨hs, ⟨⟨A, c0, e0, h0⟩, hn⟩, hcp, a, c, b, o, e, hab, hi⟩ := h
    refine ⟨hs, ⟨⟨A, c0, e0, fun h1 => ?_⟩, hn⟩, hcp, a, c, b, o, e, fun h0 => ⟨(hab h0).1, hpq _ (hab h0).2⟩, fun i hlt => ?_⟩
    · obtain ⟨ad, e1, hb, hc⟩ := h0 h1
      exact ⟨ad, e1, hpq _ hb, hc⟩
    · obtain ⟨lv', kv', h5, h⟩ := hi i hlt
      exact ⟨lv', kv', h5, AtP.more hpq n _ _ _ h⟩
theorem FiveAt.keep {w w' : World} {B b o : Nat} {v : V} {lv kv : Value} (h : FiveAt w b o v lv kv) (hb : b < B) (hk : ∀ p : Addr, p.block < B → w'.cell? p = w.cell? p) : FiveAt w' b o v lv kv := by
  obtain ⟨h0, h1, h2, h3, h4⟩ := h
  exact ⟨(hk ⟨b, o, none⟩ hb).trans h0, (hk ⟨b, o + 1, none⟩ hb).trans h1, (hk ⟨b, o + 2, none⟩ hb).trans h2, (hk ⟨b, o + 3, none⟩ hb).trans h3, (hk ⟨b, o + 4, none⟩ hb).trans h4⟩
theorem At.keep {w w' : World} {B : Nat} (hk : ∀ p : Addr, p.block < B → w'.cell? p = w.cell? p) (n : Nat) (v : V) (lv kv : Value) (h : At w B n v lv kv) : At w' B n v lv kv := AtP.keep (p := fun b => b < B) hk n v lv kv h
theorem At.below {w w' : World} {B : Nat} {n : Nat} {v : V} {lv kv : Value} (h : At w B n v lv kv) (hb : Below B w w') : At w' B n v lv kv := At.keep (fun _ hp => hb.cell hp) n v lv kv h
theorem At.more {w : World} {B B' : Nat} (hB : B ≤ B') (n : Nat) (v : V) (lv kv : Value) (h : At w B n v lv kv) : At w B' n v lv kv := AtP.more (fun b (hb : b < B) => (by omega : b < B')) n v lv kv h
theorem At.slices {w : World} {B : Nat} : ∀ {n : Nat} {v : V} {lv kv : Value}, At w B n v lv kv → ∃ a1 n1 c1 a2 n2 c2, lv = .slice a1 n1 c1 ∧ kv = .slice a2 n2 c2
  | 0, _, _, _, h => h.elim
  | n + 1, v, lv, kv, h => by
    obtain ⟨_, ⟨⟨a2, c2, e2, _⟩, _⟩, _, a, c, _, _, e, _⟩ := h.opened
    exact ⟨a, _, c, a2, _, c2, e, e2⟩
theorem Caps.of_own {w : World} {base : Nat} {e : TypeId} {size : Nat} {v : Value} {n : Nat} {xs : List Value} (h : w.ownsRow base e size v n xs) : Caps v := by
  intro A n' c hv
  rcases h.2 with ⟨e1, _⟩ | ⟨g, cap, cur, e1, _, _, h1, h2, _⟩
  · rw [e1] at hv; cases hv; exact ⟨Nat.le_refl _, by unfold maxLen; omega, fun _ => rfl⟩
  · rw [e1] at hv; cases hv; exact ⟨h1, h2, fun e => by cases e⟩
/-- A store of a number: a law that the library lacks. -/
theorem run_store_float (P : Program) (a : Addr) (x : Nat) (W : World) (m : Mode) : (store a (.float .f64 x) m).run P W = stored P W a (.float .f64 x) m := run_store P W a _ m rfl
theorem Arr.dest {w : World} {B : Nat} {v : Value} {xs : List Value} (h : Arr w B v xs) : ∃ (A : Option Addr) (ad : Addr) (c : Nat), v = .slice A xs.length c ∧ (0 < xs.length → A = some ad ∧ ad.block < B) ∧ ∀ j u, xs[j]? = some u → w.cell? (ad.add j) = some u := by
  obtain ⟨A, c, rfl, h⟩ := h
  rcases Nat.eq_zero_or_pos xs.length with h0 | h0
  · refine ⟨A, default, c, rfl, fun h => by omega, fun j u hu => ?_⟩
    have := (List.getElem?_eq_some_iff.1 hu).1
    omega
  · obtain ⟨ad, e, hb, hc⟩ := h h0
    exact ⟨A, ad, c, rfl, fun _ => ⟨e, hb⟩, hc⟩
/-- A cell of an elder block is as it was behind a new one. -/
theorem cell_old {w : World} {o : Obj} {p : Addr} (h : p.block < w.heap.size) : (w.alloc o).cell? p = w.cell? p := ((Below.refl w.heap.size w).alloc (Nat.le_refl _) o).cell h
end Go.Proofs.YtpobdmkidopnnaaGreatDoor
namespace Go.Proofs.YtpobdmkidopnnaaGreatDoor
open Go Go.RowKit

def l10P (x : Int) : Int := x * 78913 / 262144
def l2P (x : Int) : Int := x * 108853 / 32768
def skewP (e : Int) : Int := (e * 631305 - 261663) / 2097152
def ceilU (x : Int) : Int := IntKind.u64.wrap (x + 3) / 4
def floorU (x : Int) : Int := x / 4
def roundU (x : Int) : Int := IntKind.u64.wrap (IntKind.u64.wrap (x + 1) + bits .and .u64 (x / 4) 1) / 4
def nudgeU (x d : Int) : Int := IntKind.u64.wrap (x + IntKind.u64.wrap d)

set_option maxHeartbeats 400000 in
theorem log10Pow2_any (x : Int) (h0 : -100000 ≤ x) (h1 : x ≤ 100000) (w : World) : Calls Tryz.prog 351 #[.int .i64 x] w fun e w' => e = .returned (.int .i64 (l10P x)) ∧ w = w' := by
  go_enter Tryz.func351, Tryz.ntmps351
  go_wp2
  go_ret
  exact ⟨rfl, rfl⟩
set_option maxHeartbeats 400000 in
theorem log2Pow10_any (x : Int) (h0 : -100000 ≤ x) (h1 : x ≤ 100000) (w : World) : Calls Tryz.prog 375 #[.int .i64 x] w fun e w' => e = .returned (.int .i64 (l2P x)) ∧ w = w' := by
  go_enter Tryz.func375, Tryz.ntmps375
  go_wp2
  go_ret
  exact ⟨rfl, rfl⟩
set_option maxHeartbeats 400000 in
theorem skewed_any (x : Int) (h0 : -100000 ≤ x) (h1 : x ≤ 100000) (w : World) : Calls Tryz.prog 373 #[.int .i64 x] w fun e w' => e = .returned (.int .i64 (skewP x)) ∧ w = w' := by
  go_enter Tryz.func373, Tryz.ntmps373
  go_wp2
  go_ret
  exact ⟨rfl, rfl⟩
theorem ceil_any (x : Int) (_h0 : 0 ≤ x) (_h1 : x < 18446744073709551616) (w : World) : Calls Tryz.prog 378 #[.int .u64 x] w fun e w' => e = .returned (.int .u64 (ceilU x)) ∧ w = w' := by
  go_enter Tryz.func378, Tryz.ntmps378
  go_wp2
  go_ret
  exact ⟨rfl, rfl⟩
theorem floor_any (x : Int) (h0 : 0 ≤ x) (h1 : x < 18446744073709551616) (w : World) : Calls Tryz.prog 379 #[.int .u64 x] w fun e w' => e = .returned (.int .u64 (floorU x)) ∧ w = w' := by
  go_enter Tryz.func379, Tryz.ntmps379
  go_wp2
  go_ret
  exact ⟨rfl, rfl⟩
theorem round_any (x : Int) (_h0 : 0 ≤ x) (_h1 : x < 18446744073709551616) (w : World) : Calls Tryz.prog 380 #[.int .u64 x] w fun e w' => e = .returned (.int .u64 (roundU x)) ∧ w = w' := by
  go_enter Tryz.func380, Tryz.ntmps380
  go_wp2
  go_ret
  exact ⟨rfl, rfl⟩
theorem nudge_any (x d : Int) (_h0 : 0 ≤ x) (_h1 : x < 18446744073709551616) (w : World) : Calls Tryz.prog 377 #[.int .u64 x, .int .i64 d] w fun e w' => e = .returned (.int .u64 (nudgeU x d)) ∧ w = w' := by
  go_enter Tryz.func377, Tryz.ntmps377
  go_wp2
  go_ret
  exact ⟨rfl, rfl⟩
theorem bool2u_any (b : Bool) (w : World) : Calls Tryz.prog 393 #[.bool b] w fun e w' => e = .returned (.int .u64 (if b then 1 else 0)) ∧ w = w' := by
  cases b
  all_goals
    go_enter Tryz.func393, Tryz.ntmps393
    go_wp2
    go_ret
    exact ⟨rfl, rfl⟩
theorem bool2u_w (b : Bool) (w : World) : Calls Tryz.prog 393 #[.bool b] w fun e w' => e = .returned (.int .u64 (if b then 1 else 0)) ∧ w' = w := (bool2u_any b w).mono fun _ _ ⟨a, b⟩ => ⟨a, b.symm⟩
end Go.Proofs.YtpobdmkidopnnaaGreatDoor
namespace Go.Proofs.YtpobdmkidopnnaaGreatDoor
open Go Go.RowKit

theorem bc_len (l : List UInt8) : (Lib.byteCells l).length = l.length := by unfold Lib.byteCells; rw [List.length_map]
theorem bc_app (l m : List UInt8) : Lib.byteCells (l ++ m) = Lib.byteCells l ++ Lib.byteCells m := by unfold Lib.byteCells; rw [List.map_append]
theorem bc_one (l : List UInt8) : ∀ u ∈ Lib.byteCells l, u.oneCell' = true := by
  intro u hu
  obtain ⟨_, _, rfl⟩ := List.mem_map.1 hu
  rfl
theorem cell_kept {w w' : World} {r : Option Nat} {b : Nat} (hg : w.grownBy w' r) (hb : b < w.heap.size) (hr : r ≠ some b) (j : Nat) : w'.cell? ⟨b, j, none⟩ = w.cell? ⟨b, j, none⟩ :=
  World.cell?_of_block (w := w) (w' := w') (a := ⟨b, j, none⟩) (hg.block b hb (Ne.symm hr))

/-- v is a row of the call's own (from block h on) that holds acc; block b, another one, holds l. -/
structure Wr (w0 w : World) (e : TypeId) (h b : Nat) (l : List UInt8) (v : Value) (acc : List UInt8) : Prop where
  own : w.ownsRow h e 1 v acc.length (Lib.byteCells acc)
  apart : v.ownBlock ≠ some b
  cells : ∀ j (hj : j < l.length), w.cell? ⟨b, j, none⟩ = some (.int .u8 (l[j].toNat : Int))
  lt : b < w.heap.size
  base : h ≤ w.heap.size
  bel : Below h w0 w

theorem Wr.drewN {w0 w : World} {e : TypeId} {h b : Nat} {l : List UInt8} {v : Value} {acc : List UInt8} (k : Wr w0 w e h b l v acc) (n : Nat) : Wr w0 (w.drewN n) e h b l v acc :=
  ⟨k.own, k.apart, k.cells, k.lt, k.base, ⟨k.bel.os, k.bel.tape, k.bel.output, k.bel.size, k.bel.block⟩⟩

section
variable {P : Program} {w0 w : World} {e : TypeId} {h b : Nat} {l : List UInt8} {v : Value} {acc : List UInt8}
theorem wr_lit {ops : Array Oper} {rest : List Oper} {o : Oper} {a : Act} {Q : Exit → Act → World → Prop} (hgd : o.guard = none) (s x : Operand) (t : TypeId)
    (ho : o.op = .call { callee := .builtin .append, args := #[s, x], argTypes := #[t, t] })
    (ht : P.underlying t = some (.slice e)) (hi : (P.info? e).map (fun i => (i.zero, i.size, i.bytes)) = some (some (.int .u8 0), 1, 1))
    {us : Array Value} (news : List UInt8) (m : Nat) (k : Wr w0 w e h b l v acc) (hs : a.eval s = v) (hx : a.eval x = .slice (some ⟨w.heap.size, 0, none⟩) m m)
    (hus : us.toList = Lib.byteCells news) (hm : news.length = m) (hlen : acc.length + m ≤ 100000)
    (cont : ∀ v' w', Wr w0 w' e h b l v' (acc ++ news) → wpList P ops Q rest (a.put o.dst v') w') :
    wpList P ops Q (o :: rest) a (w.alloc (.cells us e)) := by
  obtain ⟨i0, hi0, hz0, hz1, hz2⟩ := info_parts hi
  refine wpList_append_own_at (w := w.alloc (.cells us e)) hgd s x t ho h e i0 (.int .u8 0) 1 1 ht hi0 hz0 hz1 hz2 rfl (by omega) v acc.length (Lib.byteCells acc) hs (k.own.alloc _) ⟨w.heap.size, 0, none⟩ m m (Lib.byteCells news) hx (by rw [bc_len]; omega) ?_ (bc_one _) (by unfold maxLen; omega) (by omega) (by simp only [World.size_alloc]; have := k.base; omega) ?_
  · intro j u hj
    have hb : (w.alloc (.cells us e)).heap[w.heap.size]? = some (.cells us e (0, 0)) := heap_alloc_new w _
    have : ((⟨w.heap.size, 0, none⟩ : Addr).add j) = ⟨w.heap.size, j, none⟩ := by unfold Addr.add; split <;> simp_all
    rw [this, cell_of_row _ _ j us e (0, 0) hb, ← Array.getElem?_toList, hus]
    exact hj
  · intro v' w' h2 h3 _ h5
    refine cont v' w' ⟨?_, ?_, ?_, ?_, ?_, ?_⟩
    · rw [bc_app, List.length_append, hm]; exact h2
    · rcases h5 with h5 | h5
      · rw [h5]; exact k.apart
      · rw [h5]
        intro hc
        injection hc with hc
        have := k.lt
        simp only [World.size_alloc] at hc
        omega
    · intro j hj
      rw [cell_kept h3 (by simp only [World.size_alloc]; have := k.lt; omega) k.apart j, World.cell?_alloc_lt _ _ _ k.lt]
      exact k.cells j hj
    · have := k.lt; have h9 := h3.size; simp only [World.size_alloc] at h9; omega
    · have := k.base; have h9 := h3.size; simp only [World.size_alloc] at h9; omega
    · exact (k.bel.alloc k.base _).grown h3 (by simp only [World.size_alloc]; have := k.base; omega) (fun g hg => (k.own.lt g hg).1)
theorem wr_src {ops : Array Oper} {rest : List Oper} {o : Oper} {a : Act} {Q : Exit → Act → World → Prop} (hgd : o.guard = none) (s x : Operand) (t : TypeId)
    (ho : o.op = .call { callee := .builtin .append, args := #[s, x], argTypes := #[t, t] })
    (ht : P.underlying t = some (.slice e)) (hi : (P.info? e).map (fun i => (i.zero, i.size, i.bytes)) = some (some (.int .u8 0), 1, 1))
    (i m c : Nat) (k : Wr w0 w e h b l v acc) (hs : a.eval s = v) (hx : a.eval x = .slice (some ⟨b, i, none⟩) m c)
    (hm : i + m ≤ l.length) (hlen : acc.length + m ≤ 100000)
    (cont : ∀ v' w', Wr w0 w' e h b l v' (acc ++ (l.drop i).take m) → wpList P ops Q rest (a.put o.dst v') w') :
    wpList P ops Q (o :: rest) a w := by
  obtain ⟨i0, hi0, hz0, hz1, hz2⟩ := info_parts hi
  have hml : ((l.drop i).take m).length = m := by rw [List.length_take, List.length_drop]; omega
  refine wpList_append_own_at (w := w) hgd s x t ho h e i0 (.int .u8 0) 1 1 ht hi0 hz0 hz1 hz2 rfl (by omega) v acc.length (Lib.byteCells acc) hs k.own ⟨b, i, none⟩ m c (Lib.byteCells ((l.drop i).take m)) hx (by rw [bc_len, hml]; omega) ?_ (bc_one _) (by unfold maxLen; omega) (by omega) k.base ?_
  · intro j u hj
    have hjm : j < m := by
      have := (List.getElem?_eq_some_iff.1 hj).1
      rw [bc_len, hml] at this
      exact this
    have hij : i + j < l.length := by omega
    have : ((⟨b, i, none⟩ : Addr).add j) = ⟨b, i + j, none⟩ := by unfold Addr.add; split <;> simp_all
    rw [this, k.cells (i + j) hij, ← hj]
    unfold Lib.byteCells
    rw [List.getElem?_map, List.getElem?_take, if_pos hjm, List.getElem?_drop, List.getElem?_eq_getElem hij]
    rfl
  · intro v' w' h2 h3 _ h5
    refine cont v' w' ⟨?_, ?_, ?_, ?_, ?_, ?_⟩
    · rw [bc_app, List.length_append, hml]; exact h2
    · rcases h5 with h5 | h5
      · rw [h5]; exact k.apart
      · rw [h5]
        intro hc
        injection hc with hc
        have := k.lt
        omega
    · intro j hj
      rw [cell_kept h3 k.lt k.apart j]
      exact k.cells j hj
    · have := h3.size; have := k.lt; omega
    · have := k.base; have h9 := h3.size; omega
    · exact k.bel.grown h3 k.base (fun g hg => (k.own.lt g hg).1)
end
end Go.Proofs.YtpobdmkidopnnaaGreatDoor
namespace Go.Proofs.YtpobdmkidopnnaaGreatDoor
open Go Go.RowKit

section
variable {w w' : World} {B B' : Nat} {v : Value} {xs : List Value}
end

section
variable {P : Program} {w : World}

/-- What an append of one element gives: the row is one longer; all other blocks stand. -/
theorem app_one {ops : Array Oper} {rest : List Oper} {o : Oper} {a : Act} {Q : Exit → Act → World → Prop} {u : Value} (hgd : o.guard = none) (s x : Operand) (t : TypeId)
    (ho : o.op = .call { callee := .builtin .append, args := #[s, x], argTypes := #[t, t] })
    (base : Nat) (e : TypeId) (z : Value) (bytes : Nat) (ht : P.underlying t = some (.slice e)) (hi : (P.info? e).map (fun i => (i.zero, i.size, i.bytes)) = some (some z, 1, bytes))
    (hzs : z.cells.size = 1)
    (v : Value) (n : Nat) (xs : List Value) (hs : a.eval s = v) (hown : w.ownsRow base e 1 v n xs)
    (hx : a.eval x = .slice (some ⟨w.heap.size, 0, none⟩) 1 1) (hu : u.oneCell' = true)
    (h63 : n + 1 ≤ maxLen) (hbytes : (n + 1) * bytes ≤ 140737488355328) (hbase : base ≤ w.heap.size)
    (h : ∀ v' w', w'.ownsRow base e 1 v' (n + 1) (xs ++ [u]) → (w.alloc (.cells #[u] e)).grownBy w' v.ownBlock → Below base w w' → wpList P ops Q rest (a.put o.dst v') w') :
    wpList P ops Q (o :: rest) a (w.alloc (.cells #[u] e)) := by
  obtain ⟨i0, hi0, hz0, hz1, hz2⟩ := info_parts hi
  refine wpList_append_own _ hgd s x t ho base e i0 z 1 bytes ht hi0 hz0 hz1 hz2 hzs (by omega) v n xs hs (hown.alloc _) ⟨w.heap.size, 0, none⟩ 1 1 [u] hx rfl ?_ ?_ h63 hbytes (by simp; omega) ?_
  · exact cell_one_new _ _ _
  · intro u' hu'
    simp at hu'
    subst hu'
    exact hu
  · intro v' w' h2 h3 _
    refine h v' w' h2 h3 ?_
    exact ((Below.refl base w).alloc hbase _).grown h3 (by simp; omega) (fun k hk => (hown.lt k hk).1)

/-- What an append of a literal's elements gives. -/
theorem app_news {ops : Array Oper} {rest : List Oper} {o : Oper} {a : Act} {Q : Exit → Act → World → Prop} {us : Array Value} (hgd : o.guard = none) (s x : Operand) (t : TypeId)
    (ho : o.op = .call { callee := .builtin .append, args := #[s, x], argTypes := #[t, t] })
    (base : Nat) (e : TypeId) (z : Value) (bytes : Nat) (ht : P.underlying t = some (.slice e)) (hi : (P.info? e).map (fun i => (i.zero, i.size, i.bytes)) = some (some z, 1, bytes))
    (hzs : z.cells.size = 1)
    (v : Value) (n : Nat) (xs : List Value) (hs : a.eval s = v) (hown : w.ownsRow base e 1 v n xs) (m : Nat) (hm : us.size = m)
    (hx : a.eval x = .slice (some ⟨w.heap.size, 0, none⟩) m m) (hu : ∀ u ∈ us.toList, u.oneCell' = true)
    (h63 : n + m ≤ maxLen) (hbytes : (n + m) * bytes ≤ 140737488355328) (hbase : base ≤ w.heap.size)
    (h : ∀ v' w', w'.ownsRow base e 1 v' (n + m) (xs ++ us.toList) → (w.alloc (.cells us e)).grownBy w' v.ownBlock → Below base w w' → wpList P ops Q rest (a.put o.dst v') w') :
    wpList P ops Q (o :: rest) a (w.alloc (.cells us e)) := by
  obtain ⟨i0, hi0, hz0, hz1, hz2⟩ := info_parts hi
  refine wpList_append_own _ hgd s x t ho base e i0 z 1 bytes ht hi0 hz0 hz1 hz2 hzs (by omega) v n xs hs (hown.alloc _) ⟨w.heap.size, 0, none⟩ m m us.toList hx (by simp [hm]) ?_ hu h63 hbytes (by simp; omega) ?_
  · intro j u' hj
    have hb : (w.alloc (.cells us e)).heap[w.heap.size]? = some (.cells us e (0, 0)) := heap_alloc_new w _
    rw [World.cell?_of_block (w := w.alloc (.cells us e)) (by rfl)]
    have : ((⟨w.heap.size, 0, none⟩ : Addr).add j) = ⟨w.heap.size, j, none⟩ := by unfold Addr.add; split <;> simp_all
    rw [this, cell_of_row _ _ j us e (0, 0) hb, ← Array.getElem?_toList]
    exact hj
  · intro v' w' h2 h3 _
    refine h v' w' h2 h3 ?_
    exact ((Below.refl base w).alloc hbase _).grown h3 (by simp; omega) (fun k hk => (hown.lt k hk).1)

/-- A string's iterator stands behind an append. -/
theorem iter_stands {base k n pos : Nat} {e : TypeId} {v : Value} {xs : List Value} {s : ByteArray} {w' : World} {o : Obj} (hown : w.ownsRow base e 1 v n xs)
    (hk : w.heap[k]? = some (.stringIter s pos)) (hg : (w.alloc o).grownBy w' v.ownBlock) : w'.heap[k]? = some (.stringIter s pos) := by
  have hlt : k < w.heap.size := by
    rcases Nat.lt_or_ge k w.heap.size with h | h
    · exact h
    · rw [Array.getElem?_eq_none h] at hk; cases hk
  rw [hg.block k (by simp; omega), Below.heap_alloc w o k hlt]
  · exact hk
  · intro hc
    rcases hown.2 with ⟨rfl, _⟩ | ⟨g, cap, cur, rfl, _, hh, _⟩
    · simp [Value.ownBlock] at hc
    · simp [Value.ownBlock] at hc
      subst hc
      rw [hk] at hh
      cases hh
theorem own_form {base n : Nat} {e : TypeId} {v : Value} {xs : List Value} (h : w.ownsRow base e 1 v n xs) : ∃ A c, v = .slice A n c := by
  rcases h.2 with ⟨rfl, rfl⟩ | ⟨g, cap, cur, rfl, _⟩
  · exact ⟨none, 0, rfl⟩
  · exact ⟨some ⟨g, 0, none⟩, cap, rfl⟩
/-- A row stands while an iterator is moved on. -/
theorem own_iterAt {base k n pos : Nat} {e : TypeId} {v : Value} {xs : List Value} {s : ByteArray} (hown : w.ownsRow base e 1 v n xs) (hk : w.heap[k]? = some (.stringIter s pos)) (pos' : Nat) :
    (w.iterAt k s pos').ownsRow base e 1 v n xs := by
  refine ⟨hown.1, ?_⟩
  rcases hown.2 with h | ⟨g, cap, cur, hv, hb, hh, r⟩
  · exact Or.inl h
  · refine Or.inr ⟨g, cap, cur, hv, hb, ?_, r⟩
    rw [Lib.iterAt_other]
    · exact hh
    · rintro rfl
      rw [hk] at hh
      cases hh
theorem own_lower {base base' n : Nat} {e : TypeId} {v : Value} {xs : List Value} (h : w.ownsRow base e 1 v n xs) (hb : base' ≤ base) : w.ownsRow base' e 1 v n xs := by
  refine ⟨h.1, ?_⟩
  rcases h.2 with h2 | ⟨g, cap, cur, hv, hg, r⟩
  · exact Or.inl h2
  · exact Or.inr ⟨g, cap, cur, hv, by omega, r⟩
/-- Rows of unlike elements lie in unlike blocks. -/
theorem own_apart {base base' n m g cap : Nat} {e e' : TypeId} {v : Value} {xs ys : List Value} (h : w.ownsRow base e 1 v n xs) (h' : w.ownsRow base' e' 1 (.slice (some ⟨g, 0, none⟩) m cap) m ys) (hne : e ≠ e') : v.ownBlock ≠ some g := by
  rcases h'.2 with ⟨h1, _⟩ | ⟨g', cap', cur', h1, _, hh', _⟩
  · cases h1
  · injection h1 with h1 _ _
    injection h1 with h1
    injection h1 with h1 _ _
    subst h1
    rcases h.2 with ⟨rfl, _⟩ | ⟨g2, cap2, cur2, rfl, _, hh, _⟩
    · simp [Value.ownBlock]
    · intro he
      have : g2 = g := by simpa [Value.ownBlock] using he
      subst this
      rw [hh] at hh'
      injection hh' with hh'
      injection hh' with _ h2
      exact hne h2
theorem own_block {base n : Nat} {e : TypeId} {v : Value} {xs : List Value} (h : w.ownsRow base e 1 v n xs) (hn : 0 < n) : ∃ g cap, v = .slice (some ⟨g, 0, none⟩) n cap ∧ base ≤ g := by
  rcases h.2 with ⟨_, h0⟩ | ⟨g, cap, cur, rfl, hg, _⟩
  · omega
  · exact ⟨g, cap, rfl, hg⟩
end
end Go.Proofs.YtpobdmkidopnnaaGreatDoor
namespace Go.Proofs.YtpobdmkidopnnaaGreatDoor
open Go

/-- Where the pieces begin, from a place on, by at most so many. -/
def stF (s : ByteArray) : Nat → Nat → List Nat
  | 0, _ => []
  | f + 1, pos => if pos < s.size then pos :: stF s f (pos + (Utf8.decode s pos).2) else []
def st (s : ByteArray) (pos : Nat) : List Nat := stF s (s.size - pos) pos

theorem wid (s : ByteArray) (pos : Nat) (h : pos < s.size) : 1 ≤ (Utf8.decode s pos).2 := Lib.decode_width_pos s pos h

theorem dec_fits (s : ByteArray) (pos : Nat) (h : pos < s.size) : pos + (Utf8.decode s pos).2 ≤ s.size ∧ (Utf8.decode s pos).2 ≤ 4 := by
  rw [Lib.decode_at]
  unfold Lib.decodeN
  repeat' split
  all_goals (simp only; omega)
theorem dec_point (s : ByteArray) (pos : Nat) : (Utf8.decode s pos).1 ≤ 1114111 ∧ ((Utf8.decode s pos).1 < 55296 ∨ 57343 < (Utf8.decode s pos).1) := by
  rw [Lib.decode_at]
  unfold Lib.decodeN
  repeat' split
  all_goals (simp only; omega)

theorem stF_more (s : ByteArray) : ∀ (f g pos : Nat), s.size - pos ≤ f → s.size - pos ≤ g → stF s f pos = stF s g pos := by
  intro f
  induction f with
  | zero =>
    intro g pos h1 _
    cases g with
    | zero => rfl
    | succ g => simp only [stF]; rw [if_neg (by omega)]
  | succ f ih =>
    intro g pos h1 h2
    by_cases hp : pos < s.size
    · cases g with
      | zero => omega
      | succ g =>
        have hw := wid s pos hp
        simp only [stF]
        rw [if_pos hp, if_pos hp, ih g _ (by omega) (by omega)]
    · cases g with
      | zero => simp only [stF]; rw [if_neg hp]
      | succ g => simp only [stF]; rw [if_neg hp, if_neg hp]

theorem st_cons (s : ByteArray) (pos : Nat) (h : pos < s.size) : st s pos = pos :: st s (pos + (Utf8.decode s pos).2) := by
  have hw := wid s pos h
  unfold st
  obtain ⟨f, hf⟩ : ∃ f, s.size - pos = f + 1 := ⟨s.size - pos - 1, by omega⟩
  rw [hf]
  simp only [stF]
  rw [if_pos h, stF_more s f (s.size - (pos + (Utf8.decode s pos).2)) _ (by omega) (by omega)]
theorem st_nil (s : ByteArray) (pos : Nat) (h : ¬ pos < s.size) : st s pos = [] := by
  unfold st
  rw [show s.size - pos = 0 from by omega]
  rfl
theorem st_length (s : ByteArray) : ∀ (k pos : Nat), s.size - pos ≤ k → (st s pos).length ≤ s.size - pos := by
  intro k
  induction k with
  | zero => intro pos h; rw [st_nil s pos (by omega)]; simp
  | succ k ih =>
    intro pos h
    by_cases hp : pos < s.size
    · have hw := wid s pos hp
      rw [st_cons s pos hp, List.length_cons]
      have := ih (pos + (Utf8.decode s pos).2) (by omega)
      omega
    · rw [st_nil s pos hp]; simp
theorem st_len (s : ByteArray) (pos : Nat) : (st s pos).length ≤ s.size - pos := st_length s _ pos (Nat.le_refl _)
/-- What lies in between: each begins within the text. -/
theorem st_mem (s : ByteArray) : ∀ (k pos : Nat), s.size - pos ≤ k → ∀ x ∈ st s pos, pos ≤ x ∧ x < s.size := by
  intro k
  induction k with
  | zero => intro pos h x hx; rw [st_nil s pos (by omega)] at hx; cases hx
  | succ k ih =>
    intro pos h x hx
    by_cases hp : pos < s.size
    · have hw := wid s pos hp
      rw [st_cons s pos hp] at hx
      rcases List.mem_cons.1 hx with rfl | hx
      · exact ⟨Nat.le_refl _, hp⟩
      · have := ih _ (by omega) x hx
        omega
    · rw [st_nil s pos hp] at hx; cases hx
theorem st_in (s : ByteArray) (pos x : Nat) (hx : x ∈ st s pos) : pos ≤ x ∧ x < s.size := st_mem s _ pos (Nat.le_refl _) x hx

/-- The pieces' code points. -/
def pts (s : ByteArray) (pos : Nat) : List Nat := (st s pos).map fun p => (Utf8.decode s p).1
theorem pts_cons (s : ByteArray) (pos : Nat) (h : pos < s.size) : pts s pos = (Utf8.decode s pos).1 :: pts s (pos + (Utf8.decode s pos).2) := by unfold pts; rw [st_cons s pos h]; rfl
theorem pts_nil (s : ByteArray) (pos : Nat) (h : ¬ pos < s.size) : pts s pos = [] := by unfold pts; rw [st_nil s pos h]; rfl
theorem pts_len (s : ByteArray) (pos : Nat) : (pts s pos).length ≤ s.size - pos := by unfold pts; rw [List.length_map]; exact st_len s pos
/-- Is what stands at a place a code point's bytes. -/
def good (s : ByteArray) (i : Nat) : Bool := decide (¬ ((Utf8.decode s i).1 = 65533 ∧ (Utf8.decode s i).2 = 1))
/-- Is each piece a code point's bytes. -/
def allGood (s : ByteArray) (pos : Nat) : Bool := (st s pos).all (good s)
theorem allGood_cons (s : ByteArray) (pos : Nat) (h : pos < s.size) : allGood s pos = (good s pos && allGood s (pos + (Utf8.decode s pos).2)) := by unfold allGood; rw [st_cons s pos h]; rfl
theorem allGood_nil (s : ByteArray) (pos : Nat) (h : ¬ pos < s.size) : allGood s pos = true := by unfold allGood; rw [st_nil s pos h]; rfl

/-- Is a number a code point. -/
def right (p : Int) : Bool := decide (0 ≤ p ∧ p ≤ 1114111 ∧ (p < 55296 ∨ 57343 < p))
/-- The text of code points: nothing, if one is none. -/
def textOf : List Int → Option (List UInt8)
  | [] => some []
  | p :: r => if right p then (textOf r).map (Lib.encodeRune p ++ ·) else none
def encAll (l : List Nat) : List UInt8 := l.flatMap fun (p : Nat) => Lib.encodeRune (p : Int)

/-- Blanks. -/
def blank (b : UInt8) : Bool := decide (b.toNat = 32 ∨ (9 ≤ b.toNat ∧ b.toNat ≤ 13))
end Go.Proofs.YtpobdmkidopnnaaGreatDoor
namespace Go.Proofs.YtpobdmkidopnnaaGreatDoor
open Go

theorem hasPrefix_three (l : List UInt8) (a b c : UInt8) : Lib.hasPrefix l [a, b, c] = true ↔ l[0]? = some a ∧ l[1]? = some b ∧ l[2]? = some c := by
  unfold Lib.hasPrefix
  match l with
  | [] => simp [List.isPrefixOf]
  | [x] => simp [List.isPrefixOf]
  | [x, y] => simp [List.isPrefixOf]
  | x :: y :: z :: r =>
    simp [List.isPrefixOf]
    constructor
    · rintro ⟨h1, h2, h3⟩; exact ⟨h1.symm, h2.symm, h3.symm⟩
    · rintro ⟨h1, h2, h3⟩; exact ⟨h1.symm, h2.symm, h3.symm⟩
theorem byte_is (s : ByteArray) (i : Nat) (a : UInt8) : s.data.toList[i]? = some a ↔ i < s.size ∧ (s.get! i).toNat = a.toNat := by
  by_cases h : i < s.size
  · have h' : i < s.data.toList.length := by simpa using h
    have e : s.get! i = s.data.toList[i] := by
      show s.data[i]! = _
      rw [getElem!_pos s.data i h]
      rfl
    rw [List.getElem?_eq_getElem h', e]
    constructor
    · intro h2; injection h2 with h2; rw [h2]; exact ⟨h, rfl⟩
    · rintro ⟨_, h2⟩; rw [UInt8.toNat_inj.1 h2]
  · rw [List.getElem?_eq_none (by simp; omega)]
    constructor
    · intro h2; cases h2
    · rintro ⟨h2, _⟩; exact absurd h2 h
theorem bad_num (n b0 b1 b2 b3 : Nat) (h0 : b0 < 256) (_h1 : b1 < 256) (_h2 : b2 < 256) (_hp : 0 < n) (hd : (Lib.decodeN n b0 b1 b2 b3).1 = 65533) :
    (b0 = 239 ∧ (1 < n ∧ b1 = 191) ∧ (2 < n ∧ b2 = 189)) ↔ ¬ ((Lib.decodeN n b0 b1 b2 b3).1 = 65533 ∧ (Lib.decodeN n b0 b1 b2 b3).2 = 1) := by
  revert hd
  unfold Lib.decodeN
  repeat' split
  all_goals intro hd
  all_goals simp only at hd ⊢
  all_goals (constructor <;> intro h <;> first | omega | (simp at h; done) | (simp at h; omega) | (simp; omega))
theorem bad_prefix (s : ByteArray) (pos : Nat) (h : pos < s.size) (hd : (Utf8.decode s pos).1 = 65533) : Lib.hasPrefix (s.extract pos s.size).data.toList [239, 191, 189] = good s pos := by
  rw [Bool.eq_iff_iff, hasPrefix_three, Lib.extract_to_end, List.getElem?_drop, List.getElem?_drop, List.getElem?_drop, byte_is, byte_is, byte_is]
  unfold good
  rw [decide_eq_true_iff]
  rw [Lib.decode_at] at hd ⊢
  have := bad_num (s.size - pos) _ _ _ _ (s.get! pos).toNat_lt (s.get! (pos + 1)).toNat_lt (s.get! (pos + 2)).toNat_lt (by omega) hd
  rw [← this]
  have e1 : (239 : UInt8).toNat = 239 := rfl
  have e2 : (191 : UInt8).toNat = 191 := rfl
  have e3 : (189 : UInt8).toNat = 189 := rfl
  rw [e1, e2, e3, Nat.add_zero]
  constructor
  · rintro ⟨⟨a, b⟩, ⟨c, d⟩, ⟨e, f⟩⟩; exact ⟨b, ⟨by omega, d⟩, ⟨by omega, f⟩⟩
  · rintro ⟨b, ⟨c, d⟩, ⟨e, f⟩⟩; exact ⟨⟨h, b⟩, ⟨by omega, d⟩, ⟨by omega, f⟩⟩
/-- The bytes of a part of a text, from a place up to ahead of another. -/
def cut (s : ByteArray) (a b : Nat) : List UInt8 := (s.data.toList.drop a).take (b - a)
end Go.Proofs.YtpobdmkidopnnaaGreatDoor
namespace Go.Proofs.YtpobdmkidopnnaaGreatDoor
open Go.RowKit

set_option maxHeartbeats 400000 in
theorem refRight_any (p : Int) (w : World) : Calls Tryz.prog 103 #[.int .i64 p] w fun e w' => e = .returned (.bool (right p)) ∧ w = w' := by
  go_enter Tryz.func103, Tryz.ntmps103
  go_wp2
  all_goals go_ret
  all_goals (refine ⟨?_, rfl⟩; simp [right, *] <;> (intros; omega))
end Go.Proofs.YtpobdmkidopnnaaGreatDoor
namespace Go.Proofs.YtpobdmkidopnnaaGreatDoor
open Go Go.RowKit

theorem bits_of (b : Nat) (w : World) : (callFunc 97 #[.float .f64 b]).run Tryz.prog w = .ok (.value (.int .u64 b)) w := by
  rw [run_callFunc_extern Tryz.func97 (by kernel_rfl) (by kernel_rfl) (by kernel_rfl) (e := Extern.MathFloatBits.float64bits) (by kernel_rfl)]
  rfl
def zeroV (b : Nat) : Bool := (b : Int) == 0
set_option maxHeartbeats 400000 in
theorem refZero_any (b : Nat) (w : World) : Calls Tryz.prog 78 #[.float .f64 b] w fun e w' => e = .returned (.bool (zeroV b)) ∧ w = w' := by
  have h1 := bits_of
  go_enter Tryz.func78, Tryz.ntmps78
  go_wp2_with fail
  go_ret
  exact ⟨rfl, rfl⟩
end Go.Proofs.YtpobdmkidopnnaaGreatDoor
namespace Go.Proofs.YtpobdmkidopnnaaGreatDoor
open Go Go.RowKit

theorem infoStr : (Tryz.prog.info? 9).map (fun i => (i.zero, i.size, i.bytes)) = some (some (.string ⟨#[]⟩), 1, 16) := by kernel_rfl
theorem app_arr {P : Program} {w : World} {ops : Array Oper} {rest : List Oper} {o : Oper} {a : Act} {Q : Exit → Act → World → Prop} (hgd : o.guard = none) (s x : Operand) (t : TypeId)
    (ho : o.op = .call { callee := .builtin .append, args := #[s, x], argTypes := #[t, t] })
    (base : Nat) (e : TypeId) (z : Value) (bytes : Nat) (ht : P.underlying t = some (.slice e)) (hi : (P.info? e).map (fun i => (i.zero, i.size, i.bytes)) = some (some z, 1, bytes)) (hzs : z.cells.size = 1)
    (v : Value) (n : Nat) (xs : List Value) (hs : a.eval s = v) (hown : w.ownsRow base e 1 v n xs)
    (B : Nat) (kv : Value) (ys : List Value) (harr : Arr w B kv ys) (hnil : ∀ n c, kv = .slice none n c → c = 0) (hx : a.eval x = kv) (h1 : ∀ u ∈ ys, u.oneCell' = true)
    (h63 : n + ys.length ≤ maxLen) (hbytes : (n + ys.length) * bytes ≤ 140737488355328) (hbase : base ≤ w.heap.size)
    (h : ∀ v' w', w'.ownsRow base e 1 v' (n + ys.length) (xs ++ ys) → w.grownBy w' v.ownBlock → (v'.ownBlock = v.ownBlock ∨ v'.ownBlock = some w.heap.size) → wpList P ops Q rest (a.put o.dst v') w') : wpList P ops Q (o :: rest) a w := by
  obtain ⟨i0, hi0, hz0, hz1, hz2⟩ := info_parts hi
  obtain ⟨A, c, rfl, hc⟩ := harr
  cases A with
  | none =>
    have h0 : ys = [] := by
      rcases Nat.eq_zero_or_pos ys.length with h | h
      · exact List.eq_nil_of_length_eq_zero h
      · obtain ⟨ad, h2, _⟩ := hc h; cases h2
    subst h0
    obtain rfl := hnil _ _ rfl
    refine wpList_append_own_none hgd s x t ho base e i0 1 ht hi0 v n xs hs hown hx ?_
    exact h v w (by simpa using hown) ⟨rfl, rfl, rfl, Nat.le_refl _, fun _ _ _ => rfl⟩ (Or.inl rfl)
  | some ad =>
    refine wpList_append_own_at (w := w) hgd s x t ho base e i0 z 1 bytes ht hi0 hz0 hz1 hz2 hzs (by omega) v n xs hs hown ad ys.length c ys hx (by omega) ?_ h1 h63 hbytes hbase fun v' w' h2 h3 _ h5 => h v' w' h2 h3 h5
    intro j u hj
    have hlt := (List.getElem?_eq_some_iff.1 hj).1
    obtain ⟨ad', e1, _, h4⟩ := hc (by omega)
    cases e1
    exact h4 j u hj
/-- A row of no cells that was just made is the call's own. -/
theorem own_fresh (w : World) (e : TypeId) (base g : Nat) (hg : g = w.heap.size) (hb : base ≤ g) : (w.alloc (.cells #[] e)).ownsRow base e 1 (.slice (some ⟨g, 0, none⟩) 0 0) 0 [] := by
  subst hg
  exact ⟨rfl, Or.inr ⟨w.heap.size, 0, #[], rfl, hb, heap_alloc_new w _, Nat.le_refl _, Nat.zero_le _, rfl, rfl⟩⟩
end Go.Proofs.YtpobdmkidopnnaaGreatDoor
namespace Go.Proofs.YtpobdmkidopnnaaGreatDoor
open Go Go.RowKit

def flat5 : List V → List (Value × Value) → List Value
  | v :: l, p :: ps => (cellsV v p.1 p.2).toList ++ flat5 l ps
  | _, _ => []
theorem flat5_snoc (x : V) (q : Value × Value) : ∀ (l : List V) (ps : List (Value × Value)), l.length = ps.length → flat5 (l ++ [x]) (ps ++ [q]) = flat5 l ps ++ (cellsV x q.1 q.2).toList
  | [], [], _ => by simp [flat5]
  | v :: l, p :: ps, h => by
    have := flat5_snoc x q l ps (by simpa using h)
    simp [flat5, this]
  | [], _ :: _, h => by simp at h
  | _ :: _, [], h => by simp at h
theorem flat5_at : ∀ (l : List V) (ps : List (Value × Value)), l.length = ps.length → ∀ i (h : i < l.length) (h2 : i < ps.length) (c : Nat), c < 5 → (flat5 l ps)[i * 5 + c]? = (cellsV l[i] ps[i].1 ps[i].2)[c]?
  | v :: l, p :: ps, hl, 0, _, _, c, hc => by
    show ((cellsV v p.1 p.2).toList ++ flat5 l ps)[0 * 5 + c]? = _
    rw [List.getElem?_append_left (by simp [cellsV]; omega)]
    simp
  | v :: l, p :: ps, hl, i + 1, h, h2, c, hc => by
    show ((cellsV v p.1 p.2).toList ++ flat5 l ps)[(i + 1) * 5 + c]? = _
    have e : (cellsV v p.1 p.2).toList.length = 5 := by simp [cellsV]
    rw [List.getElem?_append_right (by rw [e]; omega), e]
    have := flat5_at l ps (by simpa using hl) i (by simpa using h) (by simpa using h2) c hc
    have e2 : (i + 1) * 5 + c - 5 = i * 5 + c := by omega
    rw [e2, this]
    rfl
  | [], _, _, i, h, _, _, _ => by simp at h
  | _ :: _, [], hl, _, _, _, _, _ => by simp at hl
/-- The blocks of what has been copied: new ones, but for the row of the values themselves. -/
def NewB (n : Nat) (W : World) (lvv : Value) (b : Nat) : Prop := n + 2 < b ∧ b < W.heap.size ∧ some b ≠ lvv.ownBlock
structure CopyInv (w : World) (v : V) (m : Nat) (box : Array Value) (j : Nat) (lvv kvv : Value) (ps : List (Value × Value)) (W : World) : Prop where
  b0 : W.heap[w.heap.size]? = some (.cells box 27 (0, 0))
  b1 : W.heap[w.heap.size + 1]? = some (.cells #[.int .i64 0, .float .f64 0, .string ⟨#[]⟩, .slice none 0 0, .slice none 0 0] 27 (0, 0))
  b2 : W.heap[w.heap.size + 1 + 1]? = some (.cells (cellsV v lvv kvv) 27 (0, 0))
  own : W.ownsRow (w.heap.size + 3) 27 5 lvv j (flat5 (v.l.take j) ps)
  len : ps.length = j
  le : j ≤ v.l.length
  each : ∀ i (h : i < v.l.length) (h2 : i < ps.length), AtP W (NewB w.heap.size W lvv) m v.l[i] ps[i].1 ps[i].2
  keys : KeysAtP W (NewB w.heap.size W lvv) kvv v.ks
  bel : Below w.heap.size w W
theorem ArrP.more {w : World} {p q : Nat → Prop} {v : Value} {xs : List Value} (h : ArrP w p v xs) (hpq : ∀ b, p b → q b) : ArrP w q v xs := by
  obtain ⟨A, c, e, h⟩ := h
  refine ⟨A, c, e, fun h1 => ?_⟩
  obtain ⟨ad, e1, hb, hc⟩ := h h1
  exact ⟨ad, e1, hpq _ hb, hc⟩
theorem cell_of_block {w w' : World} {a : Addr} (h : w'.heap[a.block]? = w.heap[a.block]?) : w'.cell? a = w.cell? a := World.cell?_of_block h
theorem setCell_other_block {w : World} {R i k : Nat} (x : Value) (h : k ≠ R) : (w.setCell ⟨R, i, none⟩ x).heap[k]? = w.heap[k]? := by
  simp [World.setCell, Array.getElem?_modify]
  intro e; omega
set_option maxHeartbeats 1000000 in
theorem copy_step {w : World} {v : V} {m : Nat} {box : Array Value} {j : Nat} {lvv kvv : Value} {ps : List (Value × Value)} {W w2 w4 : World} {cs : Array Value} {a b : Value} {g cap : Nat} (hI : CopyInv w v m box j lvv kvv ps W) (hj : j < v.l.length)
    (h2 : Below W.heap.size W w2) (hat : AtP w2 (fun b => W.heap.size ≤ b ∧ b < w2.heap.size) m v.l[j] a b)
    (hown : w4.ownsRow (w.heap.size + 3) 27 5 (.slice (some ⟨g, 0, none⟩) (j + 1) cap) (j + 1) (flat5 (v.l.take j) ps ++ (cellsV v.l[j] a b).toList))
    (hgrow : (w2.alloc (.cells cs 27)).grownBy w4 lvv.ownBlock) (hgb : lvv.ownBlock = some g ∨ g = w2.heap.size + 1) :
    CopyInv w v m box (j + 1) (.slice (some ⟨g, 0, none⟩) (j + 1) cap) kvv (ps ++ [(a, b)]) (w4.setCell ⟨w.heap.size + 1 + 1, 3, none⟩ (.slice (some ⟨g, 0, none⟩) (j + 1) cap)) := by
  have hsz := h2.size
  have hs4 : w2.heap.size + 1 ≤ w4.heap.size := by have := hgrow.size; simpa using this
  have hs0 := hI.bel.size
  have l2 := (Array.getElem?_eq_some_iff.1 hI.b2).1
  have hlv : ∀ k, lvv.ownBlock = some k → w.heap.size + 3 ≤ k ∧ k < W.heap.size := fun k hk => hI.own.lt k hk
  -- an elder block that is not the row's stays up to w4
  have keep4 : ∀ k, k < w2.heap.size → some k ≠ lvv.ownBlock → w4.heap[k]? = w2.heap[k]? := fun k hk hn => by
    rw [hgrow.block k (by simp; omega) hn]
    show (w2.heap.push _)[k]? = _
    rw [Array.getElem?_push, if_neg (by omega)]
  have keepW : ∀ k, k < W.heap.size → some k ≠ lvv.ownBlock → w4.heap[k]? = W.heap[k]? := fun k hk hn => (keep4 k (by omega) hn).trans (h2.block k hk)
  have small : ∀ k, k < w.heap.size + 3 → some k ≠ lvv.ownBlock := fun k hk e => by have := (hlv k e.symm).1; omega
  have hS : (w4.setCell ⟨w.heap.size + 1 + 1, 3, none⟩ (.slice (some ⟨g, 0, none⟩) (j + 1) cap)).heap.size = w4.heap.size := by simp
  have q1 : ∀ b, NewB w.heap.size W lvv b → NewB w.heap.size (w4.setCell ⟨w.heap.size + 1 + 1, 3, none⟩ (.slice (some ⟨g, 0, none⟩) (j + 1) cap)) (.slice (some ⟨g, 0, none⟩) (j + 1) cap) b := by
    intro b hb
    obtain ⟨c1, c2, c3⟩ := hb
    refine ⟨c1, by rw [hS]; omega, ?_⟩
    intro e
    have e : b = g := by simpa [Value.ownBlock] using e
    rcases hgb with h | h
    · exact c3 (by rw [h, e])
    · omega
  have q2 : ∀ b, W.heap.size ≤ b ∧ b < w2.heap.size → NewB w.heap.size (w4.setCell ⟨w.heap.size + 1 + 1, 3, none⟩ (.slice (some ⟨g, 0, none⟩) (j + 1) cap)) (.slice (some ⟨g, 0, none⟩) (j + 1) cap) b := by
    intro b hb
    refine ⟨by omega, by rw [hS]; omega, ?_⟩
    intro e
    have e : b = g := by simpa [Value.ownBlock] using e
    rcases hgb with h | h
    · have := (hlv g h).2; omega
    · omega
  have k1 : ∀ p : Addr, NewB w.heap.size W lvv p.block → (w4.setCell ⟨w.heap.size + 1 + 1, 3, none⟩ (.slice (some ⟨g, 0, none⟩) (j + 1) cap)).cell? p = W.cell? p := fun p hp => by
    refine cell_of_block ?_
    rw [setCell_other_block _ (by have := hp.1; omega)]
    exact keepW _ hp.2.1 hp.2.2
  have k2 : ∀ p : Addr, (W.heap.size ≤ p.block ∧ p.block < w2.heap.size) → (w4.setCell ⟨w.heap.size + 1 + 1, 3, none⟩ (.slice (some ⟨g, 0, none⟩) (j + 1) cap)).cell? p = w2.cell? p := fun p hp => by
    refine cell_of_block ?_
    rw [setCell_other_block _ (by omega)]
    refine keep4 _ hp.2 fun e => ?_
    have := (hlv _ e.symm).2
    omega
  refine ⟨?_, ?_, ?_, ?_, ?_, hj, ?_, ?_, ?_⟩
  · rw [setCell_other_block _ (by omega), keepW _ (by omega) (small _ (by omega))]; exact hI.b0
  · rw [setCell_other_block _ (by omega), keepW _ (by omega) (small _ (by omega))]; exact hI.b1
  · have := keepW (w.heap.size + 1 + 1) l2 (small _ (by omega))
    rw [hI.b2] at this
    simp [World.setCell, Array.getElem?_modify, this, cellsV]
  · rw [List.take_succ_eq_append_getElem hj, flat5_snoc _ _ _ _ (by rw [List.length_take, hI.len]; omega)]
    refine hown.kept (row := some (w.heap.size + 1 + 1)) ⟨rfl, rfl, rfl, by rw [hS]; exact Nat.le_refl _, fun k _ hn => setCell_other_block _ (fun e => hn (by rw [e]))⟩ (Or.inr ?_)
    intro e
    have e : g = w.heap.size + 1 + 1 := by simpa [Value.ownBlock] using e
    rcases hgb with h | h
    · have := (hlv g h).1; omega
    · omega
  · rw [List.length_append, hI.len]; rfl
  · intro i h h2'
    by_cases hi : i < ps.length
    · rw [List.getElem_append_left hi]
      exact AtP.more q1 _ _ _ _ (AtP.keep k1 _ _ _ _ (hI.each i h hi))
    · have hij : i = j := by rw [List.length_append, hI.len] at h2'; have := hI.len; simp at h2'; omega
      subst hij
      rw [List.getElem_append_right (by omega)]
      have e0 : i - ps.length = 0 := by rw [hI.len]; omega
      simp only [e0, List.getElem_cons_zero]
      exact AtP.more q2 _ _ _ _ (AtP.keep k2 _ _ _ _ hat)
  · exact ⟨(hI.keys.1.keep k1).more q1, hI.keys.2⟩
  · have hb4 : Below w.heap.size w w4 := ((hI.bel.trans (h2.mono hs0)).alloc (by omega) _).grown hgrow (by simp; omega) (fun k hk => by have := (hlv k hk).1; omega)
    exact hb4.setCell (by simp; omega) _
end Go.Proofs.YtpobdmkidopnnaaGreatDoor
namespace Go.Proofs.YtpobdmkidopnnaaGreatDoor
open Go Go.RowKit

theorem add_zero_off (g k : Nat) : (⟨g, 0, none⟩ : Addr).add k = ⟨g, k, none⟩ := by
  unfold Addr.add
  by_cases h : k = 0
  · subst h; simp
  · simp [h]
theorem row_alloc3 {w : World} {R : Nat} {x : Obj} (h : w.heap[R]? = some x) (o : Obj) : (w.alloc o).heap[R]? = some x := by
  have := (Array.getElem?_eq_some_iff.1 h).1
  show (w.heap.push o)[R]? = _
  rw [Array.getElem?_push, if_neg (by omega)]
  exact h
theorem copy_done {w : World} {v : V} {m : Nat} {box : Array Value} {lvv kvv : Value} {ps : List (Value × Value)} {W : World} (hs : Small v) (hI : CopyInv w v m box v.l.length lvv kvv ps W) :
    AtP W (NewB w.heap.size W (.slice none 0 0)) (m + 1) v lvv kvv := by
  have q : ∀ b, NewB w.heap.size W lvv b → NewB w.heap.size W (.slice none 0 0) b := fun b hb => ⟨hb.1, hb.2.1, fun e => by cases e⟩
  refine ⟨hs, ⟨hI.keys.1.more q, hI.keys.2⟩, Caps.of_own hI.own, ?_⟩
  have htk : v.l.take v.l.length = v.l := List.take_length
  have hown := hI.own
  rw [htk] at hown
  rcases hown.2 with ⟨e, h0⟩ | ⟨g, cap, cur, e, hb, hg, _⟩
  · exact ⟨none, 0, 0, 0, by rw [e, h0], fun h => absurd h (by omega), fun i h => absurd h (by omega)⟩
  · have hcell := hown.cells (g := g) (by rw [e]; rfl)
    refine ⟨some ⟨g, 0, none⟩, cap, g, 0, e, fun _ => ⟨rfl, by omega, (Array.getElem?_eq_some_iff.1 hg).1, fun e => by cases e⟩, fun i h => ?_⟩
    have h2 : i < ps.length := by rw [hI.len]; exact h
    have hc : ∀ c u, c < 5 → (cellsV v.l[i] ps[i].1 ps[i].2)[c]? = some u → W.cell? ⟨g, i * 5 + c, none⟩ = some u := fun c u hc5 hu => by
      have := hcell (i * 5 + c) u (by rw [flat5_at _ _ hI.len.symm i h h2 c hc5]; exact hu)
      rw [add_zero_off] at this
      exact this
    refine ⟨ps[i].1, ps[i].2, ?_, AtP.more q _ _ _ _ (hI.each i h h2)⟩
    rw [Nat.zero_add]
    exact ⟨hc 0 _ (by omega) rfl, hc 1 _ (by omega) rfl, hc 2 _ (by omega) rfl, hc 3 _ (by omega) rfl, hc 4 _ (by omega) rfl⟩
set_option maxHeartbeats 1000000 in
theorem copy_start {w : World} {v : V} {m : Nat} {lv kv v' : Value} {w1 : World} {zs : List Value} (hz : zs = v.ks.map Value.string)
    (hown : w1.ownsRow w.heap.size 9 1 v' (0 + zs.length) ([] ++ zs))
    (hgrow : ((((w.alloc (.cells (cellsV v lv kv) 27)).alloc (.cells #[.int .i64 0, .float .f64 0, .string ⟨#[]⟩, .slice none 0 0, .slice none 0 0] 27)).alloc (.cells (cellsV v lv kv) 27)).alloc (.cells #[] 9)).grownBy w1 (some (w.heap.size + 1 + 1 + 1)))
    (hblk : v'.ownBlock = some (w.heap.size + 1 + 1 + 1) ∨ v'.ownBlock = some (w.heap.size + 1 + 1 + 1 + 1)) :
    CopyInv w v m (cellsV v lv kv) 0 (.slice none 0 0) v' [] ((w1.setCell ⟨w.heap.size + 1 + 1, 4, none⟩ v').setCell ⟨w.heap.size + 1 + 1, 3, none⟩ (.slice none 0 0)) := by
  subst hz
  have hsz : w.heap.size + 4 ≤ w1.heap.size := by have := hgrow.size; simp at this; omega
  have e0 : w1.heap[w.heap.size]? = some (.cells (cellsV v lv kv) 27 (0, 0)) := by
    rw [hgrow.block _ (by simp; omega) (fun e => by simp at e; omega)]
    exact row_alloc3 (row_alloc3 (row_alloc3 (heap_alloc_new w _) _) _) _
  have e1 : w1.heap[w.heap.size + 1]? = some (.cells #[.int .i64 0, .float .f64 0, .string ⟨#[]⟩, .slice none 0 0, .slice none 0 0] 27 (0, 0)) := by
    rw [hgrow.block _ (by simp; try omega) (fun e => by simp at e; try omega)]
    have := heap_alloc_new (w.alloc (.cells (cellsV v lv kv) 27)) (.cells #[.int .i64 0, .float .f64 0, .string ⟨#[]⟩, .slice none 0 0, .slice none 0 0] 27)
    rw [World.size_alloc] at this
    exact row_alloc3 (row_alloc3 this _) _
  have e2 : w1.heap[w.heap.size + 1 + 1]? = some (.cells (cellsV v lv kv) 27 (0, 0)) := by
    rw [hgrow.block _ (by simp) (fun e => by simp at e; try omega)]
    have := heap_alloc_new ((w.alloc (.cells (cellsV v lv kv) 27)).alloc (.cells #[.int .i64 0, .float .f64 0, .string ⟨#[]⟩, .slice none 0 0, .slice none 0 0] 27)) (.cells (cellsV v lv kv) 27)
    rw [World.size_alloc, World.size_alloc] at this
    exact row_alloc3 this _
  have hS : ((w1.setCell ⟨w.heap.size + 1 + 1, 4, none⟩ v').setCell ⟨w.heap.size + 1 + 1, 3, none⟩ (.slice none 0 0)).heap.size = w1.heap.size := by simp
  have hB : Below w.heap.size w w1 := by
    have h := ((((Below.refl w.heap.size w).alloc (Nat.le_refl _) (.cells (cellsV v lv kv) 27)).alloc (by simp) (.cells #[.int .i64 0, .float .f64 0, .string ⟨#[]⟩, .slice none 0 0, .slice none 0 0] 27)).alloc (by simp; omega) (.cells (cellsV v lv kv) 27)).alloc (by simp; omega) (.cells #[] 9)
    exact h.grown hgrow (by simp; omega) (fun k hk => by cases hk; omega)
  refine ⟨?_, ?_, ?_, ⟨rfl, Or.inl ⟨rfl, rfl⟩⟩, rfl, Nat.zero_le _, fun i _ h2 => absurd h2 (by simp), ⟨?_, ?_⟩, (hB.setCell (by simp; omega) _).setCell (by simp; omega) _⟩
  · rw [setCell_other_block _ (by omega), setCell_other_block _ (by omega)]; exact e0
  · rw [setCell_other_block _ (by omega), setCell_other_block _ (by omega)]; exact e1
  · simp [World.setCell, Array.getElem?_modify, e2, cellsV]
  · rcases hown.2 with ⟨e, h0⟩ | ⟨g, cap, cur, e, hb, hg, _⟩
    · exact ⟨none, 0, by rw [e]; congr 1; omega, fun h => absurd h (by omega)⟩
    · have hcell := hown.cells (g := g) (by rw [e]; rfl)
      have hgb : w.heap.size + 2 < g := by
        rw [e] at hblk
        rcases hblk with h | h <;> (simp [Value.ownBlock] at h; omega)
      refine ⟨some ⟨g, 0, none⟩, cap, by rw [e]; congr 1; omega, fun _ => ⟨_, rfl, ⟨hgb, by rw [hS]; exact (Array.getElem?_eq_some_iff.1 hg).1, fun e => by cases e⟩, fun j u hu => ?_⟩⟩
      rw [← hcell j u (by simpa using hu)]
      refine cell_of_block ?_
      rw [add_block, setCell_other_block _ (by show g ≠ _; omega), setCell_other_block _ (by show g ≠ _; omega)]
  · exact Caps.of_own hown
end Go.Proofs.YtpobdmkidopnnaaGreatDoor
namespace Go.Proofs.YtpobdmkidopnnaaGreatDoor
open Go Go.RowKit

/-- The bytes' order. -/
def leK (a b : ByteArray) : Bool := decide (a.data.toList ≤ b.data.toList)
theorem leK_total (a b : ByteArray) : (leK a b || leK b a) = true := by
  unfold leK
  rcases List.le_total a.data.toList b.data.toList with h | h <;> simp [h]
theorem leK_trans (a b c : ByteArray) (h1 : leK a b = true) (h2 : leK b c = true) : leK a c = true := by
  unfold leK at *
  simp only [decide_eq_true_eq] at *
  exact List.le_trans h1 h2
theorem toList_inj {a b : ByteArray} (h : a.data.toList = b.data.toList) : a = b := ByteArray.ext (Array.ext' h)
theorem leK_anti (a b : ByteArray) (h1 : leK a b = true) (h2 : leK b a = true) : a = b := by
  unfold leK at *
  simp only [decide_eq_true_eq] at *
  exact toList_inj (List.le_antisymm h1 h2)
/-- A row of keys, sorted. -/
def sortK (l : List ByteArray) : List ByteArray := l.mergeSort leK
theorem sortK_perm (l : List ByteArray) : (sortK l).Perm l := List.mergeSort_perm l leK
theorem sortK_sorted (l : List ByteArray) : (sortK l).Pairwise (fun a b => leK a b = true) := List.pairwise_mergeSort (le := leK) leK_trans leK_total l
theorem sorted_unique : ∀ {l m : List ByteArray}, l.Perm m → l.Pairwise (fun a b => leK a b = true) → m.Pairwise (fun a b => leK a b = true) → l = m := fun {_l _m} hp hl hm =>
  hp.eq_of_pairwise (fun a b _ _ h1 h2 => leK_anti a b h1 h2) hl hm
theorem sortK_of {l m : List ByteArray} (hp : m.Perm l) (hm : m.Pairwise (fun a b => leK a b = true)) : m = sortK l :=
  sorted_unique (hp.trans (sortK_perm l).symm) hm (sortK_sorted l)
theorem sortK_len (l : List ByteArray) : (sortK l).length = l.length := List.length_mergeSort ..
theorem sortK_small (l : List ByteArray) (h : l.length < 2) : sortK l = l := by
  match l, h with
  | [], _ => simp [sortK]
  | [_], _ => simp [sortK]
/-- The merge of what is left of two rows. -/
def mergeK : Nat → List ByteArray → List ByteArray → List ByteArray
  | 0, a, b => a ++ b
  | _ + 1, [], b => b
  | _ + 1, a, [] => a
  | n + 1, x :: a, y :: b => if leK x y then x :: mergeK n a (y :: b) else y :: mergeK n (x :: a) b
theorem mergeK_perm : ∀ (n : Nat) (a b : List ByteArray), (mergeK n a b).Perm (a ++ b)
  | 0, _, _ => List.Perm.refl _
  | _ + 1, [], _ => List.Perm.refl _
  | _ + 1, _ :: _, [] => by simp [mergeK]
  | n + 1, x :: a, y :: b => by
    unfold mergeK
    by_cases h : leK x y = true
    · rw [if_pos h]
      exact (mergeK_perm n a (y :: b)).cons x
    · rw [if_neg h]
      exact ((mergeK_perm n (x :: a) b).cons y).trans (List.perm_middle (a := y) (l₁ := x :: a) (l₂ := b)).symm
theorem mergeK_sorted : ∀ (n : Nat) (a b : List ByteArray), a.length + b.length ≤ n → a.Pairwise (fun a b => leK a b = true) → b.Pairwise (fun a b => leK a b = true) → (mergeK n a b).Pairwise (fun a b => leK a b = true)
  | 0, [], [], _, _, _ => by simp [mergeK]
  | 0, _ :: _, _, h, _, _ => by simp at h
  | 0, [], _ :: _, h, _, _ => by simp at h
  | _ + 1, [], _, _, _, hb => by simpa [mergeK] using hb
  | _ + 1, _ :: _, [], _, ha, _ => by simpa [mergeK] using ha
  | n + 1, x :: a, y :: b, hn, ha, hb => by
    unfold mergeK
    have hn' : a.length + 1 + (b.length + 1) ≤ n + 1 := by simpa using hn
    by_cases h : leK x y = true
    · rw [if_pos h]
      refine List.Pairwise.cons (fun z hz => ?_) (mergeK_sorted n a (y :: b) (by simp; omega) (List.pairwise_cons.1 ha).2 hb)
      have hz := (mergeK_perm n a (y :: b)).subset hz
      rcases List.mem_append.1 hz with h1 | h1
      · exact (List.pairwise_cons.1 ha).1 z h1
      · rcases List.mem_cons.1 h1 with rfl | h2
        · exact h
        · exact leK_trans _ _ _ h ((List.pairwise_cons.1 hb).1 z h2)
    · rw [if_neg h]
      have h' : leK y x = true := by
        have := leK_total x y
        simp only [Bool.or_eq_true] at this
        rcases this with h1 | h1
        · exact absurd h1 h
        · exact h1
      refine List.Pairwise.cons (fun z hz => ?_) (mergeK_sorted n (x :: a) b (by simp; omega) ha (List.pairwise_cons.1 hb).2)
      have hz := (mergeK_perm n (x :: a) b).subset hz
      rcases List.mem_append.1 hz with h1 | h1
      · rcases List.mem_cons.1 h1 with rfl | h2
        · exact h'
        · exact leK_trans _ _ _ h' ((List.pairwise_cons.1 ha).1 z h2)
      · exact (List.pairwise_cons.1 hb).1 z h1
/-- One half sorted and the other, merged: the whole sorted. -/
theorem mergeK_halves (l : List ByteArray) (k : Nat) : mergeK l.length (sortK (l.take k)) (sortK (l.drop k)) = sortK l := by
  refine sortK_of ((mergeK_perm _ _ _).trans (((sortK_perm _).append (sortK_perm _)).trans (by rw [List.take_append_drop]))) (mergeK_sorted _ _ _ ?_ (sortK_sorted _) (sortK_sorted _))
  rw [sortK_len, sortK_len, List.length_take, List.length_drop]
  omega
/-- What stands behind the merge's next step. -/
theorem mergeK_step (n : Nat) (a b : List ByteArray) (i k : Nat) (hi : i ≤ a.length) (hk : k ≤ b.length) (hn : a.length - i + (b.length - k) ≤ n + 1) :
    (∀ (_ : i < a.length), (k = b.length ∨ ∃ _ : k < b.length, leK a[i] b[k] = true) → mergeK (n + 1) (a.drop i) (b.drop k) = a[i] :: mergeK n (a.drop (i + 1)) (b.drop k)) ∧
    (∀ (_ : k < b.length), (i = a.length ∨ ∃ _ : i < a.length, leK a[i] b[k] = false) → mergeK (n + 1) (a.drop i) (b.drop k) = b[k] :: mergeK n (a.drop i) (b.drop (k + 1))) := by
  refine ⟨fun h1 h => ?_, fun h1 h => ?_⟩
  · rw [List.drop_eq_getElem_cons h1]
    by_cases h2 : k < b.length
    · rw [List.drop_eq_getElem_cons h2]
      have h3 : leK a[i] b[k] = true := by
        rcases h with h | ⟨_, h⟩
        · omega
        · exact h
      rw [mergeK, if_pos h3]
    · rw [List.drop_of_length_le (by omega : b.length ≤ k)]
      show a[i] :: a.drop (i + 1) = _
      cases n with
      | zero => simp [mergeK]
      | succ n => cases a.drop (i + 1) <;> rfl
  · rw [List.drop_eq_getElem_cons h1]
    by_cases h2 : i < a.length
    · rw [List.drop_eq_getElem_cons h2]
      have h3 : leK a[i] b[k] = false := by
        rcases h with h | ⟨_, h⟩
        · omega
        · exact h
      rw [mergeK, if_neg (by rw [h3]; simp)]
    · rw [List.drop_of_length_le (by omega : a.length ≤ i)]
      show b[k] :: b.drop (k + 1) = _
      cases n with
      | zero => simp [mergeK]
      | succ n => rfl
end Go.Proofs.YtpobdmkidopnnaaGreatDoor
