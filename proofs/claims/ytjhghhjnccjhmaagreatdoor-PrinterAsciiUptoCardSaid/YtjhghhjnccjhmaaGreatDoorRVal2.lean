/- A sheet: an object's pairs. -/
import Derived.Test.YtjhghhjnccjhmaaGreatDoorRVal
import Derived.StillTailTactics
namespace Go.Proofs.YtjhghhjnccjhmaaGreatDoor
open Go Go.RowKit

structure PEnv2 (w0 : World) (b P Q g n : Nat) (p : Nat → Nat) (cells : Array Value) (W : World) : Prop where
  e : PEnv w0 b P cells W
  p4 : W.heap[Q]? = some (.cells #[.slice (some ⟨g, 0, none⟩) n n] 77 (0, 0))
  pls : Prm W g n p
theorem Prm.step {b : Nat} {w w' : World} {g n : Nat} {p : Nat → Nat} (h : Prm w g n p) (hs : WStep b w w') (hg : g ≠ b) : Prm w' g n p := by
  obtain ⟨cur, h1, h2⟩ := h
  exact ⟨cur, hs.block h1 hg (by decide), h2⟩
theorem PEnv2.step {w0 : World} {b P Q g n : Nat} {p : Nat → Nat} {cells : Array Value} (hP : b < P) (hQ : b < Q) (hg : b < g) (hb : w0.heap.size ≤ b) (w w' : World) (h : PEnv2 w0 b P Q g n p cells w) (hs : WStep b w w') : PEnv2 w0 b P Q g n p cells w' :=
  ⟨PEnv.step hP hb w w' h.e hs, hs.block h.p4 (by omega) (by decide), h.pls.step hs (by omega)⟩
set_option maxRecDepth 100000 in
set_option maxHeartbeats 4000000 in
theorem part2_S (w0 : World) (hN : NumW w0) (b P Q g : Nat) (hb : w0.heap.size ≤ b) (_hP : b < P) (_hQ : b < Q) (_hgb : b < g) (y : Sty) (step : ByteArray) (m : Nat) (hC : ValueP w0 b y step m) (v : V) (d : Nat) (hr : rightV d v = true) (k : Int) (a : Option Addr) (c B o : Nat) (kv : Value) (hls : v.l.length ≤ 1048576)
    (hab : 0 < v.l.length → a = some ⟨B, o, none⟩ ∧ B < w0.heap.size) (hi : ∀ i (h : i < v.l.length), ∃ lv' kv', FiveAt w0 B (o + i * 5) (v.l[i]) lv' kv' ∧ At w0 w0.heap.size m (v.l[i]) lv' kv')
    (hk : KeysAt w0 w0.heap.size kv v.ks) (hkl : v.ks.length = v.l.length) (hkg : ∀ key ∈ v.ks, key.size ≤ 1048576 ∧ allGood key 0 = true) (lev : Nat) (hlev : lev + m ≤ 1000000)
    (p : Nat → Nat) (hp : ∀ j, j < v.l.length → p j < v.l.length) (i : Nat) (st : Option (List UInt8)) (w : World) (hlti : i < v.l.length) (hE : PEnv2 w0 b P Q g v.l.length p #[.int .i64 k, .float .f64 v.f, .string v.s, .slice a v.l.length c, kv] w) (hw : ShAt w b y step lev st) :
    Calls Tryz.prog 46 #[.int .i64 i, .pointer (some ⟨P, 0, none⟩), .pointer (some ⟨P + 1, 0, none⟩), .pointer (some ⟨Q, 0, none⟩)] w fun e w' => e = .returned (.tuple #[]) ∧
      ShAt w' b y step lev (putS st (pairT y step (v.ks.getD (p i) default) (printV y step m (v.l.getD (p i) default) lev))) ∧ WStep b w w' := by
  have hlt := hp i hlti
  have gi := hE.pls.at_ i hlti
  clear hp
  generalize p i = q at hlt gi ⊢
  have hg : v.l.getD q default = v.l[q] := by simp [List.getD, hlt]
  have hgk : v.ks.getD q default = v.ks[q]'(by omega) := by rw [List.getD, List.getElem?_eq_getElem (by omega)]; rfl
  rw [hg, hgk]
  have hlk : q < v.ks.length := by omega
  obtain ⟨A, ad, ck, rfl, hA, hac⟩ := hk.1.dest
  rw [List.length_map] at hE hA
  obtain ⟨rfl, hAw⟩ := hA (by omega)
  have hck : w0.cell? (ad.add q) = some (.string (v.ks[q]'hlk)) := hac q _ (by simp [hlk])
  have hkc : w.cell? (ad.add q) = some (.string (v.ks[q]'hlk)) := (hE.e.bel.cell (p := ad.add q) (by rw [add_block]; exact hAw)).trans hck
  obtain ⟨rfl, hBw⟩ := hab (by omega)
  obtain ⟨lv', kv', h5, hAt⟩ := hi q hlt
  obtain ⟨f0, f1, f2, f3, f4⟩ := h5.keep hBw (fun p hp => hE.e.bel.cell hp)
  obtain ⟨a1, n1, k1, a2, n2, k2, rfl, rfl⟩ := hAt.slices
  have hkey := hkg (v.ks[q]'hlk) (List.getElem_mem hlk)
  have hcall := pair_S w0 hN b hb y step m hC v.l[q] _ _ (d - 1) lev st (v.ks[q]'hlk) hkey.1 hkey.2 w.drew (right_sub hr hlt) hAt hE.e.bel.drew (hw.ext ((Below.refl _ w).drew)) hlev
  unfold cellsV at hcall
  have HC := Lib.hid hcall
  have g2 := row1V hE.e.p2
  have g4 := row1V hE.p4
  have i0 : (0 : Int) ≤ (i : Int) := by omega
  have i1 : (i : Int) < (v.l.length : Int) := by omega
  have q0 : (0 : Int) ≤ (q : Int) := by omega
  have q1 : (q : Int) < (v.l.length : Int) := by omega
  obtain ⟨e0, e1, e2, e3, e4, _, _, _, _, _⟩ := row5' hE.e.p3
  clear hcall hC hE h5 hAt hi hab hr hg hgk hw hk hac hA hck hkg hkey
  go_enter Tryz.func46, Tryz.ntmps46
  go_wp2_with fail
  go_still_tail 17, (by kernel_rfl)
  change wpList _ _ _ _ _ w.drew
  go_wp2_with fail
  refine HC.out.mono ?_
  rintro e w2 ⟨rfl, hw2, hs2⟩
  go_wp2_with fail
  go_end0
  exact ⟨rfl, hw2, ((WStep.refl _ _).drew).trans hs2⟩
end Go.Proofs.YtjhghhjnccjhmaaGreatDoor
