/- ValueObjects: what is no object stays; how an answer is told. -/
import Derived.Test.YtkomndgnnpgklaaGreatDoorQHeadsL
import Derived.Test.YtkomndgnnpgklaaGreatDoorQRefPut
import Derived.Test.YtkomndgnnpgklaaGreatDoorQRefDrop
import Derived.Test.YtkomndgnnpgklaaGreatDoorQKeeps
import Derived.Deep.RegionHeld3
namespace Go.Proofs.YtkomndgnnpgklaaGreatDoor
open Go Go.RowKit

theorem HW.three {w W : World} {l : List (Nat × Array Value × TypeId)} (h : HW w W l) (c d e : Array Value) (t u s : TypeId) : HW w (((W.alloc (.cells c t)).alloc (.cells d u)).alloc (.cells e s)) ((W.heap.size + 2, e, s) :: (W.heap.size + 1, d, u) :: (W.heap.size, c, t) :: l) := by
  have := (h.two c d t u).one e s
  rw [World.size_alloc, World.size_alloc] at this
  exact this
/-- A value is answered, of so many levels. -/
def Ans (r : V) (M : Nat) (e : Ending) (w w' : World) : Prop := ∃ (a1 : Option Addr) (n1 c1 : Nat) (a2 : Option Addr) (n2 c2 : Nat), e = .returned (.agg #[.int .i64 r.k, .float .f64 r.f, .string r.s, .slice a1 n1 c1, .slice a2 n2 c2]) ∧ At w' w'.heap.size M r (.slice a1 n1 c1) (.slice a2 n2 c2) ∧ Below w.heap.size w w'
theorem Ans.of {r : V} {M : Nat} {e : Ending} {w w' : World} {lv kv : Value} (he : e = .returned (.agg (cellsV r lv kv))) (h : At w' w'.heap.size M r lv kv) (hb : Below w.heap.size w w') : Ans r M e w w' := by
  obtain ⟨a1, n1, c1, a2, n2, c2, rfl, rfl⟩ := h.slices
  exact ⟨a1, n1, c1, a2, n2, c2, he, h, hb⟩
set_option maxRecDepth 100000 in
set_option maxHeartbeats 1000000 in
theorem Put_no (v x : V) (m : Nat) (lv kv lx kx : Value) (key : ByteArray) (w : World) (h : At w w.heap.size m v lv kv) (hxa : At w w.heap.size m x lx kx) (hk6 : v.k ≠ 6) :
    Calls Tryz.prog 35 #[.agg (cellsV v lv kv), .string key, .agg (cellsV x lx kx)] w fun e w' => Ans v m e w w' := by
  have hsf := run_store_float Tryz.prog
  obtain ⟨i0, hi0, hz0, hz1, hz2⟩ := info_parts infoVal
  have hco := fun W (hb : Below w.heap.size w W) => copyOf_any m v lv kv W ((h.below hb).more hb.size)
  obtain ⟨a1, n1, c1, a2, n2, c2, rfl, rfl⟩ := h.slices
  obtain ⟨a3, n3, c3, a4, n4, c4, rfl, rfl⟩ := hxa.slices
  have hk : (v.k != 6) = true := by simpa using hk6
  unfold cellsV at hco ⊢
  have HCO := Lib.hid hco
  have HS := Lib.hid (HW.start w)
  clear hco h hxa hk6
  go_enter Tryz.func35, Tryz.ntmps35
  go_wp2_with fail
  have H := Lib.hid (HS.out.three #[.int .i64 v.k, .float .f64 v.f, .string v.s, .slice a1 n1 c1, .slice a2 n2 c2] #[.int .i64 x.k, .float .f64 x.f, .string x.s, .slice a3 n3 c3, .slice a4 n4 c4] #[.int .i64 0, .float .f64 0, .string ⟨#[]⟩, .slice none 0 0, .slice none 0 0] 27 27 27)
  refine (HCO.out _ H.out.bel).mono ?_
  rintro e w1 ⟨lv1, kv1, rfl, hat, hb⟩
  obtain ⟨s1, s2, s3, s4, s5, s6, rfl, rfl⟩ := AtP.slices hat
  have hh := (H.out.below hb).one #[.int .i64 v.k, .float .f64 v.f, .string v.s, .slice s1 s2 s3, .slice s4 s5 s6] 27
  have hlt : w.heap.size + 2 < w1.heap.size := (H.out.below hb).lt _ (.head _)
  have HAT := Lib.hid (fun o => AtP.keep (w' := w1.alloc o) (fun p hp => cell_old hp.2) _ _ _ _ hat)
  have hsz : (((w.alloc (.cells #[.int .i64 v.k, .float .f64 v.f, .string v.s, .slice a1 n1 c1, .slice a2 n2 c2] 27)).alloc (.cells #[.int .i64 x.k, .float .f64 x.f, .string x.s, .slice a3 n3 c3, .slice a4 n4 c4] 27)).alloc (.cells #[.int .i64 0, .float .f64 0, .string ⟨#[]⟩, .slice none 0 0, .slice none 0 0] 27)).heap.size = w.heap.size + 3 := by simp
  rw [hsz] at HAT
  have hz := World.size_alloc w1 (.cells #[.int .i64 v.k, .float .f64 v.f, .string v.s, .slice s1 s2 s3, .slice s4 s5 s6] 27)
  have HAT := Lib.hid (HAT.out (.cells #[.int .i64 v.k, .float .f64 v.f, .string v.s, .slice s1 s2 s3, .slice s4 s5 s6] 27))
  obtain ⟨W1, hW1⟩ : ∃ W1, w1.alloc (.cells #[.int .i64 v.k, .float .f64 v.f, .string v.s, .slice s1 s2 s3, .slice s4 s5 s6] 27) = W1 := ⟨_, rfl⟩
  rw [hW1] at hh HAT hz
  clear H hb hat hsz HCO
  have H := Lib.hid hh
  have HZ := Lib.hid hz
  clear hh hz
  obtain ⟨y0, y1, y2, y3, y4⟩ := row5p (H.out.get w.heap.size #[.int .i64 v.k, .float .f64 v.f, .string v.s, .slice a1 n1 c1, .slice a2 n2 c2] 27 (.tail _ (.tail _ (.tail _ (.head _)))))
  obtain ⟨o0, o1, o2, o3, o4⟩ := row5p (H.out.get w1.heap.size #[.int .i64 v.k, .float .f64 v.f, .string v.s, .slice s1 s2 s3, .slice s4 s5 s6] 27 (.head _))
  obtain ⟨u0, u1, u2, u3, u4, z0, z1, z2, z3, z4⟩ := row5 (H.out.get (w.heap.size + 2) #[.int .i64 0, .float .f64 0, .string ⟨#[]⟩, .slice none 0 0, .slice none 0 0] 27 (.tail _ (.head _)))
  go_wp2_with fail
  refine bodyPost_ret_by (results_cell_row rfl _ _ (w.heap.size + 2) 27 _ (0, 0) _ rfl (set5_row (H.out.get (w.heap.size + 2) #[.int .i64 0, .float .f64 0, .string ⟨#[]⟩, .slice none 0 0, .slice none 0 0] 27 (.tail _ (.head _))) (.int .i64 v.k) (.float .f64 v.f) (.string v.s) (.slice s1 s2 s3) (.slice s4 s5 s6)) Tryz.underlying27 rfl sizeVal) rfl ?_
  have hbf : Below w.heap.size w (set5 W1 (w.heap.size + 2) (.int .i64 v.k) (.float .f64 v.f) (.string v.s) (.slice s1 s2 s3) (.slice s4 s5 s6)) := set5_below0 H.out.bel (by omega) ..
  refine ⟨_, _, _, _, _, _, rfl, AtP.more (fun b hb => ?_) _ _ _ _ (AtP.keep (fun a ha => cell_of_block (set5_other (by have := ha.1; omega) ..)) _ _ _ _ HAT.out), hbf⟩
  have := hb.2
  have e := HZ.out
  simp [World.setCell]
  omega
set_option maxRecDepth 100000 in
set_option maxHeartbeats 1000000 in
theorem refPut_no (v x : V) (m : Nat) (lv kv lx kx : Value) (key : ByteArray) (w : World) (h : At w w.heap.size m v lv kv) (hxa : At w w.heap.size m x lx kx) (hk6 : v.k ≠ 6) :
    Calls Tryz.prog 39 #[.agg (cellsV v lv kv), .string key, .agg (cellsV x lx kx)] w fun e w' => Ans v m e w w' := by
  have hsf := run_store_float Tryz.prog
  obtain ⟨i0, hi0, hz0, hz1, hz2⟩ := info_parts infoVal
  have HA := Lib.hid (fun W (hb : Below w.heap.size w W) => ((h.below hb).more hb.size))
  obtain ⟨a1, n1, c1, a2, n2, c2, rfl, rfl⟩ := h.slices
  obtain ⟨a3, n3, c3, a4, n4, c4, rfl, rfl⟩ := hxa.slices
  have hk : (v.k != 6) = true := by simpa using hk6
  unfold cellsV
  have HS := Lib.hid (HW.start w)
  clear h hxa hk6
  go_enter Tryz.func39, Tryz.ntmps39
  go_wp2_with fail
  have H := Lib.hid (HS.out.three #[.int .i64 v.k, .float .f64 v.f, .string v.s, .slice a1 n1 c1, .slice a2 n2 c2] #[.int .i64 x.k, .float .f64 x.f, .string x.s, .slice a3 n3 c3, .slice a4 n4 c4] #[.int .i64 v.k, .float .f64 v.f, .string v.s, .slice a1 n1 c1, .slice a2 n2 c2] 27 27 27)
  refine bodyPost_ret_by (results_cell_row rfl _ _ (w.heap.size + 2) 27 #[.int .i64 v.k, .float .f64 v.f, .string v.s, .slice a1 n1 c1, .slice a2 n2 c2] (0, 0) _ rfl (H.out.get (w.heap.size + 2) #[.int .i64 v.k, .float .f64 v.f, .string v.s, .slice a1 n1 c1, .slice a2 n2 c2] 27 (.head _)) Tryz.underlying27 rfl sizeVal) rfl ?_
  exact ⟨_, _, _, _, _, _, rfl, HA.out _ H.out.bel, H.out.bel⟩
set_option maxRecDepth 100000 in
set_option maxHeartbeats 1000000 in
theorem refDrop_no (v : V) (m : Nat) (lv kv : Value) (key : ByteArray) (w : World) (h : At w w.heap.size m v lv kv) (hk6 : v.k ≠ 6) :
    Calls Tryz.prog 40 #[.agg (cellsV v lv kv), .string key] w fun e w' => Ans v m e w w' := by
  have hsf := run_store_float Tryz.prog
  obtain ⟨i0, hi0, hz0, hz1, hz2⟩ := info_parts infoVal
  have HA := Lib.hid (fun W (hb : Below w.heap.size w W) => ((h.below hb).more hb.size))
  obtain ⟨a1, n1, c1, a2, n2, c2, rfl, rfl⟩ := h.slices
  have hk : (v.k != 6) = true := by simpa using hk6
  unfold cellsV
  have HS := Lib.hid (HW.start w)
  clear h hk6
  go_enter Tryz.func40, Tryz.ntmps40
  go_wp2_with fail
  have H := Lib.hid (HS.out.two #[.int .i64 v.k, .float .f64 v.f, .string v.s, .slice a1 n1 c1, .slice a2 n2 c2] #[.int .i64 v.k, .float .f64 v.f, .string v.s, .slice a1 n1 c1, .slice a2 n2 c2] 27 27)
  refine bodyPost_ret_by (results_cell_row rfl _ _ (w.heap.size + 1) 27 #[.int .i64 v.k, .float .f64 v.f, .string v.s, .slice a1 n1 c1, .slice a2 n2 c2] (0, 0) _ rfl (H.out.get (w.heap.size + 1) #[.int .i64 v.k, .float .f64 v.f, .string v.s, .slice a1 n1 c1, .slice a2 n2 c2] 27 (.head _)) Tryz.underlying27 rfl sizeVal) rfl ?_
  exact ⟨_, _, _, _, _, _, rfl, HA.out _ H.out.bel, H.out.bel⟩
end Go.Proofs.YtkomndgnnpgklaaGreatDoor
/- ValueObjects: the contracts of its calls, in one form each. -/
namespace Go.Proofs.YtkomndgnnpgklaaGreatDoor
open Go Go.RowKit

/-- What Get answers. -/
def getV (v : V) (K : ByteArray) : V := if h : 0 ≤ Lib.idxOfS v.ks K ∧ (Lib.idxOfS v.ks K).toNat < v.l.length then v.l[(Lib.idxOfS v.ks K).toNat]'h.2 else leafV 0 0 ⟨#[]⟩
def getB (v : V) (K : ByteArray) : Bool := decide (0 ≤ Lib.idxOfS v.ks K)
theorem getV_hit {v : V} {K : ByteArray} {i : Nat} (hi : i < v.l.length) (q : Lib.idxOfS v.ks K = (i : Int)) : getV v K = v.l[i] := by
  unfold getV
  rw [dif_pos ⟨by omega, by omega⟩]
  have : (Lib.idxOfS v.ks K).toNat = i := by omega
  simp only [this]
theorem getV_miss {v : V} {K : ByteArray} (q : Lib.idxOfS v.ks K = -1) : getV v K = leafV 0 0 ⟨#[]⟩ := by
  unfold getV
  rw [dif_neg (by omega)]
/-- A value and a truth are answered. -/
def AnsB (r : V) (b : Bool) (M : Nat) (e : Ending) (w w' : World) : Prop := ∃ (a1 : Option Addr) (n1 c1 : Nat) (a2 : Option Addr) (n2 c2 : Nat), e = .returned (.tuple #[.agg #[.int .i64 r.k, .float .f64 r.f, .string r.s, .slice a1 n1 c1, .slice a2 n2 c2], .bool b]) ∧ At w' w'.heap.size M r (.slice a1 n1 c1) (.slice a2 n2 c2) ∧ Below w.heap.size w w'
theorem AnsB.of {r : V} {b : Bool} {M : Nat} {e : Ending} {w w' : World} {lv kv : Value} (he : e = .returned (.tuple #[.agg (cellsV r lv kv), .bool b])) (h : At w' w'.heap.size M r lv kv) (hb : Below w.heap.size w w') : AnsB r b M e w w' := by
  obtain ⟨a1, n1, c1, a2, n2, c2, rfl, rfl⟩ := h.slices
  exact ⟨a1, n1, c1, a2, n2, c2, he, h, hb⟩
theorem small_levels {w : World} {B m M : Nat} {v : V} {lv kv : Value} (h : At w B m v lv kv) (hm : m ≤ M) : At w B M v lv kv := atP_lev m M _ _ _ hm h
theorem GetO_any (v : V) (m : Nat) (lv kv : Value) (key : ByteArray) (hkey : key.size ≤ 1000000000) (hcl : cleanS key = key) (w : World) (h : At w w.heap.size (m + 1) v lv kv) (hlen : v.ks.length ≤ v.l.length) :
    Calls Tryz.prog 14 #[.agg (cellsV v lv kv), .string key] w fun e w' => AnsB (getV v key) (getB v key) (m + 1) e w w' := by
  refine (Get_any v m lv kv key hkey w h hlen).mono ?_
  rintro e w' ⟨hg, hb⟩
  rw [hcl] at hg
  rcases hg with ⟨q, rfl⟩ | ⟨i, hlt, lv', kv', q, rfl, hat⟩
  · rw [getV_miss q, show getB v key = false by unfold getB; rw [q]; rfl]
    exact AnsB.of (lv := nilS) (kv := nilS) rfl (leaf_at _ _ _ 0 0 ⟨#[]⟩ (by omega) (by omega) (by decide)) hb
  · rw [getV_hit hlt q, show getB v key = true by unfold getB; rw [q]; simp]
    exact AnsB.of rfl (small_levels (AtP.more (fun b hb => hb.2) _ _ _ _ hat) (by omega)) hb
theorem refGetO_any (v : V) (m : Nat) (lv kv : Value) (key : ByteArray) (w : World) (h : At w w.heap.size (m + 1) v lv kv) (hlen : v.ks.length ≤ v.l.length) :
    Calls Tryz.prog 33 #[.agg (cellsV v lv kv), .string key] w fun e w' => AnsB (getV v key) (getB v key) (m + 1) e w w' := by
  refine (refGet_any v m lv kv key w h hlen).mono ?_
  rintro e w' ⟨hg, hb⟩
  rcases hg with ⟨q, rfl⟩ | ⟨i, hlt, lv', kv', q, rfl, hat⟩
  · rw [getV_miss q, show getB v key = false by unfold getB; rw [q]; rfl]
    exact AnsB.of (lv := nilS) (kv := nilS) rfl (leaf_at _ _ _ 0 0 ⟨#[]⟩ (by omega) (by omega) (by decide)) hb
  · rw [getV_hit hlt q, show getB v key = true by unfold getB; rw [q]; simp]
    exact AnsB.of rfl (small_levels hat (by omega)) hb
/-- What Put makes of any value. -/
def putO (v : V) (K : ByteArray) (x : V) : V := if v.k = 6 then putV v K x else v
theorem PutO_any (v x : V) (m : Nat) (lv kv lx kx : Value) (key : ByteArray) (hkey : key.size ≤ 1000000000) (hcl : cleanS key = key) (w : World) (h : At w w.heap.size (m + 1) v lv kv) (hxa : At w w.heap.size m x lx kx) (hlen : v.ks.length ≤ v.l.length) (hS : Small (putV v key x)) :
    Calls Tryz.prog 35 #[.agg (cellsV v lv kv), .string key, .agg (cellsV x lx kx)] w fun e w' => Ans (putO v key x) (m + 1) e w w' := by
  unfold putO
  by_cases hk : v.k = 6
  · rw [if_pos hk]
    have hp := Put_any v x m lv kv lx kx key hkey w h hxa hk hlen (by rw [hcl]; exact hS)
    rw [hcl] at hp
    refine hp.mono ?_
    rintro e w' ⟨lv', kv', rfl, hat, hb⟩
    exact Ans.of rfl (AtP.more (fun b hb => hb.2) _ _ _ _ hat) hb
  · rw [if_neg hk]
    exact Put_no v x (m + 1) lv kv lx kx key w h (small_levels hxa (by omega)) hk
theorem refPutO_any (v x : V) (m : Nat) (lv kv lx kx : Value) (key : ByteArray) (w : World) (h : At w w.heap.size (m + 1) v lv kv) (hxa : At w w.heap.size m x lx kx) (hf : v.k = 6 → v.f = 0) (hs : v.k = 6 → v.s = ⟨#[]⟩) (hlen : v.ks.length ≤ v.l.length) (hS : Small (putV v key x)) :
    Calls Tryz.prog 39 #[.agg (cellsV v lv kv), .string key, .agg (cellsV x lx kx)] w fun e w' => Ans (putO v key x) (m + 1) e w w' := by
  unfold putO
  by_cases hk : v.k = 6
  · rw [if_pos hk]
    refine (refPut_any v x m lv kv lx kx key w h hxa hk (hf hk) (hs hk) hlen hS).mono ?_
    rintro e w' ⟨lv', kv', rfl, hat, hb⟩
    exact Ans.of rfl hat hb
  · rw [if_neg hk]
    exact refPut_no v x (m + 1) lv kv lx kx key w h (small_levels hxa (by omega)) hk
theorem DropO_any (v : V) (m : Nat) (lv kv : Value) (key : ByteArray) (hkey : key.size ≤ 1000000000) (hcl : cleanS key = key) (w : World) (h : At w w.heap.size (m + 1) v lv kv) (hlen : v.ks.length ≤ v.l.length) :
    Calls Tryz.prog 36 #[.agg (cellsV v lv kv), .string key] w fun e w' => Ans (dropV v key) (m + 1) e w w' := by
  have hp := Drop_any v m lv kv key hkey w h hlen
  rw [hcl] at hp
  refine hp.mono ?_
  rintro e w' ⟨lv', kv', rfl, hat, hb⟩
  exact Ans.of rfl (AtP.more (fun b hb => hb.2) _ _ _ _ hat) hb
theorem refDropO_any (v : V) (m : Nat) (lv kv : Value) (key : ByteArray) (w : World) (h : At w w.heap.size (m + 1) v lv kv) (hf : v.k = 6 → v.f = 0) (hs : v.k = 6 → v.s = ⟨#[]⟩) (hlen : v.k = 6 → v.ks.length = v.l.length) (hk0 : v.k ≠ 6 → v.ks = []) (hnd : v.ks.Nodup) :
    Calls Tryz.prog 40 #[.agg (cellsV v lv kv), .string key] w fun e w' => Ans (dropV v key) (m + 1) e w w' := by
  by_cases hk : v.k = 6
  · refine (refDrop_any v m lv kv key w h hk (hf hk) (hs hk) (hlen hk) hnd).mono ?_
    rintro e w' ⟨lv', kv', rfl, hat, hb⟩
    exact Ans.of rfl hat hb
  · have e : dropV v key = v := by
      unfold dropV
      rw [hk0 hk, idx_none (ks := []) (x := key) (fun t ht => absurd ht (by simp)), if_pos (by omega)]
    rw [e]
    exact refDrop_no v (m + 1) lv kv key w h hk
/-- Rows of the call's own, values and rows of keys that lie anywhere. -/
structure HO (w W : World) (l : List (Nat × Array Value × TypeId)) (a : List (Nat × V × Value × Value)) (k : List (Value × List ByteArray)) : Prop where
  hw : HW w W l
  ats : ∀ x ∈ a, At W W.heap.size x.1 x.2.1 x.2.2.1 x.2.2.2
  keys : ∀ x ∈ k, KeysAt W W.heap.size x.1 x.2
theorem HO.below {w W W' : World} {l : List (Nat × Array Value × TypeId)} {a : List (Nat × V × Value × Value)} {k : List (Value × List ByteArray)} (h : HO w W l a k) (hb : Below W.heap.size W W') : HO w W' l a k :=
  ⟨h.hw.below hb, fun x hx => At.more hb.size _ _ _ _ ((h.ats x hx).below hb), fun x hx => ((h.keys x hx).below hb).more hb.size⟩
theorem HO.one {w W : World} {l : List (Nat × Array Value × TypeId)} {a : List (Nat × V × Value × Value)} {k : List (Value × List ByteArray)} (h : HO w W l a k) (c : Array Value) (t : TypeId) : HO w (W.alloc (.cells c t)) ((W.heap.size, c, t) :: l) a k :=
  ⟨h.hw.one c t, fun x hx => At.more (by simp) _ _ _ _ ((h.ats x hx).below ((Below.refl W.heap.size W).alloc (Nat.le_refl _) _)), fun x hx => ((h.keys x hx).below ((Below.refl W.heap.size W).alloc (Nat.le_refl _) _)).more (by simp)⟩
theorem HO.drewN {w W : World} {l : List (Nat × Array Value × TypeId)} {a : List (Nat × V × Value × Value)} {k : List (Value × List ByteArray)} (h : HO w W l a k) (n : Nat) : HO w (W.drewN n) l a k := h.below (below_drewN (Below.refl _ _) n)
theorem HO.value {w W : World} {l : List (Nat × Array Value × TypeId)} {a : List (Nat × V × Value × Value)} {k : List (Value × List ByteArray)} (h : HO w W l a k) {m : Nat} {r : V} {lv kv : Value} (hr : At W W.heap.size m r lv kv) : HO w W l ((m, r, lv, kv) :: a) k :=
  ⟨h.hw, fun x hx => by rcases List.mem_cons.1 hx with rfl | hx; exact hr; exact h.ats x hx, h.keys⟩
theorem HO.row {w W : World} {l : List (Nat × Array Value × TypeId)} {a : List (Nat × V × Value × Value)} {k : List (Value × List ByteArray)} (h : HO w W l a k) {kv : Value} {ks : List ByteArray} (hr : KeysAt W W.heap.size kv ks) : HO w W l a ((kv, ks) :: k) :=
  ⟨h.hw, h.ats, fun x hx => by rcases List.mem_cons.1 hx with rfl | hx; exact hr; exact h.keys x hx⟩
end Go.Proofs.YtkomndgnnpgklaaGreatDoor
/- ValueObjects: its walk. -/
namespace Go.Proofs.YtkomndgnnpgklaaGreatDoor
open Go Go.RowKit

theorem HO.at {w W : World} {l : List (Nat × Array Value × TypeId)} {a : List (Nat × V × Value × Value)} {k : List (Value × List ByteArray)} (h : HO w W l a k) {m : Nat} {r : V} {lv kv : Value} (hx : (m, r, lv, kv) ∈ a) : At W W.heap.size m r lv kv := h.ats _ hx
theorem HO.two {w W : World} {l : List (Nat × Array Value × TypeId)} {a : List (Nat × V × Value × Value)} {k : List (Value × List ByteArray)} (h : HO w W l a k) (c d : Array Value) (t u : TypeId) : HO w ((W.alloc (.cells c t)).alloc (.cells d u)) ((W.heap.size + 1, d, u) :: (W.heap.size, c, t) :: l) a k := by
  have := (h.one c t).one d u
  rw [World.size_alloc] at this
  exact this
theorem CopyO_any (v : V) (m : Nat) (lv kv : Value) (w : World) (h : At w w.heap.size m v lv kv) :
    Calls Tryz.prog 16 #[.agg (cellsV v lv kv)] w fun e w' => Ans v m e w w' := by
  refine (Copy_any m v lv kv w h).mono ?_
  rintro e w' ⟨lv', kv', rfl, hat, hb⟩
  exact Ans.of rfl (AtP.more (fun b hb => hb.2) _ _ _ _ hat) hb
theorem KeysO_any (v : V) (m : Nat) (lv kv : Value) (w : World) (h : At w w.heap.size m v lv kv) :
    Calls Tryz.prog 34 #[.agg (cellsV v lv kv)] w fun e w' => ∃ kv', e = .returned kv' ∧ KeysAt w' w'.heap.size kv' (sortK v.ks) ∧ Below w.heap.size w w' := by
  refine (Keys_any v m lv kv w h).mono ?_
  rintro e w' ⟨kv', rfl, hk, hb⟩
  exact ⟨kv', rfl, hk.at, hb⟩
theorem TextsO_any (ks : List ByteArray) (hl : ks.length ≤ 1000000000) (a b : Value) (w : World) (ha : KeysAt w w.heap.size a ks) (hb : KeysAt w w.heap.size b ks) :
    Calls Tryz.prog 37 #[a, b] w fun e w' => e = .returned (.bool true) ∧ Below w.heap.size w w' := by
  refine (refTexts_any ks ks w.heap.size w.heap.size a b hl w ha.1 hb.1).mono ?_
  rintro e w' ⟨rfl, n, rfl⟩
  exact ⟨by rw [decide_eq_true rfl], below_drewN (Below.refl _ _) n⟩
set_option maxRecDepth 100000 in
set_option maxHeartbeats 4000000 in
theorem objects_good (v : V) (m : Nat) (a1 : Option Addr) (n1 c1 : Nat) (a2 : Option Addr) (n2 c2 : Nat) (key : ByteArray) (x : V) (a3 : Option Addr) (n3 c3 : Nat) (a4 : Option Addr) (n4 c4 : Nat) (w : World) (hN : NumW w)
    (hv : At w w.heap.size (m + 1) v (.slice a1 n1 c1) (.slice a2 n2 c2)) (hkey : key.size ≤ 1048576) (hx : At w w.heap.size m x (.slice a3 n3 c3) (.slice a4 n4 c4)) (g1 : rightV 10000 v = true) (g2 : rightV 10000 x = true) (g3 : allGood key 0 = true)
    (hb : v.l.length + v.ks.length + keysLen v.ks + key.size + 2 ≤ 1048576) :
    Calls Tryz.prog 7 #[.agg (cellsV v (.slice a1 n1 c1) (.slice a2 n2 c2)), .string key, .agg (cellsV x (.slice a3 n3 c3) (.slice a4 n4 c4))] w fun e w' => e = .returned (.bool true) ∧ Below w.heap.size w w' := by
  have hsf := run_store_float Tryz.prog
  obtain ⟨i0, hi0, hz0, hz1, hz2⟩ := info_parts infoVal
  have HN := Lib.hid (fun W (hW : Below w.heap.size w W) => hN.below hW)
  have hk9 : key.size ≤ 1000000000 := by omega
  have hcl : cleanS key = key := by
    have := good_clean key
    rw [g3] at this
    exact of_decide_eq_true this.symm
  have hhead : headOK v = true := by
    have := g1
    rw [rightV_pos (by omega)] at this
    simp at this
    exact this.1
  have hok := (headOK_iff v).1 hhead
  have hf0 : v.k = 6 → v.f = 0 := fun e => by have := hok.2.1.resolve_left (by omega); unfold zeroV at this; simpa using this
  have hs0 : v.k = 6 → v.s = ⟨#[]⟩ := fun e => toList_inj (by have := hok.2.2.1.resolve_left (by omega); rw [Lib.toList_data] at this; exact this)
  have hl6 : v.k = 6 → v.ks.length = v.l.length := fun e => hok.2.2.2.2.1.resolve_left (by simp [e])
  have hk0 : v.k ≠ 6 → v.ks = [] := fun e => List.eq_nil_of_length_eq_zero (hok.2.2.2.2.2.1.resolve_left e)
  have hlen : v.ks.length ≤ v.l.length := by
    by_cases e : v.k = 6
    · rw [hl6 e]; exact Nat.le_refl _
    · rw [hk0 e]; exact Nat.zero_le _
  have hnd : v.ks.Nodup := okK_nodup hok.2.2.2.2.2.2.2
  have hsmv := hv.opened.1
  have hpsm := put_small v x key hsmv (by omega) (by omega) (by omega)
  have hksl : (sortK v.ks).length ≤ 1000000000 := by rw [sortK_len]; omega
  have hrv := fun W lp kp (h : At W W.heap.size (m + 1) v lp kp) => refRightT_any (m + 1) v lp kp W h
  have hrx := fun W lp kp (h : At W W.heap.size m x lp kp) => refRightT_any m x lp kp W h
  have hva := fun W => refValid_any key hk9 W
  simp only [g1] at hrv
  simp only [g2] at hrx
  simp only [g3] at hva
  have hcv := fun W lp kp (h : At W W.heap.size (m + 1) v lp kp) => CopyO_any v (m + 1) lp kp W h
  have hcx := fun W lp kp (h : At W W.heap.size m x lp kp) => CopyO_any x m lp kp W h
  have hgp := fun W lp kp (h : At W W.heap.size (m + 1) v lp kp) => GetO_any v m lp kp key hk9 hcl W h hlen
  have hgr := fun W lp kp (h : At W W.heap.size (m + 1) v lp kp) => refGetO_any v m lp kp key W h hlen
  have hkp := fun W lp kp (h : At W W.heap.size (m + 1) v lp kp) => KeysO_any v (m + 1) lp kp W h
  have hkr := fun W lp kp (h : At W W.heap.size (m + 1) v lp kp) => refKeysV_any v (m + 1) lp kp W h
  have hpp := fun W lp kp (h : At W W.heap.size (m + 1) v lp kp) lq kq (hq : At W W.heap.size m x lq kq) => PutO_any v x m lp kp lq kq key hk9 hcl W h hq hlen hpsm
  have hpr := fun W lp kp (h : At W W.heap.size (m + 1) v lp kp) lq kq (hq : At W W.heap.size m x lq kq) => refPutO_any v x m lp kp lq kq key W h hq hf0 hs0 hlen hpsm
  have hdp := fun W lp kp (h : At W W.heap.size (m + 1) v lp kp) => DropO_any v m lp kp key hk9 hcl W h hlen
  have hdr := fun W lp kp (h : At W W.heap.size (m + 1) v lp kp) => refDropO_any v m lp kp key W h hf0 hs0 hl6 hk0 hnd
  have htx := fun W a b (ha : KeysAt W W.heap.size a (sortK v.ks)) (hb : KeysAt W W.heap.size b (sortK v.ks)) => TextsO_any (sortK v.ks) hksl a b W ha hb
  generalize putO v key x = pV at hpp hpr
  generalize dropV v key = dV at hdp hdr
  generalize getV v key = gV at hgp hgr
  generalize getB v key = gB at hgp hgr
  have hsg := fun W lp kp lq kq (h : At W W.heap.size (m + 1) gV lp kp) (hq : At W W.heap.size (m + 1) gV lq kq) => Same_refl (m + 1) gV lp kp lq kq W h hq
  have hsp := fun W lp kp lq kq (h : At W W.heap.size (m + 1) pV lp kp) (hq : At W W.heap.size (m + 1) pV lq kq) => Same_refl (m + 1) pV lp kp lq kq W h hq
  have hsd := fun W lp kp lq kq (h : At W W.heap.size (m + 1) dV lp kp) (hq : At W W.heap.size (m + 1) dV lq kq) => Same_refl (m + 1) dV lp kp lq kq W h hq
  have hsv := fun W lp kp lq kq (h : At W W.heap.size (m + 1) v lp kp) (hq : At W W.heap.size (m + 1) v lq kq) => Same_refl (m + 1) v lp kp lq kq W h hq
  have hsx := fun W lp kp lq kq (h : At W W.heap.size m x lp kp) (hq : At W W.heap.size m x lq kq) => Same_refl m x lp kp lq kq W h hq
  have hst : HO w w [] [(m, x, .slice a3 n3 c3, .slice a4 n4 c4), (m + 1, v, .slice a1 n1 c1, .slice a2 n2 c2)] [] := ((⟨HW.start w, fun y hy => (by cases hy), fun y hy => (by cases hy)⟩ : HO w w [] [] []).value hv).value hx
  unfold cellsV
  simp only [cellsV] at hrv hrx hcv hcx hgp hgr hkp hkr hpp hpr hdp hdr hsg hsp hsd hsv hsx
  have HRV := Lib.hid hrv
  have HRX := Lib.hid hrx
  have HCV := Lib.hid hcv
  have HCX := Lib.hid hcx
  have HGP := Lib.hid hgp
  have HGR := Lib.hid hgr
  have HKP := Lib.hid hkp
  have HKR := Lib.hid hkr
  have HPP := Lib.hid hpp
  have HPR := Lib.hid hpr
  have HDP := Lib.hid hdp
  have HDR := Lib.hid hdr
  have HSG := Lib.hid hsg
  have HSP := Lib.hid hsp
  have HSD := Lib.hid hsd
  have HSV := Lib.hid hsv
  have HSX := Lib.hid hsx
  have HVA := Lib.hid hva
  have HTX := Lib.hid htx
  have HST := Lib.hid hst
  clear hrv hrx hcv hcx hgp hgr hkp hkr hpp hpr hdp hdr hsg hsp hsd hsv hsx hva htx hst hN hv hx hkey g1 g2 g3 hb hcl hhead hok hf0 hs0 hl6 hk0 hlen hnd hsmv hpsm hksl hk9
  go_enter Tryz.func7, Tryz.ntmps7
  go_wp2_with fail
  have H := Lib.hid (HST.out.two #[.int .i64 v.k, .float .f64 v.f, .string v.s, .slice a1 n1 c1, .slice a2 n2 c2] #[.int .i64 x.k, .float .f64 x.f, .string x.s, .slice a3 n3 c3, .slice a4 n4 c4] 27 27)
  clear HST
  refine (HRV.out _ _ _ (H.out.at (.tail _ (.head _)))).mono ?_
  rintro e w1 ⟨rfl, hb⟩
  have hh := H.out.below hb
  clear H 
  have H := Lib.hid hh
  clear hh hb
  obtain ⟨xc0, xc1, xc2, xc3, xc4⟩ := row5p (H.out.hw.rows _ (.head _))
  obtain ⟨vc0, vc1, vc2, vc3, vc4⟩ := row5p (H.out.hw.rows _ (.tail _ (.head _)))
  go_wp2_with fail
  refine (HRX.out _ _ _ (H.out.at (.head _))).mono ?_
  rintro e w2 ⟨rfl, hb⟩
  have hh := H.out.below hb
  clear H xc0 xc1 xc2 xc3 xc4 vc0 vc1 vc2 vc3 vc4
  have H := Lib.hid hh
  clear hh hb
  obtain ⟨vc0, vc1, vc2, vc3, vc4⟩ := row5p (H.out.hw.rows _ (.tail _ (.head _)))
  go_wp2_with fail
  refine (HVA.out _).mono ?_
  rintro e wv ⟨rfl, rfl⟩
  go_wp2_with fail
  refine (HCV.out _ _ _ (H.out.at (.tail _ (.head _)))).mono ?_
  rintro e w3 ⟨o1, o2, o3, o4, o5, o6, rfl, hat, hb⟩
  have hh := H.out.below hb
  have hh := hh.value hat
  clear H vc0 vc1 vc2 vc3 vc4
  have H := Lib.hid hh
  clear hh hb hat
  obtain ⟨xc0, xc1, xc2, xc3, xc4⟩ := row5p ((H.out.one #[.int .i64 v.k, .float .f64 v.f, .string v.s, .slice o1 o2 o3, .slice o4 o5 o6] 27).hw.rows _ (.tail _ (.head _)))
  go_wp2_with fail
  refine (HCX.out _ _ _ ((H.out.one _ _).at (.tail _ (.head _)))).mono ?_
  rintro e w4 ⟨i1, i2, i3, i4, i5, i6, rfl, hat, hb⟩
  have hh := (H.out.one _ _).below hb
  generalize w3.heap.size = nown at hh ⊢
  have hh := hh.value hat
  clear H xc0 xc1 xc2 xc3 xc4
  have H := Lib.hid hh
  clear hh hb hat
  obtain ⟨ownc0, ownc1, ownc2, ownc3, ownc4⟩ := row5p ((H.out.one #[.int .i64 x.k, .float .f64 x.f, .string x.s, .slice i1 i2 i3, .slice i4 i5 i6] 27).hw.rows _ (.tail _ (.head _)))
  go_wp2_with fail
  refine (HGP.out _ _ _ ((H.out.one _ _).at (.tail _ (.head _)))).mono ?_
  rintro e w5 ⟨g1, g2, g3, g4, g5, g6, rfl, hat, hb⟩
  have hh := (H.out.one _ _).below hb
  generalize w4.heap.size = nmine at hh ⊢
  have hh := hh.value hat
  clear H ownc0 ownc1 ownc2 ownc3 ownc4
  have H := Lib.hid hh
  clear hh hb hat
  obtain ⟨vc0, vc1, vc2, vc3, vc4⟩ := row5p ((H.out.one #[.int .i64 gV.k, .float .f64 gV.f, .string gV.s, .slice g1 g2 g3, .slice g4 g5 g6] 27).hw.rows _ (.tail _ (.tail _ (.tail _ (.tail _ (.head _))))))
  go_wp2_with fail
  refine (HGR.out _ _ _ ((H.out.one _ _).at (.tail _ (.tail _ (.tail _ (.tail _ (.head _))))))).mono ?_
  rintro e w6 ⟨h1, h2, h3, h4, h5, h6, rfl, hat, hb⟩
  have hh := (H.out.one _ _).below hb
  generalize w5.heap.size = na at hh ⊢
  have hh := hh.value hat
  clear H vc0 vc1 vc2 vc3 vc4
  have H := Lib.hid hh
  clear hh hb hat
  obtain ⟨ownc0, ownc1, ownc2, ownc3, ownc4⟩ := row5p ((H.out.one #[.int .i64 gV.k, .float .f64 gV.f, .string gV.s, .slice h1 h2 h3, .slice h4 h5 h6] 27).hw.rows _ (.tail _ (.tail _ (.tail _ (.head _)))))
  go_wp2_with fail
  refine (HKP.out _ _ _ ((H.out.one _ _).at (.tail _ (.tail _ (.tail _ (.head _)))))).mono ?_
  rintro e w7 ⟨kk, rfl, hkey, hb⟩
  have hh := (H.out.one _ _).below hb
  generalize w6.heap.size = nb at hh ⊢
  have hh := hh.row hkey
  clear H ownc0 ownc1 ownc2 ownc3 ownc4
  have H := Lib.hid hh
  clear hh hb hkey
  obtain ⟨ownc0, ownc1, ownc2, ownc3, ownc4⟩ := row5p (H.out.hw.rows _ (.tail _ (.tail _ (.tail _ (.head _)))))
  obtain ⟨minec0, minec1, minec2, minec3, minec4⟩ := row5p (H.out.hw.rows _ (.tail _ (.tail _ (.head _))))
  go_wp2_with fail
  refine (HPP.out _ _ _ (H.out.at (.tail _ (.tail _ (.tail _ (.head _))))) _ _ (H.out.at (.tail _ (.tail _ (.head _))))).mono ?_
  rintro e w8 ⟨p1, p2, p3, p4, p5, p6, rfl, hat, hb⟩
  have hh := H.out.below hb
  have hh := hh.value hat
  clear H ownc0 ownc1 ownc2 ownc3 ownc4 minec0 minec1 minec2 minec3 minec4
  have H := Lib.hid hh
  clear hh hb hat
  obtain ⟨ownc0, ownc1, ownc2, ownc3, ownc4⟩ := row5p ((H.out.one #[.int .i64 pV.k, .float .f64 pV.f, .string pV.s, .slice p1 p2 p3, .slice p4 p5 p6] 27).hw.rows _ (.tail _ (.tail _ (.tail _ (.tail _ (.head _))))))
  go_wp2_with fail
  refine (HDP.out _ _ _ ((H.out.one _ _).at (.tail _ (.tail _ (.tail _ (.tail _ (.head _))))))).mono ?_
  rintro e w9 ⟨d1, d2, d3, d4, d5, d6, rfl, hat, hb⟩
  have hh := (H.out.one _ _).below hb
  generalize w8.heap.size = np at hh ⊢
  have hh := hh.value hat
  clear H ownc0 ownc1 ownc2 ownc3 ownc4
  have H := Lib.hid hh
  clear hh hb hat
  go_wp2_with fail
  have hh := (H.out.one #[.int .i64 dV.k, .float .f64 dV.f, .string dV.s, .slice d1 d2 d3, .slice d4 d5 d6] 27).below ((Below.refl _ _).drew)
  clear H
  have H := Lib.hid hh
  clear hh
  have HSS := Lib.hid (fun W (h : HW w W [(w9.heap.size, #[.int .i64 dV.k, .float .f64 dV.f, .string dV.s, .slice d1 d2 d3, .slice d4 d5 d6], 27), (np, #[.int .i64 pV.k, .float .f64 pV.f, .string pV.s, .slice p1 p2 p3, .slice p4 p5 p6], 27), (nb, #[.int .i64 gV.k, .float .f64 gV.f, .string gV.s, .slice h1 h2 h3, .slice h4 h5 h6], 27), (na, #[.int .i64 gV.k, .float .f64 gV.f, .string gV.s, .slice g1 g2 g3, .slice g4 g5 g6], 27), (nmine, #[.int .i64 x.k, .float .f64 x.f, .string x.s, .slice i1 i2 i3, .slice i4 i5 i6], 27), (nown, #[.int .i64 v.k, .float .f64 v.f, .string v.s, .slice o1 o2 o3, .slice o4 o5 o6], 27), (w.heap.size + 1, #[.int .i64 x.k, .float .f64 x.f, .string x.s, .slice a3 n3 c3, .slice a4 n4 c4], 27), (w.heap.size, #[.int .i64 v.k, .float .f64 v.f, .string v.s, .slice a1 n1 c1, .slice a2 n2 c2], 27)]) => (show (W.cell? ⟨na, 0, none⟩ = some (.int .i64 gV.k) ∧ W.cell? ⟨na, 1, none⟩ = some (.float .f64 gV.f) ∧ W.cell? ⟨na, 2, none⟩ = some (.string gV.s) ∧ W.cell? ⟨na, 3, none⟩ = some (.slice g1 g2 g3) ∧ W.cell? ⟨na, 4, none⟩ = some (.slice g4 g5 g6)) ∧ (W.cell? ⟨nb, 0, none⟩ = some (.int .i64 gV.k) ∧ W.cell? ⟨nb, 1, none⟩ = some (.float .f64 gV.f) ∧ W.cell? ⟨nb, 2, none⟩ = some (.string gV.s) ∧ W.cell? ⟨nb, 3, none⟩ = some (.slice h1 h2 h3) ∧ W.cell? ⟨nb, 4, none⟩ = some (.slice h4 h5 h6)) ∧ (W.cell? ⟨w.heap.size, 0, none⟩ = some (.int .i64 v.k) ∧ W.cell? ⟨w.heap.size, 1, none⟩ = some (.float .f64 v.f) ∧ W.cell? ⟨w.heap.size, 2, none⟩ = some (.string v.s) ∧ W.cell? ⟨w.heap.size, 3, none⟩ = some (.slice a1 n1 c1) ∧ W.cell? ⟨w.heap.size, 4, none⟩ = some (.slice a2 n2 c2)) ∧ (W.cell? ⟨w.heap.size + 1, 0, none⟩ = some (.int .i64 x.k) ∧ W.cell? ⟨w.heap.size + 1, 1, none⟩ = some (.float .f64 x.f) ∧ W.cell? ⟨w.heap.size + 1, 2, none⟩ = some (.string x.s) ∧ W.cell? ⟨w.heap.size + 1, 3, none⟩ = some (.slice a3 n3 c3) ∧ W.cell? ⟨w.heap.size + 1, 4, none⟩ = some (.slice a4 n4 c4)) ∧ (W.cell? ⟨nown, 0, none⟩ = some (.int .i64 v.k) ∧ W.cell? ⟨nown, 1, none⟩ = some (.float .f64 v.f) ∧ W.cell? ⟨nown, 2, none⟩ = some (.string v.s) ∧ W.cell? ⟨nown, 3, none⟩ = some (.slice o1 o2 o3) ∧ W.cell? ⟨nown, 4, none⟩ = some (.slice o4 o5 o6)) ∧ (W.cell? ⟨nmine, 0, none⟩ = some (.int .i64 x.k) ∧ W.cell? ⟨nmine, 1, none⟩ = some (.float .f64 x.f) ∧ W.cell? ⟨nmine, 2, none⟩ = some (.string x.s) ∧ W.cell? ⟨nmine, 3, none⟩ = some (.slice i1 i2 i3) ∧ W.cell? ⟨nmine, 4, none⟩ = some (.slice i4 i5 i6)) ∧ (W.cell? ⟨np, 0, none⟩ = some (.int .i64 pV.k) ∧ W.cell? ⟨np, 1, none⟩ = some (.float .f64 pV.f) ∧ W.cell? ⟨np, 2, none⟩ = some (.string pV.s) ∧ W.cell? ⟨np, 3, none⟩ = some (.slice p1 p2 p3) ∧ W.cell? ⟨np, 4, none⟩ = some (.slice p4 p5 p6)) ∧ (W.cell? ⟨w9.heap.size, 0, none⟩ = some (.int .i64 dV.k) ∧ W.cell? ⟨w9.heap.size, 1, none⟩ = some (.float .f64 dV.f) ∧ W.cell? ⟨w9.heap.size, 2, none⟩ = some (.string dV.s) ∧ W.cell? ⟨w9.heap.size, 3, none⟩ = some (.slice d1 d2 d3) ∧ W.cell? ⟨w9.heap.size, 4, none⟩ = some (.slice d4 d5 d6)) from ⟨row5p (h.get na _ _ (.tail _ (.tail _ (.tail _ (.head _))))), row5p (h.get nb _ _ (.tail _ (.tail _ (.head _)))), row5p (h.get w.heap.size _ _ (.tail _ (.tail _ (.tail _ (.tail _ (.tail _ (.tail _ (.tail _ (.head _))))))))), row5p (h.get (w.heap.size + 1) _ _ (.tail _ (.tail _ (.tail _ (.tail _ (.tail _ (.tail _ (.head _)))))))), row5p (h.get nown _ _ (.tail _ (.tail _ (.tail _ (.tail _ (.tail _ (.head _))))))), row5p (h.get nmine _ _ (.tail _ (.tail _ (.tail _ (.tail _ (.head _)))))), row5p (h.get np _ _ (.tail _ (.head _))), row5p (h.get w9.heap.size _ _ (.head _))⟩))
  go_region_held3 (fun W => (W.cell? ⟨na, 0, none⟩ = some (.int .i64 gV.k) ∧ W.cell? ⟨na, 1, none⟩ = some (.float .f64 gV.f) ∧ W.cell? ⟨na, 2, none⟩ = some (.string gV.s) ∧ W.cell? ⟨na, 3, none⟩ = some (.slice g1 g2 g3) ∧ W.cell? ⟨na, 4, none⟩ = some (.slice g4 g5 g6)) ∧ (W.cell? ⟨nb, 0, none⟩ = some (.int .i64 gV.k) ∧ W.cell? ⟨nb, 1, none⟩ = some (.float .f64 gV.f) ∧ W.cell? ⟨nb, 2, none⟩ = some (.string gV.s) ∧ W.cell? ⟨nb, 3, none⟩ = some (.slice h1 h2 h3) ∧ W.cell? ⟨nb, 4, none⟩ = some (.slice h4 h5 h6)) ∧ (W.cell? ⟨w.heap.size, 0, none⟩ = some (.int .i64 v.k) ∧ W.cell? ⟨w.heap.size, 1, none⟩ = some (.float .f64 v.f) ∧ W.cell? ⟨w.heap.size, 2, none⟩ = some (.string v.s) ∧ W.cell? ⟨w.heap.size, 3, none⟩ = some (.slice a1 n1 c1) ∧ W.cell? ⟨w.heap.size, 4, none⟩ = some (.slice a2 n2 c2)) ∧ (W.cell? ⟨w.heap.size + 1, 0, none⟩ = some (.int .i64 x.k) ∧ W.cell? ⟨w.heap.size + 1, 1, none⟩ = some (.float .f64 x.f) ∧ W.cell? ⟨w.heap.size + 1, 2, none⟩ = some (.string x.s) ∧ W.cell? ⟨w.heap.size + 1, 3, none⟩ = some (.slice a3 n3 c3) ∧ W.cell? ⟨w.heap.size + 1, 4, none⟩ = some (.slice a4 n4 c4)) ∧ (W.cell? ⟨nown, 0, none⟩ = some (.int .i64 v.k) ∧ W.cell? ⟨nown, 1, none⟩ = some (.float .f64 v.f) ∧ W.cell? ⟨nown, 2, none⟩ = some (.string v.s) ∧ W.cell? ⟨nown, 3, none⟩ = some (.slice o1 o2 o3) ∧ W.cell? ⟨nown, 4, none⟩ = some (.slice o4 o5 o6)) ∧ (W.cell? ⟨nmine, 0, none⟩ = some (.int .i64 x.k) ∧ W.cell? ⟨nmine, 1, none⟩ = some (.float .f64 x.f) ∧ W.cell? ⟨nmine, 2, none⟩ = some (.string x.s) ∧ W.cell? ⟨nmine, 3, none⟩ = some (.slice i1 i2 i3) ∧ W.cell? ⟨nmine, 4, none⟩ = some (.slice i4 i5 i6)) ∧ (W.cell? ⟨np, 0, none⟩ = some (.int .i64 pV.k) ∧ W.cell? ⟨np, 1, none⟩ = some (.float .f64 pV.f) ∧ W.cell? ⟨np, 2, none⟩ = some (.string pV.s) ∧ W.cell? ⟨np, 3, none⟩ = some (.slice p1 p2 p3) ∧ W.cell? ⟨np, 4, none⟩ = some (.slice p4 p5 p6)) ∧ (W.cell? ⟨w9.heap.size, 0, none⟩ = some (.int .i64 dV.k) ∧ W.cell? ⟨w9.heap.size, 1, none⟩ = some (.float .f64 dV.f) ∧ W.cell? ⟨w9.heap.size, 2, none⟩ = some (.string dV.s) ∧ W.cell? ⟨w9.heap.size, 3, none⟩ = some (.slice d1 d2 d3) ∧ W.cell? ⟨w9.heap.size, 4, none⟩ = some (.slice d4 d5 d6))) (exact HSS.out _ H.out.hw)
    (first
    | (go_at_call 15; have hc := HSG.out _ _ _ _ _ (H.out.at (.tail _ (.tail _ (.tail _ (.head _))))) (H.out.at (.tail _ (.tail _ (.head _)))); (with_reducible refine hc.mono ?_); clear hc; rintro e wn ⟨rfl, hb⟩; have hh := H.out.below hb; clear H; have H := Lib.hid hh; clear hh hb)
    | (go_at_call 38; have hc := HKR.out _ _ _ (H.out.at (.tail _ (.tail _ (.tail _ (.tail _ (.tail _ (.tail _ (.tail _ (.head _))))))))); (with_reducible refine hc.mono ?_); clear hc; rintro e wn ⟨kj, rfl, hkey, hb⟩; have hh := H.out.below hb; have hh := hh.row hkey; clear H; have H := Lib.hid hh; clear hh hb hkey)
    | (go_at_call 37; have hc := HTX.out _ _ _ (H.out.keys _ (.tail _ (.head _))) (H.out.keys _ (.head _)); (with_reducible refine hc.mono ?_); clear hc; rintro e wn ⟨rfl, hb⟩; have hh := H.out.below hb; clear H; have H := Lib.hid hh; clear hh hb)
    | (go_at_call 39; have hc := HPR.out _ _ _ (H.out.at (.tail _ (.tail _ (.tail _ (.tail _ (.tail _ (.tail _ (.tail _ (.head _))))))))) _ _ (H.out.at (.tail _ (.tail _ (.tail _ (.tail _ (.tail _ (.tail _ (.head _)))))))); (with_reducible refine hc.mono ?_); clear hc; rintro e wn ⟨q1, q2, q3, q4, q5, q6, rfl, hat, hb⟩; have hh := H.out.below hb; have hh := hh.value hat; clear H; have H := Lib.hid hh; clear hh hb hat)
    | (go_at_call 15; have hc := HSP.out _ _ _ _ _ (H.out.at (.tail _ (.tail _ (.head _)))) (H.out.at (.head _)); (with_reducible refine hc.mono ?_); clear hc; rintro e wn ⟨rfl, hb⟩; have hh := H.out.below hb; clear H; have H := Lib.hid hh; clear hh hb)
    | (go_at_call 40; have hc := HDR.out _ _ _ (H.out.at (.tail _ (.tail _ (.tail _ (.tail _ (.tail _ (.tail _ (.tail _ (.tail _ (.head _)))))))))); (with_reducible refine hc.mono ?_); clear hc; rintro e wn ⟨r1, r2, r3, r4, r5, r6, rfl, hat, hb⟩; have hh := H.out.below hb; have hh := hh.value hat; clear H; have H := Lib.hid hh; clear hh hb hat)
    | (go_at_call 15; have hc := HSD.out _ _ _ _ _ (H.out.at (.tail _ (.tail _ (.head _)))) (H.out.at (.head _)); (with_reducible refine hc.mono ?_); clear hc; rintro e wn ⟨rfl, hb⟩; have hh := H.out.below hb; clear H; have H := Lib.hid hh; clear hh hb)
    | (go_at_call 15; have hc := HSV.out _ _ _ _ _ (H.out.at (.tail _ (.tail _ (.tail _ (.tail _ (.tail _ (.tail _ (.tail _ (.head _))))))))) (H.out.at (.tail _ (.tail _ (.tail _ (.tail _ (.tail _ (.tail _ (.tail _ (.tail _ (.tail _ (.head _))))))))))); (with_reducible refine hc.mono ?_); clear hc; rintro e wn ⟨rfl, hb⟩; have hh := H.out.below hb; clear H; have H := Lib.hid hh; clear hh hb)
    | (go_at_call 15; have hc := HSX.out _ _ _ _ _ (H.out.at (.tail _ (.tail _ (.tail _ (.tail _ (.tail _ (.tail _ (.head _)))))))) (H.out.at (.tail _ (.tail _ (.tail _ (.tail _ (.tail _ (.tail _ (.tail _ (.tail _ (.head _)))))))))); (with_reducible refine hc.mono ?_); clear hc; rintro e wn ⟨rfl, hb⟩; have hh := H.out.below hb; clear H; have H := Lib.hid hh; clear hh hb)
    | (go_at_call 12; have hc := heads_true _ (HN.out _ H.out.hw.bel); (with_reducible refine hc.mono ?_); clear hc; rintro e wn ⟨rfl, hb⟩; have hh := H.out.below hb; clear H; have H := Lib.hid hh; clear hh hb))
  all_goals
    go_wp2_with fail
    go_ret
    exact ⟨rfl, H.out.hw.bel⟩
end Go.Proofs.YtkomndgnnpgklaaGreatDoor
/- ValueObjects: every value, key, value. -/
namespace Go.Proofs.YtkomndgnnpgklaaGreatDoor
open Go Go.RowKit

set_option maxRecDepth 100000 in
set_option maxHeartbeats 8000000 in
theorem objects_bad (v : V) (m : Nat) (a1 : Option Addr) (n1 c1 : Nat) (a2 : Option Addr) (n2 c2 : Nat) (key : ByteArray) (x : V) (a3 : Option Addr) (n3 c3 : Nat) (a4 : Option Addr) (n4 c4 : Nat) (w : World) (hN : NumW w)
    (hv : At w w.heap.size m v (.slice a1 n1 c1) (.slice a2 n2 c2)) (hkey : key.size ≤ 1048576) (hx : At w w.heap.size m x (.slice a3 n3 c3) (.slice a4 n4 c4)) (hbad : ¬ (rightV 10000 v = true ∧ rightV 10000 x = true ∧ allGood key 0 = true)) :
    Calls Tryz.prog 7 #[.agg (cellsV v (.slice a1 n1 c1) (.slice a2 n2 c2)), .string key, .agg (cellsV x (.slice a3 n3 c3) (.slice a4 n4 c4))] w fun e w' => e = .returned (.bool true) ∧ Below w.heap.size w w' := by
  have hsf := run_store_float Tryz.prog
  obtain ⟨i0, hi0, hz0, hz1, hz2⟩ := info_parts infoVal
  have HN := Lib.hid (fun W (hW : Below w.heap.size w W) => hN.below hW)
  have hrv := fun W (hW : Below w.heap.size w W) => refRightT_any m v _ _ W ((hv.below hW).more hW.size)
  have hrx := fun W (hW : Below w.heap.size w W) => refRightT_any m x _ _ W ((hx.below hW).more hW.size)
  have hva := fun W => refValid_any key (by omega) W
  obtain ⟨r1, h1⟩ : ∃ b, rightV 10000 v = b := ⟨_, rfl⟩
  obtain ⟨r2, h2⟩ : ∃ b, rightV 10000 x = b := ⟨_, rfl⟩
  obtain ⟨r3, h3⟩ : ∃ b, allGood key 0 = b := ⟨_, rfl⟩
  simp only [h1] at hrv
  simp only [h2] at hrx
  simp only [h3] at hva
  rw [h1, h2, h3] at hbad
  unfold cellsV at hrv hrx ⊢
  have HRV := Lib.hid hrv
  have HRX := Lib.hid hrx
  have HVA := Lib.hid hva
  have HBAD := Lib.hid hbad
  have HS := Lib.hid (HW.start w)
  clear hrv hrx hva hbad h1 h2 h3 hN hv hx hkey
  go_enter Tryz.func7, Tryz.ntmps7
  go_wp2_with fail
  have H := Lib.hid (HS.out.two #[.int .i64 v.k, .float .f64 v.f, .string v.s, .slice a1 n1 c1, .slice a2 n2 c2] #[.int .i64 x.k, .float .f64 x.f, .string x.s, .slice a3 n3 c3, .slice a4 n4 c4] 27 27)
  clear HS
  refine (HRV.out _ H.out.bel).mono ?_
  rintro e w1 ⟨rfl, hb⟩
  have H1 := Lib.hid (H.out.below hb)
  obtain ⟨x0, x1, x2, x3, x4⟩ := row5p (H1.out.rows _ (.tail _ (.head _)))
  obtain ⟨y0, y1, y2, y3, y4⟩ := row5p (H1.out.rows _ (.head _))
  clear hb H
  cases r1
  · go_wp2_with fail
    refine (heads_true _ (HN.out _ H1.out.bel)).mono ?_
    rintro e w9 ⟨rfl, hb⟩
    go_wp2_with fail
    go_ret
    exact ⟨rfl, trk0 H1.out.bel hb⟩
  go_wp2_with fail
  refine (HRX.out _ H1.out.bel).mono ?_
  rintro e w2 ⟨rfl, hb⟩
  have H2 := Lib.hid (H1.out.below hb)
  clear hb x0 x1 x2 x3 x4 y0 y1 y2 y3 y4 H1
  obtain ⟨x0, x1, x2, x3, x4⟩ := row5p (H2.out.rows _ (.tail _ (.head _)))
  cases r2
  · go_wp2_with fail
    refine (heads_true _ (HN.out _ H2.out.bel)).mono ?_
    rintro e w9 ⟨rfl, hb⟩
    go_wp2_with fail
    go_ret
    exact ⟨rfl, trk0 H2.out.bel hb⟩
  go_wp2_with fail
  refine (HVA.out _).mono ?_
  rintro e w3 ⟨rfl, rfl⟩
  cases r3
  · go_wp2_with fail
    refine (heads_true _ (HN.out _ H2.out.bel)).mono ?_
    rintro e w9 ⟨rfl, hb⟩
    go_wp2_with fail
    go_ret
    exact ⟨rfl, trk0 H2.out.bel hb⟩
  exact absurd (by simp) HBAD.out
theorem valueObjects_true (v : V) (m : Nat) (lv kv : Value) (key : ByteArray) (x : V) (m2 : Nat) (lx kx : Value) (w : World) (hN : NumW w) (hv : At w w.heap.size m v lv kv) (hkey : key.size ≤ 1048576) (hx : At w w.heap.size m2 x lx kx) (hb : v.l.length + v.ks.length + keysLen v.ks + key.size + 2 ≤ 1048576) :
    Calls Tryz.prog 7 #[.agg (cellsV v lv kv), .string key, .agg (cellsV x lx kx)] w fun e w' => e = .returned (.bool true) ∧ Below w.heap.size w w' := by
  have hv' : At w w.heap.size (m + m2 + 1) v lv kv := atP_lev m _ _ _ _ (by omega) hv
  have hx1 : At w w.heap.size (m + m2 + 1) x lx kx := atP_lev m2 _ _ _ _ (by omega) hx
  have hx' : At w w.heap.size (m + m2) x lx kx := atP_lev m2 _ _ _ _ (by omega) hx
  obtain ⟨a1, n1, c1, a2, n2, c2, rfl, rfl⟩ := hv.slices
  obtain ⟨a3, n3, c3, a4, n4, c4, rfl, rfl⟩ := hx.slices
  by_cases hg : rightV 10000 v = true ∧ rightV 10000 x = true ∧ allGood key 0 = true
  · exact objects_good v (m + m2) a1 n1 c1 a2 n2 c2 key x a3 n3 c3 a4 n4 c4 w hN hv' hkey hx' hg.1 hg.2.1 hg.2.2 hb
  · exact objects_bad v (m + m2 + 1) a1 n1 c1 a2 n2 c2 key x a3 n3 c3 a4 n4 c4 w hN hv' hkey hx1 hg
end Go.Proofs.YtkomndgnnpgklaaGreatDoor
