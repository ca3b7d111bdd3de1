/- Keys that are put and dropped: plain. -/
import Derived.Test.YtkklfdfmfdnjoaaGreatDoorQDrop
import Derived.Test.YtkklfdfmfdnjoaaGreatDoorQKeys
import Derived.Test.YtkklfdfmfdnjoaaGreatDoorQRightR
import Derived.Test.YtkklfdfmfdnjoaaGreatDoorQSame
import Derived.Test.YtkklfdfmfdnjoaaGreatDoorQRightW
import Derived.Deep.QuietTactic
import Derived.BigQuiet
namespace Go.Proofs.YtkklfdfmfdnjoaaGreatDoor
open Go Go.RowKit

theorem sorted_nodup : ∀ l : List ByteArray, l.Pairwise (fun a b => leK a b = true) → (∀ i, i + 1 < l.length → l.getD (i + 1) default ≠ l.getD i default) → l.Nodup
  | [], _, _ => List.nodup_nil
  | [a], _, _ => by simp
  | a :: b :: r, hp, hne => by
    have ih := sorted_nodup (b :: r) hp.of_cons (fun i hi => hne (i + 1) (by simpa using hi))
    refine List.nodup_cons.2 ⟨fun hm => ?_, ih⟩
    have hab : leK a b = true := (List.pairwise_cons.1 hp).1 b (by simp)
    have hba : a ≠ b := fun e => hne 0 (by simp) (by simp [e])
    rcases List.mem_cons.1 hm with e | hm
    · exact hba e
    · have h2 : leK b a = true := (List.pairwise_cons.1 (List.pairwise_cons.1 hp).2).1 a hm
      exact hba (leK_anti a b hab h2)
theorem okK_nodup {ks : List ByteArray} (h : okK (sortK ks) = true) : ks.Nodup := by
  refine (sortK_perm ks).nodup_iff.1 (sorted_nodup _ (sortK_sorted ks) fun i hi e => ?_)
  unfold okK at h
  rw [List.all_eq_true] at h
  have h1 := h (i + 1) (by simpa using hi)
  unfold okAt at h1
  rw [e] at h1
  simp at h1
theorem strict_of_nodup {ks : List ByteArray} (h : ks.Nodup) (i : Nat) (hi : i + 1 < (sortK ks).length) : leK (sortK ks)[i + 1] (sortK ks)[i] = false := by
  have hs : (sortK ks).Nodup := (sortK_perm ks).nodup_iff.2 h
  have h1 : leK (sortK ks)[i] (sortK ks)[i + 1] = true := (List.pairwise_iff_getElem.1 (sortK_sorted ks)) i (i + 1) (by omega) hi (by omega)
  cases hh : leK (sortK ks)[i + 1] (sortK ks)[i]
  · rfl
  · have e := leK_anti _ _ h1 hh
    exact absurd e (List.pairwise_iff_getElem.1 hs i (i + 1) (by omega) hi (by omega))
/-- The key's place in what Put makes. -/
theorem put_place (v x : V) (K : ByteArray) (hlen : v.ks.length = v.l.length) : ∃ (j : Nat) (h : j < (putV v K x).l.length), Lib.idxOfS (putV v K x).ks K = (j : Int) ∧ (putV v K x).l[j] = x ∧ (putV v K x).ks.length = (putV v K x).l.length := by
  unfold putV
  rcases idx_cases v.ks K with ⟨q, hn⟩ | ⟨i, h1, h2, h3, _⟩
  · rw [if_pos (by omega)]
    refine ⟨v.l.length, by show v.l.length < (v.l ++ [x]).length; simp, ?_, by show (v.l ++ [x])[v.l.length]'(by simp) = x; simp, by show (v.ks ++ [K]).length = (v.l ++ [x]).length; simp [hlen]⟩
    rcases idx_cases (v.ks ++ [K]) K with ⟨_, hn2⟩ | ⟨i, h1, h2, h3, _⟩
    · exact absurd (by simp) hn2
    · show Lib.idxOfS (v.ks ++ [K]) K = _
      rw [h2]
      by_cases hi : i < v.ks.length
      · rw [List.getElem_append_left hi] at h3
        exact absurd (h3 ▸ List.getElem_mem hi) hn
      · have : i = v.ks.length := by simp at h1; omega
        rw [this, hlen]
  · rw [if_neg (by omega), h2]
    refine ⟨i, by show i < (v.l.set i x).length; simp; omega, ?_, by show (v.l.set i x)[i]'(by simp; omega) = x; simp, by show v.ks.length = (v.l.set i x).length; simp [hlen]⟩
    show Lib.idxOfS v.ks K = _
    exact h2
theorem put_nodup (v x : V) (K : ByteArray) (h : v.ks.Nodup) : (putV v K x).ks.Nodup := by
  unfold putV
  rcases idx_cases v.ks K with ⟨q, hn⟩ | ⟨i, h1, h2, h3, _⟩
  · rw [if_pos (by omega)]
    show (v.ks ++ [K]).Nodup
    rw [List.nodup_append]
    exact ⟨h, by simp, fun a ha b hb => by simp at hb; subst hb; exact fun e => hn (e ▸ ha)⟩
  · rw [if_neg (by omega)]
    exact h
theorem drop_none (v : V) (K : ByteArray) (h : v.ks.Nodup) : Lib.idxOfS (dropV v K).ks K = -1 := by
  unfold dropV
  rcases idx_cases v.ks K with ⟨q, hn⟩ | ⟨i, h1, h2, h3, _⟩
  · rw [if_pos (by omega)]
    exact q
  · rw [if_neg (by omega), h2]
    show Lib.idxOfS (v.ks.eraseIdx i) K = -1
    rcases idx_cases (v.ks.eraseIdx i) K with ⟨q, _⟩ | ⟨j, g1, _, g3, _⟩
    · exact q
    · exfalso
      have hm : K ∈ v.ks.eraseIdx i := g3 ▸ List.getElem_mem g1
      obtain ⟨t, ht, hne, e⟩ := List.mem_eraseIdx_iff_getElem.1 hm
      rcases Nat.lt_or_ge t i with hti | hti
      · exact List.pairwise_iff_getElem.1 h t i ht h1 hti (e.trans h3.symm)
      · exact List.pairwise_iff_getElem.1 h i t h1 ht (by omega) (h3.trans e.symm)
theorem drop_put (v x : V) (K : ByteArray) (hlen : v.ks.length = v.l.length) (hn : Lib.idxOfS v.ks K = -1) : dropV (putV v K x) K = v := by
  obtain ⟨j, h1, h2, _, h4⟩ := put_place v x K hlen
  have hp : putV v K x = .mk v.k v.f v.s (v.l ++ [x]) (v.ks ++ [K]) := by unfold putV; rw [hn, if_pos (by omega)]
  rcases idx_cases v.ks K with ⟨_, hK⟩ | ⟨i, _, q, _⟩
  · have hj : j = v.l.length := by
      rcases idx_cases (v.ks ++ [K]) K with ⟨_, hn2⟩ | ⟨i, g1, g2, g3, _⟩
      · exact absurd (by simp) hn2
      · rw [hp] at h2
        have e : (j : Int) = i := h2.symm.trans g2
        by_cases hi : i < v.ks.length
        · rw [List.getElem_append_left hi] at g3
          exact absurd (g3 ▸ List.getElem_mem hi) hK
        · have : i = v.ks.length := by simp at g1; omega
          omega
    unfold dropV
    rw [h2, if_neg (by omega), hp, hj]
    cases v with
    | mk k f s l ks =>
      show V.mk k f s ((l ++ [x]).eraseIdx l.length) ((ks ++ [K]).eraseIdx l.length) = _
      have e : ks.length = l.length := hlen
      rw [List.eraseIdx_append_of_length_le (Nat.le_refl _), Nat.sub_self, ← e, List.eraseIdx_append_of_length_le (Nat.le_refl _), Nat.sub_self]
      simp
  · omega
theorem drop_len (v : V) (K : ByteArray) (hlen : v.ks.length = v.l.length) : (dropV v K).ks.length ≤ (dropV v K).l.length := by
  unfold dropV
  split
  · omega
  · show (v.ks.eraseIdx _).length ≤ (v.l.eraseIdx _).length
    rw [List.length_eraseIdx, List.length_eraseIdx, hlen]
    exact Nat.le_refl _
theorem put_small (v x : V) (K : ByteArray) (hs : Small v) (h1 : v.l.length + 1 ≤ 1048576) (h2 : v.ks.length + 1 ≤ 1048576) (h3 : keysLen v.ks + K.size ≤ 1048576) : Small (putV v K x) := by
  obtain ⟨s1, s2, s3, s4, s5, s6, s7⟩ := hs
  unfold putV
  split
  · refine ⟨s1, s2, s3, s4, ?_, ?_, ?_⟩
    · show (v.l ++ [x]).length ≤ _
      simp
      omega
    · show (v.ks ++ [K]).length ≤ _
      simp
      omega
    · show keysLen (v.ks ++ [K]) ≤ _
      unfold keysLen at h3 ⊢
      simp
      omega
  · refine ⟨s1, s2, s3, s4, ?_, s6, s7⟩
    show (v.l.set _ x).length ≤ _
    simp
    omega
end Go.Proofs.YtkklfdfmfdnjoaaGreatDoor
/- What Get answers. -/
namespace Go.Proofs.YtkklfdfmfdnjoaaGreatDoor
open Go Go.RowKit

theorem atP_lev {w : World} {p : Nat → Prop} : ∀ (n n' : Nat) (v : V) (lv kv : Value), n ≤ n' → AtP w p n v lv kv → AtP w p n' v lv kv
  | 0, _, _, _, _, _, h => h.elim
  | n + 1, 0, _, _, _, hn, _ => absurd hn (by omega)
  | n + 1, n' + 1, v, lv, kv, hn, h => by
    obtain ⟨hs, ha, hcp, a, c, b, o, e, hab, hi⟩ := h
    refine ⟨hs, ha, hcp, a, c, b, o, e, hab, fun i hlt => ?_⟩
    obtain ⟨lv', kv', h5, h⟩ := hi i hlt
    exact ⟨lv', kv', h5, atP_lev n n' _ _ _ (by omega) h⟩
/-- What Get answers, whichever it is. -/
theorem Get_some (v : V) (m : Nat) (lv kv : Value) (key : ByteArray) (hkey : key.size ≤ 1000000000) (w : World) (h : At w w.heap.size (m + 1) v lv kv) (hlen : v.ks.length ≤ v.l.length) :
    Calls Tryz.prog 14 #[.agg (cellsV v lv kv), .string key] w fun e w' => ∃ (k : Int) (f : Nat) (s : ByteArray) (a1 : Option Addr) (n1 c1 : Nat) (a2 : Option Addr) (n2 c2 : Nat) (b : Bool), e = .returned (.tuple #[.agg #[.int .i64 k, .float .f64 f, .string s, .slice a1 n1 c1, .slice a2 n2 c2], .bool b]) ∧ (b = false → Lib.idxOfS v.ks (cleanS key) = -1) ∧ Below w.heap.size w w' := by
  refine (Get_any v m lv kv key hkey w h hlen).mono ?_
  rintro e w' ⟨hg, hb⟩
  rcases hg with ⟨q, rfl⟩ | ⟨i, hlt, lv', kv', q, rfl, hat⟩
  · exact ⟨0, 0, ⟨#[]⟩, none, 0, 0, none, 0, 0, false, rfl, fun _ => q, hb⟩
  · obtain ⟨p1, q1, r1, p2, q2, r2, rfl, rfl⟩ := AtP.slices hat
    exact ⟨_, _, _, p1, q1, r1, p2, q2, r2, true, rfl, (fun e => by cases e), hb⟩
theorem Get_hit (v x : V) (m : Nat) (lv kv : Value) (key : ByteArray) (hkey : key.size ≤ 1000000000) (w : World) (h : At w w.heap.size (m + 1) v lv kv) (hlen : v.ks.length ≤ v.l.length) (j : Nat) (hj : j < v.l.length) (hi : Lib.idxOfS v.ks (cleanS key) = (j : Int)) (hx : v.l[j] = x) :
    Calls Tryz.prog 14 #[.agg (cellsV v lv kv), .string key] w fun e w' => ∃ (a1 : Option Addr) (n1 c1 : Nat) (a2 : Option Addr) (n2 c2 : Nat), e = .returned (.tuple #[.agg #[.int .i64 x.k, .float .f64 x.f, .string x.s, .slice a1 n1 c1, .slice a2 n2 c2], .bool true]) ∧ At w' w'.heap.size m x (.slice a1 n1 c1) (.slice a2 n2 c2) ∧ Below w.heap.size w w' := by
  refine (Get_any v m lv kv key hkey w h hlen).mono ?_
  rintro e w' ⟨hg, hb⟩
  rcases hg with ⟨q, rfl⟩ | ⟨i, hlt, lv', kv', q, rfl, hat⟩
  · omega
  · obtain rfl : i = j := by omega
    subst hx
    obtain ⟨p1, q1, r1, p2, q2, r2, rfl, rfl⟩ := AtP.slices hat
    exact ⟨p1, q1, r1, p2, q2, r2, rfl, AtP.more (fun b hb => hb.2) _ _ _ _ hat, hb⟩
theorem Get_miss (v : V) (m : Nat) (lv kv : Value) (key : ByteArray) (hkey : key.size ≤ 1000000000) (w : World) (h : At w w.heap.size (m + 1) v lv kv) (hlen : v.ks.length ≤ v.l.length) (hi : Lib.idxOfS v.ks (cleanS key) = -1) :
    Calls Tryz.prog 14 #[.agg (cellsV v lv kv), .string key] w fun e w' => e = .returned (.tuple #[.agg #[.int .i64 0, .float .f64 0, .string ⟨#[]⟩, .slice none 0 0, .slice none 0 0], .bool false]) ∧ Below w.heap.size w w' := by
  refine (Get_any v m lv kv key hkey w h hlen).mono ?_
  rintro e w' ⟨hg, hb⟩
  rcases hg with ⟨q, rfl⟩ | ⟨i, hlt, lv', kv', q, rfl, hat⟩
  · exact ⟨rfl, hb⟩
  · omega
end Go.Proofs.YtkklfdfmfdnjoaaGreatDoor
/- ValueKeeps: its walk. -/
namespace Go.Proofs.YtkklfdfmfdnjoaaGreatDoor
open Go Go.RowKit

theorem trk0 {a W W' : World} (h : Below a.heap.size a W) (hb : Below W.heap.size W W') : Below a.heap.size a W' := h.trans (hb.mono h.size)
theorem trk1 {a W W' : World} {o : Obj} (h : Below a.heap.size a W) (hb : Below (W.alloc o).heap.size (W.alloc o) W') : Below a.heap.size a W' := (h.alloc h.size o).trans (hb.mono (by have := h.size; simp; omega))
set_option maxRecDepth 100000 in
set_option maxHeartbeats 8000000 in
theorem keeps_bad (v : V) (m : Nat) (a1 : Option Addr) (n1 c1 : Nat) (a2 : Option Addr) (n2 c2 : Nat) (key : ByteArray) (x : V) (a3 : Option Addr) (n3 c3 : Nat) (a4 : Option Addr) (n4 c4 : Nat) (w : World) (hN : NumW w)
    (hv : At w w.heap.size m v (.slice a1 n1 c1) (.slice a2 n2 c2)) (hkey : key.size ≤ 1048576) (hx : At w w.heap.size m x (.slice a3 n3 c3) (.slice a4 n4 c4)) (hbad : ¬ (rightV 10000 v = true ∧ rightV 10000 x = true ∧ allGood key 0 = true ∧ v.k = 6)) :
    Calls Tryz.prog 9 #[.agg (cellsV v (.slice a1 n1 c1) (.slice a2 n2 c2)), .string key, .agg (cellsV x (.slice a3 n3 c3) (.slice a4 n4 c4))] w fun e w' => e = .returned (.bool true) ∧ Below w.heap.size w w' := by
  have hsf := run_store_float Tryz.prog
  obtain ⟨i0, hi0, hz0, hz1, hz2⟩ := info_parts infoVal
  have HN := Lib.hid (fun W (hW : Below w.heap.size w W) => hN.below hW)
  have hrv := fun W (hW : Below w.heap.size w W) => refRightT_any m v _ _ W ((hv.below hW).more hW.size)
  have hrx := fun W (hW : Below w.heap.size w W) => refRightT_any m x _ _ W ((hx.below hW).more hW.size)
  have hva := fun W => refValid_any key (by omega) W
  obtain ⟨r1, h1⟩ : ∃ b, rightV 10000 v = b := ⟨_, rfl⟩
  obtain ⟨r2, h2⟩ : ∃ b, rightV 10000 x = b := ⟨_, rfl⟩
  obtain ⟨r3, h3⟩ : ∃ b, allGood key 0 = b := ⟨_, rfl⟩
  simp only [h1] at hrv
  simp only [h2] at hrx
  simp only [h3] at hva
  rw [h1, h2, h3] at hbad
  unfold cellsV at hrv hrx ⊢
  have HRV := Lib.hid hrv
  have HRX := Lib.hid hrx
  have HVA := Lib.hid hva
  have HBAD := Lib.hid hbad
  have HS := Lib.hid (HW.start w)
  clear hrv hrx hva hbad h1 h2 h3 hN hv hx hkey
  go_enter Tryz.func9, Tryz.ntmps9
  go_wp2_with fail
  have H := Lib.hid (HS.out.two #[.int .i64 v.k, .float .f64 v.f, .string v.s, .slice a1 n1 c1, .slice a2 n2 c2] #[.int .i64 x.k, .float .f64 x.f, .string x.s, .slice a3 n3 c3, .slice a4 n4 c4] 27 27)
  clear HS
  refine (HRV.out _ H.out.bel).mono ?_
  rintro e w1 ⟨rfl, hb⟩
  have H1 := Lib.hid (H.out.below hb)
  obtain ⟨x0, x1, x2, x3, x4⟩ := row5p (H1.out.rows _ (.tail _ (.head _)))
  obtain ⟨y0, y1, y2, y3, y4⟩ := row5p (H1.out.rows _ (.head _))
  clear hb H
  cases r1
  · go_wp2_with fail
    refine (heads_true _ (HN.out _ H1.out.bel)).mono ?_
    rintro e w9 ⟨rfl, hb⟩
    go_wp2_with fail
    go_ret
    exact ⟨rfl, trk0 H1.out.bel hb⟩
  go_wp2_with fail
  refine (HRX.out _ H1.out.bel).mono ?_
  rintro e w2 ⟨rfl, hb⟩
  have H2 := Lib.hid (H1.out.below hb)
  clear hb x0 x1 x2 x3 x4 y0 y1 y2 y3 y4 H1
  obtain ⟨x0, x1, x2, x3, x4⟩ := row5p (H2.out.rows _ (.tail _ (.head _)))
  cases r2
  · go_wp2_with fail
    refine (heads_true _ (HN.out _ H2.out.bel)).mono ?_
    rintro e w9 ⟨rfl, hb⟩
    go_wp2_with fail
    go_ret
    exact ⟨rfl, trk0 H2.out.bel hb⟩
  go_wp2_with fail
  refine (HVA.out _).mono ?_
  rintro e w3 ⟨rfl, rfl⟩
  cases r3
  · go_wp2_with fail
    refine (heads_true _ (HN.out _ H2.out.bel)).mono ?_
    rintro e w9 ⟨rfl, hb⟩
    go_wp2_with fail
    go_ret
    exact ⟨rfl, trk0 H2.out.bel hb⟩
  have hk : (v.k != 6) = true := by
    have : v.k ≠ 6 := fun e => HBAD.out (by simp [e])
    simpa using this
  go_wp2_with fail
  refine (heads_true _ (HN.out _ H2.out.bel)).mono ?_
  rintro e w9 ⟨rfl, hb⟩
  go_wp2_with fail
  go_ret
  exact ⟨rfl, trk0 H2.out.bel hb⟩
end Go.Proofs.YtkklfdfmfdnjoaaGreatDoor
/- ValueKeeps: its walk. -/
namespace Go.Proofs.YtkklfdfmfdnjoaaGreatDoor
open Go Go.RowKit

set_option maxRecDepth 100000 in
set_option maxHeartbeats 8000000 in
theorem keeps_good (v : V) (m : Nat) (a1 : Option Addr) (n1 c1 : Nat) (a2 : Option Addr) (n2 c2 : Nat) (key : ByteArray) (x : V) (a3 : Option Addr) (n3 c3 : Nat) (a4 : Option Addr) (n4 c4 : Nat) (w : World) (hN : NumW w)
    (hv : At w w.heap.size (m + 1) v (.slice a1 n1 c1) (.slice a2 n2 c2)) (hkey : key.size ≤ 1048576) (hx : At w w.heap.size m x (.slice a3 n3 c3) (.slice a4 n4 c4)) (g1 : rightV 10000 v = true) (g2 : rightV 10000 x = true) (g3 : allGood key 0 = true) (g4 : v.k = 6)
    (hb : v.l.length + v.ks.length + keysLen v.ks + key.size + 2 ≤ 1048576) :
    Calls Tryz.prog 9 #[.agg (cellsV v (.slice a1 n1 c1) (.slice a2 n2 c2)), .string key, .agg (cellsV x (.slice a3 n3 c3) (.slice a4 n4 c4))] w fun e w' => e = .returned (.bool true) ∧ Below w.heap.size w w' := by
  have hsf := run_store_float Tryz.prog
  obtain ⟨i0, hi0, hz0, hz1, hz2⟩ := info_parts infoVal
  have HN := Lib.hid (fun W (hW : Below w.heap.size w W) => hN.below hW)
  have hrv := fun W (hW : Below w.heap.size w W) => refRightT_any (m + 1) v _ _ W ((hv.below hW).more hW.size)
  have hrx := fun W (hW : Below w.heap.size w W) => refRightT_any m x _ _ W ((hx.below hW).more hW.size)
  have hva := fun W => refValid_any key (by omega) W
  have hk9 : key.size ≤ 1000000000 := by omega
  have hcl : cleanS key = key := by
    have := good_clean key
    rw [g3] at this
    exact of_decide_eq_true this.symm
  have hhead : headOK v = true := by
    have := g1
    rw [rightV_pos (by omega)] at this
    simp at this
    exact this.1
  have hok := (headOK_iff v).1 hhead
  have hlen : v.ks.length = v.l.length := hok.2.2.2.2.1.resolve_left (by simp [g4])
  have hnd : v.ks.Nodup := okK_nodup hok.2.2.2.2.2.2.2
  have hsmv := hv.opened.1
  obtain ⟨j, hj, hij, hjx, hpl⟩ := put_place v x (cleanS key) hlen
  have hpnd := put_nodup v x (cleanS key) hnd
  have hpsm := put_small v x (cleanS key) hsmv (by omega) (by omega) (by rw [hcl]; omega)
  have hdn := drop_none (putV v (cleanS key) x) (cleanS key) hpnd
  have hdl := drop_len (putV v (cleanS key) x) (cleanS key) hpl
  have hdp := drop_put v x (cleanS key) hlen
  have hg1 := fun W (hW : Below w.heap.size w W) => Get_some v m _ _ key hk9 W ((hv.below hW).more hW.size) (Nat.le_of_eq hlen)
  have hpu := fun W (hW : Below w.heap.size w W) => Put_any v x m _ _ _ _ key hk9 W ((hv.below hW).more hW.size) ((hx.below hW).more hW.size) g4 (Nat.le_of_eq hlen) hpsm
  have hg2 := fun W lp kp (h : At W W.heap.size (m + 1) (putV v (cleanS key) x) lp kp) => Get_hit (putV v (cleanS key) x) x m lp kp key hk9 W h (Nat.le_of_eq hpl) j hj hij hjx
  have hke := fun W lp kp (h : At W W.heap.size (m + 1) (putV v (cleanS key) x) lp kp) => Keys_any (putV v (cleanS key) x) (m + 1) lp kp W h
  have hdr := fun W lp kp (h : At W W.heap.size (m + 1) (putV v (cleanS key) x) lp kp) => Drop_any (putV v (cleanS key) x) m lp kp key hk9 W h (Nat.le_of_eq hpl)
  have hg3 := fun W lp kp (h : At W W.heap.size (m + 1) (dropV (putV v (cleanS key) x) (cleanS key)) lp kp) => Get_miss (dropV (putV v (cleanS key) x) (cleanS key)) m lp kp key hk9 W h hdl hdn
  have hstr := strict_of_nodup hpnd
  have hlk : (sortK (putV v (cleanS key) x).ks).length = (putV v (cleanS key) x).l.length := (sortK_len _).trans hpl
  have hpln := hpsm.2.2.2.2.1
  have hpos : 0 < (sortK (putV v (cleanS key) x).ks).length := by rw [hlk]; omega
  clear hj hij hjx hpl hpnd hpsm hdn hdl
  generalize dropV (putV v (cleanS key) x) (cleanS key) = dV at hdp hdr hg3
  generalize putV v (cleanS key) x = pV at hpu hg2 hke hdr hstr hlk hpln hpos
  obtain ⟨L, hL⟩ : ∃ L, sortK pV.ks = L := ⟨_, rfl⟩
  replace hstr : ∀ i (hi : i + 1 < L.length), leK L[i + 1] L[i] = false := by subst hL; exact hstr
  simp only [hL] at hke hlk hpos
  clear hL
  have hka : ∀ i (h : i < L.length), (L.map Value.string)[i]? = some (.string L[i]) := fun i h => by simp [h]
  have hsv := fun W (hW : Below w.heap.size w W) lp kp (h : At W W.heap.size (m + 1) v lp kp) => Same_refl (m + 1) v lp kp _ _ W h ((hv.below hW).more hW.size)
  have hsx := fun W (hW : Below w.heap.size w W) lp kp (h : At W W.heap.size m x lp kp) => Same_refl m x lp kp _ _ W h ((hx.below hW).more hW.size)
  simp only [g1] at hrv
  simp only [g2] at hrx
  simp only [g3] at hva
  have hk6 : (v.k != 6) = false := by simp [g4]
  unfold cellsV
  simp only [cellsV] at hrv hrx hg1 hpu hg2 hke hdr hg3 hsv hsx
  have HRV := Lib.hid hrv
  have HRX := Lib.hid hrx
  have HVA := Lib.hid hva
  have HG1 := Lib.hid hg1
  have HPU := Lib.hid hpu
  have HG2 := Lib.hid hg2
  have HKE := Lib.hid hke
  have HDR := Lib.hid hdr
  have HG3 := Lib.hid hg3
  have HSV := Lib.hid hsv
  have HSX := Lib.hid hsx
  have HSTR := Lib.hid hstr
  have HDP := Lib.hid hdp
  have HLK := Lib.hid hlk
  have HKA := Lib.hid hka
  have HS := Lib.hid (HW.start w)
  clear hrv hrx hva hg1 hpu hg2 hke hdr hg3 hsv hsx hstr hdp hlk hka hN hv hx hkey g1 g2 g3 g4 hb hcl hhead hok hlen hnd hsmv hk9
  go_enter Tryz.func9, Tryz.ntmps9
  go_wp2_with fail
  have H := Lib.hid (HS.out.two #[.int .i64 v.k, .float .f64 v.f, .string v.s, .slice a1 n1 c1, .slice a2 n2 c2] #[.int .i64 x.k, .float .f64 x.f, .string x.s, .slice a3 n3 c3, .slice a4 n4 c4] 27 27)
  clear HS
  refine (HRV.out _ H.out.bel).mono ?_
  rintro e w1 ⟨rfl, hb⟩
  have hh := H.out.below hb
  clear H  
  have H := Lib.hid hh
  clear hh hb  
  obtain ⟨xc0, xc1, xc2, xc3, xc4⟩ := row5p (H.out.rows _ (.head _))
  obtain ⟨vc0, vc1, vc2, vc3, vc4⟩ := row5p (H.out.rows _ (.tail _ (.head _)))
  go_wp2_with fail
  refine (HRX.out _ H.out.bel).mono ?_
  rintro e w2 ⟨rfl, hb⟩
  have hh := H.out.below hb
  clear H  xc0 xc1 xc2 xc3 xc4 vc0 vc1 vc2 vc3 vc4
  have H := Lib.hid hh
  clear hh hb  
  obtain ⟨vc0, vc1, vc2, vc3, vc4⟩ := row5p (H.out.rows _ (.tail _ (.head _)))
  go_wp2_with fail
  refine (HVA.out _).mono ?_
  rintro e wv ⟨rfl, rfl⟩
  go_wp2_with fail
  refine (HG1.out _ H.out.bel).mono ?_
  rintro e w3 ⟨k5, f5, s5, a5, n5, c5, a6, n6, c6, had, rfl, hhad, hb⟩
  have hh := H.out.below hb
  have HHAD := Lib.hid hhad
  clear H  vc0 vc1 vc2 vc3 vc4
  have H := Lib.hid hh
  clear hh hb  hhad
  obtain ⟨xc0, xc1, xc2, xc3, xc4⟩ := row5p ((H.out.one #[.int .i64 k5, .float .f64 f5, .string s5, .slice a5 n5 c5, .slice a6 n6 c6] 27).rows _ (.tail _ (.head _)))
  obtain ⟨vc0, vc1, vc2, vc3, vc4⟩ := row5p ((H.out.one #[.int .i64 k5, .float .f64 f5, .string s5, .slice a5 n5 c5, .slice a6 n6 c6] 27).rows _ (.tail _ (.tail _ (.head _))))
  go_wp2_with fail
  refine (HPU.out _ (H.out.one _ _).bel).mono ?_
  rintro e w4 ⟨lp, kp, rfl, hat, hb⟩
  have hh := (H.out.one _ _).below hb
  generalize w3.heap.size = ng at hh ⊢
  have AP := Lib.hid hat
  clear H  xc0 xc1 xc2 xc3 xc4 vc0 vc1 vc2 vc3 vc4
  have H := Lib.hid hh
  clear hh hb  hat
  obtain ⟨a7, n7, c7, a8, n8, c8, rfl, rfl⟩ := AtP.slices AP.out
  obtain rfl : n7 = pV.l.length := by obtain ⟨_, _, _, a, c, b, o, e, _⟩ := AP.out; injection e
  have BP := Lib.hid (Below.refl w4.heap.size w4)
  have APW := Lib.hid (fun W (hW : Below w4.heap.size w4 W) => (At.below (AtP.more (fun b hb => hb.2) _ _ _ _ AP.out) hW).more hW.size)
  go_wp2_with fail
  refine (HG2.out _ _ _ (APW.out _ (BP.out.alloc BP.out.size _))).mono ?_
  rintro e w5 ⟨a9, n9, c9, a0, n0, c0, rfl, hat, hb⟩
  have hh := (H.out.one _ _).below hb
  have BPx := trk1 BP.out hb
  generalize w4.heap.size = np at hh ⊢
  have AY := Lib.hid hat
  clear H BP 
  have H := Lib.hid hh
  have BP := Lib.hid BPx
  clear hh hb BPx hat
  obtain ⟨pc0, pc1, pc2, pc3, pc4⟩ := row5p ((H.out.one #[.int .i64 x.k, .float .f64 x.f, .string x.s, .slice a9 n9 c9, .slice a0 n0 c0] 27).rows _ (.tail _ (.head _)))
  have BY := Lib.hid (Below.refl w5.heap.size w5)
  have AYW := Lib.hid (fun W (hW : Below w5.heap.size w5 W) => (AY.out.below hW).more hW.size)
  go_wp2_with fail
  refine (HKE.out _ _ _ (APW.out _ (BP.out.alloc BP.out.size _))).mono ?_
  rintro e w6 ⟨kk, rfl, hkeys, hb⟩
  have hh := (H.out.one _ _).below hb
  have BPx := trk1 BP.out hb
  have BYx := trk1 BY.out hb
  generalize w5.heap.size = ny at hh ⊢
  have HK0 := Lib.hid hkeys
  clear H BP BY pc0 pc1 pc2 pc3 pc4
  have H := Lib.hid hh
  have BP := Lib.hid BPx
  have BY := Lib.hid BYx
  clear hh hb BPx BYx hkeys
  rcases id HK0.out.2 with ⟨_, h0⟩ | ⟨gk, capk, curk, hsk, _, _, _, _, _, _⟩
  · omega
  subst hsk
  have hkc := HK0.out.cells (g := gk) rfl
  have HKC := Lib.hid (fun i (h : i < L.length) => show w6.cell? ⟨gk, i, none⟩ = some (.string L[i]) from by
    have := hkc i (.string L[i]) (by simp [h])
    rw [add_zero_off] at this
    exact this)
  have HGK := Lib.hid (show gk < w6.heap.size from (HK0.out.lt gk rfl).2)
  clear hkc HK0
  go_wp2_with fail
  go_loopw [13] (fun i W => ∃ t : Nat, t + 1 ≤ L.length ∧ i = .int .i64 ((t : Int) + 1) ∧ Below w6.heap.size w6 W) (fun i _ => L.length + 1 - (intOf i).toNat)
  case atStart => exact ⟨0, by omega, rfl, Below.refl _ _⟩
  case round =>
    obtain ⟨t, ht, rfl, hbel⟩ := hrel
    have HBL := Lib.hid hbel
    have hl6 : L.length ≤ 1048576 := by rw [HLK.out]; exact hpln
    by_cases hlt : t + 1 < L.length
    · have ct := (hbel.cell (p := ⟨gk, t, none⟩) HGK.out).trans (HKC.out t (by omega))
      have ct1 := (hbel.cell (p := ⟨gk, t + 1, none⟩) HGK.out).trans (HKC.out (t + 1) hlt)
      have hle := (leK_walk L[t + 1] L[t]).trans (HSTR.out t hlt)
      clear hbel
      go_wp2_with fail
      go_quiet (fail)
      go_wp2_with fail
      go_roundw
      case rel => exact ⟨t + 1, by omega, by go_num, below_drewN HBL.out _⟩
      case measure => simp [intOf]; omega
    · have hte : t + 1 = L.length := by omega
      have hh := H.out.below hbel
      have BPx := trk0 BP.out hbel
      have BYx := trk0 BY.out hbel
      clear hbel H BP BY
      have H := Lib.hid hh
      have BP := Lib.hid BPx
      have BY := Lib.hid BYx
      clear hh BPx BYx
      obtain ⟨pc0, pc1, pc2, pc3, pc4⟩ := row5p (H.out.rows _ (.tail _ (.head _)))
      go_wp2_with fail
      refine (HDR.out _ _ _ (APW.out _ BP.out)).mono ?_
      rintro e w7 ⟨ld, kd, rfl, hat, hb⟩
      have hh := H.out.below hb
      have BPx := trk0 BP.out hb
      have BYx := trk0 BY.out hb
      have AD := Lib.hid hat
      clear H BP BY pc0 pc1 pc2 pc3 pc4
      have H := Lib.hid hh
      have BP := Lib.hid BPx
      have BY := Lib.hid BYx
      clear hh hb BPx BYx hat
      obtain ⟨b1, l1, e1, b2, l2, e2, rfl, rfl⟩ := AtP.slices AD.out
      go_wp2_with fail
      have BD := Lib.hid (Below.refl w7.heap.size w7)
      have ADW := Lib.hid (fun W (hW : Below w7.heap.size w7 W) => (At.below (AtP.more (fun b hb => hb.2) _ _ _ _ AD.out) hW).more hW.size)
      refine (HG3.out _ _ _ (ADW.out _ (BD.out.alloc BD.out.size _))).mono ?_
      rintro e w8 ⟨rfl, hb⟩
      have hh := (H.out.one _ _).below hb
      have BPx := trk1 BP.out hb
      have BYx := trk1 BY.out hb
      have BDx := trk1 BD.out hb
      generalize w7.heap.size = nd at hh ⊢
      clear H BP BY BD 
      have H := Lib.hid hh
      have BP := Lib.hid BPx
      have BY := Lib.hid BYx
      have BD := Lib.hid BDx
      clear hh hb BPx BYx BDx 
      obtain ⟨yc0, yc1, yc2, yc3, yc4⟩ := row5p ((H.out.one #[.int .i64 0, .float .f64 0, .string ⟨#[]⟩, .slice none 0 0, .slice none 0 0] 27).rows _ (.tail _ (.tail _ (.head _))))
      obtain ⟨xc0, xc1, xc2, xc3, xc4⟩ := row5p ((H.out.one #[.int .i64 0, .float .f64 0, .string ⟨#[]⟩, .slice none 0 0, .slice none 0 0] 27).rows _ (.tail _ (.tail _ (.tail _ (.tail _ (.tail _ (.head _)))))))
      obtain ⟨dc0, dc1, dc2, dc3, dc4⟩ := row5p ((H.out.one #[.int .i64 0, .float .f64 0, .string ⟨#[]⟩, .slice none 0 0, .slice none 0 0] 27).rows _ (.tail _ (.head _)))
      obtain ⟨vc0, vc1, vc2, vc3, vc4⟩ := row5p ((H.out.one #[.int .i64 0, .float .f64 0, .string ⟨#[]⟩, .slice none 0 0, .slice none 0 0] 27).rows _ (.tail _ (.tail _ (.tail _ (.tail _ (.tail _ (.tail _ (.head _))))))))
      obtain ⟨pc0, pc1, pc2, pc3, pc4⟩ := row5p ((H.out.one #[.int .i64 0, .float .f64 0, .string ⟨#[]⟩, .slice none 0 0, .slice none 0 0] 27).rows _ (.tail _ (.tail _ (.tail _ (.head _)))))
      go_wp2_with fail
      have heq : ((L.length : Int) == (pV.l.length : Int)) = true := by rw [HLK.out]; simp
      refine (HSX.out _ (H.out.one _ _).bel _ _ (AYW.out _ (BY.out.alloc BY.out.size _))).mono ?_
      rintro e w9 ⟨rfl, hb⟩
      have hh := (H.out.one _ _).below hb
      have BPx := trk1 BP.out hb
      have BYx := trk1 BY.out hb
      have BDx := trk1 BD.out hb
      generalize w8.heap.size = ns at hh ⊢
      clear H BP BY BD yc0 yc1 yc2 yc3 yc4 xc0 xc1 xc2 xc3 xc4 dc0 dc1 dc2 dc3 dc4 vc0 vc1 vc2 vc3 vc4 pc0 pc1 pc2 pc3 pc4
      have H := Lib.hid hh
      have BP := Lib.hid BPx
      have BY := Lib.hid BYx
      have BD := Lib.hid BDx
      clear hh hb BPx BYx BDx 
      obtain ⟨dc0, dc1, dc2, dc3, dc4⟩ := row5p (H.out.rows _ (.tail _ (.head _)))
      obtain ⟨vc0, vc1, vc2, vc3, vc4⟩ := row5p (H.out.rows _ (.tail _ (.tail _ (.tail _ (.tail _ (.tail _ (.tail _ (.head _))))))))
      obtain ⟨pc0, pc1, pc2, pc3, pc4⟩ := row5p (H.out.rows _ (.tail _ (.tail _ (.tail _ (.head _)))))
      cases had
      · have hdv : dV = v := HDP.out (HHAD.out rfl)
        subst dV
        go_wp2_with fail
        refine (HSV.out _ H.out.bel _ _ (ADW.out _ BD.out)).mono ?_
        rintro e w10 ⟨rfl, hb⟩
        have hh := H.out.below hb
        have BPx := trk0 BP.out hb
        have BYx := trk0 BY.out hb
        have BDx := trk0 BD.out hb
        clear H BP BY BD dc0 dc1 dc2 dc3 dc4 vc0 vc1 vc2 vc3 vc4 pc0 pc1 pc2 pc3 pc4
        have H := Lib.hid hh
        have BP := Lib.hid BPx
        have BY := Lib.hid BYx
        have BD := Lib.hid BDx
        clear hh hb BPx BYx BDx 
        obtain ⟨pc0, pc1, pc2, pc3, pc4⟩ := row5p (H.out.rows _ (.tail _ (.tail _ (.tail _ (.head _)))))
        go_wp2_with fail
        refine (heads_true _ (HN.out _ H.out.bel)).mono ?_
        rintro e w11 ⟨rfl, hb⟩
        have hh := H.out.below hb
        have BPx := trk0 BP.out hb
        have BYx := trk0 BY.out hb
        have BDx := trk0 BD.out hb
        clear H BP BY BD pc0 pc1 pc2 pc3 pc4
        have H := Lib.hid hh
        have BP := Lib.hid BPx
        have BY := Lib.hid BYx
        have BD := Lib.hid BDx
        clear hh hb BPx BYx BDx 
        go_wp2_with fail
        go_ret
        exact ⟨rfl, H.out.bel⟩
      · go_wp2_with fail
        refine (heads_true _ (HN.out _ H.out.bel)).mono ?_
        rintro e w10 ⟨rfl, hb⟩
        have hh := H.out.below hb
        have BPx := trk0 BP.out hb
        have BYx := trk0 BY.out hb
        have BDx := trk0 BD.out hb
        clear H BP BY BD dc0 dc1 dc2 dc3 dc4 vc0 vc1 vc2 vc3 vc4 pc0 pc1 pc2 pc3 pc4
        have H := Lib.hid hh
        have BP := Lib.hid BPx
        have BY := Lib.hid BYx
        have BD := Lib.hid BDx
        clear hh hb BPx BYx BDx 
        go_wp2_with fail
        go_ret
        exact ⟨rfl, H.out.bel⟩
end Go.Proofs.YtkklfdfmfdnjoaaGreatDoor
/- ValueKeeps: every value, key, value. -/
namespace Go.Proofs.YtkklfdfmfdnjoaaGreatDoor
open Go Go.RowKit

theorem valueKeeps_true (v : V) (m : Nat) (lv kv : Value) (key : ByteArray) (x : V) (m2 : Nat) (lx kx : Value) (w : World) (hN : NumW w) (hv : At w w.heap.size m v lv kv) (hkey : key.size ≤ 1048576) (hx : At w w.heap.size m2 x lx kx) (hb : v.l.length + v.ks.length + keysLen v.ks + key.size + 2 ≤ 1048576) :
    Calls Tryz.prog 9 #[.agg (cellsV v lv kv), .string key, .agg (cellsV x lx kx)] w fun e w' => e = .returned (.bool true) ∧ Below w.heap.size w w' := by
  have hv' : At w w.heap.size (m + m2 + 1) v lv kv := atP_lev m _ _ _ _ (by omega) hv
  have hx1 : At w w.heap.size (m + m2 + 1) x lx kx := atP_lev m2 _ _ _ _ (by omega) hx
  have hx' : At w w.heap.size (m + m2) x lx kx := atP_lev m2 _ _ _ _ (by omega) hx
  obtain ⟨a1, n1, c1, a2, n2, c2, rfl, rfl⟩ := hv.slices
  obtain ⟨a3, n3, c3, a4, n4, c4, rfl, rfl⟩ := hx.slices
  by_cases hg : rightV 10000 v = true ∧ rightV 10000 x = true ∧ allGood key 0 = true ∧ v.k = 6
  · exact keeps_good v (m + m2) a1 n1 c1 a2 n2 c2 key x a3 n3 c3 a4 n4 c4 w hN hv' hkey hx' hg.1 hg.2.1 hg.2.2.1 hg.2.2.2 hb
  · exact keeps_bad v (m + m2 + 1) a1 n1 c1 a2 n2 c2 key x a3 n3 c3 a4 n4 c4 w hN hv' hkey hx1 hg
end Go.Proofs.YtkklfdfmfdnjoaaGreatDoor
