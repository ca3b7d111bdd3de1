/- A sheet: every value. -/
import Derived.Test.YtjhghhjnccjhmaaGreatDoorRSca
namespace Go.Proofs.YtjhghhjnccjhmaaGreatDoor
open Go Go.RowKit

theorem ok_good {ks : List ByteArray} (h : okK (sortK ks) = true) : ∀ key ∈ ks, allGood key 0 = true := by
  intro key hk
  have hm : key ∈ sortK ks := (sortK_perm ks).mem_iff.2 hk
  obtain ⟨i, hi, rfl⟩ := List.getElem_of_mem hm
  unfold okK at h
  rw [List.all_eq_true] at h
  have := h i (by simpa using hi)
  unfold okAt at this
  simp [hi] at this
  first | exact this.1 | exact this.2 | exact this
theorem key_small {ks : List ByteArray} (h : keysLen ks ≤ 1048576) : ∀ key ∈ ks, key.size ≤ 1048576 := fun key hk => Nat.le_trans (size_keysLen ks key hk) h
theorem printV_arr (y : Sty) (step : ByteArray) (m : Nat) (v : V) (lev : Nat) (h : v.k = 5) : printV y step (m + 1) v lev = rowT y.col step lev [91] [93] v.l.length (fun i => printV y step m (v.l.getD i default) (lev + 1)) := by
  show (if v.k = 5 then _ else _) = _
  rw [if_pos h]
theorem printV_obj (y : Sty) (step : ByteArray) (m : Nat) (v : V) (lev : Nat) (h : v.k = 6) : printV y step (m + 1) v lev = rowT y.col step lev [123] [125] v.l.length (fun i => pairT y step (v.ks.getD (ordP y.srt v.ks i) default) (printV y step m (v.l.getD (ordP y.srt v.ks i) default) (lev + 1))) := by
  show (if v.k = 5 then _ else if v.k = 6 then _ else _) = _
  rw [if_neg (by omega), if_pos h]
theorem printV_str (y : Sty) (step : ByteArray) (m : Nat) (v : V) (lev : Nat) (h : v.k = 4) : printV y step (m + 1) v lev = tokT y.col (colT 4).data.toList (escT y.asc v.s) := by
  show (if v.k = 5 then _ else if v.k = 6 then _ else if v.k = 4 then _ else _) = _
  rw [if_neg (by omega), if_neg (by omega), if_pos h]
theorem printV_sca (y : Sty) (step : ByteArray) (m : Nat) (v : V) (lev : Nat) (h : v.k ≤ 3) : printV y step (m + 1) v lev = tokT y.col (colT v.k).data.toList (textV (m + 1) v) := by
  show (if v.k = 5 then _ else if v.k = 6 then _ else if v.k = 4 then _ else _) = _
  rw [if_neg (by omega), if_neg (by omega), if_neg (by omega)]
/-- What the order of keys promises. -/
def OrderC (y : Sty) : Prop := ∀ (b : Nat) (step : ByteArray) (lev : Int) (st : Option (List UInt8)) (ks : List ByteArray) (A : Option Addr) (c : Nat), ks.length ≤ 1048576 → okK (sortK ks) = true → ∀ (w : World), KeysAt w w.heap.size (.slice A ks.length c) ks → ShAt w b y step lev st →
    Calls Tryz.prog 45 #[.pointer (some ⟨b, 0, none⟩), .slice A ks.length c] w fun e w' => ∃ g, e = .returned (.slice (some ⟨g, 0, none⟩) ks.length ks.length) ∧ w.heap.size ≤ g ∧ Prm w' g ks.length (ordP y.srt ks) ∧ Below w.heap.size w w'
theorem ord_lt (srt : Bool) (ks : List ByteArray) : ∀ j, j < ks.length → ordP srt ks j < ks.length := by
  intro j hj
  unfold ordP
  split
  · rw [List.findIdx_lt_length]
    have hj2 : j < (sortK ks).length := by rw [sortK_len]; exact hj
    refine ⟨(sortK ks)[j], (sortK_perm ks).mem_iff.1 (List.getElem_mem hj2), ?_⟩
    simp [List.getD, hj2]
  · exact hj
theorem order_F (y : Sty) (hsrt : y.srt = false) : OrderC y := by
  intro b step lev st ks A c hks hok w hk hw
  refine (order_S b y hsrt step lev st A ks.length c hks w hw).mono ?_
  rintro e w' ⟨g, rfl, hg, hp, hb⟩
  refine ⟨g, rfl, hg, ?_, hb⟩
  have h := Prm.of_pls hp
  have e1 : ordP y.srt ks = fun j => j := by funext j; unfold ordP; rw [hsrt]; rfl
  rw [e1]
  exact h
set_option maxRecDepth 100000 in
set_option maxHeartbeats 8000000 in
theorem value_P (w0 : World) (hN : NumW w0) (b : Nat) (hb : w0.heap.size ≤ b) (y : Sty) (hO : OrderC y) (step : ByteArray) (hstep : step.size ≤ 7) (m : Nat) : ValueP w0 b y step m := by
  induction m with
  | zero => intro v lv kv d lev st w _ h; exact h.elim
  | succ m ih =>
    intro v lv kv d lev st w hr h hbel hw hlev
    obtain ⟨hsm, ha, hcp, a, c, B, o, rfl, hab, hi⟩ := h.opened
    have hhead : headOK v = true := by
      cases d with
      | zero => cases hr
      | succ d => have hr : (headOK v && v.l.all (fun x => rightV d x)) = true := hr
                  rw [Bool.and_eq_true] at hr; exact hr.1
    rw [headOK_iff] at hhead
    obtain ⟨⟨hk0, hk6⟩, _, _, _, hkl, _, hvs, hok⟩ := hhead
    have hkg : ∀ key ∈ v.ks, key.size ≤ 1048576 ∧ allGood key 0 = true := fun key hk => ⟨key_small hsm.2.2.2.2.2.2 key hk, ok_good hok key hk⟩
    by_cases h3 : v.k ≤ 3
    · obtain ⟨a2, n2, k2, hkv⟩ : ∃ a2 n2 k2, kv = .slice a2 n2 k2 := by obtain ⟨_, _, _, a2, n2, k2, _, e⟩ := h.slices; exact ⟨a2, n2, k2, e⟩
      subst hkv
      rw [printV_sca y step m v lev h3]
      exact value_sca w0 b hb y step lev st m v d hr _ _ _ _ _ _ h v.k rfl ⟨hk0, h3⟩ w (hN.below hbel) hbel hw
    by_cases h4 : v.k = 4
    · obtain ⟨a2, n2, k2, hkv⟩ : ∃ a2 n2 k2, kv = .slice a2 n2 k2 := by obtain ⟨_, _, _, a2, n2, k2, _, e⟩ := h.slices; exact ⟨a2, n2, k2, e⟩
      subst hkv
      rw [printV_str y step m v lev h4]
      have hcs : cellsV v (.slice a v.l.length c) (.slice a2 n2 k2) = #[.int .i64 4, .float .f64 v.f, .string v.s, .slice a v.l.length c, .slice a2 n2 k2] := by unfold cellsV; rw [h4]
      rw [hcs]
      exact value_str b y step lev st v.f v.s hsm.2.2.2.1 hvs a a2 v.l.length c n2 k2 w (hN.below hbel) hw
    have hp1 := fun (k : Int) P hP i st W => part1_S w0 b P hb hP y step m ih v d hr k a c B o kv hsm.2.2.2.2.1 hab hi (lev + 1) (by omega) i st W
    have hp2 := fun (h6 : v.ks.length = v.l.length) (hpo : ∀ j, j < v.l.length → ordP y.srt v.ks j < v.l.length) (k : Int) P hP Q hQ g hg i st W => part2_S w0 hN b P Q g hb hP hQ hg y step m ih v d hr k a c B o kv hsm.2.2.2.2.1 hab hi ha h6 hkg (lev + 1) (by omega) (ordP y.srt v.ks) hpo i st W
    obtain ⟨A, ad, ck, rfl, hA, hac⟩ := ha.1.dest
    have hsf := run_store_float Tryz.prog
    rw [List.length_map] at hp1 hp2 ⊢
    obtain ⟨_, _, hf64, hss, hls, hks, _⟩ := hsm
    have HP1 := Lib.hid hp1
    have HP2 := Lib.hid hp2
    have HW := Lib.hid hw
    have HBEL := Lib.hid hbel
    have hlt := hw.lt
    have HKL := Lib.hid hkl
    have HOK := Lib.hid hok
    have HKA := Lib.hid (show KeysAt w0 w0.heap.size (.slice A v.ks.length ck) v.ks by have h1 := ha; rw [List.length_map] at h1; exact h1)
    clear ha hac hA hcp hi hab h ih hr hp1 hp2 hbel hw hN hkl hkg hvs hok
    by_cases h5 : v.k = 5
    · rw [printV_arr y step m v lev h5]
      unfold cellsV
      rw [h5]
      have hro := fun W hE hW => row_S1 b y step lev hstep (by omega) ⟨#[91]⟩ ⟨#[93]⟩ (by decide) (by decide) v.l.length hls (fun i => printV y step m (v.l.getD i default) (lev + 1)) (.pointer (some ⟨w.heap.size, 0, none⟩)) (.pointer (some ⟨w.heap.size + 1, 0, none⟩)) (PEnv w0 b w.heap.size #[.int .i64 5, .float .f64 v.f, .string v.s, .slice a v.l.length c, .slice A v.ks.length ck])
        (PEnv.step hlt hb) (fun i st W h1 h2 h3 => HP1.out 5 w.heap.size hlt i st W h1 h2 h3) st W hE hW
      have hvs := VS.start (k := 5) (f := v.f) (s := v.s) (lv := .slice a v.l.length c) (kv := .slice A v.ks.length ck) w hlt HW.out
      have HRO := Lib.hid hro
      have HVS := Lib.hid hvs
      clear hro hvs h3 h4
      go_enter Tryz.func25, Tryz.ntmps25
      go_wp2_with fail
      refine (HRO.out _ ⟨HVS.out.p2, HVS.out.p3, HBEL.out.trans (HVS.out.ws.1.mono hb)⟩ HVS.out.sh).mono ?_
      rintro e w2 ⟨rfl, hw2, hs2⟩
      have HW2 := Lib.hid hw2
      have HS2 := Lib.hid (HVS.out.ws.trans hs2)
      clear hw2 hs2
      go_wp2_with fail
      go_end0
      exact ⟨rfl, HW2.out, HS2.out⟩
    · have h6 : v.k = 6 := by omega
      rw [printV_obj y step m v lev h6]
      unfold cellsV
      rw [h6]
      have hkk := HKL.out.resolve_left (by rw [h6]; simp)
      have hvs := VS.start (k := 6) (f := v.f) (s := v.s) (lv := .slice a v.l.length c) (kv := .slice A v.ks.length ck) w hlt HW.out
      have hord := fun W hB hW => hO b step lev st v.ks A ck hks HOK.out W ((KeysAt.below HKA.out hB).more hB.size) hW
      have hpo : ∀ j, j < v.l.length → ordP y.srt v.ks j < v.l.length := by rw [← hkk]; exact ord_lt y.srt v.ks
      have HPO := Lib.hid hpo
      have HVS := Lib.hid hvs
      have HORD := Lib.hid hord
      have HKK := Lib.hid hkk
      clear hvs hord h3 h4 h5 hkk hpo
      go_enter Tryz.func25, Tryz.ntmps25
      go_wp2_with fail
      have HBL : Hid (Below w.heap.size w ((w.alloc (.cells #[.pointer (some ⟨b, 0, none⟩)] 51)).alloc (.cells #[.int .i64 6, .float .f64 v.f, .string v.s, .slice a v.l.length c, .slice A v.ks.length ck] 27))) := Lib.hid (((Below.refl w.heap.size w).alloc (Nat.le_refl _) _).alloc (by simp) _)
      generalize ((w.alloc (.cells #[.pointer (some ⟨b, 0, none⟩)] 51)).alloc (.cells #[.int .i64 6, .float .f64 v.f, .string v.s, .slice a v.l.length c, .slice A v.ks.length ck] 27)) = w1 at HVS HBL ⊢
      refine (HORD.out w1 (HBEL.out.trans (HVS.out.ws.1.mono hb)) HVS.out.sh).mono ?_
      rintro e w2 ⟨g, rfl, hg, hpl, hb2⟩
      have HV2 := Lib.hid (HVS.out.below hb2)
      have hb3 : Below w2.heap.size w2 (w2.alloc (.cells #[.slice (some ⟨g, 0, none⟩) v.ks.length v.ks.length] 77)) := (Below.refl w2.heap.size w2).alloc (Nat.le_refl _) _
      have HV3 := Lib.hid (HV2.out.below hb3)
      have hgl := hpl.lt
      have hw1s : w.heap.size ≤ w1.heap.size := HBL.out.size
      have hb2s := hb2.size
      have hpl3 : Prm (w2.alloc (.cells #[.slice (some ⟨g, 0, none⟩) v.ks.length v.ks.length] 77)) g v.ks.length (ordP y.srt v.ks) := hpl.keep (hb3.block g hgl)
      have HPL := Lib.hid hpl3
      have HQ := Lib.hid (heap_alloc_new w2 (.cells #[.slice (some ⟨g, 0, none⟩) v.ks.length v.ks.length] 77))
      have hgb : b < g := by omega
      have hQb : b < w2.heap.size := by omega
      have hro := fun W hE hW => row_S2 b y step lev hstep (by omega) ⟨#[123]⟩ ⟨#[125]⟩ (by decide) (by decide) v.l.length hls (fun i => pairT y step (v.ks.getD (ordP y.srt v.ks i) default) (printV y step m (v.l.getD (ordP y.srt v.ks i) default) (lev + 1))) (.pointer (some ⟨w.heap.size, 0, none⟩)) (.pointer (some ⟨w.heap.size + 1, 0, none⟩)) (.pointer (some ⟨w2.heap.size, 0, none⟩)) (PEnv2 w0 b w.heap.size w2.heap.size g v.l.length (ordP y.srt v.ks) #[.int .i64 6, .float .f64 v.f, .string v.s, .slice a v.l.length c, .slice A v.ks.length ck])
        (PEnv2.step hlt hQb hgb hb) (fun i st W h1 h2 h3 => HP2.out HKK.out HPO.out 6 w.heap.size hlt w2.heap.size hQb g hgb i st W h1 h2 h3) st W hE hW
      have HRO := Lib.hid hro
      obtain ⟨q0, ⟨q1, q2, q3, q4, q5⟩, q6⟩ := HV3.out.cells
      clear HVS hpl hpl3 hro hb3 HV2
      go_wp2_with fail
      refine (HRO.out _ ⟨⟨HV3.out.p2, HV3.out.p3, HBEL.out.trans (HV3.out.ws.1.mono hb)⟩, by rw [← HKK.out]; exact HQ.out, by rw [← HKK.out]; exact HPL.out⟩ HV3.out.sh).mono ?_
      rintro e w4 ⟨rfl, hw4, hs4⟩
      have HW4 := Lib.hid hw4
      have HS4 := Lib.hid (HV3.out.ws.trans hs4)
      clear hw4 hs4
      go_wp2_with fail
      go_end0
      exact ⟨rfl, HW4.out, HS4.out⟩
end Go.Proofs.YtjhghhjnccjhmaaGreatDoor
