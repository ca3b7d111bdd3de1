/- What the rows of layer 2 list of the package-level variables, as the walks ask for it. -/
import Derived.Test.YtamgdmmijlbjjaaGreatDoorNHeads
import Derived.Test.YtamgdmmijlbjjaaGreatDoorRows
import Derived.Lib.LaidU8
import Derived.Lib.LaidTab
import Derived.LaidLaws
import Derived.Deep.Slices
import Derived.OpenShut
namespace Go.Proofs.YtamgdmmijlbjjaaGreatDoor
open Go Go.RowKit Go.ChangeShapes Go.WideShapes Go.Lib

theorem trod_float {H : Type} {enc : TypeId × Value → H} {P : Program} {w : World} {base fuel : Nat} {spare : Nat → Bool} {held : Bool} {t : TypeId} {cs : List Value} {x : DataW H × List MemPlace} {k : FloatKind} (ht : P.underlying t = some (.float k)) (h : DataW.trod enc P w base spare held fuel t cs = some x) : ∃ b, cs = [.float k b] ∧ x = (.lit (.float k b), []) := by
  cases fuel with
  | zero => simp [DataW.trod] at h
  | succ n =>
    unfold DataW.trod at h
    rw [ht] at h
    split at h <;> simp_all
/-- A listed variable: its cells, their reading, and where they stand. -/
theorem varPlaces {P : Program} {w : World} : ∀ {l : List (String × DataW Unit)} {ps : List MemPlace}, DataW.LaidVars P w l ps → ∀ n d, (n, d) ∈ l → ∃ g t cs fuel p, P.globalNamed n = some g ∧ (P.globals[g]?).map (·.type) = some t ∧ w.var? P n = some cs ∧ DataW.trod (fun _ => ()) P w 0 (fun _ => true) false fuel t cs.toList = some (d, p) ∧ ∀ x ∈ MemPlace.row ⟨g, 0, none⟩ cs.size, x ∈ ps
  | [], _, _, _, _, hm => by cases hm
  | (n', d') :: r, ps, h, n, d, hm => by
    obtain ⟨g, t, cs, fuel, p, q, h1, h2, h3, h4, h5, hps⟩ := h
    rcases List.mem_cons.1 hm with e | e
    · cases e
      exact ⟨g, t, cs, fuel, p, h1, h2, h3, h4, fun x hx => by rw [hps]; simp [hx]⟩
    · obtain ⟨g2, t2, cs2, f2, p2, a1, a2, a3, a4, a5⟩ := varPlaces h5 n d e
      exact ⟨g2, t2, cs2, f2, p2, a1, a2, a3, a4, fun x hx => by rw [hps]; simp [a5 x hx]⟩
theorem bool_of_reads {P : Program} {w : World} {n : String} {g : Nat} {t : TypeId} {b : Bool} (hg : P.globalNamed n = some g) (ht : (P.globals[g]?).map (·.type) = some t) (hu : P.underlying t = some .bool) (h : VarReads P w n (.lit (.bool b))) : w.cell? ⟨g, 0, none⟩ = some (.bool b) := by
  obtain ⟨g', t', cs, fuel, p, hg', hty, hvar, hd⟩ := h
  obtain rfl := Option.some.inj (hg.symm.trans hg')
  obtain rfl := Option.some.inj (ht.symm.trans hty)
  obtain ⟨b', hc, hx⟩ := DataW.trod_bool hu hd
  simp only [Prod.mk.injEq, DataW.lit.injEq, Lit.bool.injEq] at hx
  rw [World.var?_cell hg hvar 0, ← Array.getElem?_toList, hc, hx.1]
  rfl
theorem info_of_reads {P : Program} {w : World} {n : String} {g : Nat} {t : TypeId} {f0 f1 f2 : Field} {k : IntKind} {z : Int} {d1 d2 : DataW Unit} (hg : P.globalNamed n = some g) (ht : (P.globals[g]?).map (·.type) = some t) (hu : P.underlying t = some (.struct #[f0, f1, f2])) (hf : P.underlying f0.type = some (.int k)) (ho : f0.offset = 0) (hc : P.cellsOf f0.type = 1) (h : VarReads P w n (.agg [.lit (.int k z), d1, d2])) : w.cell? ⟨g, 0, none⟩ = some (.int k z) := by
  obtain ⟨g', t', cs, fuel, p, hg', hty, hvar, hd⟩ := h
  obtain rfl := Option.some.inj (hg.symm.trans hg')
  obtain rfl := Option.some.inj (ht.symm.trans hty)
  obtain ⟨xs, m, _, hx, _, hl, hall⟩ := DataW.trod_struct hu hd
  have h0 := hall 0 f0 rfl
  rw [ho, hc] at h0
  match xs, hl with
  | [x0, x1, x2], _ =>
    simp only [Prod.mk.injEq, List.map_cons, List.map_nil, DataW.agg.injEq, List.cons.injEq] at hx
    obtain ⟨q, hq, hqx, _⟩ := DataW.trod_int hf h0
    have e := hx.1.1
    rw [hqx] at e
    simp only [DataW.lit.injEq, Lit.int.injEq, true_and] at e
    rw [World.var?_cell hg hvar 0, ← Array.getElem?_toList]
    have := congrArg (·[0]?) hq
    simp at this
    simp [this, e]
theorem floats_of_reads {P : Program} {w : World} {n : String} {g : Nat} {t e : TypeId} {k : FloatKind} {l : List Nat} (hn : P.globalNamed n = some g) (hy : (P.globals[g]?).map (·.type) = some t)
    (ht : P.underlying t = some (.slice e)) (he : P.underlying e = some (.float k)) (hc : P.cellsOf e = 1) (hl : 0 < l.length) (h : VarReads P w n (.slice (l.map fun x => .lit (.float k x)) [])) :
    ∃ (b o cap : Nat), w.cell? ⟨g, 0, none⟩ = some (.slice (some ⟨b, o, none⟩) l.length cap) ∧ l.length ≤ cap ∧ cap ≤ maxLen ∧ ∀ i (hi : i < l.length), w.cell? ⟨b, o + i, none⟩ = some (.float k l[i]) := by
  obtain ⟨g', t', cs, fuel, p, hg, hty, hvar, hd⟩ := h
  obtain rfl := Option.some.inj (hn.symm.trans hg)
  obtain rfl := Option.some.inj (hy.symm.trans hty)
  rcases Go.Deep.open_slice1 ht hc hd with ⟨_, hx⟩ | ⟨a, len, cap, m, q, V, D, Pl, hcs, _, hlc, hcm, hm, hx, hi⟩
  · cases hx
  have e0 := congrArg Prod.fst hx
  simp only [DataW.slice.injEq] at e0
  obtain ⟨eE, _⟩ := e0
  have hlen : len = l.length := by
    have := congrArg List.length eE
    simp at this
    omega
  have hcell : ∀ i (h : i < l.length), w.cell? (a.add i) = some (.float k l[i]) := by
    intro i h
    obtain ⟨h1, h2⟩ := hi i (by rw [hm]; simp; omega)
    obtain ⟨z, hz, hb⟩ := trod_float he h2
    have hd2 : D i = .lit (.float k l[i]) := by
      have := congrArg (·[i]?) eE
      simp [h, show i < len by omega] at this
      exact this.symm
    simp only [Prod.mk.injEq] at hb
    rw [hd2] at hb
    simp only [DataW.lit.injEq, Lit.float.injEq, true_and] at hb
    simp only [List.cons.injEq, and_true] at hz
    rw [h1, hz, hb.1]
  obtain ⟨R, o, sR⟩ := a
  obtain rfl : sR = none := by
    have h00 := hcell 0 hl
    have : (Addr.add ⟨R, o, sR⟩ 0) = ⟨R, o, sR⟩ := by simp [Addr.add]
    rw [this] at h00
    exact Go.Proofs.cell_spot h00
  refine ⟨R, o, cap, ?_, by omega, hcm, fun j hj => ?_⟩
  · rw [World.var?_cell hg hvar 0, ← Array.getElem?_toList, hcs, hlen]
    rfl
  · have := hcell j hj
    have e : (Addr.add ⟨R, o, none⟩ j) = ⟨R, o + j, none⟩ := by
      unfold Addr.add
      by_cases h0 : j = 0
      · subst h0; simp
      · simp [h0]
    rw [e] at this
    exact this
theorem pairs_of_reads {P : Program} {w : World} {n : String} {g : Nat} {t e : TypeId} {f0 f1 : Field} {m : Nat} {l : List (Nat × Nat)} (hn : P.globalNamed n = some g) (hy : (P.globals[g]?).map (·.type) = some t)
    (ht : P.underlying t = some (.array m e)) (he : P.underlying e = some (.struct #[f0, f1])) (hc : P.cellsOf e = 2) (h0 : P.underlying f0.type = some (.int .u64) ∧ f0.offset = 0 ∧ P.cellsOf f0.type = 1) (h1 : P.underlying f1.type = some (.int .u64) ∧ f1.offset = 1 ∧ P.cellsOf f1.type = 1)
    (h : VarReads P w n (.agg (l.map fun x => .agg [.lit (.int .u64 x.1), .lit (.int .u64 x.2)]))) (k hi lo : Nat) (hk : l[k]? = some (hi, lo)) : w.cell? ⟨g, k * 2, none⟩ = some (.int .u64 hi) ∧ w.cell? ⟨g, k * 2 + 1, none⟩ = some (.int .u64 lo) := by
  obtain ⟨g', t', cs, fuel, p, hg, hty, hvar, hd⟩ := h
  obtain rfl := Option.some.inj (hn.symm.trans hg)
  obtain rfl := Option.some.inj (hy.symm.trans hty)
  obtain ⟨xs, q, _, hx, _, hxl, hall⟩ := DataW.trod_array ht hd
  simp only [Prod.mk.injEq, DataW.agg.injEq] at hx
  have hlt := (List.getElem?_eq_some_iff.1 hk).1
  have hlx : xs.length = l.length := by
    have := congrArg List.length hx.1
    simpa using this.symm
  have hkx : xs[k]? = some (xs[k]'(by omega)) := List.getElem?_eq_getElem (by omega)
  have ha := hall k (by omega)
  rw [hkx, hc] at ha
  have e1 : (xs[k]'(by omega)).1 = .agg [.lit (.int .u64 hi), .lit (.int .u64 lo)] := by
    have := congrArg (·[k]?) hx.1
    simp only [List.getElem?_map, hk, hkx, Option.map_some, Option.some.injEq] at this
    exact this.symm
  obtain ⟨y, hy2⟩ : ∃ y, xs[k]'(by omega) = y := ⟨_, rfl⟩
  rw [hy2] at e1 ha
  obtain ⟨y1, y2⟩ := y
  simp only at e1
  subst e1
  have hz := ints_of_struct (zs := [(hi : Int), (lo : Int)]) (k := .u64) he (fun i f hf => by
    match i, hf with
    | 0, hf => simp at hf; subst hf; exact ⟨h0.1, h0.2.1, h0.2.2⟩
    | 1, hf => simp at hf; subst hf; exact ⟨h1.1, h1.2.1, h1.2.2⟩
    | i + 2, hf => simp at hf) hc ha
  have c0 : w.cell? ⟨g, k * 2, none⟩ = cs[k * 2]? := World.var?_cell hg hvar (k * 2)
  have c1 : w.cell? ⟨g, k * 2 + 1, none⟩ = cs[k * 2 + 1]? := World.var?_cell hg hvar (k * 2 + 1)
  rw [c0, c1, ← Array.getElem?_toList, ← Array.getElem?_toList]
  have q0 := congrArg (·[0]?) hz
  have q1 := congrArg (·[1]?) hz
  simp [List.getElem?_drop] at q0 q1
  exact ⟨by simpa using q0, by simpa using q1⟩

theorem ten_same : (Rows.laid_internal_strconv_uint64pow10 : DataW Unit) = tabData .u64 Lib.pow10Tab := by kernel_rfl
def floatBits : List Nat := [4607182418800017408, 4621819117588971520, 4636737291354636288, 4652007308841189376, 4666723172467343360, 4681608360884174848, 4696837146684686336, 4711630319722168320, 4726483295884279808, 4741671816366391296, 4756540486875873280, 4771362005757984768, 4786511204640096256, 4801453603149578240, 4816244402031689728, 4831355200913801216, 4846369599423283200, 4861130398305394688, 4876203697187506176, 4891288408196988160, 4906019910204099648, 4921056587992461136, 4936209963552724370]
theorem pow_same : (Rows.laid_internal_strconv_float64pow10 : DataW Unit) = .slice (floatBits.map fun x => .lit (.float .f64 x)) [] := by kernel_rfl
theorem starErr : "*" ++ "errors.errorString" = "*errors.errorString" := by decide
theorem rowErr : ∀ u, Tryz.prog.typeName? 3 u = some "*errors.errorString" → u = 285 := fun u h =>
  typeName_ptr_named (nm := "errors.errorString") (by rw [starErr]; kernel_rfl) (by kernel_rfl) (by decide) u (by rw [starErr]; exact h)
set_option maxRecDepth 100000 in
theorem law_of_laid {W : World} (hL : laidMetH Tryz.prog Rows.numberTextsRow.laid W) (hsz : 17 ≤ W.heap.size) (hmax : ∃ m, W.cell? ⟨2, 0, none⟩ = some (.int .i64 m)) : LawW W := by
  have r1 := Lib.laidMet.reads hL (n := "internal/strconv.optimize") (d := Rows.laid_internal_strconv_optimize) (by simp [Rows.numberTextsRow])
  have r2 := Lib.laidMet.reads hL (n := "internal/strconv.float64info") (d := Rows.laid_internal_strconv_float64info) (by simp [Rows.numberTextsRow])
  have r3 := Lib.laidMet.reads hL (n := "internal/strconv.float64pow10") (d := Rows.laid_internal_strconv_float64pow10) (by simp [Rows.numberTextsRow])
  have r4 := Lib.laidMet.reads hL (n := "internal/strconv.uint64pow10") (d := Rows.laid_internal_strconv_uint64pow10) (by simp [Rows.numberTextsRow])
  have r5 := Lib.laidMet.reads hL (n := "internal/strconv.pow10Tab") (d := Rows.laid_internal_strconv_pow10Tab) (by simp [Rows.numberTextsRow])
  rw [pow_same] at r3
  rw [ten_same] at r4
  have a1 : W.cell? ⟨3, 0, none⟩ = some (.bool true) := bool_of_reads (t := 4) (by kernel_rfl) (by kernel_rfl) Tryz.underlying4 r1
  have a2 : W.cell? ⟨11, 0, none⟩ = some (.int .u64 52) := info_of_reads (t := 324) (by kernel_rfl) (by kernel_rfl) Tryz.underlying324 (by kernel_rfl) rfl (by kernel_rfl) r2
  obtain ⟨b, o, cap, p1, p2, p3, p4⟩ := floats_of_reads (g := 16) (t := 349) (e := 23) (k := .f64) (l := floatBits) (by kernel_rfl) (by kernel_rfl) Tryz.underlying349 Tryz.underlying23 (by kernel_rfl) (by decide) r3
  have hfl : floatBits.length = 23 := by decide
  have p5 := p4 2 (by decide)
  have hb2 : floatBits[2]'(by decide) = 4636737291354636288 := by decide
  rw [hb2] at p5
  have a4 : Lib.TabIs Tryz.prog W "internal/strconv.uint64pow10" .u64 Lib.pow10Tab := by
    obtain ⟨g', t', cs, fuel, p, hg, hty, hvar, hd⟩ := r4
    obtain rfl := Option.some.inj ((show Tryz.prog.globalNamed "internal/strconv.uint64pow10" = some 7 by kernel_rfl).symm.trans hg)
    obtain rfl := Option.some.inj ((show (Tryz.prog.globals[7]?).map (·.type) = some 278 by kernel_rfl).symm.trans hty)
    unfold Lib.TabIs
    rw [hvar, ← Lib.cells_of_tab Tryz.underlying278 Tryz.underlying22 (by kernel_rfl) (by kernel_rfl) hd]
  have a5 := pairs_of_reads (g := 8) (t := 307) (e := 306) (l := Go.Pinned.pow10Rows) (by kernel_rfl) (by kernel_rfl) Tryz.underlying307 Tryz.underlying306 (by kernel_rfl) ⟨by kernel_rfl, rfl, by kernel_rfl⟩ ⟨by kernel_rfl, rfl, by kernel_rfl⟩ r5
  have a6 : ∃ b : Addr, W.cell? ⟨1, 0, none⟩ = some (.iface 285 (.pointer (some b))) := by
    obtain ⟨ps, hv, _, hrows⟩ : laidMet Tryz.prog Rows.numberTextsRow.laid W := hL
    obtain ⟨g', t', cs, fuel, p, hg, hty, hvar, hd, hin⟩ := varPlaces hv "strconv.ErrRange" Rows.laid_strconv_ErrRange (by simp [Rows.numberTextsRow])
    obtain rfl := Option.some.inj ((show Tryz.prog.globalNamed "strconv.ErrRange" = some 1 by kernel_rfl).symm.trans hg)
    obtain rfl := Option.some.inj ((show (Tryz.prog.globals[1]?).map (·.type) = some 60 by kernel_rfl).symm.trans hty)
    obtain ⟨l0⟩ := cs
    have ok0 : ∀ u v, l0 = [.iface u v] → Value.okWide Tryz.prog W .any 0 u v := fun u v e => by
      subst e
      exact (hrows 1 0 (hin _ (by simp [MemPlace.row]))).2 u v (by simpa using World.var?_cell hg hvar 0)
    obtain ⟨a0, s0, rfl, _⟩ := errorString_of_trod Tryz.underlying60 rowErr Tryz.underlying285 Tryz.underlying287 rfl rfl Tryz.underlying9 (by kernel_rfl) (by kernel_rfl) hd ok0
    exact ⟨a0, by simpa using World.var?_cell hg hvar 0⟩
  exact ⟨⟨⟨a5, a4, by omega⟩, hmax⟩, ⟨a1, a2, b, o, _, cap, p1, by omega, p2, p3, p5⟩, ⟨b, o, _, cap, p1, World.block_lt_of_cell? W _ p5⟩, hsz, a6⟩
end Go.Proofs.YtamgdmmijlbjjaaGreatDoor
