/- WHAT IS PROVED: how the laws' arguments of type api.Int are read, and that the listed variable 'plain' holds the signed type of 4 bytes. CONDITIONS: none. -/
import Derived.Test.YtfgmfkiknogdeaaDoorU
import Derived.Test.YtfgmfkiknogdeaaDoorCards
import Derived.Test.YtfgmfkiknogdeaaDoorTie
import Derived.WalkKit
import Derived.ProofKit
import Derived.OpenShut
import Derived.Deep.DeepHandedRow
import Derived.Lib.LaidTab
import Derived.Lib.SmallJoins
import Derived.ChangeSame
namespace Go.Proofs.YtfgmfkiknogdeaaDoor
open Go Go.ChangeShapes Go.WideShapes Go.ChangeAt Go.RowKit Go.Joins

theorem own : ownKnob Tryd.prog.godebug = none := by kernel_rfl
theorem gPlain : Tryd.prog.globalNamed "tapline/bits.plain" = some 0 := by kernel_rfl
theorem gPlainType : (Tryd.prog.globals[0]?).map (·.type) = some 23 := by kernel_rfl
theorem cells23 : Tryd.prog.cellsOf 23 = 2 := by kernel_rfl
theorem cells3 : Tryd.prog.cellsOf 3 = 1 := by kernel_rfl
theorem cells4 : Tryd.prog.cellsOf 4 = 1 := by kernel_rfl

theorem wf_I64 {v : Int} (h : (Lit.int .i64 v).wf = true) : I64 v := by
  simp only [Lit.wf, IntKind.min, IntKind.max, IntKind.signed, IntKind.bits, Bool.and_eq_true, decide_eq_true_eq] at h
  unfold I64
  simp at h
  omega

section
variable {H : Type} {enc : TypeId × Value → H} {W : World}

set_option maxRecDepth 100000 in
/-- An argument of type api.Int, opened. -/
theorem open_ty {base : Nat} {sp : Nat → Bool} {held : Bool} {v : Value} {d : DataW H} {p : List MemPlace} (hv : Value.okWide Tryd.prog W .any base 23 v) (h : DataW.Trod enc Tryd.prog W 0 sp held 23 v d p) :
    ∃ s g, v = .agg #[.int .i64 s, .bool g] ∧ d = .agg [.lit (.int .i64 s), .lit (.bool g)] ∧ p = [] ∧ (Lit.int .i64 s).wf = true := by
  obtain ⟨c0, c1, y0, y1, m, rfl, rfl, rfl, hy0, hy1⟩ := open_agg2 Tryd.underlying23 (by kernel_rfl) cells23 hv h
  obtain ⟨a, e0, rfl, wa⟩ := DataW.trod_int Tryd.underlying3 hy0
  obtain ⟨b, e1, rfl⟩ := DataW.trod_bool Tryd.underlying4 hy1
  simp at e0 e1
  subst e0 e1
  exact ⟨a, b, rfl, rfl, rfl, wa⟩
set_option maxRecDepth 100000 in
theorem shut_ty {sp : Nat → Bool} {held : Bool} {s : Int} {g : Bool} (hw : (Lit.int .i64 s).wf = true) (W : World) : DataW.Trod enc Tryd.prog W 0 sp held 23 (.agg #[.int .i64 s, .bool g]) (.agg [.lit (.int .i64 s), .lit (.bool g)]) [] :=
  shut_agg2 (y0 := (.lit (.int .i64 s), [])) (y1 := (.lit (.bool g), [])) Tryd.underlying23 (by kernel_rfl) cells23 ⟨1, by simp [DataW.trod, Tryd.underlying3, hw]⟩ ⟨1, by simp [DataW.trod, Tryd.underlying4]⟩

set_option maxRecDepth 100000 in
theorem plain_of_laid {rest : List (String × DataW Unit)} (h : laidMet Tryd.prog (("tapline/bits.plain", Rows.laid_tapline_bits_plain) :: rest) W) : PlainAt W := by
  obtain ⟨ps, ⟨g', t', cs, fuel, p, q, hg', ht', hvar, hd, _, _⟩, _⟩ := h
  obtain rfl := Option.some.inj (gPlain.symm.trans hg')
  obtain rfl := Option.some.inj (gPlainType.symm.trans ht')
  obtain ⟨y0, y1, n, hx, hl, h0, h1⟩ := trod_struct2 Tryd.underlying23 hd
  obtain ⟨a, e0, rfl, _⟩ := DataW.trod_int Tryd.underlying3 h0
  obtain ⟨b, e1, rfl⟩ := DataW.trod_bool Tryd.underlying4 h1
  simp only [Rows.laid_tapline_bits_plain, Prod.mk.injEq, DataW.agg.injEq, List.cons.injEq, DataW.lit.injEq, Lit.int.injEq, Lit.bool.injEq, true_and, and_true] at hx
  obtain ⟨⟨rfl, rfl⟩, _⟩ := hx
  simp only [cells3, cells4, List.drop_zero] at e0 e1
  have c0 : W.cell? ⟨0, 0, none⟩ = cs[0]? := World.var?_cell gPlain hvar 0
  have c1 : W.cell? ⟨0, 1, none⟩ = cs[1]? := World.var?_cell gPlain hvar 1
  have k0 : cs[0]? = some (.int .i64 4) := by
    have := congrArg (·[0]?) e0
    simpa using this
  have k1 : cs[1]? = some (.bool true) := by
    have := congrArg (·[0]?) e1
    simpa using this
  exact ⟨c0.trans k0, c1.trans k1, block_lt_of_cell (c0.trans k0)⟩
end
end Go.Proofs.YtfgmfkiknogdeaaDoor
