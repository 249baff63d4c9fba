/- WHAT IS PROVED: how the laws' arguments that are arrays of two ints are read. CONDITIONS: none. -/
import Derived.Test.YtfgmfkiknogdeaaDoorK
import Derived.Laws.IdiomArrays
namespace Go.Proofs.YtfgmfkiknogdeaaDoor
open Go Go.ChangeShapes Go.WideShapes Go.ChangeAt Go.RowKit Go.Joins

theorem cells3i : Tryd.prog.cellsOf 3 = 1 := by kernel_rfl
theorem cells68 : Tryd.prog.cellsOf 68 = 2 := by kernel_rfl
section
variable {H : Type} {enc : TypeId × Value → H} {W : World}
set_option maxRecDepth 100000 in
theorem open_arr2i {base : Nat} {sp : Nat → Bool} {held : Bool} {v : Value} {d : DataW H} {p : List MemPlace} (hv : Value.okWide Tryd.prog W .any base 68 v) (h : DataW.Trod enc Tryd.prog W 0 sp held 68 v d p) :
    ∃ x y, v = .agg #[.int .i64 x, .int .i64 y] ∧ d = .agg [.lit (.int .i64 x), .lit (.int .i64 y)] ∧ p = [] ∧ (Lit.int .i64 x).wf = true ∧ (Lit.int .i64 y).wf = true := by
  obtain ⟨cs, rfl, hsz, _⟩ : ∃ cs, v = .agg cs ∧ cs.size = Tryd.prog.cellsOf 68 ∧ Row.okWide Tryd.prog W .any base 68 cs := by
    simpa [Value.okWide, Tryd.underlying68] using hv
  obtain ⟨c0, c1, rfl⟩ := array2 (hsz.trans cells68)
  obtain ⟨fuel, hf⟩ := h
  obtain ⟨xs, m, _, hx, _, hl, hel⟩ := DataW.trod_array Tryd.underlying68 hf
  match xs, hl with
  | [y0, y1], _ =>
    obtain ⟨a0, e0, rfl, w0⟩ := DataW.trod_int Tryd.underlying3 (x := y0) (by simpa [Value.cells, cells3i] using hel 0 (by omega))
    obtain ⟨a1, e1, rfl, w1⟩ := DataW.trod_int Tryd.underlying3 (x := y1) (by simpa [Value.cells, cells3i] using hel 1 (by omega))
    simp at e0 e1
    subst e0 e1
    simp at hx
    obtain ⟨rfl, rfl⟩ := hx
    exact ⟨a0, a1, rfl, rfl, rfl, w0, w1⟩
set_option maxRecDepth 100000 in
theorem shut_arr2i {sp : Nat → Bool} {held : Bool} {x y : Int} (w0 : (Lit.int .i64 x).wf = true) (w1 : (Lit.int .i64 y).wf = true) (W : World) : DataW.Trod enc Tryd.prog W 0 sp held 68 (.agg #[.int .i64 x, .int .i64 y]) (.agg [.lit (.int .i64 x), .lit (.int .i64 y)]) [] :=
  ⟨2, by simp [DataW.trod, Value.cells, Tryd.underlying68, Tryd.underlying3, cells68, cells3i, w0, w1, show List.range 2 = [0, 1] from rfl]⟩
end
end Go.Proofs.YtfgmfkiknogdeaaDoor
