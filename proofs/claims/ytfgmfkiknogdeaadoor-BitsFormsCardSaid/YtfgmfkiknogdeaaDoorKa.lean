/- WHAT IS PROVED: how the laws' arguments that are arrays of two or three numbers are read. CONDITIONS: none. -/
import Derived.Test.YtfgmfkiknogdeaaDoorK
import Derived.Laws.IdiomArrays
namespace Go.Proofs.YtfgmfkiknogdeaaDoor
open Go Go.ChangeShapes Go.WideShapes Go.ChangeAt Go.RowKit Go.Joins

theorem cells2 : Tryd.prog.cellsOf 2 = 1 := by kernel_rfl
theorem cells37 : Tryd.prog.cellsOf 37 = 2 := by kernel_rfl
theorem cells56 : Tryd.prog.cellsOf 56 = 3 := by kernel_rfl
section
variable {H : Type} {enc : TypeId × Value → H} {W : World}
set_option maxRecDepth 100000 in
theorem open_arr2 {base : Nat} {sp : Nat → Bool} {held : Bool} {v : Value} {d : DataW H} {p : List MemPlace} (hv : Value.okWide Tryd.prog W .any base 37 v) (h : DataW.Trod enc Tryd.prog W 0 sp held 37 v d p) :
    ∃ x y, v = .agg #[.int .i64 x, .int .i64 y] ∧ d = .agg [.lit (.int .i64 x), .lit (.int .i64 y)] ∧ p = [] ∧ (Lit.int .i64 x).wf = true ∧ (Lit.int .i64 y).wf = true := by
  obtain ⟨cs, rfl, hsz, _⟩ : ∃ cs, v = .agg cs ∧ cs.size = Tryd.prog.cellsOf 37 ∧ Row.okWide Tryd.prog W .any base 37 cs := by
    simpa [Value.okWide, Tryd.underlying37] using hv
  obtain ⟨c0, c1, rfl⟩ := array2 (hsz.trans cells37)
  obtain ⟨fuel, hf⟩ := h
  obtain ⟨xs, m, _, hx, _, hl, hel⟩ := DataW.trod_array Tryd.underlying37 hf
  match xs, hl with
  | [y0, y1], _ =>
    obtain ⟨a0, e0, rfl, w0⟩ := DataW.trod_int Tryd.underlying2 (x := y0) (by simpa [Value.cells, cells2] using hel 0 (by omega))
    obtain ⟨a1, e1, rfl, w1⟩ := DataW.trod_int Tryd.underlying2 (x := y1) (by simpa [Value.cells, cells2] using hel 1 (by omega))
    simp at e0 e1
    subst e0 e1
    simp at hx
    obtain ⟨rfl, rfl⟩ := hx
    exact ⟨a0, a1, rfl, rfl, rfl, w0, w1⟩
set_option maxRecDepth 100000 in
theorem open_arr3 {base : Nat} {sp : Nat → Bool} {held : Bool} {v : Value} {d : DataW H} {p : List MemPlace} (hv : Value.okWide Tryd.prog W .any base 56 v) (h : DataW.Trod enc Tryd.prog W 0 sp held 56 v d p) :
    ∃ x y z, v = .agg #[.int .i64 x, .int .i64 y, .int .i64 z] ∧ d = .agg [.lit (.int .i64 x), .lit (.int .i64 y), .lit (.int .i64 z)] ∧ p = [] ∧ (Lit.int .i64 x).wf = true ∧ (Lit.int .i64 y).wf = true ∧ (Lit.int .i64 z).wf = true := by
  obtain ⟨cs, rfl, hsz, _⟩ : ∃ cs, v = .agg cs ∧ cs.size = Tryd.prog.cellsOf 56 ∧ Row.okWide Tryd.prog W .any base 56 cs := by
    simpa [Value.okWide, Tryd.underlying56] using hv
  obtain ⟨c0, c1, c2, rfl⟩ := array3 (hsz.trans cells56)
  obtain ⟨fuel, hf⟩ := h
  obtain ⟨xs, m, _, hx, _, hl, hel⟩ := DataW.trod_array Tryd.underlying56 hf
  match xs, hl with
  | [y0, y1, y2], _ =>
    obtain ⟨a0, e0, rfl, w0⟩ := DataW.trod_int Tryd.underlying2 (x := y0) (by simpa [Value.cells, cells2] using hel 0 (by omega))
    obtain ⟨a1, e1, rfl, w1⟩ := DataW.trod_int Tryd.underlying2 (x := y1) (by simpa [Value.cells, cells2] using hel 1 (by omega))
    obtain ⟨a2, e2, rfl, w2⟩ := DataW.trod_int Tryd.underlying2 (x := y2) (by simpa [Value.cells, cells2] using hel 2 (by omega))
    simp at e0 e1 e2
    subst e0 e1 e2
    simp at hx
    obtain ⟨rfl, rfl⟩ := hx
    exact ⟨a0, a1, a2, rfl, rfl, rfl, w0, w1, w2⟩
set_option maxRecDepth 100000 in
theorem shut_arr2 {sp : Nat → Bool} {held : Bool} {x y : Int} (w0 : (Lit.int .i64 x).wf = true) (w1 : (Lit.int .i64 y).wf = true) (W : World) : DataW.Trod enc Tryd.prog W 0 sp held 37 (.agg #[.int .i64 x, .int .i64 y]) (.agg [.lit (.int .i64 x), .lit (.int .i64 y)]) [] :=
  ⟨2, by simp [DataW.trod, Value.cells, Tryd.underlying37, Tryd.underlying2, cells37, cells2, w0, w1, show List.range 2 = [0, 1] from rfl]⟩
set_option maxRecDepth 100000 in
theorem shut_arr3 {sp : Nat → Bool} {held : Bool} {x y z : Int} (w0 : (Lit.int .i64 x).wf = true) (w1 : (Lit.int .i64 y).wf = true) (w2 : (Lit.int .i64 z).wf = true) (W : World) : DataW.Trod enc Tryd.prog W 0 sp held 56 (.agg #[.int .i64 x, .int .i64 y, .int .i64 z]) (.agg [.lit (.int .i64 x), .lit (.int .i64 y), .lit (.int .i64 z)]) [] :=
  ⟨2, by simp [DataW.trod, Value.cells, Tryd.underlying56, Tryd.underlying2, cells56, cells2, w0, w1, w2, show List.range 3 = [0, 1, 2] from rfl]⟩
end
end Go.Proofs.YtfgmfkiknogdeaaDoor
