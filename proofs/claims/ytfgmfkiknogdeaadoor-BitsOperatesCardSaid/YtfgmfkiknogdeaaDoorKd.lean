/- WHAT IS PROVED: how the laws' arguments that are arrays of two types are read. CONDITIONS: none. -/
import Derived.Test.YtfgmfkiknogdeaaDoorKa
import Derived.Test.YtfgmfkiknogdeaaDoorKb
namespace Go.Proofs.YtfgmfkiknogdeaaDoor
open Go Go.ChangeShapes Go.WideShapes Go.ChangeAt Go.RowKit Go.Joins
theorem cells36 : Tryd.prog.cellsOf 36 = 4 := by kernel_rfl
section
variable {H : Type} {enc : TypeId × Value → H} {W : World}
theorem arrayOf4 {cs : Array Value} (h : cs.size = 4) : ∃ a b c d, cs = #[a, b, c, d] := by
  obtain ⟨l⟩ := cs
  match l, h with
  | [a, b, c, d], _ => exact ⟨a, b, c, d, rfl⟩
set_option maxRecDepth 100000 in
theorem ty_row {sp : Nat → Bool} {held : Bool} {n : Nat} {c0 c1 : Value} {y : DataW H × List MemPlace} (h : DataW.trod enc Tryd.prog W 0 sp held n 23 [c0, c1] = some y) :
    ∃ s g, c0 = .int .i64 s ∧ c1 = .bool g ∧ y = (.agg [.lit (.int .i64 s), .lit (.bool g)], []) ∧ (Lit.int .i64 s).wf = true := by
  obtain ⟨y0, y1, m, hx, hl, h0, h1⟩ := trod_struct2 Tryd.underlying23 h
  obtain ⟨a', e0, rfl, w0⟩ := DataW.trod_int Tryd.underlying3 h0
  obtain ⟨b', e1, rfl⟩ := DataW.trod_bool Tryd.underlying4 h1
  simp only [cells3, cells4, List.drop_zero] at e0 e1
  simp at e0 e1
  subst e0 e1
  exact ⟨a', b', rfl, rfl, by rw [hx]; rfl, w0⟩
set_option maxRecDepth 100000 in
theorem open_arrty {base : Nat} {sp : Nat → Bool} {held : Bool} {v : Value} {d : DataW H} {p : List MemPlace} (hv : Value.okWide Tryd.prog W .any base 36 v) (h : DataW.Trod enc Tryd.prog W 0 sp held 36 v d p) :
    ∃ s0 g0 s1 g1, v = .agg #[.int .i64 s0, .bool g0, .int .i64 s1, .bool g1] ∧ d = .agg [.agg [.lit (.int .i64 s0), .lit (.bool g0)], .agg [.lit (.int .i64 s1), .lit (.bool g1)]] ∧ p = [] ∧ (Lit.int .i64 s0).wf = true ∧ (Lit.int .i64 s1).wf = true := by
  obtain ⟨cs, rfl, hsz, _⟩ : ∃ cs, v = .agg cs ∧ cs.size = Tryd.prog.cellsOf 36 ∧ Row.okWide Tryd.prog W .any base 36 cs := by
    simpa [Value.okWide, Tryd.underlying36] using hv
  obtain ⟨c0, c1, c2, c3, rfl⟩ := arrayOf4 (hsz.trans cells36)
  obtain ⟨fuel, hf⟩ := h
  obtain ⟨xs, m, _, hx, _, hl, hel⟩ := DataW.trod_array Tryd.underlying36 hf
  match xs, hl with
  | [y0, y1], _ =>
    have g0 : DataW.trod enc Tryd.prog W 0 sp held m 23 [c0, c1] = some y0 := by simpa [Value.cells, cells23] using hel 0 (by omega)
    have g1 : DataW.trod enc Tryd.prog W 0 sp held m 23 [c2, c3] = some y1 := by simpa [Value.cells, cells23] using hel 1 (by omega)
    obtain ⟨s0, b0, rfl, rfl, rfl, w0⟩ := ty_row g0
    obtain ⟨s1, b1, rfl, rfl, rfl, w1⟩ := ty_row g1
    simp at hx
    obtain ⟨rfl, rfl⟩ := hx
    exact ⟨s0, b0, s1, b1, rfl, rfl, rfl, w0, w1⟩
set_option maxRecDepth 100000 in
theorem shut_arrty {sp : Nat → Bool} {held : Bool} {s0 s1 : Int} {g0 g1 : Bool} (w0 : (Lit.int .i64 s0).wf = true) (w1 : (Lit.int .i64 s1).wf = true) (W : World) :
    DataW.Trod enc Tryd.prog W 0 sp held 36 (.agg #[.int .i64 s0, .bool g0, .int .i64 s1, .bool g1]) (.agg [.agg [.lit (.int .i64 s0), .lit (.bool g0)], .agg [.lit (.int .i64 s1), .lit (.bool g1)]]) [] :=
  ⟨3, by simp [DataW.trod, Value.cells, Tryd.underlying36, Tryd.underlying23, Tryd.underlying3, Tryd.underlying4, cells36, cells23, cells3, cells4, w0, w1, show List.range 2 = [0, 1] from rfl]⟩
end
end Go.Proofs.YtfgmfkiknogdeaaDoor
