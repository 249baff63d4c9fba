/- WHAT IS PROVED: the listed variables 'promoted' and 'plain' hold what their initialisers lay, where both are listed; R01.I4. CONDITIONS: none. -/
import Derived.Test.YtfgmfkiknogdeaaDoorKa
namespace Go.Proofs.YtfgmfkiknogdeaaDoor
open Go Go.ChangeShapes Go.WideShapes Go.ChangeAt Go.RowKit Go.Joins Go.QrBits

/-- The package variable 'promoted' of the reference. -/
def PromAt (w : World) : Prop := w.cell? ⟨1, 0, none⟩ = some (.int .i64 4) ∧ w.cell? ⟨1, 1, none⟩ = some (.bool true) ∧ w.cell? ⟨1, 2, none⟩ = some (.int .i64 4) ∧ w.cell? ⟨1, 3, none⟩ = some (.bool false) ∧ w.cell? ⟨1, 4, none⟩ = some (.int .i64 8) ∧ w.cell? ⟨1, 5, none⟩ = some (.bool true) ∧ w.cell? ⟨1, 6, none⟩ = some (.int .i64 8) ∧ w.cell? ⟨1, 7, none⟩ = some (.bool false) ∧ 1 < w.heap.size
theorem PromAt.below {w w' : World} (h : PromAt w) (hb : Below w.heap.size w w') : PromAt w' := by
  obtain ⟨h0, h1, h2, h3, h4, h5, h6, h7, hs⟩ := h
  refine ⟨?_, ?_, ?_, ?_, ?_, ?_, ?_, ?_, Nat.lt_of_lt_of_le hs hb.size⟩ <;> rw [below_cell hb 1 _ hs] <;> assumption
theorem PromAt.next {w w' : World} {o : Obj} (h : PromAt w) (hq : Below (w.alloc o).heap.size (w.alloc o) w') : PromAt w' := h.below (Below.tail (b_alloc (Below.refl _ _)) hq)
theorem PromAt.alloc {w : World} {o : Obj} (h : PromAt w) : PromAt (w.alloc o) := h.below (b_alloc (Below.refl _ _))

theorem gProm : Tryd.prog.globalNamed "tapline/taplineref01.promoted" = some 1 := by kernel_rfl
theorem gPromType : (Tryd.prog.globals[1]?).map (·.type) = some 109 := by kernel_rfl

section
variable {W : World}
set_option maxRecDepth 100000 in
theorem ty_cells {enc : TypeId × Value → Unit} {sp : Nat → Bool} {held : Bool} {n : Nat} {cs : List Value} {y : DataW Unit × List MemPlace} {a : Int} {b : Bool} (h : DataW.trod enc Tryd.prog W 0 sp held n 23 cs = some y) (e : y.1 = .agg [.lit (.int .i64 a), .lit (.bool b)]) :
    cs[0]? = some (.int .i64 a) ∧ cs[1]? = some (.bool b) := by
  obtain ⟨y0, y1, m, hx, hl, h0, h1⟩ := trod_struct2 Tryd.underlying23 h
  obtain ⟨a', e0, rfl, _⟩ := DataW.trod_int Tryd.underlying3 h0
  obtain ⟨b', e1, rfl⟩ := DataW.trod_bool Tryd.underlying4 h1
  subst hx
  simp only [DataW.agg.injEq, List.cons.injEq, DataW.lit.injEq, Lit.int.injEq, Lit.bool.injEq, true_and, and_true] at e
  obtain ⟨rfl, rfl⟩ := e
  simp only [cells3, cells4, List.drop_zero] at e0 e1
  have k0 := congrArg (·[0]?) e0
  have k1 := congrArg (·[0]?) e1
  exact ⟨by simpa using k0, by simpa using k1⟩
set_option maxRecDepth 100000 in
theorem two_of_laid (h : laidMet Tryd.prog [("tapline/taplineref01.promoted", Rows.laid_tapline_taplineref01_promoted), ("tapline/bits.plain", Rows.laid_tapline_bits_plain)] W) : PromAt W ∧ PlainAt W := by
  obtain ⟨ps, ⟨g1, t1, cs1, fuel1, p1, q1, hg1, ht1, hvar1, hd1, ⟨g', t', cs, fuel, p, q, hg', ht', hvar, hd, _⟩, _⟩, _⟩ := h
  obtain rfl := Option.some.inj (gPlain.symm.trans hg')
  obtain rfl := Option.some.inj (gPlainType.symm.trans ht')
  obtain rfl := Option.some.inj (gProm.symm.trans hg1)
  obtain rfl := Option.some.inj (gPromType.symm.trans ht1)
  have kp := ty_cells hd rfl
  have pc : ∀ k, W.cell? ⟨0, k, none⟩ = cs[k]? := World.var?_cell gPlain hvar
  have mc : ∀ k, W.cell? ⟨1, k, none⟩ = cs1[k]? := World.var?_cell gProm hvar1
  obtain ⟨xs, m, _, hx, _, hl, hel⟩ := DataW.trod_array Tryd.underlying109 hd1
  match xs, hl with
  | [y0, y1, y2, y3], _ =>
    simp only [Rows.laid_tapline_taplineref01_promoted, Prod.mk.injEq, DataW.agg.injEq, List.map_cons, List.map_nil, List.cons.injEq, and_true] at hx
    obtain ⟨⟨x0, x1, x2, x3⟩, _⟩ := hx
    have k0 := ty_cells (hel 0 (by omega)) x0.symm
    have k1 := ty_cells (hel 1 (by omega)) x1.symm
    have k2 := ty_cells (hel 2 (by omega)) x2.symm
    have k3 := ty_cells (hel 3 (by omega)) x3.symm
    simp [cells23] at k0 k1 k2 k3 kp
    refine ⟨⟨(mc 0).trans (by simpa using k0.1), (mc 1).trans (by simpa using k0.2), (mc 2).trans (by simpa using k1.1), (mc 3).trans (by simpa using k1.2), (mc 4).trans (by simpa using k2.1), (mc 5).trans (by simpa using k2.2), (mc 6).trans (by simpa using k3.1), (mc 7).trans (by simpa using k3.2), ?_⟩, (pc 0).trans (by simpa using kp.1), (pc 1).trans (by simpa using kp.2), ?_⟩
    · exact block_lt_of_cell ((mc 0).trans (by simpa using k0.1))
    · exact block_lt_of_cell ((pc 0).trans (by simpa using kp.1))
end
end Go.Proofs.YtfgmfkiknogdeaaDoor
