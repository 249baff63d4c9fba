/- WHAT IS PROVED: how a list of operations is read. CONDITIONS: none. -/
import Derived.Test.YtggikbcgijmhbaaOp
import Derived.Test.YtggikbcgijmhbaaAu
namespace Go.Proofs.Ytggikbcgijmhbaa
open Go Go.ChangeShapes Go.WideShapes Go.ChangeAt Go.RowKit Go.Joins Go.QrBits Go.QrMem
theorem cells42 : Try.prog.cellsOf 42 = 3 := by kernel_rfl
section
variable {H : Type} {enc : TypeId × Value → H} {W : World}
theorem open_ops {held : Bool} {v : Value} {d : DataW H} {p : List MemPlace} (hv : ∃ a l c, v = .slice a l c) (h : DataW.Trod enc Try.prog W 0 (fun _ => true) held 39 v d p) :
    ∃ (a : Option Addr) (n c : Nat), v = .slice a n c ∧ OpsIn W a n := by
  obtain ⟨a, l, c, rfl⟩ := hv
  obtain ⟨fuel, hf⟩ := h
  obtain ⟨a', n, c', k, z, e, _, hz, _, ht⟩ := open_tri Try.underlying39 Try.underlying42 cells42 rfl rfl rfl cells3 cells3 cells3 hf
  refine ⟨a', n, c', e, ?_⟩
  rcases hz with h | ⟨b, o, h1, h2, h3⟩
  · exact .inl h
  · refine .inr ⟨b, o, h1, h2, fun i hi => ?_⟩
    obtain ⟨g0, g1, g2⟩ := h3 i hi
    obtain ⟨t0, t1, t2⟩ := ht i hi
    obtain ⟨x, e0, _, _⟩ := DataW.trod_int Try.underlying3 t0
    obtain ⟨y, e1, _, _⟩ := DataW.trod_int Try.underlying3 t1
    obtain ⟨u, e2, _, _⟩ := DataW.trod_int Try.underlying3 t2
    simp at e0 e1 e2
    rw [e0] at g0
    rw [e1] at g1
    rw [e2] at g2
    exact ⟨x, y, u, g0, g1, g2⟩
end
end Go.Proofs.Ytggikbcgijmhbaa
