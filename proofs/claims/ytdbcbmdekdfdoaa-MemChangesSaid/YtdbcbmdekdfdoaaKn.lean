/- WHAT IS PROVED: what is known of blocks of one's own stays known across calls that change nothing below them (over any program). CONDITIONS: none. -/
import Derived.Test.YtdbcbmdekdfdoaaQa
namespace Go.QrBits
open Go Go.RowKit

/-- What is known of a world: nothing that lay in 'w0' has changed, and the listed blocks hold the listed cells. -/
structure Known (fs : List (Nat × List Value)) (w0 w : World) : Prop where
  base : Below w0.heap.size w0 w
  size : ∀ f ∈ fs, f.1 < w.heap.size
  cell : ∀ f ∈ fs, ∀ (j : Nat) (v : Value), f.2[j]? = some v → w.cell? ⟨f.1, j, none⟩ = some v
namespace Known
variable {fs gs : List (Nat × List Value)} {w0 w w' : World}
theorem start (w : World) : Known [] w w := ⟨Below.refl _ _, fun _ h => (List.not_mem_nil h).elim, fun _ h => (List.not_mem_nil h).elim⟩
theorem below (h : Known fs w0 w) (hq : Below w.heap.size w w') : Known fs w0 w' :=
  ⟨Below.tail h.base hq, fun f hf => Nat.lt_of_lt_of_le (h.size f hf) hq.size, fun f hf j v hv => by rw [below_cell hq _ _ (h.size f hf)]; exact h.cell f hf j v hv⟩
theorem alloc {o : Obj} (h : Known fs w0 w) : Known fs w0 (w.alloc o) := h.below (b_alloc (Below.refl _ _))
theorem next {o : Obj} (h : Known fs w0 w) (hq : Below (w.alloc o).heap.size (w.alloc o) w') : Known fs w0 w' := h.alloc.below hq
theorem cons {b : Nat} {vs : List Value} (h : Known fs w0 w) (hb : b < w.heap.size) (hc : ∀ (j : Nat) (v : Value), vs[j]? = some v → w.cell? ⟨b, j, none⟩ = some v) : Known ((b, vs) :: fs) w0 w :=
  ⟨h.base, fun f hf => by rcases List.mem_cons.1 hf with rfl | hf
                          · exact hb
                          · exact h.size f hf,
   fun f hf => by rcases List.mem_cons.1 hf with rfl | hf
                  · exact hc
                  · exact h.cell f hf⟩
theorem cell_new (w : World) (vs : List Value) (t : TypeId) (j : Nat) (v : Value) (h : vs[j]? = some v) : (w.alloc (.cells vs.toArray t)).cell? ⟨w.heap.size, j, none⟩ = some v := by
  rw [World.cell?_alloc_new]; simpa using h
theorem box {vs : List Value} {t : TypeId} (h : Known fs w0 w) : Known ((w.heap.size, vs) :: fs) w0 (w.alloc (.cells vs.toArray t)) :=
  h.alloc.cons (by simp) (fun j v hv => cell_new w vs t j v hv)
theorem reg {p : Regrown} (h : Known fs w0 w) : Known fs w0 (reg w p) := h.below (below_reg _ _)
/-- Behind a region that made one variable of its own. -/
theorem own {vs : List Value} {t : TypeId} {p1 p2 : Regrown} (h : Known fs w0 w) : Known (((QrBits.reg w p1).heap.size, vs) :: fs) w0 (QrBits.reg ((QrBits.reg w p1).alloc (.cells vs.toArray t)) p2) :=
  (h.reg (p := p1)).box.below (below_reg _ _)
theorem get {b : Nat} {vs : List Value} {v : Value} (h : Known fs w0 w) (i j : Nat) (hf : fs[i]? = some (b, vs)) (hv : vs[j]? = some v) : w.cell? ⟨b, j, none⟩ = some v :=
  h.cell (b, vs) (List.mem_of_getElem? hf) j v hv
theorem lt {b : Nat} {vs : List Value} (h : Known fs w0 w) (i : Nat) (hf : fs[i]? = some (b, vs)) : b < w.heap.size :=
  h.size (b, vs) (List.mem_of_getElem? hf)
theorem drop {f : Nat × List Value} (h : Known (f :: fs) w0 w) : Known fs w0 w := ⟨h.base, fun f hf => h.size f (List.mem_cons_of_mem _ hf), fun f hf => h.cell f (List.mem_cons_of_mem _ hf)⟩
theorem drop' {f : Nat × List Value} (h : Known (f :: fs) w0 w) : Known fs w0 w := h.drop
end Known
end Go.QrBits
