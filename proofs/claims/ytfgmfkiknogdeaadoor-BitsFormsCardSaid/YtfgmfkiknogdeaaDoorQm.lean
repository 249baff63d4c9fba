/- WHAT IS PROVED: what a map literal with integer keys lays, and what a look-up in a map that is known whole gives (over any program). CONDITIONS: the keys are integers of one kind. -/
import Derived.MapKept
import Derived.Carry
import Derived.Laws.NewBlocks
namespace Go.QrBits
open Go
/-! ### MAPS WRITTEN OUT: a map literal with integer keys, block by block; a look-up in a block that is known whole -/
theorem findNow_nil (d : TypeDesc) (k : Value) (i : Nat) : Instr.findNow d k [] i = some none := rfl
theorem findNow_int (q : IntKind) (k k' : Int) (v : Value) (b i : Nat) (es : List MapEntry) :
    Instr.findNow (.int q) (.int q k) (⟨.int q k', v, b⟩ :: es) i = bif k == k' then some (some (i, v)) else Instr.findNow (.int q) (.int q k) es (i + 1) := by
  simp only [Instr.findNow, Instr.sameNow, if_true]
  cases h : (k == k') <;> rfl

open Go.MapKept in
theorem run_insert_lit {P : Program} {mty kt et : TypeId} {q : IntKind} (hm : P.underlying mty = some (.map kt et)) (hd : P.underlying kt = some (.int q)) (w : World) (es : Array MapEntry) (c n : Nat) (k : Int) (v : Value)
    (hn : n = w.heap.size) (h : Instr.findNow (.int q) (.int q k) es.toList 0 = some none) :
    (Instr.mapUpdate mty (.map (some n)) (.int q k) v).run P (w.alloc (.map es c)) = .ok () (w.alloc (.map (es.push ⟨.int q k, v, c⟩) (c + 1))) := by
  subst hn
  have hb : (w.alloc (.map es c)).heap[w.heap.size]? = some (.map es c) := (heap_alloc w _).1
  have hk : IsKey (.int q) (.int q k) := by simp [IsKey]
  simp [Instr.mapUpdate, run_underlying hm, MapKept.run_getObj_map hb, MapKept.run_checkKey hd hk, MapKept.run_findKey hd h, MapKept.run_setObj_map _ hb, Result.andThen]
  simp only [World.alloc, Array.setIfInBounds, Array.size_push, Nat.lt_add_one]
  congr 1
  apply Array.ext_getElem?
  intro i
  simp [Array.getElem?_push, Array.getElem?_set]
  by_cases hi : i = w.heap.size
  · simp [hi]
  · have : w.heap.size ≠ i := fun e => hi e.symm
    simp [hi, this]

open Go.MapKept in
theorem run_look_hit {P : Program} {mty kt et : TypeId} {q : IntKind} (hm : P.underlying mty = some (.map kt et)) (hd : P.underlying kt = some (.int q)) {w : World} {es : Array MapEntry} {c b : Nat} {k : Int} {i : Nat} {v : Value}
    (hb : w.heap[b]? = some (.map es c)) (h : Instr.findNow (.int q) (.int q k) es.toList 0 = some (some (i, v))) :
    (Instr.lookup mty (.map (some b)) (.int q k) true).run P w = .ok (.tuple #[v, .bool true]) w := by
  have hk : IsKey (.int q) (.int q k) := by simp [IsKey]
  simp [Instr.lookup, run_underlying hm, MapKept.run_getObj_map hb, MapKept.run_checkKey hd hk, MapKept.run_findKey hd h, Result.andThen]

open Go.MapKept in
theorem run_look_miss {P : Program} {mty kt et : TypeId} {q : IntKind} (hm : P.underlying mty = some (.map kt et)) (hd : P.underlying kt = some (.int q)) {w : World} {es : Array MapEntry} {c b : Nat} {k : Int} {z : Value}
    (hz : (zeroValue et).run P w = .ok z w) (hb : w.heap[b]? = some (.map es c)) (h : Instr.findNow (.int q) (.int q k) es.toList 0 = some none) :
    (Instr.lookup mty (.map (some b)) (.int q k) true).run P w = .ok (.tuple #[z, .bool false]) w := by
  have hk : IsKey (.int q) (.int q k) := by simp [IsKey]
  simp [Instr.lookup, run_underlying hm, MapKept.run_getObj_map hb, MapKept.run_checkKey hd hk, MapKept.run_findKey hd h, hz, Result.andThen]
end Go.QrBits
