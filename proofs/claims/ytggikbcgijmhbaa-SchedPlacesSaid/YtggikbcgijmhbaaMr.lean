/- WHAT IS PROVED: a range over a function whose iterator keeps blocks of its own and may end in a panic: the law of the walk, over any program. CONDITIONS: no round leaves the loop early; the rounds turn neither the loop's blocks nor the iterator's own. -/
import Derived.RangeFuncNested
import Derived.RangeFuncLeaves
namespace Go.QrMem
open Go Go.RowKit

/-- New blocks, and turns of the blocks from S up to T; all else lies as it lay. -/
structure Turned (S T : Nat) (W W' : World) : Prop where
  os : W'.os = W.os
  tape : W'.tape = W.tape
  output : W'.output = W.output
  size : W.heap.size ≤ W'.heap.size
  block : ∀ k, k < W.heap.size → (k < S ∨ T ≤ k) → W'.heap[k]? = W.heap[k]?
namespace Turned
variable {S T S' T' : Nat} {W W' W'' : World}
theorem refl (S T : Nat) (W : World) : Turned S T W W := ⟨rfl, rfl, rfl, Nat.le_refl _, fun _ _ _ => rfl⟩
theorem trans (h : Turned S T W W') (k : Turned S T W' W'') : Turned S T W W'' :=
  ⟨k.os.trans h.os, k.tape.trans h.tape, k.output.trans h.output, Nat.le_trans h.size k.size, fun i hi ho => (k.block i (Nat.lt_of_lt_of_le hi h.size) ho).trans (h.block i hi ho)⟩
theorem trans_new {A B : Nat} {w : World} (h : Turned A B w W) (k : Turned S T W W') (hS : w.heap.size ≤ S) : Turned A B w W' :=
  ⟨k.os.trans h.os, k.tape.trans h.tape, k.output.trans h.output, Nat.le_trans h.size k.size, fun i hi ho => (k.block i (Nat.lt_of_lt_of_le hi h.size) (.inl (by omega))).trans (h.block i hi ho)⟩
theorem wide (h : Turned S T W W') (hS : S' ≤ S) (hT : T ≤ T') : Turned S' T' W W' :=
  ⟨h.os, h.tape, h.output, h.size, fun i hi ho => h.block i hi (by omega)⟩
theorem alloc (h : Turned S T W W') (o : Obj) : Turned S T W (W'.alloc o) :=
  h.trans ⟨rfl, rfl, rfl, by simp, fun k hk _ => Below.heap_alloc _ _ _ hk⟩
theorem putObj (h : Turned S T W W') {b : Nat} (o : Obj) (h1 : S ≤ b) (h2 : b < T) : Turned S T W (W'.putObj b o) :=
  h.trans ⟨rfl, rfl, rfl, by simp, fun k _ ho => World.putObj_heap_other (by omega)⟩
theorem setCell (h : Turned S T W W') {p : Addr} (v : Value) (h1 : S ≤ p.block) (h2 : p.block < T) : Turned S T W (W'.setCell p v) :=
  h.trans ⟨rfl, rfl, rfl, by simp [World.setCell], fun k _ ho => Below.heap_setCell _ _ _ _ (by omega)⟩
theorem below (h : Turned S T W W') {B : Nat} (hB : B ≤ W.heap.size) (hS : B ≤ S) : Below B W W' :=
  ⟨h.os, h.tape, h.output, h.size, fun k hk => h.block k (by omega) (by omega)⟩
theorem of_below (h : Below W.heap.size W W') : Turned S T W W' := ⟨h.os, h.tape, h.output, h.size, fun k hk _ => h.block k hk⟩
theorem blk (h : Turned S T W W') {k : Nat} {o : Obj} (hk : W.heap[k]? = some o) (ho : k < S ∨ T ≤ k) : W'.heap[k]? = some o :=
  (h.block k (Array.getElem?_eq_some_iff.1 hk).1 ho).trans hk
theorem cell (h : Turned S T W W') {p : Addr} (hp : p.block < W.heap.size) (ho : p.block < S ∨ T ≤ p.block) : W'.cell? p = W.cell? p := World.cell?_of_block (w := W) (h.block p.block hp ho)
theorem frozen (h : Turned S T W W') {p : Addr} (hp : p.block < W.heap.size) (ho : p.block < S ∨ T ≤ p.block) : W'.frozen? p = W.frozen? p := World.frozen?_of_block (w := W) (h.block p.block hp ho)
end Turned

/-- The blocks from S up to T lie as they lay; none has gone. -/
structure Lies (S T : Nat) (W W' : World) : Prop where
  size : W.heap.size ≤ W'.heap.size
  same : ∀ k, S ≤ k → k < T → W'.heap[k]? = W.heap[k]?
namespace Lies
variable {S T S' T' : Nat} {W W' W'' : World}
theorem refl (S T : Nat) (W : World) : Lies S T W W := ⟨Nat.le_refl _, fun _ _ _ => rfl⟩
theorem trans (h : Lies S T W W') (k : Lies S T W' W'') : Lies S T W W'' := ⟨Nat.le_trans h.size k.size, fun i h1 h2 => (k.same i h1 h2).trans (h.same i h1 h2)⟩
theorem slim (h : Lies S T W W') (hS : S ≤ S') (hT : T' ≤ T) : Lies S' T' W W' := ⟨h.size, fun i h1 h2 => h.same i (by omega) (by omega)⟩
theorem alloc (h : Lies S T W W') (o : Obj) (hT : T ≤ W'.heap.size) : Lies S T W (W'.alloc o) := h.trans ⟨by simp, fun k _ h2 => Below.heap_alloc _ _ _ (by omega)⟩
theorem setCell (h : Lies S T W W') {p : Addr} (v : Value) (hp : p.block < S ∨ T ≤ p.block) : Lies S T W (W'.setCell p v) := h.trans ⟨by simp [World.setCell], fun k _ _ => Below.heap_setCell _ _ _ _ (by omega)⟩
theorem putObj (h : Lies S T W W') {b : Nat} (o : Obj) (hp : b < S ∨ T ≤ b) : Lies S T W (W'.putObj b o) := h.trans ⟨by simp, fun k _ _ => World.putObj_heap_other (by omega)⟩
theorem below (h : Lies S T W W') (hq : Below W'.heap.size W' W'') (hT : T ≤ W'.heap.size) : Lies S T W W'' := h.trans ⟨hq.size, fun k _ h2 => hq.block k (by omega)⟩
theorem grown (h : Lies S T W W') {row : Option Nat} (hg : W'.grownBy W'' row) (hT : T ≤ W'.heap.size) (hr : ∀ k, row = some k → k < S ∨ T ≤ k) : Lies S T W W'' :=
  h.trans ⟨hg.size, fun k h1 h2 => hg.block k (by omega) (fun e => by have := hr k e.symm; omega)⟩
end Lies

/-- THE ITERATOR's CONTRACT: it hands 'encs 0', .., 'encs (k - 1)' to its rounds, and ends as E says; it lays m blocks of its own at once; V is what it reads. -/
def Iter (P : Program) (gf : Nat) (lb : Array Value) (encs : Nat → Array Value) (m : Nat) (V : World → Prop) (k : Nat) (E : Ending → Prop) : Prop :=
  ∀ (l : Nat) (J : Nat → World → Prop) (W : World), (∀ i W1 W2, J i W1 → Turned W.heap.size (W.heap.size + m) W1 W2 → J i W2) → (∀ i W1, J i W1 → V W1) →
    (∀ i W1, J i W1 → i < k → W.heap.size + m ≤ W1.heap.size → YieldAt Fence.wide 0 P l (encs i) W1 fun e W2 => e = .returned (.bool true) ∧ J (i + 1) W2 ∧ Lies W.heap.size (W.heap.size + m) W1 W2) →
    J 0 W → CallsIn Fence.wide 0 P gf (#[.func (.yield l) #[] #[]] ++ lb) W fun e W' => E e ∧ J k W'

/-- How a loop's end is taken up. -/
def rangeEnd (Q : Exit → Act → World → Prop) (a : Act) : Ending → World → Prop
  | .returned _, w => Q .normal a w
  | .panicked chain, w => Q (.panic chain) a w
  | .outgrown, _ => False

theorem wp_range {P : Program} {g : Operand} {ps : Array Tmp} {assign body : Code} {Q : Exit → Act → World → Prop} {a : Act} {w : World}
    {gf : Nat} {lb : Array Value} {encs : Nat → Array Value} {m k : Nat} {V : World → Prop} {E : Ending → Prop}
    (hg : a.eval g = .func (.func gf) #[] lb) (eg : ∀ args w, (callFunc gf args).run P w = .ok (.enter gf args) w) (hps : ∀ i, (encs i).size = ps.size)
    (hiter : Iter P gf lb encs m V k E) (I : Nat → World → Prop)
    (hI : ∀ i W W', I i W → Turned w.heap.size (w.heap.size + 2 + m) W W' → I i W') (hIV : ∀ i W, I i W → V W) (h0 : I 0 w) (a₁ : Nat → Act)
    (hassign : ∀ (l i : Nat) (W : World) (K : Act → World → Prop), K (a₁ i) W →
      assign.wpIn (Fence.wide.inRound l) 0 P (Exit.then K (fun _ _ _ => False)) { tmps := (ps.zip (encs i)).foldl (fun t (p, v) => t.setIfInBounds p v) a.tmps, defers := [] } W)
    (hbody : ∀ (l i : Nat) (W : World), I i W → i < k → w.heap.size + 2 + m ≤ W.heap.size →
      body.wpIn (Fence.wide.inRound l) 0 P (fun e _ W' => e = .normal ∧ I (i + 1) W' ∧ Lies w.heap.size (w.heap.size + 2 + m) W W') (a₁ i) W)
    (hend : ∀ e W, E e → I k W → W.heap[w.heap.size]? = some (.deferred (some [])) → rangeEnd Q { a with defers := { target := .collected w.heap.size, args := #[] } :: a.defers } e W) :
    (Code.rangeFunc g ps assign body).wpIn Fence.wide 0 P Q a w := by
  refine wpIn_rangeFunc ?_
  intro fn hfn
  obtain ⟨rec, hrec⟩ : ∃ rec : LoopState → Loop, rec = fun st => { state := st, pending := none, fn, tmps := a.tmps, params := ps, assign, body, defers := w.heap.size } := ⟨_, rfl⟩
  obtain ⟨W1, hW1⟩ : ∃ W1, (w.alloc (.deferred (some []))).alloc (.loop (rec .ready)) = W1 := ⟨_, rfl⟩
  have hsz : W1.heap.size = w.heap.size + 2 := by rw [← hW1]; simp
  have hT1 : Turned w.heap.size (w.heap.size + 2 + m) w W1 := by rw [← hW1]; exact ((Turned.refl _ _ w).alloc _).alloc _
  have hL1 : W1.heap[w.heap.size + 1]? = some (.loop (rec .ready)) := by
    rw [← hW1]; have := World.alloc_heap_new (w.alloc (.deferred (some []))) (.loop (rec .ready)); rwa [World.size_alloc] at this
  have hK1 : W1.heap[w.heap.size]? = some (.deferred (some [])) := by
    rw [← hW1]; exact (Below.heap_alloc _ _ _ (by simp)).trans (World.alloc_heap_new w _)
  refine ⟨w.heap.size + 1, [{ target := .collected w.heap.size, args := #[] }], W1, { target := .fn (.func gf) lb, args := #[.func (.yield (w.heap.size + 1)) #[] #[]] }, W1, gf,
    #[.func (.yield (w.heap.size + 1)) #[] #[]] ++ lb, W1, ?_, ?_, fun _ _ => trivial, ?_, fun h => by simp [Fence.wide] at h, ?_⟩
  · rw [← hW1, hrec]; exact run_enterLoop_outer _ _ _ _ _
  · simp only [resolve, hg]; simp [go_sem]
  · simp [invoke, go_sem, eg]
  · refine (hiter (w.heap.size + 1)
      (fun i W => I i W ∧ W.heap[w.heap.size + 1]? = some (.loop (rec .ready)) ∧ W.heap[w.heap.size]? = some (.deferred (some []))) W1 ?_ (fun i W h => hIV i W h.1) ?_ ⟨hI _ _ _ h0 hT1, hL1, hK1⟩).mono ?_
    · rintro i A B ⟨h1, h2, h3⟩ ht
      rw [hsz] at ht
      exact ⟨hI i A B h1 (ht.wide (by omega) (by omega)), ht.blk h2 (by omega), ht.blk h3 (by omega)⟩
    · rintro i W ⟨hi, hl, hk⟩ hik hm
      rw [hsz] at hm
      have hlt : w.heap.size + 1 < W.heap.size := (Array.getElem?_eq_some_iff.1 hl).1
      have hy := run_yield (P := P) (args := encs i) hl (by rw [hrec]; exact hps i)
      rw [hrec] at hy
      refine ⟨fn, _, assign, body, hy, roundIn_of_wpIn hfn (hassign _ i W _ ⟨_, run_beginRound hl (by rw [hrec]), ?_⟩)⟩
      have hl2 : (W.putObj (w.heap.size + 1) (.loop { rec .ready with state := .busy })).heap[w.heap.size + 1]? = some (.loop { rec .ready with state := .busy }) := World.putObj_heap_same hlt
      have hk2 : (W.putObj (w.heap.size + 1) (.loop { rec .ready with state := .busy })).heap[w.heap.size]? = some (.deferred (some [])) := (World.putObj_heap_other (by omega)).trans hk
      have hi2 := hI _ _ _ hi ((Turned.refl w.heap.size (w.heap.size + 2 + m) W).putObj (b := w.heap.size + 1) (.loop { rec .ready with state := .busy }) (by omega) (by omega))
      refine wpIn_mono (hbody _ i _ hi2 hik (by simpa using hm)) ?_
      rintro e a3 W3 ⟨rfl, hi3, hw3⟩
      have hl3 : W3.heap[w.heap.size + 1]? = some (.loop { rec .ready with state := .busy }) := (hw3.same _ (by omega) (by omega)).trans hl2
      have hk3 := (hw3.same w.heap.size (by omega) (by omega)).trans hk2
      have hr := run_endRound (P := P) none hl3
      refine ⟨_, _, hr, rfl, ⟨hI _ _ _ hi3 ((Turned.refl _ _ W3).putObj _ (by omega) (by omega)), ?_, (World.putObj_heap_other (by omega)).trans hk3⟩, ?_⟩
      · rw [World.putObj_heap_same (Array.getElem?_eq_some_iff.1 hl3).1, hrec]; rfl
      · rw [hsz]
        exact (((Lies.refl _ _ W).putObj _ (by omega)).trans (hw3.slim (by omega) (by omega))).putObj _ (by omega)
    · rintro e W2 ⟨hE, hi, hl, hk⟩
      cases e with
      | returned v =>
        refine ⟨none, _, by have := run_endLoop (P := P) hl (by rw [hrec]; simp); rw [hrec] at this; exact this, ?_⟩
        exact hend (.returned v) _ hE (hI _ _ _ hi ((Turned.refl _ _ W2).putObj _ (by omega) (by omega))) ((World.putObj_heap_other (by omega)).trans hk)
      | panicked chain => exact hend (.panicked chain) _ hE hi hk
      | outgrown => exact (hend .outgrown _ hE hi hk).elim
end Go.QrMem
