/- WHAT IS PROVED: Add's operation. CONDITIONS: a valid state with fewer than 16 threads, in memory of one's own; a processor of it; a priority. -/
import Derived.Test.YtggikbcgijmhbaaT
set_option linter.unusedSimpArgs false
set_option linter.unusedVariables false
namespace Go.Proofs.Ytggikbcgijmhbaa
open Go Go.RowKit Go.QrBits Go.QrMem
attribute [local go_sem] reg_cell reg_frozen reg_setCell reg_lt reg_lt_add reg_drew reg_of_drew
section
variable {B b0 bc cc ct e : Nat} {at_ : Option Addr} {rs : List (Option Addr × Nat)} {s : St} {w : World}
theorem grown_kept {w2 : World} {o : Obj} {b g : Nat} {cur : Array Value} {t : TypeId} {u : Value} (h : Own B b0 bc cc at_ ct rs s w) (hg : (w.alloc o).grownBy w2 (Value.slice at_ s.ts.length ct).ownBlock) (hb : w.heap[b]? = some (.cells cur t (0, 0))) (ht : t ≠ 44) (h0 : b ≠ b0) :
    (w2.setCell ⟨b0, 1, none⟩ u).heap[b]? = some (.cells cur t (0, 0)) := by
  have hl := (Array.getElem?_eq_some_iff.1 hb).1
  refine (Below.heap_setCell _ _ _ _ h0).trans ((hg.block b (by simp; omega) (fun e => ?_)).trans ((Below.heap_alloc _ _ _ hl).trans hb))
  cases ha : at_ with
  | none => rw [ha] at e; simp [Value.ownBlock] at e
  | some a =>
    rw [ha] at e; simp only [Value.ownBlock, Option.some.injEq] at e
    obtain ⟨c2, _, h2, _⟩ := h.btRow a ha
    rw [e, h2] at hb; simp at hb; exact ht hb.2.symm
theorem Own.appended {w2 : World} {o : Obj} {g cap : Nat} {t : Th} (h : Own B b0 bc cc at_ ct rs s w) (hg : (w.alloc o).grownBy w2 (Value.slice at_ s.ts.length ct).ownBlock)
    (hown : w2.ownsRow B 44 3 (.slice (some ⟨g, 0, none⟩) (s.ts.length + 1) cap) (s.ts.length + 1) (tV s.ts ++ [.int .i64 t.pri, .int .i64 t.cpu, .int .i64 t.st])) :
    Own B b0 bc cc (some ⟨g, 0, none⟩) cap rs { s with ts := s.ts ++ [t] } (w2.setCell ⟨b0, 1, none⟩ (.slice (some ⟨g, 0, none⟩) (s.ts.length + 1) cap)) := by
  have hb0 : w2.heap[b0]? = some (.cells #[.slice (some ⟨bc, 0, none⟩) s.qs.length cc, .slice at_ s.ts.length ct, .int .i64 s.q] 25 (0, 0)) := by
    have hl := (Array.getElem?_eq_some_iff.1 h.nxt).1
    refine (hg.block b0 (by simp; omega) (fun e => ?_)).trans ((Below.heap_alloc _ _ _ hl).trans h.nxt)
    cases ha : at_ with
    | none => rw [ha] at e; simp [Value.ownBlock] at e
    | some a =>
      rw [ha] at e; simp only [Value.ownBlock, Option.some.injEq] at e
      exact (h.ne.2 a ha).2 e.symm
  have hset := heap_setCell_same w2 b0 1 _ 25 (.slice (some ⟨g, 0, none⟩) (s.ts.length + 1) cap) hb0
  have hkeep : ∀ (k : Nat) (cur : Array Value) (ty : TypeId), w.heap[k]? = some (.cells cur ty (0, 0)) → ty ≠ 44 → k ≠ b0 → (w2.setCell ⟨b0, 1, none⟩ (.slice (some ⟨g, 0, none⟩) (s.ts.length + 1) cap)).heap[k]? = some (.cells cur ty (0, 0)) := fun k cur ty hk ht h0 => grown_kept (g := g) h hg hk ht h0
  refine ⟨?_, h.b0B, ?_, ?_, h.rl, fun k u r h1 h2 => ?_⟩
  · simpa using hset
  · refine ownsRow_same h.cp (fun k cur hk => ?_)
    rw [hkeep k cur 47 hk (by decide) (fun e => by rw [e, h.nxt] at hk; simp at hk), hk]
  · refine ownsRow_set_ne (b := b0) ?_ (fun e => ?_)
    · simpa [tV] using hown
    · simp only [Value.ownBlock, Option.some.injEq] at e
      obtain ⟨_, (⟨h1, _⟩ | ⟨g', _, c2, h1, _, h3, _⟩)⟩ := hown
      · cases h1
      · cases h1; rw [e, hb0] at h3; simp at h3
  · obtain ⟨g1, g2 | ⟨b, off, cur, g2, g3, g4⟩⟩ := h.rd k u r h1 h2
    · exact ⟨g1, .inl g2⟩
    · have e := hkeep b cur 3 g3 (by decide) (fun e => by rw [e, h.nxt] at g3; simp at g3)
      exact ⟨g1, .inr ⟨b, off, cur, g2, e, fun j x hx => (World.cell?_of_block (w := w) (a := ⟨b, off + j, none⟩) (e.trans g3.symm)).trans (g4 j x hx)⟩⟩
theorem add_mid {w2 : World} {o : Obj} {g cap xb xr : Nat} {v : Int} {t : Th} (h : Own B b0 bc cc at_ ct rs s w) (he : Env b0 e w) (hb : w.heap[xb]? = some (.cells (bdC b0 e).toArray 77 (0, 0))) (hx : IsI xr v w) (hg : (w.alloc o).grownBy w2 (Value.slice at_ s.ts.length ct).ownBlock)
    (hown : w2.ownsRow B 44 3 (.slice (some ⟨g, 0, none⟩) (s.ts.length + 1) cap) (s.ts.length + 1) (tV s.ts ++ [.int .i64 t.pri, .int .i64 t.cpu, .int .i64 t.st])) :
    w2.cell? ⟨b0, 1, none⟩ = some (.slice at_ s.ts.length ct) ∧ w2.frozen? ⟨b0, 1, none⟩ = false ∧ (w2.setCell ⟨b0, 1, none⟩ (.slice (some ⟨g, 0, none⟩) (s.ts.length + 1) cap)).heap[xb]? = some (.cells (bdC b0 e).toArray 77 (0, 0)) ∧ IsI xr v (w2.setCell ⟨b0, 1, none⟩ (.slice (some ⟨g, 0, none⟩) (s.ts.length + 1) cap)) ∧
      Hid (Env b0 e (w2.setCell ⟨b0, 1, none⟩ (.slice (some ⟨g, 0, none⟩) (s.ts.length + 1) cap))) ∧ Hid (Own B b0 bc cc (some ⟨g, 0, none⟩) cap rs { s with ts := s.ts ++ [t] } (w2.setCell ⟨b0, 1, none⟩ (.slice (some ⟨g, 0, none⟩) (s.ts.length + 1) cap))) ∧
      Hid (∀ k, k < w.heap.size → k ≠ b0 → (∀ a : Addr, at_ = some a → k ≠ a.block) → (w2.setCell ⟨b0, 1, none⟩ (.slice (some ⟨g, 0, none⟩) (s.ts.length + 1) cap)).heap[k]? = w.heap[k]?) := by
  have hnb : ∀ k, (∀ a : Addr, at_ = some a → k ≠ a.block) → some k ≠ (Value.slice at_ s.ts.length ct).ownBlock := fun k hk e => by
    cases ha : at_ with
    | none => rw [ha] at e; simp [Value.ownBlock] at e
    | some a => rw [ha] at e; simp only [Value.ownBlock, Option.some.injEq] at e; exact hk a ha e
  have hb0 : w2.heap[b0]? = some (.cells #[.slice (some ⟨bc, 0, none⟩) s.qs.length cc, .slice at_ s.ts.length ct, .int .i64 s.q] 25 (0, 0)) := by
    have hl := (Array.getElem?_eq_some_iff.1 h.nxt).1
    exact (hg.block b0 (by simp; omega) (hnb b0 (fun a ha e => (h.ne.2 a ha).2 e.symm))).trans ((Below.heap_alloc _ _ _ hl).trans h.nxt)
  obtain ⟨_, r1, _, _, r2, _⟩ := row3 hb0
  have hne : ∀ {b : Nat} {cur : Array Value} {ty : TypeId}, w.heap[b]? = some (.cells cur ty (0, 0)) → ty ≠ 25 → b ≠ b0 := fun {b cur ty} hk ht e => by rw [e, h.nxt] at hk; simp at hk; exact ht hk.2.symm
  refine ⟨r1, r2, grown_kept (g := g) h hg hb (by decide) (hne hb (by decide)), grown_kept (g := g) h hg hx (by decide) (hne hx (by decide)), Lib.hid ⟨grown_kept (g := g) h hg he.sx (by decide) (hne he.sx (by decide)), grown_kept (g := g) h hg he.pr (by decide) (hne he.pr (by decide)), grown_kept (g := g) h hg he.lv (by decide) (hne he.lv (by decide)), grown_kept (g := g) h hg he.en (by decide) (hne he.en (by decide)), grown_kept (g := g) h hg he.te (by decide) (hne he.te (by decide))⟩, Lib.hid (h.appended hg hown), Lib.hid fun k hk h0 ha => ?_⟩
  exact (Below.heap_setCell _ _ _ _ h0).trans ((hg.block k (by simp; omega) (hnb k ha)).trans (Below.heap_alloc _ _ _ hk))
theorem add_leave (s : St) (pri : Int) (c : Nat) : leaveM { s with ts := s.ts ++ [⟨pri, c, 0⟩] } s.ts.length 1 = leaveM { s with ts := s.ts ++ [⟨pri, c, 1⟩] } s.ts.length 1 := by
  simp [leaveM, thOf]
theorem add_eq (s : St) (pri : Int) (c : Nat) : toEndM { s with ts := s.ts ++ [⟨pri, c, 0⟩] } s.ts.length = addM s pri c := by
  unfold addM toEndM enterM
  rw [add_leave]
theorem grown_far {w2 : World} {o : Obj} {b : Nat} {cur : Array Value} {t : TypeId} (h : Own B b0 bc cc at_ ct rs s w) (hg : (w.alloc o).grownBy w2 (Value.slice at_ s.ts.length ct).ownBlock) (hb : w.heap[b]? = some (.cells cur t (0, 0))) (ht : t ≠ 44) :
    w2.heap[b]? = some (.cells cur t (0, 0)) := by
  have hl := (Array.getElem?_eq_some_iff.1 hb).1
  refine (hg.block b (by simp; omega) (fun e => ?_)).trans ((Below.heap_alloc _ _ _ hl).trans hb)
  cases ha : at_ with
  | none => rw [ha] at e; simp [Value.ownBlock] at e
  | some a =>
    rw [ha] at e; simp only [Value.ownBlock, Option.some.injEq] at e
    obtain ⟨c2, _, h2, _⟩ := h.btRow a ha
    rw [e, h2] at hb; simp at hb; exact ht hb.2.symm
/-- What the walk of Add reads. -/
def AddS (x b0 e xp xc : Nat) (pri : Int) (c : Nat) (w : World) : Prop := w.heap[x]? = some (.cells (bdC b0 e).toArray 77 (0, 0)) ∧ IsI xp pri w ∧ IsI xc c w
theorem AddS.of_eq {x b0 e xp xc : Nat} {pri : Int} {c : Nat} {w w' : World} (h : AddS x b0 e xp xc pri c w) (hk : ∀ (k : Nat) (cur : Array Value) (t : TypeId), w.heap[k]? = some (.cells cur t (0, 0)) → t = 77 ∨ t = 3 → w'.heap[k]? = some (.cells cur t (0, 0))) : AddS x b0 e xp xc pri c w' :=
  ⟨hk _ _ _ h.1 (.inl rfl), hk _ _ _ h.2.1 (.inr rfl), hk _ _ _ h.2.2 (.inr rfl)⟩
theorem AddS.cells {x b0 e xp xc : Nat} {pri : Int} {c : Nat} {w : World} (h : AddS x b0 e xp xc pri c w) : w.cell? ⟨x, 0, none⟩ = some (.pointer (some ⟨b0, 0, none⟩)) ∧ w.cell? ⟨xp, 0, none⟩ = some (.int .i64 pri) ∧ w.cell? ⟨xc, 0, none⟩ = some (.int .i64 c) :=
  ⟨(board_cells h.1).1, (cell0 h.2.1).1, (cell0 h.2.2).1⟩
/-- What the appended world is. -/
theorem add_far {w2 w5 : World} {o : Obj} {g cap : Nat} {t : Th} {x xr : Nat} (h : Own B b0 bc cc at_ ct rs s w) (hw : OpFr xr b0 bc at_ w5 w) (hg : (w.alloc o).grownBy w2 (Value.slice at_ s.ts.length ct).ownBlock)
    (hk : ∀ k, k < w.heap.size → k ≠ b0 → (∀ a : Addr, at_ = some a → k ≠ a.block) → (w2.setCell ⟨b0, 1, none⟩ (.slice (some ⟨g, 0, none⟩) (s.ts.length + 1) cap)).heap[k]? = w.heap[k]?) :
    OpFr xr b0 bc at_ w5 (w2.setCell ⟨b0, 1, none⟩ (.slice (some ⟨g, 0, none⟩) (s.ts.length + 1) cap)) := by
  have hs : w.heap.size ≤ (w2.setCell ⟨b0, 1, none⟩ (.slice (some ⟨g, 0, none⟩) (s.ts.length + 1) cap)).heap.size := by
    have := hg.size; simp at this ⊢; omega
  refine hw.trans ⟨?_, ?_, ?_, hs, fun k h1 _ h3 _ h5 => hk k h1 h3 h5⟩
  · exact hg.os
  · exact hg.tape
  · exact hg.output
end
end Go.Proofs.Ytggikbcgijmhbaa
