/- WHAT IS PROVED: a state of the scheduler's own in memory, and what stores do to it. CONDITIONS: none. -/
import Derived.Test.YtggikbcgijmhbaaI
set_option linter.unusedSimpArgs false
set_option linter.unusedVariables false
namespace Go.Proofs.Ytggikbcgijmhbaa
open Go Go.RowKit Go.QrBits Go.QrMem
/-- The cells of the processors, whose queues lie where the list says. -/
def qV : List Qu → List (Option Addr × Nat) → List Value
  | u :: us, r :: rs => .int .i64 u.run :: .int .i64 u.left :: .slice r.1 u.ready.length r.2 :: qV us rs
  | _, _ => []
theorem qV_len : ∀ {qs : List Qu} {rs : List (Option Addr × Nat)}, rs.length = qs.length → (qV qs rs).length = qs.length * 3
  | [], [], _ => rfl
  | u :: us, r :: rs, h => by have := qV_len (qs := us) (rs := rs) (by simpa using h); simp only [qV, List.length_cons]; omega
theorem qV_get : ∀ {qs : List Qu} {rs : List (Option Addr × Nat)} {c : Nat} {u : Qu} {r : Option Addr × Nat}, qs[c]? = some u → rs[c]? = some r →
    (qV qs rs)[c * 3]? = some (.int .i64 u.run) ∧ (qV qs rs)[c * 3 + 1]? = some (.int .i64 u.left) ∧ (qV qs rs)[c * 3 + 2]? = some (.slice r.1 u.ready.length r.2)
  | u0 :: us, r0 :: rs, 0, u, r, h1, h2 => by simp at h1 h2; subst h1 h2; simp [qV]
  | u0 :: us, r0 :: rs, c + 1, u, r, h1, h2 => by
    have := qV_get (qs := us) (rs := rs) (c := c) (u := u) (r := r) (by simpa using h1) (by simpa using h2)
    simp only [qV, show (c + 1) * 3 = c * 3 + 1 + 1 + 1 by omega, show c * 3 + 1 + 1 + 1 + 1 = (c * 3 + 1) + 1 + 1 + 1 by omega, show c * 3 + 1 + 1 + 1 + 2 = (c * 3 + 2) + 1 + 1 + 1 by omega, List.getElem?_cons_succ]
    exact this
  | [], _, c, u, r, h1, _ => by simp at h1
  | _ :: _, [], c, u, r, _, h2 => by simp at h2
theorem qV_set : ∀ {qs : List Qu} {rs : List (Option Addr × Nat)} {c : Nat} {u : Qu} {r : Option Addr × Nat}, qs[c]? = some u → rs[c]? = some r →
    (∀ x : Int, (qV qs rs).set (c * 3) (.int .i64 x) = qV (qs.set c { u with run := x }) rs) ∧ (∀ x : Int, (qV qs rs).set (c * 3 + 1) (.int .i64 x) = qV (qs.set c { u with left := x }) rs) ∧
    (∀ (l : List Int) (r' : Option Addr × Nat), (qV qs rs).set (c * 3 + 2) (.slice r'.1 l.length r'.2) = qV (qs.set c { u with ready := l }) (rs.set c r'))
  | u0 :: us, r0 :: rs, 0, u, r, h1, h2 => by simp at h1 h2; subst h1 h2; simp [qV]
  | u0 :: us, r0 :: rs, c + 1, u, r, h1, h2 => by
    obtain ⟨i1, i2, i3⟩ := qV_set (qs := us) (rs := rs) (c := c) (u := u) (r := r) (by simpa using h1) (by simpa using h2)
    simp only [qV, show (c + 1) * 3 = c * 3 + 1 + 1 + 1 by omega, show c * 3 + 1 + 1 + 1 + 1 = (c * 3 + 1) + 1 + 1 + 1 by omega, show c * 3 + 1 + 1 + 1 + 2 = (c * 3 + 2) + 1 + 1 + 1 by omega, List.set_cons_succ]
    exact ⟨fun x => by rw [i1], fun x => by rw [i2], fun l r' => by rw [i3]⟩
  | [], _, c, u, r, h1, _ => by simp at h1
  | _ :: _, [], c, u, r, _, h2 => by simp at h2
theorem tV_cons (t : Th) (l : List Th) : tV (t :: l) = .int .i64 t.pri :: .int .i64 t.cpu :: .int .i64 t.st :: tV l := by simp [tV]
theorem tV_len : ∀ ts : List Th, (tV ts).length = ts.length * 3
  | [] => rfl
  | t :: l => by rw [tV_cons]; have := tV_len l; simp only [List.length_cons]; omega
theorem tV_app (a b : List Th) : tV (a ++ b) = tV a ++ tV b := by simp [tV]
theorem tV_set : ∀ {ts : List Th} {k : Nat} {t : Th}, ts[k]? = some t →
    (∀ x : Int, (tV ts).set (k * 3) (.int .i64 x) = tV (ts.set k { t with pri := x })) ∧ (∀ x : Int, (tV ts).set (k * 3 + 1) (.int .i64 x) = tV (ts.set k { t with cpu := x })) ∧ (∀ x : Int, (tV ts).set (k * 3 + 2) (.int .i64 x) = tV (ts.set k { t with st := x }))
  | t0 :: l, 0, t, h => by simp at h; subst h; simp [tV]
  | t0 :: l, k + 1, t, h => by
    obtain ⟨i1, i2, i3⟩ := tV_set (ts := l) (k := k) (t := t) (by simpa using h)
    simp only [tV_cons, List.set_cons_succ, show (k + 1) * 3 = k * 3 + 1 + 1 + 1 by omega, show k * 3 + 1 + 1 + 1 + 1 = (k * 3 + 1) + 1 + 1 + 1 by omega, show k * 3 + 1 + 1 + 1 + 2 = (k * 3 + 2) + 1 + 1 + 1 by omega]
    exact ⟨fun x => by rw [i1], fun x => by rw [i2], fun x => by rw [i3]⟩
  | [], k, t, h => by simp at h
/-- A state of one's own in memory: the struct in block b0, the processors in block bc, the threads at at_, the queues where rs says. -/
structure Own (B b0 bc cc : Nat) (at_ : Option Addr) (ct : Nat) (rs : List (Option Addr × Nat)) (s : St) (w : World) : Prop where
  nxt : w.heap[b0]? = some (.cells #[.slice (some ⟨bc, 0, none⟩) s.qs.length cc, .slice at_ s.ts.length ct, .int .i64 s.q] 25 (0, 0))
  b0B : B ≤ b0
  cp : w.ownsRow B 47 3 (.slice (some ⟨bc, 0, none⟩) s.qs.length cc) s.qs.length (qV s.qs rs)
  th : w.ownsRow B 44 3 (.slice at_ s.ts.length ct) s.ts.length (tV s.ts)
  rl : rs.length = s.qs.length
  rd : ∀ (k : Nat) (u : Qu) (r : Option Addr × Nat), s.qs[k]? = some u → rs[k]? = some r → RdyAt B w r.1 r.2 u.ready
/-- What such calls change: the processors and the threads alone. -/
structure Fr (bc : Nat) (at_ : Option Addr) (w w' : World) : Prop where
  os : w'.os = w.os
  tape : w'.tape = w.tape
  output : w'.output = w.output
  size : w.heap.size ≤ w'.heap.size
  blk : ∀ k, k < w.heap.size → k ≠ bc → (∀ a : Addr, at_ = some a → k ≠ a.block) → w'.heap[k]? = w.heap[k]?
theorem Fr.refl (bc : Nat) (at_ : Option Addr) (w : World) : Fr bc at_ w w := ⟨rfl, rfl, rfl, Nat.le_refl _, fun _ _ _ _ => rfl⟩
theorem Fr.trans {bc : Nat} {at_ : Option Addr} {a b c : World} (h : Fr bc at_ a b) (k : Fr bc at_ b c) : Fr bc at_ a c :=
  ⟨k.os.trans h.os, k.tape.trans h.tape, k.output.trans h.output, Nat.le_trans h.size k.size, fun i hi h1 h2 => (k.blk i (Nat.lt_of_lt_of_le hi h.size) h1 h2).trans (h.blk i hi h1 h2)⟩
theorem Fr.of_below {bc : Nat} {at_ : Option Addr} {w w' : World} (h : Below w.heap.size w w') : Fr bc at_ w w' := ⟨h.os, h.tape, h.output, h.size, fun k hk _ _ => h.block k hk⟩
theorem Fr.setC {bc : Nat} {at_ : Option Addr} {w w' : World} (h : Fr bc at_ w w') (j : Nat) (u : Value) : Fr bc at_ w (w'.setCell ⟨bc, j, none⟩ u) :=
  h.trans ⟨rfl, rfl, rfl, by simp [World.setCell], fun k hk h1 _ => Below.heap_setCell _ _ _ _ h1⟩
theorem Fr.setT {bc : Nat} {w w' : World} {bt : Nat} (h : Fr bc (some ⟨bt, 0, none⟩) w w') (j : Nat) (u : Value) : Fr bc (some ⟨bt, 0, none⟩) w (w'.setCell ⟨bt, j, none⟩ u) :=
  h.trans ⟨rfl, rfl, rfl, by simp [World.setCell], fun k hk _ h2 => Below.heap_setCell _ _ _ _ (h2 ⟨bt, 0, none⟩ rfl)⟩
section
variable {B b0 bc cc ct : Nat} {at_ : Option Addr} {rs : List (Option Addr × Nat)} {s : St} {w w' : World}
theorem Own.below (h : Own B b0 bc cc at_ ct rs s w) (hq : Below w.heap.size w w') : Own B b0 bc cc at_ ct rs s w' :=
  ⟨(hq.block _ (Array.getElem?_eq_some_iff.1 h.nxt).1).trans h.nxt, h.b0B, ownsRow_below h.cp hq, ownsRow_below h.th hq, h.rl, fun k u r h1 h2 => (h.rd k u r h1 h2).below hq⟩
theorem Own.bw (h : Own B b0 bc cc at_ ct rs s w) : B ≤ w.heap.size := Nat.le_trans h.b0B (Nat.le_of_lt (Array.getElem?_eq_some_iff.1 h.nxt).1)
theorem Own.bcRow (h : Own B b0 bc cc at_ ct rs s w) : ∃ cur, w.heap[bc]? = some (.cells cur 47 (0, 0)) ∧ B ≤ bc := by
  obtain ⟨_, (⟨h1, _⟩ | ⟨g, cap, cur, h1, h2, h3, _⟩)⟩ := h.cp
  · cases h1
  · cases h1; exact ⟨cur, h3, h2⟩
theorem Own.btRow (h : Own B b0 bc cc at_ ct rs s w) : ∀ a, at_ = some a → ∃ cur, a = ⟨a.block, 0, none⟩ ∧ w.heap[a.block]? = some (.cells cur 44 (0, 0)) ∧ B ≤ a.block := by
  rintro a rfl
  obtain ⟨_, (⟨h1, _⟩ | ⟨g, cap, cur, h1, h2, h3, _⟩)⟩ := h.th
  · cases h1
  · cases h1; exact ⟨cur, rfl, h3, h2⟩
theorem Own.at_some (h : Own B b0 bc cc at_ ct rs s w) {k : Nat} (hk : k < s.ts.length) : ∃ bt : Nat, at_ = some ⟨bt, 0, none⟩ := by
  obtain ⟨_, (⟨h1, h2⟩ | ⟨g, cap, cur, h1, _⟩)⟩ := h.th
  · omega
  · cases h1; exact ⟨_, rfl⟩
theorem Own.scIn (h : Own B b0 bc cc at_ ct rs s w) (hl : ∀ (k : Nat) (u : Qu), s.qs[k]? = some u → u.ready.length ≤ 4000) : ScIn w (some ⟨bc, 0, none⟩) cc at_ ct s.qs s.ts := by
  obtain ⟨cur, hb, _⟩ := h.bcRow
  refine ⟨slV_own h.cp, slV_own h.th, ?_, ?_, fun k u hu => by have := hl k u hu; omega⟩
  · refine .inr ⟨bc, 0, rfl, (Array.getElem?_eq_some_iff.1 hb).1, fun k x hx => ?_⟩
    have hk := (List.getElem?_eq_some_iff.1 hx).1
    obtain ⟨r, hr⟩ : ∃ r, rs[k]? = some r := ⟨_, List.getElem?_eq_getElem (by rw [h.rl]; exact hk)⟩
    obtain ⟨g1, g2, g3⟩ := qV_get hx hr
    refine ⟨?_, ?_, r.1, r.2, ?_, (h.rd k x r hx hr).1.1, (h.rd k x r hx hr).slAt⟩
    · rw [Nat.zero_add, h.cp.cellAt _ (by omega)]; exact g1
    · rw [Nat.zero_add, h.cp.cellAt _ (by omega)]; exact g2
    · rw [Nat.zero_add, h.cp.cellAt _ (by omega)]; exact g3
  · rcases Nat.eq_zero_or_pos s.ts.length with h0 | h0
    · left; rw [List.eq_nil_of_length_eq_zero h0]; rfl
    · obtain ⟨bt, rfl⟩ := h.at_some h0
      obtain ⟨cur, _, hb, _⟩ := h.btRow _ rfl
      refine .inr ⟨bt, 0, rfl, (Array.getElem?_eq_some_iff.1 hb).1, fun j x hx => ?_⟩
      have hj := (List.getElem?_eq_some_iff.1 hx).1
      rw [tV_len] at hj
      rw [Nat.zero_add, h.th.cellAt _ (by omega)]; exact hx
/-- The three cells of a processor, none frozen. -/
theorem Own.cells (h : Own B b0 bc cc at_ ct rs s w) {c : Nat} {u : Qu} (hu : s.qs[c]? = some u) : ∃ r, rs[c]? = some r ∧ w.cell? ⟨bc, c * 3, none⟩ = some (.int .i64 u.run) ∧ w.cell? ⟨bc, c * 3 + 1, none⟩ = some (.int .i64 u.left) ∧ w.cell? ⟨bc, c * 3 + 2, none⟩ = some (.slice r.1 u.ready.length r.2) ∧
    w.frozen? ⟨bc, c * 3, none⟩ = false ∧ w.frozen? ⟨bc, c * 3 + 1, none⟩ = false ∧ w.frozen? ⟨bc, c * 3 + 2, none⟩ = false := by
  have hk := (List.getElem?_eq_some_iff.1 hu).1
  obtain ⟨r, hr⟩ : ∃ r, rs[c]? = some r := ⟨_, List.getElem?_eq_getElem (by rw [h.rl]; exact hk)⟩
  obtain ⟨g1, g2, g3⟩ := qV_get hu hr
  exact ⟨r, hr, by rw [h.cp.cellAt _ (by omega)]; exact g1, by rw [h.cp.cellAt _ (by omega)]; exact g2, by rw [h.cp.cellAt _ (by omega)]; exact g3, h.cp.frozenAt _, h.cp.frozenAt _, h.cp.frozenAt _⟩
theorem Own.tcells {bt : Nat} (h : Own B b0 bc cc (some ⟨bt, 0, none⟩) ct rs s w) {k : Nat} {t : Th} (ht : s.ts[k]? = some t) : w.cell? ⟨bt, k * 3, none⟩ = some (.int .i64 t.pri) ∧ w.cell? ⟨bt, k * 3 + 1, none⟩ = some (.int .i64 t.cpu) ∧ w.cell? ⟨bt, k * 3 + 2, none⟩ = some (.int .i64 t.st) ∧
    w.frozen? ⟨bt, k * 3, none⟩ = false ∧ w.frozen? ⟨bt, k * 3 + 1, none⟩ = false ∧ w.frozen? ⟨bt, k * 3 + 2, none⟩ = false := by
  have hk := (List.getElem?_eq_some_iff.1 ht).1
  obtain ⟨g1, g2, g3⟩ := tV_get s.ts k t ht
  exact ⟨by rw [h.th.cellAt _ (by omega)]; exact g1, by rw [h.th.cellAt _ (by omega)]; exact g2, by rw [h.th.cellAt _ (by omega)]; exact g3, h.th.frozenAt _, h.th.frozenAt _, h.th.frozenAt _⟩
theorem ownsRow_set_ne {w : World} {base e size n : Nat} {v : Value} {xs : List Value} (h : w.ownsRow base e size v n xs) {b j : Nat} {u : Value} (hb : v.ownBlock ≠ some b) : (w.setCell ⟨b, j, none⟩ u).ownsRow base e size v n xs := by
  obtain ⟨h1, (h2 | ⟨g, cap, cur, h3, h4, h5, h6⟩)⟩ := h
  · exact ⟨h1, .inl h2⟩
  · subst h3
    exact ⟨h1, .inr ⟨g, cap, cur, rfl, h4, (Below.heap_setCell _ _ _ _ (fun e => hb (by simp [Value.ownBlock, e]))).trans h5, h6⟩⟩
theorem RdyAt.set {B : Nat} {w : World} {ar : Option Addr} {cr b j : Nat} {xs : List Int} {u : Value} (h : RdyAt B w ar cr xs) (hb : ∀ cur, w.heap[b]? ≠ some (.cells cur 3 (0, 0))) : RdyAt B (w.setCell ⟨b, j, none⟩ u) ar cr xs := by
  obtain ⟨h1, h2 | ⟨b', off, cur, rfl, hbb, hc⟩⟩ := h
  · exact ⟨h1, .inl h2⟩
  · have hne : b' ≠ b := fun e => hb cur (by rw [← e]; exact hbb)
    exact ⟨h1, .inr ⟨b', off, cur, rfl, (Below.heap_setCell _ _ _ _ hne).trans hbb, fun j x hx => (World.cell?_of_block (w := w) (a := ⟨b', off + j, none⟩) (Below.heap_setCell _ _ _ _ hne)).trans (hc j x hx)⟩⟩
theorem Own.ne (h : Own B b0 bc cc at_ ct rs s w) : b0 ≠ bc ∧ (∀ a, at_ = some a → a.block ≠ bc ∧ a.block ≠ b0) := by
  obtain ⟨cur, h1, _⟩ := h.bcRow
  refine ⟨fun e => by have := h.nxt; rw [e, h1] at this; simp at this, fun a ha => ?_⟩
  obtain ⟨cur2, _, h2, _⟩ := h.btRow a ha
  exact ⟨fun e => by rw [e, h1] at h2; simp at h2, fun e => by have := h.nxt; rw [← e, h2] at this; simp at this⟩
/-- A store into the processors. -/
theorem Own.setC (h : Own B b0 bc cc at_ ct rs s w) {j : Nat} {u : Value} {qs' : List Qu} {rs' : List (Option Addr × Nat)} (hq : (qV s.qs rs).set j u = qV qs' rs') (hl : qs'.length = s.qs.length) (hr : rs'.length = qs'.length)
    (hd : ∀ (k : Nat) (x : Qu) (r : Option Addr × Nat), qs'[k]? = some x → rs'[k]? = some r → RdyAt B w r.1 r.2 x.ready) : Own B b0 bc cc at_ ct rs' { s with qs := qs' } (w.setCell ⟨bc, j, none⟩ u) := by
  obtain ⟨cur, h1, _⟩ := h.bcRow
  refine ⟨?_, h.b0B, ?_, ?_, hr, fun k x r h2 h3 => (hd k x r h2 h3).set (fun cur' e => by rw [h1] at e; simp at e)⟩
  · show _ = some (Obj.cells #[.slice _ qs'.length _, _, _] _ _)
    rw [hl]; exact (Below.heap_setCell _ _ _ _ h.ne.1).trans h.nxt
  · have := (h.cp.stored j u).1
    show World.ownsRow _ _ _ _ (.slice _ qs'.length _) qs'.length (qV qs' rs')
    rw [hl, ← hq]; exact this
  · refine ownsRow_set_ne h.th ?_
    intro e
    cases ha : at_ with
    | none => rw [ha] at e; simp [Value.ownBlock] at e
    | some a => rw [ha] at e; simp only [Value.ownBlock, Option.some.injEq] at e; exact (h.ne.2 a ha).1 e
theorem Own.setRun (h : Own B b0 bc cc at_ ct rs s w) {c : Nat} {u : Qu} (hu : s.qs[c]? = some u) (x : Int) : Own B b0 bc cc at_ ct rs { s with qs := s.qs.set c { u with run := x } } (w.setCell ⟨bc, c * 3, none⟩ (.int .i64 x)) := by
  have hk := (List.getElem?_eq_some_iff.1 hu).1
  obtain ⟨r, hr⟩ : ∃ r, rs[c]? = some r := ⟨_, List.getElem?_eq_getElem (by rw [h.rl]; exact hk)⟩
  refine h.setC ((qV_set hu hr).1 x) (by simp) (by simp [h.rl]) (fun k y r' h1 h2 => ?_)
  rcases get_set h1 with ⟨rfl, rfl, _⟩ | ⟨_, h1⟩
  · exact h.rd _ u r' hu h2
  · exact h.rd _ y r' h1 h2
theorem Own.setLeft (h : Own B b0 bc cc at_ ct rs s w) {c : Nat} {u : Qu} (hu : s.qs[c]? = some u) (x : Int) : Own B b0 bc cc at_ ct rs { s with qs := s.qs.set c { u with left := x } } (w.setCell ⟨bc, c * 3 + 1, none⟩ (.int .i64 x)) := by
  have hk := (List.getElem?_eq_some_iff.1 hu).1
  obtain ⟨r, hr⟩ : ∃ r, rs[c]? = some r := ⟨_, List.getElem?_eq_getElem (by rw [h.rl]; exact hk)⟩
  refine h.setC ((qV_set hu hr).2.1 x) (by simp) (by simp [h.rl]) (fun k y r' h1 h2 => ?_)
  rcases get_set h1 with ⟨rfl, rfl, _⟩ | ⟨_, h1⟩
  · exact h.rd _ u r' hu h2
  · exact h.rd _ y r' h1 h2
theorem Own.setReady (h : Own B b0 bc cc at_ ct rs s w) {c : Nat} {u : Qu} (hu : s.qs[c]? = some u) {l : List Int} {r' : Option Addr × Nat} (hR : RdyAt B w r'.1 r'.2 l) : Own B b0 bc cc at_ ct (rs.set c r') { s with qs := s.qs.set c { u with ready := l } } (w.setCell ⟨bc, c * 3 + 2, none⟩ (.slice r'.1 l.length r'.2)) := by
  have hk := (List.getElem?_eq_some_iff.1 hu).1
  obtain ⟨r, hr⟩ : ∃ r, rs[c]? = some r := ⟨_, List.getElem?_eq_getElem (by rw [h.rl]; exact hk)⟩
  refine h.setC ((qV_set hu hr).2.2 l r') (by simp) (by simp [h.rl]) (fun k y r2 h1 h2 => ?_)
  rcases get_set h1 with ⟨rfl, rfl, _⟩ | ⟨hne, h1⟩
  · rw [List.getElem?_set_self (by rw [h.rl]; exact hk)] at h2; cases h2; exact hR
  · rw [List.getElem?_set_ne hne] at h2; exact h.rd _ y r2 h1 h2
/-- A store into the threads. -/
theorem Own.setT {bt : Nat} (h : Own B b0 bc cc (some ⟨bt, 0, none⟩) ct rs s w) {j : Nat} {u : Value} {ts' : List Th} (hq : (tV s.ts).set j u = tV ts') (hl : ts'.length = s.ts.length) : Own B b0 bc cc (some ⟨bt, 0, none⟩) ct rs { s with ts := ts' } (w.setCell ⟨bt, j, none⟩ u) := by
  obtain ⟨cur, _, h1, _⟩ := h.btRow _ rfl
  obtain ⟨n1, n2⟩ := h.ne
  obtain ⟨n3, n4⟩ := n2 _ rfl
  refine ⟨?_, h.b0B, ?_, ?_, h.rl, fun k x r h2 h3 => (h.rd k x r h2 h3).set (fun cur' e => by rw [h1] at e; simp at e)⟩
  · show _ = some (Obj.cells #[_, .slice _ ts'.length _, _] _ _)
    rw [hl]; exact (Below.heap_setCell w ⟨bt, j, none⟩ u b0 (fun e => n4 e.symm)).trans h.nxt
  · refine ownsRow_set_ne h.cp ?_
    intro e
    simp only [Value.ownBlock, Option.some.injEq] at e
    exact n3 e.symm
  · have := (h.th.stored j u).1
    show World.ownsRow _ _ _ _ (.slice _ ts'.length _) ts'.length (tV ts')
    rw [hl, ← hq]; exact this
end
/-- The boxes of the closures. -/
structure Env (b0 e : Nat) (w : World) : Prop where
  sx : w.heap[e]? = some (.cells #[.pointer (some ⟨b0, 0, none⟩)] 71 (0, 0))
  pr : w.heap[e + 2]? = some (.cells #[.func (.func 87) #[] #[.pointer (some ⟨e, 0, none⟩)]] 79 (0, 0))
  lv : w.heap[e + 3]? = some (.cells #[.func (.func 88) #[] #[.pointer (some ⟨e + 2, 0, none⟩), .pointer (some ⟨e, 0, none⟩)]] 72 (0, 0))
  en : w.heap[e + 4]? = some (.cells #[.func (.func 90) #[] #[.pointer (some ⟨e + 3, 0, none⟩), .pointer (some ⟨e + 2, 0, none⟩)]] 117 (0, 0))
  te : w.heap[e + 5]? = some (.cells #[.func (.func 92) #[] #[.pointer (some ⟨e + 4, 0, none⟩), .pointer (some ⟨e, 0, none⟩)]] 73 (0, 0))
theorem cell0 {w : World} {b : Nat} {v : Value} {t : TypeId} (h : w.heap[b]? = some (.cells #[v] t (0, 0))) : w.cell? ⟨b, 0, none⟩ = some v ∧ w.frozen? ⟨b, 0, none⟩ = false ∧ b < w.heap.size :=
  ⟨by simp [World.cell?, h], by simp [World.frozen?, h], (Array.getElem?_eq_some_iff.1 h).1⟩
theorem Own.kept {B b0 bc cc ct : Nat} {at_ : Option Addr} {rs : List (Option Addr × Nat)} {s : St} {w w' : World} (h : Own B b0 bc cc at_ ct rs s w) (hf : Fr bc at_ w w') {b : Nat} {cur : Array Value} {t : TypeId} (hb : w.heap[b]? = some (.cells cur t (0, 0))) (ht : t ≠ 47 ∧ t ≠ 44) : w'.heap[b]? = some (.cells cur t (0, 0)) := by
  obtain ⟨c1, h1, _⟩ := h.bcRow
  refine (hf.blk b (Array.getElem?_eq_some_iff.1 hb).1 (fun e => ?_) (fun a ha e => ?_)).trans hb
  · rw [e, h1] at hb; simp at hb; exact ht.1 hb.2.symm
  · obtain ⟨c2, _, h2, _⟩ := h.btRow a ha
    rw [e, h2] at hb; simp at hb; exact ht.2 hb.2.symm
theorem Env.fr {B b0 bc cc ct e : Nat} {at_ : Option Addr} {rs : List (Option Addr × Nat)} {s : St} {w w' : World} (he : Env b0 e w) (h : Own B b0 bc cc at_ ct rs s w) (hf : Fr bc at_ w w') : Env b0 e w' :=
  ⟨h.kept hf he.sx (by decide), h.kept hf he.pr (by decide), h.kept hf he.lv (by decide), h.kept hf he.en (by decide), h.kept hf he.te (by decide)⟩
theorem Env.below {b0 e : Nat} {w w' : World} (he : Env b0 e w) (hq : Below w.heap.size w w') : Env b0 e w' :=
  ⟨(hq.block _ (Array.getElem?_eq_some_iff.1 he.sx).1).trans he.sx, (hq.block _ (Array.getElem?_eq_some_iff.1 he.pr).1).trans he.pr, (hq.block _ (Array.getElem?_eq_some_iff.1 he.lv).1).trans he.lv, (hq.block _ (Array.getElem?_eq_some_iff.1 he.en).1).trans he.en, (hq.block _ (Array.getElem?_eq_some_iff.1 he.te).1).trans he.te⟩
end Go.Proofs.Ytggikbcgijmhbaa
