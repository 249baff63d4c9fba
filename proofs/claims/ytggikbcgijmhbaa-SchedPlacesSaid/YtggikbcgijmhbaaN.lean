/- WHAT IS PROVED: the copy of a state lies in memory of its own. CONDITIONS: as the cells lie; at most 16 threads, 4 processors, short queues. -/
import Derived.Test.YtggikbcgijmhbaaM
import Derived.Deep.DeepCutAuto
import Derived.OrdersHeld
import Derived.Deep.RegionHeld
set_option linter.unusedSimpArgs false
set_option linter.unusedVariables false
namespace Go.Proofs.Ytggikbcgijmhbaa
open Go Go.RowKit Go.QrBits Go.QrMem
theorem choose_list {α β : Type} : ∀ {qs : List α} {P : Nat → α → β → Prop}, (∀ (k : Nat) (u : α), qs[k]? = some u → ∃ r, P k u r) → ∃ R : List β, R.length = qs.length ∧ ∀ (k : Nat) (u : α) (r : β), qs[k]? = some u → R[k]? = some r → P k u r
  | [], P, _ => ⟨[], rfl, fun k u r h => by simp at h⟩
  | u :: l, P, h => by
    obtain ⟨r, hr⟩ := h 0 u rfl
    obtain ⟨R, h1, h2⟩ := choose_list (qs := l) (P := fun k => P (k + 1)) (fun k v hv => h (k + 1) v (by simpa using hv))
    refine ⟨r :: R, by simp [h1], fun k v x hv hx => ?_⟩
    cases k with
    | zero => simp at hv hx; subst hv hx; exact hr
    | succ k => exact h2 k v x (by simpa using hv) (by simpa using hx)
theorem qV_at : ∀ {qs : List Qu} {R : List (Option Addr × Nat)} {j : Nat} {x : Value}, R.length = qs.length → (qV qs R)[j]? = some x → ∃ k u r, qs[k]? = some u ∧ R[k]? = some r ∧ ((j = k * 3 ∧ x = .int .i64 u.run) ∨ (j = k * 3 + 1 ∧ x = .int .i64 u.left) ∨ (j = k * 3 + 2 ∧ x = .slice r.1 u.ready.length r.2))
  | [], [], j, x, _, h => by simp [qV] at h
  | u :: us, r :: rs, 0, x, hl, h => by simp [qV] at h; exact ⟨0, u, r, rfl, rfl, .inl ⟨rfl, h.symm⟩⟩
  | u :: us, r :: rs, 1, x, hl, h => by simp [qV] at h; exact ⟨0, u, r, rfl, rfl, .inr (.inl ⟨rfl, h.symm⟩)⟩
  | u :: us, r :: rs, 2, x, hl, h => by simp [qV] at h; exact ⟨0, u, r, rfl, rfl, .inr (.inr ⟨rfl, h.symm⟩)⟩
  | u :: us, r :: rs, j + 3, x, hl, h => by
    obtain ⟨k, v, y, h1, h2, h3⟩ := qV_at (qs := us) (R := rs) (j := j) (x := x) (by simpa using hl) (by simpa [qV] using h)
    exact ⟨k + 1, v, y, by simpa using h1, by simpa using h2, by rcases h3 with ⟨h, e⟩ | ⟨h, e⟩ | ⟨h, e⟩
                                                                 · exact .inl ⟨by omega, e⟩
                                                                 · exact .inr (.inl ⟨by omega, e⟩)
                                                                 · exact .inr (.inr ⟨by omega, e⟩)⟩
theorem qV_one {qs : List Qu} {R : List (Option Addr × Nat)} (hl : R.length = qs.length) : ∀ u ∈ qV qs R, u.oneCell' = true := by
  intro x hx
  obtain ⟨j, hj⟩ := List.mem_iff_getElem?.1 hx
  obtain ⟨k, u, r, _, _, h⟩ := qV_at hl hj
  rcases h with ⟨_, rfl⟩ | ⟨_, rfl⟩ | ⟨_, rfl⟩ <;> rfl
theorem tV_one (ts : List Th) : ∀ u ∈ tV ts, u.oneCell' = true := by
  intro x hx
  simp only [tV, List.mem_flatMap] at hx
  obtain ⟨t, _, h⟩ := hx
  simp at h; rcases h with rfl | rfl | rfl <;> rfl
/-- The places of the queues of a state that came in. -/
theorem ScIn.rows {w : World} {a : Option Addr} {c : Nat} {a2 : Option Addr} {c2 : Nat} {qs : List Qu} {ts : List Th} (h : ScIn w a c a2 c2 qs ts) :
    ∃ R : List (Option Addr × Nat), R.length = qs.length ∧ SlAt w a (qV qs R) ∧ ∀ (k : Nat) (u : Qu) (r : Option Addr × Nat), qs[k]? = some u → R[k]? = some r → SlV r.1 u.ready.length r.2 ∧ SlAt w r.1 (iV u.ready) := by
  rcases h.s1 with h0 | ⟨b, off, ha, hb, hc⟩
  · exact ⟨[], by simp [h0], .inl (by simp [h0, qV]), fun k u r h1 => by rw [h0] at h1; simp at h1⟩
  · obtain ⟨R, h1, h2⟩ := choose_list (qs := qs) (P := fun k u (r : Option Addr × Nat) => w.cell? ⟨b, off + k * 3, none⟩ = some (.int .i64 u.run) ∧ w.cell? ⟨b, off + k * 3 + 1, none⟩ = some (.int .i64 u.left) ∧ w.cell? ⟨b, off + k * 3 + 2, none⟩ = some (.slice r.1 u.ready.length r.2) ∧ SlV r.1 u.ready.length r.2 ∧ SlAt w r.1 (iV u.ready))
      (fun k u hu => by obtain ⟨g1, g2, ar, cr, g3, g4, g5⟩ := hc k u hu; exact ⟨(ar, cr), g1, g2, g3, g4, g5⟩)
    refine ⟨R, h1, .inr ⟨b, off, ha, hb, fun j x hx => ?_⟩, fun k u r hu hr => (h2 k u r hu hr).2.2.2⟩
    obtain ⟨k, u, r, hu, hr, h3⟩ := qV_at h1 hx
    obtain ⟨g1, g2, g3, _⟩ := h2 k u r hu hr
    rcases h3 with ⟨rfl, rfl⟩ | ⟨rfl, rfl⟩ | ⟨rfl, rfl⟩
    · exact g1
    · exact g2
    · exact g3
/-- A copy: a state in memory of its own. -/
def CopyRes (qs : List Qu) (ts : List Th) (q : Int) (w : World) (e : Ending) (w' : World) : Prop :=
  ∃ (g d : Nat) (b : Option Addr) (d2 : Nat) (rs : List (Option Addr × Nat)), e = .returned (.agg #[.slice (some ⟨g, 0, none⟩) qs.length d, .slice b ts.length d2, .int .i64 q]) ∧ w'.ownsRow w.heap.size 47 3 (.slice (some ⟨g, 0, none⟩) qs.length d) qs.length (qV qs rs) ∧
    w'.ownsRow w.heap.size 44 3 (.slice b ts.length d2) ts.length (tV ts) ∧ rs.length = qs.length ∧ (∀ (k : Nat) (u : Qu) (r : Option Addr × Nat), qs[k]? = some u → rs[k]? = some r → RdyAt w.heap.size w' r.1 r.2 u.ready) ∧ Below w.heap.size w w'
/-- Behind the first statement of the copy. -/
def CpRel (w X : World) (x n m : Nat) (q : Int) (xq xt : List Value) (a : Option Addr) (d : Nat) (b : Option Addr) (d2 : Nat) : Prop :=
  X.heap[x]? = some (.cells #[.slice a n d, .slice b m d2, .int .i64 q] 25 (0, 0)) ∧ w.heap.size + 2 ≤ x ∧ X.heap[w.heap.size + 1]? = some (.cells #[.slice none 0 0, .slice none 0 0, .int .i64 0] 25 (0, 0)) ∧
    X.ownsRow w.heap.size 47 3 (.slice a n d) n xq ∧ X.ownsRow w.heap.size 44 3 (.slice b m d2) m xt ∧ Below w.heap.size w X
theorem own_set25 {w : World} {base E size n j x : Nat} {v u : Value} {xs : List Value} {cur : Array Value} (h : w.ownsRow base E size v n xs) (hE : E ≠ 25) (hx : w.heap[x]? = some (.cells cur 25 (0, 0))) : (w.setCell ⟨x, j, none⟩ u).ownsRow base E size v n xs := by
  refine ownsRow_set_ne h ?_
  intro e
  obtain ⟨_, (⟨rfl, _⟩ | ⟨g, cap, c2, rfl, _, hg, _⟩)⟩ := h
  · simp [Value.ownBlock] at e
  · simp only [Value.ownBlock, Option.some.injEq] at e
    rw [e, hx] at hg; simp at hg; exact hE hg.2.symm
theorem cp_store {w X : World} {x n m : Nat} {q : Int} {xq xt : List Value} {a : Option Addr} {d : Nat} {b : Option Addr} {d2 : Nat} {o0 o1 o2 : Value}
    (h1 : X.heap[x]? = some (.cells #[o0, o1, o2] 25 (0, 0))) (h2 : w.heap.size + 2 ≤ x) (h3 : X.heap[w.heap.size + 1]? = some (.cells #[.slice none 0 0, .slice none 0 0, .int .i64 0] 25 (0, 0)))
    (h4 : X.ownsRow w.heap.size 47 3 (.slice a n d) n xq) (h5 : X.ownsRow w.heap.size 44 3 (.slice b m d2) m xt) (h6 : Below w.heap.size w X) :
    CpRel w (((X.setCell ⟨x, 0, none⟩ (.slice a n d)).setCell ⟨x, 1, none⟩ (.slice b m d2)).setCell ⟨x, 2, none⟩ (.int .i64 q)) x n m q xq xt a d b d2 := by
  have e1 := heap_setCell_same X x 0 _ 25 (.slice a n d) h1
  have e2 := heap_setCell_same _ x 1 _ 25 (.slice b m d2) e1
  have e3 := heap_setCell_same _ x 2 _ 25 (.int .i64 q) e2
  refine ⟨by simpa using e3, h2, ?_, own_set25 (own_set25 (own_set25 h4 (by decide) h1) (by decide) e1) (by decide) e2, own_set25 (own_set25 (own_set25 h5 (by decide) h1) (by decide) e1) (by decide) e2, ((h6.setCell (by show _ ≤ x; omega) _).setCell (by show _ ≤ x; omega) _).setCell (by show _ ≤ x; omega) _⟩
  rw [Below.heap_setCell _ _ _ _ (by show w.heap.size + 1 ≠ x; omega), Below.heap_setCell _ _ _ _ (by show w.heap.size + 1 ≠ x; omega), Below.heap_setCell _ _ _ _ (by show w.heap.size + 1 ≠ x; omega)]
  exact h3
set_option maxHeartbeats 4000000 in
set_option maxRecDepth 100000 in
theorem copied_c (a : Option Addr) (c : Nat) (a2 : Option Addr) (c2 : Nat) (qs : List Qu) (ts : List Th) (q : Int) (w : World) (hs : ScIn w a c a2 c2 qs ts) (hn : 1 ≤ qs.length ∧ qs.length ≤ 4) (hm : ts.length ≤ 16) (hl : ∀ (k : Nat) (u : Qu), qs[k]? = some u → u.ready.length ≤ 4000) :
    Calls Try.prog 74 #[.agg #[.slice a qs.length c, .slice a2 ts.length c2, .int .i64 q]] w (CopyRes qs ts q w) := by
  obtain ⟨R, hR, hA, hQ⟩ := hs.rows
  have HS := Lib.hid hs
  have HR := Lib.hid hR
  have HA := Lib.hid hA
  have HQ := Lib.hid hQ
  clear hs hR hA hQ
  go_enter Try.func74, Try.ntmps74
  go_upto_region 1 with fail
  obtain ⟨hn1, hn4⟩ := hn
  have hV1 := Lib.hid HS.out.v1
  have hV2 := Lib.hid HS.out.v2
  have HL1 := Lib.hid (qV_len HR.out)
  have HL2 := Lib.hid (tV_len ts)
  have c0 : ((w.alloc (.cells #[.slice a qs.length c, .slice a2 ts.length c2, .int .i64 q] 25)).alloc (.cells #[.slice none 0 0, .slice none 0 0, .int .i64 0] 25)).cell? ⟨w.heap.size, 0, none⟩ = some (.slice a qs.length c) := by simp [go_sem]
  have c1 : ((w.alloc (.cells #[.slice a qs.length c, .slice a2 ts.length c2, .int .i64 q] 25)).alloc (.cells #[.slice none 0 0, .slice none 0 0, .int .i64 0] 25)).cell? ⟨w.heap.size, 1, none⟩ = some (.slice a2 ts.length c2) := by simp [go_sem]
  have c2x : ((w.alloc (.cells #[.slice a qs.length c, .slice a2 ts.length c2, .int .i64 q] 25)).alloc (.cells #[.slice none 0 0, .slice none 0 0, .int .i64 0] 25)).cell? ⟨w.heap.size, 2, none⟩ = some (.int .i64 q) := by simp [go_sem]
  have hz : ((w.alloc (.cells #[.slice a qs.length c, .slice a2 ts.length c2, .int .i64 q] 25)).alloc (.cells #[.slice none 0 0, .slice none 0 0, .int .i64 0] 25)).heap[w.heap.size + 1]? = some (.cells #[.slice none 0 0, .slice none 0 0, .int .i64 0] 25 (0, 0)) := heap_new (by simp)
  have hbW : Below w.heap.size w ((w.alloc (.cells #[.slice a qs.length c, .slice a2 ts.length c2, .int .i64 q] 25)).alloc (.cells #[.slice none 0 0, .slice none 0 0, .int .i64 0] 25)) := b_alloc (b_alloc (Below.refl _ _))
  have hsW : w.heap.size + 2 = ((w.alloc (.cells #[.slice a qs.length c, .slice a2 ts.length c2, .int .i64 q] 25)).alloc (.cells #[.slice none 0 0, .slice none 0 0, .int .i64 0] 25)).heap.size := by simp
  generalize ((w.alloc (.cells #[.slice a qs.length c, .slice a2 ts.length c2, .int .i64 q] 25)).alloc (.cells #[.slice none 0 0, .slice none 0 0, .int .i64 0] 25)) = W at *
  have hsz : w.heap.size + 2 ≤ W.heap.size := Nat.le_of_eq hsW
  have HZ := Lib.hid hz
  have HB := Lib.hid hbW
  have HSS : Hid (∀ W', Below W.heap.size W W' → W'.cell? ⟨w.heap.size, 0, none⟩ = some (.slice a qs.length c) ∧ W'.cell? ⟨w.heap.size, 1, none⟩ = some (.slice a2 ts.length c2) ∧ W'.cell? ⟨w.heap.size, 2, none⟩ = some (.int .i64 q)) := Lib.hid fun W' hb =>
    ⟨(hb.cell (p := ⟨w.heap.size, 0, none⟩) (by show w.heap.size < _; omega)).trans c0, (hb.cell (p := ⟨w.heap.size, 1, none⟩) (by show w.heap.size < _; omega)).trans c1, (hb.cell (p := ⟨w.heap.size, 2, none⟩) (by show w.heap.size < _; omega)).trans c2x⟩
  have HZZ : Hid (∀ W', Below W.heap.size W W' → W'.heap[w.heap.size + 1]? = some (.cells #[.slice none 0 0, .slice none 0 0, .int .i64 0] 25 (0, 0))) := Lib.hid fun W' hb => (hb.block _ (by omega)).trans hz
  clear hz hbW hsW c0 c1 c2x
  go_cut [3] (fun s3 X => ∃ (x : Nat) (A : Option Addr) (d : Nat) (b : Option Addr) (d2 : Nat) (X' : World), X' = X ∧ s3 = .pointer (some ⟨x, 0, none⟩) ∧ Hid (CpRel w X' x qs.length ts.length q (qV qs R) (tV ts) A d b d2))
  case first =>
    refine wp_region_any (by kernel_rfl) (wpAny_of_held (S := fun W' : World => W'.cell? ⟨w.heap.size, 0, none⟩ = some (.slice a qs.length c) ∧ W'.cell? ⟨w.heap.size, 1, none⟩ = some (.slice a2 ts.length c2) ∧ W'.cell? ⟨w.heap.size, 2, none⟩ = some (.int .i64 q)) _ _ _ _ ?_)
    change wpAnyH _ _ _ _ _ _ _ _ (World.drew _)
    have hb_W0 : Below W.heap.size W W.drew := (Below.refl _ _).drew
    have HS0 := HSS.out _ hb_W0
    obtain ⟨W0, hW0⟩ : ∃ W0, W.drew = W0 := ⟨_, rfl⟩
    rw [hW0] at hb_W0 HS0 ⊢
    clear hW0
    refine wpAnyH_take (i := 0) (oi := _) (v := .pointer (some ⟨w.heap.size, 0, none⟩)) rfl (by kernel_rfl) (by kernel_rfl) (by kernel_rfl) (fun _ _ _ h => h) (Or.inl ⟨by rfl, ?_⟩) HS0 ?_
    · intro W' hW'
      go_simp
    try simp only [Act.put, List.setIfInBounds_toArray, List.set_cons_zero, List.set_cons_succ]
    refine wpAnyH_take (i := 3) (oi := _) (v := .pointer (some ⟨w.heap.size, 1, none⟩)) rfl (by kernel_rfl) (by kernel_rfl) (by kernel_rfl) (fun _ _ _ h => h) (Or.inl ⟨by rfl, ?_⟩) HS0 ?_
    · intro W' hW'
      go_simp
    try simp only [Act.put, List.setIfInBounds_toArray, List.set_cons_zero, List.set_cons_succ]
    refine wpAnyH_take (i := 6) (oi := _) (v := .pointer (some ⟨w.heap.size, 2, none⟩)) rfl (by kernel_rfl) (by kernel_rfl) (by kernel_rfl) (fun _ _ _ h => h) (Or.inl ⟨by rfl, ?_⟩) HS0 ?_
    · intro W' hW'
      go_simp
    try simp only [Act.put, List.setIfInBounds_toArray, List.set_cons_zero, List.set_cons_succ]
    refine wpAnyH_take (i := 1) (oi := _) (v := .slice a qs.length c) rfl (by kernel_rfl) (by kernel_rfl) (by kernel_rfl) (fun _ _ _ h => h) (Or.inl ⟨by rfl, ?_⟩) HS0 ?_
    · intro W' hW'
      have h := hW'.1; go_simp
    try simp only [Act.put, List.setIfInBounds_toArray, List.set_cons_zero, List.set_cons_succ]
    refine wpAnyH_take (i := 4) (oi := _) (v := .slice a2 ts.length c2) rfl (by kernel_rfl) (by kernel_rfl) (by kernel_rfl) (fun _ _ _ h => h) (Or.inl ⟨by rfl, ?_⟩) HS0 ?_
    · intro W' hW'
      have h := hW'.2.1; go_simp
    try simp only [Act.put, List.setIfInBounds_toArray, List.set_cons_zero, List.set_cons_succ]
    refine wpAnyH_take (i := 7) (oi := _) (v := .int .i64 q) rfl (by kernel_rfl) (by kernel_rfl) (by kernel_rfl) (fun _ _ _ h => h) (Or.inl ⟨by rfl, ?_⟩) HS0 ?_
    · intro W' hW'
      have h := hW'.2.2; go_simp
    try simp only [Act.put, List.setIfInBounds_toArray, List.set_cons_zero, List.set_cons_succ]
    refine wpAnyH_ready (rs := [2, 9]) (by kernel_rfl) (by simp) ?_
    refine AllReadyH.cons (o := _) rfl (fun K hK => ?_) (AllReadyH.cons (o := _) rfl (fun K hK => ?_) AllReadyH.nil)
    · go_simp
      refine (cloneQ_c a qs.length c (qV qs R) _ hV1.out (HA.out.below (HB.out.trans (hb_W0.mono (by omega)))) HL1.out (qV_one HR.out) (by omega)).mono ?_
      rintro e w2 ⟨A, d, rfl, hown1, hst⟩
      have hb_w2 := Below.tail hb_W0 hst
      have hq_w2 := Lib.hid (ownsRow_base (base' := w.heap.size) hown1 (by have := hb_W0.size; omega))
      refine hK.out _ _ (HSS.out _ hb_w2) (fun hHeld => ?_)
      clear hK K hHeld hown1 hst
      try simp only [Act.put, List.setIfInBounds_toArray, List.set_cons_zero, List.set_cons_succ]
      refine wpAnyH_ready (rs := [5, 9]) (by kernel_rfl) (by simp) ?_
      refine AllReadyH.cons (o := _) rfl (fun K hK => ?_) (AllReadyH.cons (o := _) rfl (fun K hK => ?_) AllReadyH.nil)
      · go_simp
        refine (cloneT_c a2 ts.length c2 (tV ts) _ hV2.out (HS.out.s2.below (HB.out.trans (hb_w2.mono (by omega)))) HL2.out (tV_one ts) (by omega)).mono ?_
        rintro e w3 ⟨b, d2, rfl, hown2, hst⟩
        have hb_w3 := Below.tail hb_w2 hst
        have ht_w3 := Lib.hid (ownsRow_base (base' := w.heap.size) hown2 (by have := hb_w2.size; omega))
        have hq_w3 := Lib.hid (ownsRow_below hq_w2.out hst)
        refine hK.out _ _ (HSS.out _ hb_w3) (fun hHeld => ?_)
        clear hK K hHeld hown2 hst
        try simp only [Act.put, List.setIfInBounds_toArray, List.set_cons_zero, List.set_cons_succ]
        refine wpAnyH_take (i := 8) (oi := _) (v := .agg #[.slice A qs.length d, .slice b ts.length d2, .int .i64 q]) rfl (by kernel_rfl) (by kernel_rfl) (by kernel_rfl) (fun _ _ _ h => h) (Or.inl ⟨by rfl, ?_⟩) (HSS.out _ hb_w3) ?_
        · intro W' hW'
          go_simp
        try simp only [Act.put, List.setIfInBounds_toArray, List.set_cons_zero, List.set_cons_succ]
        refine wpAnyH_ready (rs := [9]) (by kernel_rfl) (by simp) ?_
        refine AllReadyH.cons (o := _) rfl (fun K hK => ?_) AllReadyH.nil
        go_simp
        have hst : Below w3.heap.size w3 (w3.alloc (.cells #[.slice none 0 0, .slice none 0 0, .int .i64 0] 25)) := b_alloc (Below.refl _ _)
        have hb_w4 := Below.tail hb_w3 hst
        have hx_w4 : (w3.alloc (.cells #[.slice none 0 0, .slice none 0 0, .int .i64 0] 25)).heap[w3.heap.size]? = some (.cells #[.slice none 0 0, .slice none 0 0, .int .i64 0] 25 (0, 0)) := heap_new rfl
        have hxW : W.heap.size ≤ w3.heap.size := hb_w3.size
        have hq_w4 := Lib.hid (ownsRow_below hq_w3.out hst)
        have ht_w4 := Lib.hid (ownsRow_below ht_w3.out hst)
        refine hK.out _ _ (HSS.out _ hb_w4) (fun hHeld => ?_)
        clear hK K hHeld hst
        generalize w3.heap.size = x at hx_w4 hxW ⊢
        generalize (w3.alloc (.cells #[.slice none 0 0, .slice none 0 0, .int .i64 0] 25)) = w4 at *
        try simp only [Act.put, List.setIfInBounds_toArray, List.set_cons_zero, List.set_cons_succ]
        have e0 : w4.cell? ⟨x, 0, none⟩ = some (.slice none 0 0) := by simp [World.cell?, hx_w4]
        have e1 : w4.cell? ⟨x, 1, none⟩ = some (.slice none 0 0) := by simp [World.cell?, hx_w4]
        have e2 : w4.cell? ⟨x, 2, none⟩ = some (.int .i64 0) := by simp [World.cell?, hx_w4]
        have f0 : w4.frozen? ⟨x, 0, none⟩ = false := by simp [World.frozen?, hx_w4]
        have f1 : w4.frozen? ⟨x, 1, none⟩ = false := by simp [World.frozen?, hx_w4]
        have f2 : w4.frozen? ⟨x, 2, none⟩ = false := by simp [World.frozen?, hx_w4]
        have HX := Lib.hid (cp_store (q := q) hx_w4 (by omega) (HZZ.out _ hb_w4) hq_w4.out ht_w4.out (HB.out.trans (hb_w4.mono (by omega))))
        have hbF := Lib.hid (((hb_w4.setCell (p := ⟨x, 0, none⟩) hxW (.slice A qs.length d)).setCell (p := ⟨x, 1, none⟩) hxW (.slice b ts.length d2)).setCell (p := ⟨x, 2, none⟩) hxW (.int .i64 q))
        refine wpAnyH_ready (rs := [10]) (by kernel_rfl) (by simp) ?_
        refine AllReadyH.cons (o := _) rfl (fun K hK => ?_) AllReadyH.nil
        go_simp
        refine hK.out _ _ (HSS.out _ hbF.out) (fun hHeld => ?_)
        clear hK K hHeld
        refine wpAnyH_done (by kernel_rfl) ?_ _
        go_wp2_with fail
        go_meet
        exact ⟨x, A, d, b, d2, _, rfl, rfl, HX⟩
      · go_simp
        have hst : Below w2.heap.size w2 (w2.alloc (.cells #[.slice none 0 0, .slice none 0 0, .int .i64 0] 25)) := b_alloc (Below.refl _ _)
        have hb_w3 := Below.tail hb_w2 hst
        have hx_w3 : (w2.alloc (.cells #[.slice none 0 0, .slice none 0 0, .int .i64 0] 25)).heap[w2.heap.size]? = some (.cells #[.slice none 0 0, .slice none 0 0, .int .i64 0] 25 (0, 0)) := heap_new rfl
        have hxW : W.heap.size ≤ w2.heap.size := hb_w2.size
        have hq_w3 := Lib.hid (ownsRow_below hq_w2.out hst)
        refine hK.out _ _ (HSS.out _ hb_w3) (fun hHeld => ?_)
        clear hK K hHeld hst
        generalize w2.heap.size = x at hx_w3 hxW ⊢
        generalize (w2.alloc (.cells #[.slice none 0 0, .slice none 0 0, .int .i64 0] 25)) = w3 at *
        try simp only [Act.put, List.setIfInBounds_toArray, List.set_cons_zero, List.set_cons_succ]
        refine wpAnyH_ready (rs := [5]) (by kernel_rfl) (by simp) ?_
        refine AllReadyH.cons (o := _) rfl (fun K hK => ?_) AllReadyH.nil
        go_simp
        refine (cloneT_c a2 ts.length c2 (tV ts) _ hV2.out (HS.out.s2.below (HB.out.trans (hb_w3.mono (by omega)))) HL2.out (tV_one ts) (by omega)).mono ?_
        rintro e w4 ⟨b, d2, rfl, hown2, hst⟩
        have hb_w4 := Below.tail hb_w3 hst
        have ht_w4 := Lib.hid (ownsRow_base (base' := w.heap.size) hown2 (by have := hb_w3.size; omega))
        have hq_w4 := Lib.hid (ownsRow_below hq_w3.out hst)
        have hx_w4 := (hst.block _ (Array.getElem?_eq_some_iff.1 hx_w3).1).trans hx_w3
        refine hK.out _ _ (HSS.out _ hb_w4) (fun hHeld => ?_)
        clear hK K hHeld hown2 hst
        try simp only [Act.put, List.setIfInBounds_toArray, List.set_cons_zero, List.set_cons_succ]
        refine wpAnyH_take (i := 8) (oi := _) (v := .agg #[.slice A qs.length d, .slice b ts.length d2, .int .i64 q]) rfl (by kernel_rfl) (by kernel_rfl) (by kernel_rfl) (fun _ _ _ h => h) (Or.inl ⟨by rfl, ?_⟩) (HSS.out _ hb_w4) ?_
        · intro W' hW'
          go_simp
        try simp only [Act.put, List.setIfInBounds_toArray, List.set_cons_zero, List.set_cons_succ]
        have e0 : w4.cell? ⟨x, 0, none⟩ = some (.slice none 0 0) := by simp [World.cell?, hx_w4]
        have e1 : w4.cell? ⟨x, 1, none⟩ = some (.slice none 0 0) := by simp [World.cell?, hx_w4]
        have e2 : w4.cell? ⟨x, 2, none⟩ = some (.int .i64 0) := by simp [World.cell?, hx_w4]
        have f0 : w4.frozen? ⟨x, 0, none⟩ = false := by simp [World.frozen?, hx_w4]
        have f1 : w4.frozen? ⟨x, 1, none⟩ = false := by simp [World.frozen?, hx_w4]
        have f2 : w4.frozen? ⟨x, 2, none⟩ = false := by simp [World.frozen?, hx_w4]
        have HX := Lib.hid (cp_store (q := q) hx_w4 (by omega) (HZZ.out _ hb_w4) hq_w4.out ht_w4.out (HB.out.trans (hb_w4.mono (by omega))))
        have hbF := Lib.hid (((hb_w4.setCell (p := ⟨x, 0, none⟩) hxW (.slice A qs.length d)).setCell (p := ⟨x, 1, none⟩) hxW (.slice b ts.length d2)).setCell (p := ⟨x, 2, none⟩) hxW (.int .i64 q))
        refine wpAnyH_ready (rs := [10]) (by kernel_rfl) (by simp) ?_
        refine AllReadyH.cons (o := _) rfl (fun K hK => ?_) AllReadyH.nil
        go_simp
        refine hK.out _ _ (HSS.out _ hbF.out) (fun hHeld => ?_)
        clear hK K hHeld
        refine wpAnyH_done (by kernel_rfl) ?_ _
        go_wp2_with fail
        go_meet
        exact ⟨x, A, d, b, d2, _, rfl, rfl, HX⟩
    · go_simp
      have hst : Below W0.heap.size W0 (W0.alloc (.cells #[.slice none 0 0, .slice none 0 0, .int .i64 0] 25)) := b_alloc (Below.refl _ _)
      have hb_w1 := Below.tail hb_W0 hst
      have hx_w1 : (W0.alloc (.cells #[.slice none 0 0, .slice none 0 0, .int .i64 0] 25)).heap[W0.heap.size]? = some (.cells #[.slice none 0 0, .slice none 0 0, .int .i64 0] 25 (0, 0)) := heap_new rfl
      have hxW : W.heap.size ≤ W0.heap.size := hb_W0.size
      refine hK.out _ _ (HSS.out _ hb_w1) (fun hHeld => ?_)
      clear hK K hHeld hst
      generalize W0.heap.size = x at hx_w1 hxW ⊢
      generalize (W0.alloc (.cells #[.slice none 0 0, .slice none 0 0, .int .i64 0] 25)) = w1 at *
      try simp only [Act.put, List.setIfInBounds_toArray, List.set_cons_zero, List.set_cons_succ]
      refine wpAnyH_ready (rs := [2]) (by kernel_rfl) (by simp) ?_
      refine AllReadyH.cons (o := _) rfl (fun K hK => ?_) AllReadyH.nil
      go_simp
      refine (cloneQ_c a qs.length c (qV qs R) _ hV1.out (HA.out.below (HB.out.trans (hb_w1.mono (by omega)))) HL1.out (qV_one HR.out) (by omega)).mono ?_
      rintro e w2 ⟨A, d, rfl, hown1, hst⟩
      have hb_w2 := Below.tail hb_w1 hst
      have hq_w2 := Lib.hid (ownsRow_base (base' := w.heap.size) hown1 (by have := hb_w1.size; omega))
      have hx_w2 := (hst.block _ (Array.getElem?_eq_some_iff.1 hx_w1).1).trans hx_w1
      refine hK.out _ _ (HSS.out _ hb_w2) (fun hHeld => ?_)
      clear hK K hHeld hown1 hst
      try simp only [Act.put, List.setIfInBounds_toArray, List.set_cons_zero, List.set_cons_succ]
      refine wpAnyH_ready (rs := [5]) (by kernel_rfl) (by simp) ?_
      refine AllReadyH.cons (o := _) rfl (fun K hK => ?_) AllReadyH.nil
      go_simp
      refine (cloneT_c a2 ts.length c2 (tV ts) _ hV2.out (HS.out.s2.below (HB.out.trans (hb_w2.mono (by omega)))) HL2.out (tV_one ts) (by omega)).mono ?_
      rintro e w3 ⟨b, d2, rfl, hown2, hst⟩
      have hb_w3 := Below.tail hb_w2 hst
      have ht_w3 := Lib.hid (ownsRow_base (base' := w.heap.size) hown2 (by have := hb_w2.size; omega))
      have hq_w3 := Lib.hid (ownsRow_below hq_w2.out hst)
      have hx_w3 := (hst.block _ (Array.getElem?_eq_some_iff.1 hx_w2).1).trans hx_w2
      refine hK.out _ _ (HSS.out _ hb_w3) (fun hHeld => ?_)
      clear hK K hHeld hown2 hst
      try simp only [Act.put, List.setIfInBounds_toArray, List.set_cons_zero, List.set_cons_succ]
      refine wpAnyH_take (i := 8) (oi := _) (v := .agg #[.slice A qs.length d, .slice b ts.length d2, .int .i64 q]) rfl (by kernel_rfl) (by kernel_rfl) (by kernel_rfl) (fun _ _ _ h => h) (Or.inl ⟨by rfl, ?_⟩) (HSS.out _ hb_w3) ?_
      · intro W' hW'
        go_simp
      try simp only [Act.put, List.setIfInBounds_toArray, List.set_cons_zero, List.set_cons_succ]
      have e0 : w3.cell? ⟨x, 0, none⟩ = some (.slice none 0 0) := by simp [World.cell?, hx_w3]
      have e1 : w3.cell? ⟨x, 1, none⟩ = some (.slice none 0 0) := by simp [World.cell?, hx_w3]
      have e2 : w3.cell? ⟨x, 2, none⟩ = some (.int .i64 0) := by simp [World.cell?, hx_w3]
      have f0 : w3.frozen? ⟨x, 0, none⟩ = false := by simp [World.frozen?, hx_w3]
      have f1 : w3.frozen? ⟨x, 1, none⟩ = false := by simp [World.frozen?, hx_w3]
      have f2 : w3.frozen? ⟨x, 2, none⟩ = false := by simp [World.frozen?, hx_w3]
      have HX := Lib.hid (cp_store (q := q) hx_w3 (by omega) (HZZ.out _ hb_w3) hq_w3.out ht_w3.out (HB.out.trans (hb_w3.mono (by omega))))
      have hbF := Lib.hid (((hb_w3.setCell (p := ⟨x, 0, none⟩) hxW (.slice A qs.length d)).setCell (p := ⟨x, 1, none⟩) hxW (.slice b ts.length d2)).setCell (p := ⟨x, 2, none⟩) hxW (.int .i64 q))
      refine wpAnyH_ready (rs := [10]) (by kernel_rfl) (by simp) ?_
      refine AllReadyH.cons (o := _) rfl (fun K hK => ?_) AllReadyH.nil
      go_simp
      refine hK.out _ _ (HSS.out _ hbF.out) (fun hHeld => ?_)
      clear hK K hHeld
      refine wpAnyH_done (by kernel_rfl) ?_ _
      go_wp2_with fail
      go_meet
      exact ⟨x, A, d, b, d2, _, rfl, rfl, HX⟩
  case rest =>
    obtain ⟨x, A, d, b, d2, X, hX, rfl, HC⟩ := hcut
    subst hX
    obtain ⟨hx0, hx1, hx2, ho1, ho2, hbX⟩ := HC.out
    obtain ⟨g, d', hA1, hgb, hgl⟩ := ho1.form (by omega)
    cases hA1
    have cx0 : X.cell? ⟨x, 0, none⟩ = some (.slice (some ⟨g, 0, none⟩) qs.length d) := by simp [World.cell?, hx0]
    have HX0 := Lib.hid hx0
    have HX2 := Lib.hid hx2
    have HO1 := Lib.hid ho1
    have HO2 := Lib.hid ho2
    have HBX := Lib.hid hbX
    clear hx0 hx2 ho1 ho2 hbX HC
    go_wp2_with fail
    clear cx0
    go_loopw [4, 17] (fun s4 i wr => ∃ (k : Nat) (wv : World) (R' : List (Option Addr × Nat)), wv = wr ∧ k ≤ qs.length ∧ i = .int .i64 k ∧ wv.heap[x]? = some (.cells #[.slice (some ⟨g, 0, none⟩) qs.length d, .slice b ts.length d2, .int .i64 q] 25 (0, 0)) ∧
      wv.heap[w.heap.size + 1]? = some (.cells #[.slice none 0 0, .slice none 0 0, .int .i64 0] 25 (0, 0)) ∧ wv.ownsRow w.heap.size 47 3 (.slice (some ⟨g, 0, none⟩) qs.length d) qs.length (qV qs R') ∧ wv.ownsRow w.heap.size 44 3 (.slice b ts.length d2) ts.length (tV ts) ∧ Below w.heap.size w wv ∧
      R'.length = qs.length ∧ ∀ (j : Nat) (u : Qu) (r : Option Addr × Nat), qs[j]? = some u → R'[j]? = some r → (j < k → RdyAt w.heap.size wv r.1 r.2 u.ready) ∧ (k ≤ j → R[j]? = some r)) (fun _ i _ => qs.length - (intOf i).toNat)
    case atStart => exact ⟨0, _, R, rfl, Nat.zero_le _, rfl, HX0.out, HX2.out, HO1.out, HO2.out, HBX.out, HR.out, fun j u r _ hr => ⟨fun h => absurd h (Nat.not_lt_zero _), fun _ => hr⟩⟩
    case round =>
      obtain ⟨k, wv, R', hw, hk, rfl, hxb, hzb, ho1, ho2, hbw, hRl, hrd⟩ := hrel
      subst hw
      clear HX0 HX2 HO1 HO2 HBX
      by_cases hlt : k < qs.length
      · have k0 : (0 : Int) ≤ (k : Int) := Int.natCast_nonneg _
        have k1 : (k : Int) < (qs.length : Int) := by omega
        have hmx : qs.length ≤ 9223372036854775807 := by omega
        obtain ⟨u, hu⟩ : ∃ u, qs[k]? = some u := ⟨_, List.getElem?_eq_getElem hlt⟩
        obtain ⟨r, hr⟩ : ∃ r, R'[k]? = some r := ⟨_, List.getElem?_eq_getElem (by rw [hRl]; exact hlt)⟩
        have hrR := (hrd k u r hu hr).2 (Nat.le_refl _)
        obtain ⟨v1, v2⟩ := HQ.out k u r hu hrR
        have hsl := Lib.hid (v2.below hbw)
        have hvv := Lib.hid v1
        have hul := hl k u hu
        obtain ⟨_, _, g2⟩ := qV_get hu hr
        have cg := (ho1.cellAt (k * 3 + 2) (by omega)).trans g2
        have fg := ho1.frozenAt (k * 3 + 2)
        have cx : wv.cell? ⟨x, 0, none⟩ = some (.slice (some ⟨g, 0, none⟩) qs.length d) := by simp [World.cell?, hxb]
        have hxl := (Array.getElem?_eq_some_iff.1 hxb).1
        have hgl : g < wv.heap.size := World.block_lt_of_cell? _ _ cg
        have hgx : g ≠ x := by
          obtain ⟨_, (⟨e, _⟩ | ⟨g', _, c2, e, _, hg, _⟩)⟩ := ho1
          · cases e
          · cases e; intro e; rw [e, hxb] at hg; simp at hg
        have HXB := Lib.hid hxb
        have HZB := Lib.hid hzb
        have HO1 := Lib.hid ho1
        have HO2 := Lib.hid ho2
        have HBW := Lib.hid hbw
        have HRL := Lib.hid hRl
        have HRD := Lib.hid hrd
        have HU := Lib.hid hu
        have HRR := Lib.hid hr
        clear hxb hzb ho1 ho2 hbw hRl hrd hu hr v1 v2 g2 hrR
        go_wp2_with fail
        refine wp_region_any (by kernel_rfl) (wpAny_of_held (S := fun W' : World => W'.cell? ⟨x, 0, none⟩ = some (.slice (some ⟨g, 0, none⟩) qs.length d)) _ _ _ _ ?_)
        change wpAnyH _ _ _ _ _ _ _ _ (World.drew _)
        obtain ⟨w0, hw0⟩ : ∃ w0, wv.drew = w0 := ⟨_, rfl⟩
        have hb0 : Below wv.heap.size wv w0 := by rw [← hw0]; exact (Below.refl _ _).drew
        have hz0 : wv.heap.size ≤ w0.heap.size := hb0.size
        have HS0 : w0.cell? ⟨x, 0, none⟩ = some (.slice (some ⟨g, 0, none⟩) qs.length d) := (hb0.cell (p := ⟨x, 0, none⟩) hxl).trans cx
        have cg0 : w0.cell? ⟨g, k * 3 + 2, none⟩ = some (.slice r.1 u.ready.length r.2) := (hb0.cell (p := ⟨g, k * 3 + 2, none⟩) hgl).trans cg
        have HB0 := Lib.hid hb0
        rw [hw0]
        clear hw0 cx cg fg hb0
        refine wpAnyH_take (i := 0) (oi := _) (v := .pointer (some ⟨x, 0, none⟩)) rfl (by kernel_rfl) (by kernel_rfl) (by kernel_rfl) (fun _ _ _ h => h) (Or.inl ⟨by rfl, ?_⟩) HS0 ?_
        · intro W' hW'
          go_simp
        try simp only [Act.put, List.setIfInBounds_toArray, List.set_cons_zero, List.set_cons_succ]
        refine wpAnyH_take (i := 2) (oi := _) (v := .int .i64 (k : Int)) rfl (by kernel_rfl) (by kernel_rfl) (by kernel_rfl) (fun _ _ _ h => h) (Or.inl ⟨by rfl, ?_⟩) HS0 ?_
        · intro W' hW'
          go_simp
        try simp only [Act.put, List.setIfInBounds_toArray, List.set_cons_zero, List.set_cons_succ]
        refine wpAnyH_take (i := 3) (oi := _) (v := .pointer (some ⟨x, 0, none⟩)) rfl (by kernel_rfl) (by kernel_rfl) (by kernel_rfl) (fun _ _ _ h => h) (Or.inl ⟨by rfl, ?_⟩) HS0 ?_
        · intro W' hW'
          go_simp
        try simp only [Act.put, List.setIfInBounds_toArray, List.set_cons_zero, List.set_cons_succ]
        refine wpAnyH_take (i := 5) (oi := _) (v := .int .i64 (k : Int)) rfl (by kernel_rfl) (by kernel_rfl) (by kernel_rfl) (fun _ _ _ h => h) (Or.inl ⟨by rfl, ?_⟩) HS0 ?_
        · intro W' hW'
          go_simp
        try simp only [Act.put, List.setIfInBounds_toArray, List.set_cons_zero, List.set_cons_succ]
        refine wpAnyH_take (i := 1) (oi := _) (v := .slice (some ⟨g, 0, none⟩) qs.length d) rfl (by kernel_rfl) (by kernel_rfl) (by kernel_rfl) (fun _ _ _ h => h) (Or.inl ⟨by rfl, ?_⟩) HS0 ?_
        · intro W' hW'
          have h := hW'; go_simp
        try simp only [Act.put, List.setIfInBounds_toArray, List.set_cons_zero, List.set_cons_succ]
        refine wpAnyH_take (i := 4) (oi := _) (v := .slice (some ⟨g, 0, none⟩) qs.length d) rfl (by kernel_rfl) (by kernel_rfl) (by kernel_rfl) (fun _ _ _ h => h) (Or.inl ⟨by rfl, ?_⟩) HS0 ?_
        · intro W' hW'
          have h := hW'; go_simp
        try simp only [Act.put, List.setIfInBounds_toArray, List.set_cons_zero, List.set_cons_succ]
        refine wpAnyH_take (i := 6) (oi := _) (v := .pointer (some ⟨g, k * 3, none⟩)) rfl (by kernel_rfl) (by kernel_rfl) (by kernel_rfl) (fun _ _ _ h => h) (Or.inl ⟨by rfl, ?_⟩) HS0 ?_
        · intro W' hW'
          go_simp
        try simp only [Act.put, List.setIfInBounds_toArray, List.set_cons_zero, List.set_cons_succ]
        refine wpAnyH_take (i := 7) (oi := _) (v := .pointer (some ⟨g, k * 3 + 2, none⟩)) rfl (by kernel_rfl) (by kernel_rfl) (by kernel_rfl) (fun _ _ _ h => h) (Or.inl ⟨by rfl, ?_⟩) HS0 ?_
        · intro W' hW'
          go_simp
        try simp only [Act.put, List.setIfInBounds_toArray, List.set_cons_zero, List.set_cons_succ]
        refine wpAnyH_ready (rs := [8]) (by kernel_rfl) (by simp) ?_
        refine AllReadyH.cons (o := _) rfl (fun K hK => ?_) AllReadyH.nil
        go_simp
        refine hK.out _ _ HS0 (fun hHeld => ?_)
        clear hK K hHeld
        try simp only [Act.put, List.setIfInBounds_toArray, List.set_cons_zero, List.set_cons_succ]
        refine wpAnyH_ready (rs := [9]) (by kernel_rfl) (by simp) ?_
        refine AllReadyH.cons (o := _) rfl (fun K hK => ?_) AllReadyH.nil
        go_simp
        refine (cloneI_c r.1 u.ready.length r.2 (iV u.ready) _ hvv.out (hsl.out.below (HB0.out)) (by simp [iV]) (iV_one _) (by omega)).mono ?_
        rintro e w2 ⟨a', c', rfl, hown, hst⟩
        have HS2 : w2.cell? ⟨x, 0, none⟩ = some (.slice (some ⟨g, 0, none⟩) qs.length d) := (hst.cell (p := ⟨x, 0, none⟩) (by show x < _; omega)).trans HS0
        have HB2 := Lib.hid (Below.tail HB0.out hst)
        have HOW := Lib.hid hown
        refine hK.out _ _ HS2 (fun hHeld => ?_)
        clear hK K hHeld hown hst cg0
        try simp only [Act.put, List.setIfInBounds_toArray, List.set_cons_zero, List.set_cons_succ]
        refine wpAnyH_take (i := 10) (oi := _) (v := .pointer (some ⟨g, k * 3, none⟩)) rfl (by kernel_rfl) (by kernel_rfl) (by kernel_rfl) (fun _ _ _ h => h) (Or.inl ⟨by rfl, ?_⟩) HS2 ?_
        · intro W' hW'
          go_simp
        try simp only [Act.put, List.setIfInBounds_toArray, List.set_cons_zero, List.set_cons_succ]
        refine wpAnyH_take (i := 11) (oi := _) (v := .pointer (some ⟨g, k * 3 + 2, none⟩)) rfl (by kernel_rfl) (by kernel_rfl) (by kernel_rfl) (fun _ _ _ h => h) (Or.inl ⟨by rfl, ?_⟩) HS2 ?_
        · intro W' hW'
          go_simp
        try simp only [Act.put, List.setIfInBounds_toArray, List.set_cons_zero, List.set_cons_succ]
        have O1 := ownsRow_below HO1.out HB2.out
        have cg2 : ∃ y, w2.cell? ⟨g, k * 3 + 2, none⟩ = some y := ⟨_, (O1.cellAt (k * 3 + 2) (by omega)).trans (qV_get HU.out HRR.out).2.2⟩
        obtain ⟨y, cg2⟩ := cg2
        have fg2 := O1.frozenAt (k * 3 + 2)
        have hx2 := (HB2.out.block x hxl).trans HXB.out
        have HS3 : (w2.setCell ⟨g, k * 3 + 2, none⟩ (.slice a' u.ready.length c')).cell? ⟨x, 0, none⟩ = some (.slice (some ⟨g, 0, none⟩) qs.length d) := (World.cell?_of_block (w := w2) (a := ⟨x, 0, none⟩) (Below.heap_setCell _ _ _ _ (by show x ≠ g; exact fun e => hgx e.symm))).trans HS2
        have HO3 := Lib.hid (O1.stored (k * 3 + 2) (.slice a' u.ready.length c')).1
        have HX2 := Lib.hid hx2
        clear O1 hx2
        refine wpAnyH_ready (rs := [12]) (by kernel_rfl) (by simp) ?_
        refine AllReadyH.cons (o := _) rfl (fun K hK => ?_) AllReadyH.nil
        go_simp
        refine hK.out _ _ HS3 (fun hHeld => ?_)
        clear hK K hHeld
        refine wpAnyH_done (by kernel_rfl) ?_ _
        clear cg2 fg2 HS0 HS2 HS3
        go_wp2_with fail
        go_roundw
        case rel =>
          have hkl : k < R'.length := by rw [HRL.out]; exact hlt
          have hne25 : ∀ {b : Nat} {cur : Array Value}, w2.heap[b]? = some (.cells cur 25 (0, 0)) → b ≠ g := fun {b cur} hb e => by
            obtain ⟨_, (⟨e', _⟩ | ⟨g', _, c2, e', _, hg, _⟩)⟩ := ownsRow_below HO1.out HB2.out
            · cases e'
            · cases e'; rw [e, hg] at hb; simp at hb
          have hzz := (HB2.out.block _ (Array.getElem?_eq_some_iff.1 HZB.out).1).trans HZB.out
          have h47 : ∃ cur, w2.heap[g]? = some (.cells cur 47 (0, 0)) ∧ w.heap.size ≤ g := by
            obtain ⟨_, (⟨e', _⟩ | ⟨g', _, c2, e', hb, hg, _⟩)⟩ := ownsRow_below HO1.out HB2.out
            · cases e'
            · cases e'; exact ⟨c2, hg, hb⟩
          obtain ⟨cur7, h47, hgB⟩ := h47
          refine ⟨k + 1, _, R'.set k (a', c'), rfl, by omega, by go_num, (Below.heap_setCell _ _ _ _ (hne25 HX2.out)).trans HX2.out, (Below.heap_setCell _ _ _ _ (hne25 hzz)).trans hzz, ?_, ?_, ?_, by simp [HRL.out], fun j v y hv hy => ⟨fun hj => ?_, fun hj => ?_⟩⟩
          · have e := (qV_set HU.out HRR.out).2.2 u.ready (a', c')
            have e2 : qs.set k { u with ready := u.ready } = qs := by
              apply List.ext_getElem?
              intro i; rw [List.getElem?_set]
              split
              · rename_i hi; subst hi; first | exact HU.out.symm | (rw [if_pos hlt]; exact HU.out.symm)
              · rfl
            rw [e2] at e
            rw [← e]; exact HO3.out
          · refine ownsRow_set_ne (ownsRow_below HO2.out HB2.out) (fun e => ?_)
            obtain ⟨_, (⟨e', _⟩ | ⟨g', _, c2, e', _, hg, _⟩)⟩ := ownsRow_below HO2.out HB2.out
            · rw [e'] at e; simp [Value.ownBlock] at e
            · rw [e'] at e; simp only [Value.ownBlock, Option.some.injEq] at e
              rw [e, h47] at hg; simp at hg
          · exact (Below.tail HBW.out HB2.out).setCell (by show _ ≤ g; exact hgB) _
          · have hns : ∀ cur, w2.heap[g]? ≠ some (.cells cur 3 (0, 0)) := fun cur e => by rw [h47] at e; simp at e
            by_cases hjk : k = j
            · subst hjk
              rw [List.getElem?_set_self hkl] at hy; cases hy
              rw [HU.out] at hv; cases hv
              exact (RdyAt.own HOW.out (Nat.le_trans HBW.out.size HB0.out.size)).set hns
            · rw [List.getElem?_set_ne hjk] at hy
              exact (((HRD.out j v y hv hy).1 (by omega)).below HB2.out).set hns
          · rw [List.getElem?_set_ne (by omega)] at hy
            exact (HRD.out j v y hv hy).2 (by omega)
        case measure => simp [intOf]; omega
      · obtain rfl : k = qs.length := by omega
        have cz : ∀ j v, #[Value.slice none 0 0, .slice none 0 0, .int .i64 0][j]? = some v → wv.cell? ⟨w.heap.size + 1, j, none⟩ = some v ∧ wv.frozen? ⟨w.heap.size + 1, j, none⟩ = false := fun j v h => ⟨by simp only [World.cell?, hzb]; simpa using h, by simp [World.frozen?, hzb]⟩
        obtain ⟨z0, y0⟩ := cz 0 _ rfl
        obtain ⟨z1, y1⟩ := cz 1 _ rfl
        obtain ⟨z2, y2⟩ := cz 2 _ rfl
        have x0 : wv.cell? ⟨x, 0, none⟩ = some (.slice (some ⟨g, 0, none⟩) qs.length d) := by simp [World.cell?, hxb]
        have x1 : wv.cell? ⟨x, 1, none⟩ = some (.slice b ts.length d2) := by simp [World.cell?, hxb]
        have x2 : wv.cell? ⟨x, 2, none⟩ = some (.int .i64 q) := by simp [World.cell?, hxb]
        have e1 := heap_setCell_same wv (w.heap.size + 1) 0 _ 25 (.slice (some ⟨g, 0, none⟩) qs.length d) hzb
        have e2 := heap_setCell_same _ (w.heap.size + 1) 1 _ 25 (.slice b ts.length d2) e1
        have e3 := heap_setCell_same _ (w.heap.size + 1) 2 _ 25 (.int .i64 q) e2
        have r0 : (((wv.setCell ⟨w.heap.size + 1, 0, none⟩ (.slice (some ⟨g, 0, none⟩) qs.length d)).setCell ⟨w.heap.size + 1, 1, none⟩ (.slice b ts.length d2)).setCell ⟨w.heap.size + 1, 2, none⟩ (.int .i64 q)).cell? ⟨w.heap.size + 1, 0, none⟩ = some (.slice (some ⟨g, 0, none⟩) qs.length d) := by simp [World.cell?, e3]
        have r1 : (((wv.setCell ⟨w.heap.size + 1, 0, none⟩ (.slice (some ⟨g, 0, none⟩) qs.length d)).setCell ⟨w.heap.size + 1, 1, none⟩ (.slice b ts.length d2)).setCell ⟨w.heap.size + 1, 2, none⟩ (.int .i64 q)).cell? ⟨w.heap.size + 1, 1, none⟩ = some (.slice b ts.length d2) := by simp [World.cell?, e3]
        have r2 : (((wv.setCell ⟨w.heap.size + 1, 0, none⟩ (.slice (some ⟨g, 0, none⟩) qs.length d)).setCell ⟨w.heap.size + 1, 1, none⟩ (.slice b ts.length d2)).setCell ⟨w.heap.size + 1, 2, none⟩ (.int .i64 q)).cell? ⟨w.heap.size + 1, 2, none⟩ = some (.int .i64 q) := by simp [World.cell?, e3]
        have hns : ∀ cur, wv.heap[w.heap.size + 1]? ≠ some (.cells cur 3 (0, 0)) := fun cur e => by rw [hzb] at e; simp at e
        have hns1 : ∀ cur, (wv.setCell ⟨w.heap.size + 1, 0, none⟩ (.slice (some ⟨g, 0, none⟩) qs.length d)).heap[w.heap.size + 1]? ≠ some (.cells cur 3 (0, 0)) := fun cur e => by rw [e1] at e; simp at e
        have hns2 : ∀ cur, ((wv.setCell ⟨w.heap.size + 1, 0, none⟩ (.slice (some ⟨g, 0, none⟩) qs.length d)).setCell ⟨w.heap.size + 1, 1, none⟩ (.slice b ts.length d2)).heap[w.heap.size + 1]? ≠ some (.cells cur 3 (0, 0)) := fun cur e => by rw [e2] at e; simp at e
        have HF : Hid (CopyRes qs ts q w (.returned (.agg #[.slice (some ⟨g, 0, none⟩) qs.length d, .slice b ts.length d2, .int .i64 q])) (((wv.setCell ⟨w.heap.size + 1, 0, none⟩ (.slice (some ⟨g, 0, none⟩) qs.length d)).setCell ⟨w.heap.size + 1, 1, none⟩ (.slice b ts.length d2)).setCell ⟨w.heap.size + 1, 2, none⟩ (.int .i64 q))) :=
          Lib.hid ⟨g, d, b, d2, R', rfl, own_set25 (own_set25 (own_set25 ho1 (by decide) hzb) (by decide) e1) (by decide) e2, own_set25 (own_set25 (own_set25 ho2 (by decide) hzb) (by decide) e1) (by decide) e2, hRl, fun j u r hu hr => ((((hrd j u r hu hr).1 (List.getElem?_eq_some_iff.1 hu).1).set hns).set hns1).set hns2,
            ((hbw.setCell (by show _ ≤ w.heap.size + 1; omega) _).setCell (by show _ ≤ w.heap.size + 1; omega) _).setCell (by show _ ≤ w.heap.size + 1; omega) _⟩
        clear cz hzb hxb ho1 ho2 hbw hRl hrd e1 e2 e3 hns hns1 hns2
        go_wp2
        exact bodyPost_ret (v := .agg #[.slice (some ⟨g, 0, none⟩) qs.length d, .slice b ts.length d2, .int .i64 q]) (by simp [results, Try.results74, go_sem, r0, r1, r2]) rfl HF.out
end Go.Proofs.Ytggikbcgijmhbaa
