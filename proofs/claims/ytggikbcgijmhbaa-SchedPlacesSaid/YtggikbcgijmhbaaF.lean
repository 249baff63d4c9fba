/- WHAT IS PROVED: slices.IsSortedFunc by priorities, sched.readyFits. CONDITIONS: as the cells lie; at most 16 threads, of priorities from 0 to 7. -/
import Derived.Test.YtggikbcgijmhbaaE
import Derived.Deep.QuietTactic
import Derived.BigQuiet
import Derived.Deep.AppendLies
set_option linter.unusedSimpArgs false
set_option linter.unusedVariables false
namespace Go.QrMem
open Go Go.RowKit Go.QrBits
theorem Kw.grown {fs : List (Nat × List Value × TypeId)} {w0 w w' : World} {row : Option Nat} (h : Kw fs w0 w) (hg : w.grownBy w' row) (hr : ∀ k, row = some k → w0.heap.size ≤ k ∧ ∀ f ∈ fs, f.1 ≠ k) : Kw fs w0 w' :=
  ⟨h.base.grown hg h.size (fun k e => (hr k e).1), fun f hf => by
    rw [hg.block f.1 (Array.getElem?_eq_some_iff.1 (h.blk f hf)).1 (fun e => (hr _ e.symm).2 f hf rfl)]; exact h.blk f hf⟩
end Go.QrMem
namespace Go.Proofs.Ytggikbcgijmhbaa
open Go Go.RowKit Go.QrBits Go.QrMem
theorem own_block {w : World} {base e size n : Nat} {v : Value} {xs : List Value} (h : w.ownsRow base e size v n xs) : ∀ k, v.ownBlock = some k → base ≤ k ∧ k < w.heap.size := by
  intro k hk
  obtain ⟨_, (⟨rfl, _⟩ | ⟨g, cap, cur, rfl, hb, hg, _⟩)⟩ := h
  · simp [Value.ownBlock] at hk
  · simp only [Value.ownBlock, Option.some.injEq] at hk
    subst hk
    exact ⟨hb, (Array.getElem?_eq_some_iff.1 hg).1⟩
theorem one_cell {w : World} {g : Nat} {y : Value} (h : w.cell? ⟨g, 0, none⟩ = some y) : ∀ (j : Nat) (u : Value), [y][j]? = some u → w.cell? ((⟨g, 0, none⟩ : Addr).add j) = some u := by
  intro j u hu
  cases j with
  | zero => simp at hu; subst hu; exact h
  | succ j => simp at hu
/-- append of one number onto a row of one's own. -/
theorem wpList_app1 {w : World} {ops : Array Oper} {rest : List Oper} {o : Oper} {a : Act} {Q : Exit → Act → World → Prop} (hgd : o.guard = none) (s x : Operand)
    (ho : o.op = .call { callee := .builtin .append, args := #[s, x], argTypes := #[45, 45] })
    (base : Nat) (v : Value) (n : Nat) (xs : List Int) (hs : a.eval s = v) (hown : w.ownsRow base 3 1 v n (iV xs)) (g : Nat) (y : Int) (hx : a.eval x = .slice (some ⟨g, 0, none⟩) 1 1) (hy : w.cell? ⟨g, 0, none⟩ = some (.int .i64 y))
    (hn : n ≤ 4096) {fs : List (Nat × List Value × TypeId)} {w0 : World} (HK : Kw fs w0 w) (hb0 : w0.heap.size ≤ base) (hbw : base ≤ w.heap.size) (hfs : ∀ f ∈ fs, f.1 < base)
    (h : ∀ v' w', w'.ownsRow base 3 1 v' (n + 1) (iV (xs ++ [y])) → Kw fs w0 w' → wpList Try.prog ops Q rest (a.put o.dst v') w') : wpList Try.prog ops Q (o :: rest) a w := by
  obtain ⟨i1, hi1, hy0, hy1, hy2⟩ := info_parts Try.info3
  refine wpList_append_own w hgd s x 45 ho base 3 i1 (.int .i64 0) 1 8 Try.underlying45 hi1 hy0 hy1 hy2 rfl (by decide) v n (iV xs) hs hown ⟨g, 0, none⟩ 1 1 [.int .i64 y] hx rfl (one_cell hy) (by intro u hu; simp at hu; subst hu; rfl) (by unfold maxLen; omega) (by omega) hbw ?_
  intro v' w' h2 h3 _
  refine h v' w' (by simpa [iV] using h2) (HK.grown h3 fun k hk => ?_)
  have := own_block hown k hk
  exact ⟨by omega, fun f hf => by have := hfs f hf; omega⟩
theorem below_of_drewN {w : World} (n : Nat) : Below w.heap.size w (w.drewN n) := below_drewN (Below.refl _ _) n
theorem SlAt.own1 {w : World} {base n c : Nat} {e : TypeId} {a : Option Addr} {xs : List Value} (h : w.ownsRow base e 1 (.slice a n c) n xs) : SlAt w a xs := by
  have hl := h.1
  rcases Nat.eq_zero_or_pos n with h0 | h0
  · left; exact List.eq_nil_of_length_eq_zero (by omega)
  · obtain ⟨b, cap, h1, _, hb⟩ := h.form h0
    cases h1
    right; refine ⟨b, 0, rfl, hb, fun j x hx => ?_⟩
    have hj := (List.getElem?_eq_some_iff.1 hx).1
    rw [Nat.zero_add, h.cellAt j (by omega)]; exact hx
theorem slV_own {w : World} {base n c size : Nat} {e : TypeId} {a : Option Addr} {xs : List Value} (h : w.ownsRow base e size (.slice a n c) n xs) : SlV a n c := by
  obtain ⟨_, (⟨h, h0⟩ | ⟨g, cap, cur, h, _, _, hn, hm, _⟩)⟩ := h
  · simp only [Value.slice.injEq] at h
    exact ⟨by omega, by unfold maxLen; omega, fun _ => ⟨h0, h.2.2⟩⟩
  · simp only [Value.slice.injEq] at h
    exact ⟨by rw [h.2.2]; exact hn, by rw [h.2.2]; exact hm, fun e => by rw [h.1] at e; cases e⟩
theorem own_slice {w : World} {base e size n : Nat} {v : Value} {xs : List Value} (h : w.ownsRow base e size v n xs) : ∃ (a : Option Addr) (c : Nat), v = .slice a n c := by
  obtain ⟨_, (⟨rfl, rfl⟩ | ⟨g, cap, cur, rfl, _⟩)⟩ := h
  · exact ⟨_, _, rfl⟩
  · exact ⟨_, _, rfl⟩
theorem ownsRow_below {w w' : World} {base e size n : Nat} {v : Value} {xs : List Value} (h : w.ownsRow base e size v n xs) (hq : Below w.heap.size w w') : w'.ownsRow base e size v n xs := by
  obtain ⟨h1, (h2 | ⟨g, cap, cur, h3, h4, h5, h6⟩)⟩ := h
  · exact ⟨h1, .inl h2⟩
  · exact ⟨h1, .inr ⟨g, cap, cur, h3, h4, by rw [hq.block _ (Array.getElem?_eq_some_iff.1 h5).1]; exact h5, h6⟩⟩
theorem iV_cells {w : World} {b off : Nat} {xs : List Int} (h : ∀ (j : Nat) (x : Value), (iV xs)[j]? = some x → w.cell? ⟨b, off + j, none⟩ = some x) : ∀ j, j < xs.length → w.cell? ⟨b, off + j, none⟩ = some (.int .i64 (xs.getD j 0)) := by
  intro j hj
  exact h j _ (by simp [iV, List.getElem?_eq_getElem hj])
/-- slices.Equal of ints. -/
theorem equal_c (a1 : Option Addr) (c1 : Nat) (a2 : Option Addr) (c2 : Nat) (xs ys : List Int) (w : World) (h1 : SlAt w a1 (iV xs)) (h2 : SlAt w a2 (iV ys)) (l1 : xs.length ≤ maxLen) (l2 : ys.length ≤ maxLen) :
    Calls Try.prog 43 #[.slice a1 xs.length c1, .slice a2 ys.length c2] w fun e w' => e = .returned (.bool (decide (xs = ys))) ∧ Below w.heap.size w w' := by
  unfold maxLen at l1 l2
  by_cases hl : xs.length = ys.length
  · rcases h1 with h1 | ⟨b1, o1, rfl, _, h1⟩
    · have hx : xs = [] := by simpa [iV] using h1
      subst hx
      have hy : ys = [] := List.eq_nil_of_length_eq_zero (by simpa using hl.symm)
      subst hy
      refine (Try.slices_Equal_int_empty a1 a2 c1 0 c2 w (by omega)).mono ?_
      rintro e w' ⟨rfl, rfl⟩
      exact ⟨by simp, Below.refl _ _⟩
    · rcases h2 with h2 | ⟨b2, o2, rfl, _, h2⟩
      · have hy : ys = [] := by simpa [iV] using h2
        subst hy
        have hx : xs = [] := List.eq_nil_of_length_eq_zero (by simpa using hl)
        subst hx
        refine (Try.slices_Equal_int_empty _ a2 c1 0 c2 w (by omega)).mono ?_
        rintro e w' ⟨rfl, rfl⟩
        exact ⟨by simp, Below.refl _ _⟩
      · refine (Try.slices_Equal_int b1 o1 xs.length c1 b2 o2 ys.length c2 xs ys w (Nat.le_refl _) (Nat.le_refl _) l1 l2 (iV_cells h1) (iV_cells h2)).mono ?_
        rintro e w' ⟨rfl, q, rfl⟩
        refine ⟨?_, below_of_drewN _⟩
        rw [List.take_length, List.take_length]
        congr 2
        by_cases he : xs = ys
        · subst he; simp
        · rw [decide_eq_false he]; simpa using he
  · refine (Try.slices_Equal_int_lens a1 a2 _ c1 _ c2 w hl).mono ?_
    rintro e w' ⟨rfl, rfl⟩
    refine ⟨?_, Below.refl _ _⟩
    rw [decide_eq_false]; rintro rfl; exact hl rfl
set_option maxHeartbeats 1000000 in
set_option maxRecDepth 100000 in
theorem cmpPri_c (bx : Nat) (v0 v2 : Value) (a : Option Addr) (c : Nat) (a2 : Option Addr) (c2 : Nat) (qs : List Qu) (ts : List Th) (i j : Nat) (t u : Th) (w : World) (hs : ScIn w a c a2 c2 qs ts)
    (hb : w.cell? ⟨bx, 1, none⟩ = some (.slice a2 ts.length c2)) (hi : ts[i]? = some t) (hj : ts[j]? = some u) (ht : 0 ≤ t.pri ∧ t.pri ≤ 7) (hu : 0 ≤ u.pri ∧ u.pri ≤ 7) :
    Calls Try.prog 66 #[.int .i64 i, .int .i64 j, .pointer (some ⟨bx, 0, none⟩)] w fun e w' => e = .returned (.int .i64 (u.pri - t.pri)) ∧ ∃ n, w' = w.drewN n := by
  obtain ⟨b, off, rfl, hbb, c0, _, _⟩ := hs.th hi
  obtain ⟨b', off', hE, _, d0, _, _⟩ := hs.th hj
  cases hE
  have hil := (List.getElem?_eq_some_iff.1 hi).1
  have hjl := (List.getElem?_eq_some_iff.1 hj).1
  have hm := hs.v2.max
  unfold maxLen at hm
  clear hs hi hj
  generalize ts.length = m at *
  generalize t.pri = x at *
  generalize u.pri = y at *
  obtain ⟨hx1, hx2⟩ := ht
  obtain ⟨hy1, hy2⟩ := hu
  have i0 : (0 : Int) ≤ (i : Int) := Int.natCast_nonneg _
  have i1 : (i : Int) < (m : Int) := by omega
  have j0 : (0 : Int) ≤ (j : Int) := Int.natCast_nonneg _
  have j1 : (j : Int) < (m : Int) := by omega
  have hwr : IntKind.i64.wrap (y - x) = y - x := by exact IntWalk.i64_in _ (by omega)
  go_enter Try.func66, Try.ntmps66
  go_wp2
  go_quiet (fail)
  go_wp2
  go_ret
  exact ⟨by simp [hwr], _, rfl⟩

theorem getD_mem {xs : List Int} {k : Nat} (h : k < xs.length) : xs.getD k 0 ∈ xs := by
  rw [show xs.getD k 0 = xs[k] by simp [List.getD, List.getElem?_eq_getElem h]]; exact List.getElem_mem h
/-- Does the queue go down in priorities, from its end back to k? -/
def soB (ts : List Th) (xs : List Int) : Nat → Nat → Bool
  | _, 0 => true
  | k, f + 1 => decide ((thOf ts (xs.getD (k + 1) 0)).pri ≤ (thOf ts (xs.getD k 0)).pri) && soB ts xs (k + 1) f
/-- The same from the other end. -/
def soE (ts : List Th) (xs : List Int) : Nat → Bool
  | 0 => true
  | k + 1 => decide ((thOf ts (xs.getD (k + 1) 0)).pri ≤ (thOf ts (xs.getD k 0)).pri) && soE ts xs k
set_option maxHeartbeats 2000000 in
set_option maxRecDepth 100000 in
theorem isSorted_c (bx : Nat) (ar : Option Addr) (cr : Nat) (xs : List Int) (a : Option Addr) (c : Nat) (a2 : Option Addr) (c2 : Nat) (qs : List Qu) (ts : List Th) (w : World) (hs : ScIn w a c a2 c2 qs ts)
    (hb : w.cell? ⟨bx, 1, none⟩ = some (.slice a2 ts.length c2)) (hv : SlV ar xs.length cr) (hx : SlAt w ar (iV xs)) (hp : ∀ (k : Nat) (t : Th), ts[k]? = some t → 0 ≤ t.pri ∧ t.pri ≤ 7) (hr : ∀ r ∈ xs, 0 ≤ r ∧ r < ts.length) :
    Calls Try.prog 65 #[.slice ar xs.length cr, .func (.func 66) #[] #[.pointer (some ⟨bx, 0, none⟩)]] w fun e w' => e = .returned (.bool (soE ts xs (xs.length - 1))) ∧ Below w.heap.size w w' := by
  have hm := hv.max
  unfold maxLen at hm
  rcases Nat.eq_zero_or_pos xs.length with h0 | h0
  · have e0 : xs = [] := List.eq_nil_of_length_eq_zero h0
    subst e0
    clear hs hb hv hx hp hr h0 hm
    go_enter Try.func65, Try.ntmps65
    go_wp2
    go_loop [5] (fun i => i = .int .i64 (-1)) (fun _ => 0)
    case atStart => rfl
    case round =>
      subst hrel
      go_wp2
      go_ret
      exact ⟨rfl, Below.refl _ _⟩
  · rcases hx with hx | ⟨b, off, rfl, hbl, hc⟩
    · have hx0 : xs = [] := by simpa [iV] using hx
      rw [hx0] at h0; simp at h0
    obtain ⟨L, hL⟩ : ∃ L, xs.length = L + 1 := ⟨xs.length - 1, by omega⟩
    have HL := Lib.hid hL
    have HS := Lib.hid hs
    have HB := Lib.hid hb
    have HC := Lib.hid (iV_cells hc)
    have HP := Lib.hid hp
    have HR := Lib.hid hr
    have e1 : soE ts xs (xs.length - 1) = soE ts xs L := by rw [hL]; rfl
    rw [e1]
    have hLm : (L : Int) + 1 ≤ 9223372036854775807 := by omega
    have hlen : xs.length ≤ L + 1 := by omega
    have hlen2 : L + 1 ≤ xs.length := by omega
    clear hL hs hb hc hp hr e1 hv h0 hm
    have hLi : ((xs.length : Int)) - 1 = (L : Int) := by omega
    have HLi := Lib.hid hLi
    clear hLi
    generalize hX : xs.length = X at *
    have HX := Lib.hid hX
    clear hX
    go_enter Try.func65, Try.ntmps65
    go_wp2
    go_loopw [5] (fun i wr => ∃ (k : Nat) (wv : World), wv = wr ∧ k ≤ L ∧ i = .int .i64 k ∧ Below w.heap.size w wv ∧ Hid (soE ts xs L = soE ts xs k)) (fun i _ => (intOf i).toNat)
    case atStart => exact ⟨L, _, rfl, Nat.le_refl _, by rw [HLi.out], Below.refl _ _, Lib.hid rfl⟩
    case round =>
      obtain ⟨k, wv, hw, hk, rfl, hK, hall⟩ := hrel
      subst hw
      cases k with
      | zero =>
        go_wp2
        go_ret
        exact ⟨by rw [hall.out]; rfl, hK⟩
      | succ k =>
        have hxl : xs.length = X := HX.out
        have g1 := HR.out _ (getD_mem (xs := xs) (k := k) (by omega))
        have g2 := HR.out _ (getD_mem (xs := xs) (k := k + 1) (by omega))
        have ci := (hK.cell (p := ⟨b, off + (k + 1), none⟩) hbl).trans (HC.out (k + 1) (by omega))
        have cj := (hK.cell (p := ⟨b, off + k, none⟩) hbl).trans (HC.out k (by omega))
        obtain ⟨i, hi⟩ : ∃ i : Nat, xs.getD (k + 1) 0 = (i : Int) := ⟨(xs.getD (k + 1) 0).toNat, by omega⟩
        obtain ⟨j, hj⟩ : ∃ j : Nat, xs.getD k 0 = (j : Int) := ⟨(xs.getD k 0).toNat, by omega⟩
        have hti := th_some (ts := ts) (c := i) (by omega)
        have htj := th_some (ts := ts) (c := j) (by omega)
        have hpi := HP.out _ _ hti
        have hpj := HP.out _ _ htj
        rw [hi] at ci
        rw [hj] at cj
        have hbW := (hK.cell (World.block_lt_of_cell? _ _ HB.out)).trans HB.out
        have hC := fun n => cmpPri_c bx .nilFunc .nilFunc a c a2 c2 qs ts i j _ _ (wv.drewN n) ((HS.out.below hK).below (below_of_drewN n)) (by simpa using hbW) hti htj hpi hpj
        have hso : soE ts xs (k + 1) = (decide ((thOf ts (i : Int)).pri ≤ (thOf ts (j : Int)).pri) && soE ts xs k) := by
          rw [soE, hi, hj]
        have HSO := Lib.hid (hall.out.trans hso)
        have hz : wv.heap.size ≥ w.heap.size := hK.size
        clear hi hj hti htj hbW hall hso hxl g1 g2
        generalize (thOf ts (i : Int)).pri = x at *
        generalize (thOf ts (j : Int)).pri = y at *
        have k1 : (k : Int) + 1 < (X : Int) := by omega
        have k0 : (0 : Int) ≤ (k : Int) := Int.natCast_nonneg _
        have hw1 : IntKind.i64.wrap ((k : Int) + 1 - 1) = (k : Int) := by rw [IntWalk.i64_in _ (by omega)]; omega
        have HC2 := Lib.hid hC
        clear hC
        have k2 : (0 : Int) ≤ (k : Int) + 1 := by omega
        have k4 : (k : Int) < (X : Int) := by omega
        have k5 : k + 1 ≤ L := hk
        have k6 : k ≤ L := by omega
        have k3 : ((k : Int) + 1).toNat = k + 1 := by omega
        clear hlen hlen2 hpi hpj hz
        by_cases hxy : x ≤ y
        · have hd : decide (y - x < 0) = false := by simpa using (by omega : 0 ≤ y - x)
          have HF := Lib.hid (show soE ts xs L = soE ts xs k by rw [HSO.out, decide_eq_true hxy, Bool.true_and])
          clear hxy
          go_wp2_with fail
          go_quiet ((go_at_call 66; exact Calls.quiet_of (HC2.out _)))
          clear k3 hw1
          go_wp2
          go_roundw
          case rel => exact ⟨k, _, rfl, k6, by first | rfl | go_num, hK.trans ((below_of_drewN _).mono hK.size), HF⟩
          case measure => simp [intOf]
        · have hd : decide (y - x < 0) = true := by simpa using (by omega : y - x < 0)
          have HF := Lib.hid (show soE ts xs L = false by rw [HSO.out, decide_eq_false hxy, Bool.false_and])
          clear hxy
          go_wp2_with fail
          go_quiet ((go_at_call 66; exact Calls.quiet_of (HC2.out _)))
          clear k3 hw1
          go_wp2
          go_ret
          exact ⟨by simp [HF.out], hK.trans ((below_of_drewN _).mono hK.size)⟩
/-- The threads that are ready on a processor, among the first k. -/
def rdyI (ts : List Th) (cpu : Int) : Nat → List Int
  | 0 => []
  | k + 1 => rdyI ts cpu k ++ if stB (thOf ts (k : Int)) cpu 1 then [(k : Int)] else []
theorem rdyI_len (ts : List Th) (cpu : Int) : ∀ k, (rdyI ts cpu k).length ≤ k
  | 0 => Nat.le_refl _
  | k + 1 => by have := rdyI_len ts cpu k; simp only [rdyI, List.length_append]; split <;> simp <;> omega
theorem rdyI_mem (ts : List Th) (cpu : Int) : ∀ k r, r ∈ rdyI ts cpu k → ∃ j : Nat, r = j ∧ j < k ∧ stB (thOf ts (j : Int)) cpu 1 = true
  | 0, r, h => by simp [rdyI] at h
  | k + 1, r, h => by
    simp only [rdyI, List.mem_append] at h
    rcases h with h | h
    · obtain ⟨j, h1, h2, h3⟩ := rdyI_mem ts cpu k r h; exact ⟨j, h1, by omega, h3⟩
    · split at h
      · rename_i hs; simp at h; exact ⟨k, h, by omega, hs⟩
      · simp at h
theorem sortL_len (xs : List Int) : (sortL xs).length = xs.length := by simp [sortL]
theorem sortL_mem (xs : List Int) (r : Int) : r ∈ sortL xs ↔ r ∈ xs := by simp [sortL]
/-- Has Ready the threads that are ready, by decreasing priority? -/
def rdyB (ts : List Th) (x : Qu) (cpu : Int) : Bool := decide (sortL x.ready = rdyI ts cpu ts.length) && soE ts x.ready (x.ready.length - 1)

set_option maxHeartbeats 4000000 in
set_option maxRecDepth 100000 in
theorem readyFits_c (a : Option Addr) (c : Nat) (a2 : Option Addr) (c2 : Nat) (qs : List Qu) (ts : List Th) (q : Int) (n : Nat) (x : Qu) (w : World) (hs : ScIn w a c a2 c2 qs ts) (hk : qs[n]? = some x) (hm : ts.length ≤ 16)
    (hp : ∀ (k : Nat) (t : Th), ts[k]? = some t → 0 ≤ t.pri ∧ t.pri ≤ 7) :
    Calls Try.prog 36 #[.agg #[.slice a qs.length c, .slice a2 ts.length c2, .int .i64 q], .int .i64 n] w fun e w' => e = .returned (.bool (rdyB ts x n)) ∧ Below w.heap.size w w' := by
  have hm1 := hs.v1.max
  unfold maxLen at hm1
  obtain ⟨b, off, rfl, hb, c0, c1, ar, cr, c2x, hv, hsl⟩ := hs.qu hk
  have hkl : n < qs.length := (List.getElem?_eq_some_iff.1 hk).1
  have n0 : (0 : Int) ≤ (n : Int) := Int.natCast_nonneg _
  have n1 : (n : Int) < (qs.length : Int) := by omega
  have hrc := hs.rc n x hk
  have HS := Lib.hid hs
  have HP := Lib.hid hp
  have HV := Lib.hid hv
  have HSL := Lib.hid hsl
  have HK := (Kw.start w).box (vs := [.slice (some ⟨b, off, none⟩) qs.length c, .slice a2 ts.length c2, .int .i64 q]) (t := 25)
  have HC2 := Lib.hid c2x
  clear hs hp hv hsl hk c0 c1 c2x
  go_enter Try.func36, Try.ntmps36
  go_wp2_with fail
  go_loopw [5, 11] (fun v i wr => ∃ (k : Nat) (wv : World), wv = wr ∧ k ≤ ts.length ∧ i = .int .i64 k ∧ wv.ownsRow (w.heap.size + 1) 3 1 v (rdyI ts n k).length (iV (rdyI ts n k)) ∧ Kw [(w.heap.size, [.slice (some ⟨b, off, none⟩) qs.length c, .slice a2 ts.length c2, .int .i64 q], 25)] w wv) (fun _ i _ => ts.length - (intOf i).toNat)
  case atStart => exact ⟨0, _, rfl, Nat.zero_le _, rfl, by simpa [iV, rdyI] using World.ownsRow_nil _ _ _ _, HK⟩
  case round =>
    clear HK
    obtain ⟨k, wv, hw, hk, rfl, ho, HK⟩ := hrel
    subst hw
    have HO := Lib.hid ho
    clear ho
    have p_0 := HK.get 0 0 rfl rfl
    have p_1 := HK.get 0 1 rfl rfl
    have p_2 := HK.get 0 2 rfl rfl
    have hsz := HK.size
    have hps := HK.lt 0 rfl
    by_cases hlt : k < ts.length
    · have hkt := th_some hlt
      have hC := stands_c (some ⟨b, off, none⟩) c a2 c2 qs ts q k _ n 1 wv (HS.out.below HK.base) hkt
      have hrl := rdyI_len ts n k
      have hY : rdyI ts n (k + 1) = rdyI ts n k ++ (if stB (thOf ts (k : Int)) n 1 then [(k : Int)] else []) := rfl
      have HY := Lib.hid hY
      clear hY hkt
      generalize stB (thOf ts (k : Int)) n 1 = bb at hC HY
      have HC := Lib.hid hC
      clear hC
      go_wp2_with fail
      refine HC.out.mono ?_
      rintro e w6 ⟨rfl, hq⟩
      replace HK := HK.below hq
      have HO2 := Lib.hid (ownsRow_below HO.out hq)
      clear hq p_0 p_1 p_2 hsz hps HO
      have hsz := HK.size
      have hps := HK.lt 0 rfl
      cases bb with
      | true =>
        have HY2 := Lib.hid (show rdyI ts n (k + 1) = rdyI ts n k ++ [(k : Int)] from HY.out)
        clear HY HC
        go_wp2_with (at_builtin; refine wpList_app1 rfl (.tmp 18) (.tmp 20) rfl (w.heap.size + 1) _ (rdyI ts n k).length (rdyI ts n k) rfl (HO2.out.alloc _) w6.heap.size (k : Int) rfl (by simp [go_sem]) (by omega) (HK.alloc) (by omega) (by simp; omega) (by intro f hf; simp at hf; subst hf; simp) ?_; intro v' w7 ho7 HK7)
        go_roundw
        case rel => exact ⟨k + 1, _, rfl, by omega, by go_num, by rw [HY2.out, List.length_append]; exact ho7, HK7⟩
        case measure => simp [intOf]; omega
      | false =>
        have HY2 := Lib.hid (show rdyI ts n (k + 1) = rdyI ts n k by rw [HY.out]; simp)
        clear HY HC
        go_wp2
        go_roundw
        case rel => exact ⟨k + 1, _, rfl, by omega, by go_num, by rw [HY2.out]; exact HO2.out, HK⟩
        case measure => simp [intOf]; omega
    · obtain rfl : k = ts.length := by omega
      obtain ⟨ao, co, rfl⟩ := own_slice HO.out
      have hcx := (HK.base.cell (World.block_lt_of_cell? _ _ HC2.out)).trans HC2.out
      clear hlt hk
      go_wp2_with fail
      refine (values_c ar x.ready.length cr wv).mono ?_
      rintro e w6 ⟨rfl, hw6⟩
      have hbv : Below wv.heap.size wv w6 := by rw [hw6]; exact b_alloc (Below.refl _ _)
      have hbx : w6.cell? ⟨wv.heap.size, 0, none⟩ = some (.slice ar x.ready.length cr) := by rw [hw6]; simp [go_sem]
      have HK6 := HK.below hbv
      have hV6 : ValIn wv.heap.size ar cr x.ready w6 := ⟨hbx, HSL.out.below HK6.base⟩
      have HO6 := Lib.hid (ownsRow_below HO.out hbv)
      have HV6 := Lib.hid hV6
      clear hw6 hbv hbx hV6 HK HO p_0 p_1 p_2 hsz hps hcx
      go_wp2_with fail
      refine (sorted_c wv.heap.size ar cr x.ready w6 hrc HV6.out).mono ?_
      rintro e w7 ⟨v7, rfl, ho7, hb7⟩
      have HK7 := HK6.below hb7
      have hO7 := ownsRow_below HO6.out hb7
      obtain ⟨a7, c7, rfl⟩ := own_slice ho7
      have hE := equal_c a7 c7 ao co (sortL x.ready) (rdyI ts n ts.length) w7 (SlAt.own1 ho7) (SlAt.own1 hO7) (by rw [sortL_len]; exact HV.out.max) (by have := rdyI_len ts n ts.length; unfold maxLen; omega)
      rw [sortL_len] at hE
      have HE := Lib.hid hE
      clear hE ho7 hb7 hO7 HK6
      go_wp2_with fail
      refine HE.out.mono ?_
      rintro e w8 ⟨rfl, hb8⟩
      have HK8 := HK7.below hb8
      clear hb8 HK7 HE
      by_cases hd : sortL x.ready = rdyI ts n ts.length
      · have hall : ∀ r ∈ x.ready, 0 ≤ r ∧ r < ts.length := by
          intro r hr
          obtain ⟨j, h1, h2, _⟩ := rdyI_mem ts n ts.length r (by rw [← hd]; exact (sortL_mem _ _).2 hr)
          omega
        have HD := Lib.hid hd
        have hd' := decide_eq_true hd
        clear hd
        rw [hd']
        have hI := isSorted_c w.heap.size ar cr x.ready (some ⟨b, off, none⟩) c a2 c2 qs ts w8 (HS.out.below HK8.base) (HK8.get 0 1 rfl rfl) HV.out (HSL.out.below HK8.base) HP.out hall
        have HF := Lib.hid (show rdyB ts x n = soE ts x.ready (x.ready.length - 1) by rw [rdyB, hd', Bool.true_and])
        have HI := Lib.hid hI
        have hmf : ∀ (fn : Fn) (first cap : Array Value) (w : World), (Instr.makeFunc fn first cap).run Try.prog w = .ok (.func fn first cap) w := fun _ _ _ _ => rfl
        clear hI hd' hall
        go_wp2_with fail
        refine HI.out.mono ?_
        rintro e w9 ⟨rfl, hb9⟩
        have hK := (HK8.below hb9).base
        clear hb9 HK8 HI
        go_wp2
        go_ret
        exact ⟨by simp [HF.out], hK⟩
      · have hd' := decide_eq_false hd
        rw [hd']
        have HF := Lib.hid (show rdyB ts x n = false by rw [rdyB, hd', Bool.false_and])
        have hK := HK8.base
        clear HK8 hd hd'
        go_wp2
        go_ret
        exact ⟨by simp [HF.out], hK⟩
end Go.Proofs.Ytggikbcgijmhbaa
