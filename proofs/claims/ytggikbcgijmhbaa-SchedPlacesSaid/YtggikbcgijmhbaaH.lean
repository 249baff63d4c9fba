/- WHAT IS PROVED: Check returns OK just for the valid states. CONDITIONS: none. -/
import Derived.Test.YtggikbcgijmhbaaG
set_option linter.unusedSimpArgs false
set_option linter.unusedVariables false
namespace Go.Proofs.Ytggikbcgijmhbaa
open Go Go.RowKit Go.QrBits Go.QrMem
theorem rdyI_iff (ts : List Th) (cpu : Int) : ∀ k r, r ∈ rdyI ts cpu k ↔ ∃ j : Nat, r = j ∧ j < k ∧ stB (thOf ts (j : Int)) cpu 1 = true
  | 0, r => by simp [rdyI]
  | k + 1, r => by
    rw [show rdyI ts cpu (k + 1) = rdyI ts cpu k ++ (if stB (thOf ts (k : Int)) cpu 1 then [(k : Int)] else []) from rfl, List.mem_append, rdyI_iff ts cpu k r]
    constructor
    · rintro (⟨j, h1, h2, h3⟩ | h)
      · exact ⟨j, h1, by omega, h3⟩
      · split at h
        · rename_i hs; simp at h; exact ⟨k, h, by omega, hs⟩
        · simp at h
    · rintro ⟨j, h1, h2, h3⟩
      by_cases hjk : j = k
      · right; subst hjk; rw [if_pos h3]; simp [h1]
      · left; exact ⟨j, h1, by omega, h3⟩
theorem rdyI_lt (ts : List Th) (cpu : Int) : ∀ k, (rdyI ts cpu k).Pairwise (· < ·)
  | 0 => List.Pairwise.nil
  | k + 1 => by
    rw [show rdyI ts cpu (k + 1) = rdyI ts cpu k ++ (if stB (thOf ts (k : Int)) cpu 1 then [(k : Int)] else []) from rfl, List.pairwise_append]
    refine ⟨rdyI_lt ts cpu k, by split <;> simp, ?_⟩
    intro a ha b hb
    obtain ⟨j, h1, h2, _⟩ := (rdyI_iff ts cpu k a).1 ha
    split at hb
    · simp at hb; omega
    · simp at hb
theorem sortL_perm (xs : List Int) : (sortL xs).Perm xs := List.mergeSort_perm _ _
theorem sortL_le (xs : List Int) : (sortL xs).Pairwise (· ≤ ·) := by
  have := List.pairwise_mergeSort (le := fun x y : Int => decide (x ≤ y)) (by intro a b c; simp; omega) (by intro a b; simp; omega) xs
  exact this.imp (by intro a b h; simpa using h)
theorem sort_iff (xs : List Int) (ts : List Th) (cpu : Int) (m : Nat) : sortL xs = rdyI ts cpu m ↔ xs.Nodup ∧ ∀ r, r ∈ xs ↔ r ∈ rdyI ts cpu m := by
  have hl := rdyI_lt ts cpu m
  have hn : (rdyI ts cpu m).Nodup := hl.imp (by intro a b h; exact Int.ne_of_lt h)
  constructor
  · intro h
    refine ⟨(sortL_perm xs).nodup_iff.1 (by rw [h]; exact hn), fun r => ?_⟩
    rw [← h, sortL_mem]
  · rintro ⟨h1, h2⟩
    refine List.Perm.eq_of_pairwise (le := (· ≤ ·)) (by intro a b _ _ h3 h4; omega) (sortL_le xs) (hl.imp (by intro a b h; omega)) ?_
    exact (sortL_perm xs).trans ((List.perm_ext_iff_of_nodup h1 hn).2 h2)
theorem soE_iff (ts : List Th) (xs : List Int) : ∀ k, soE ts xs k = true ↔ ∀ j, j < k → (thOf ts (xs.getD (j + 1) 0)).pri ≤ (thOf ts (xs.getD j 0)).pri
  | 0 => by simp [soE]
  | k + 1 => by
    rw [soE, Bool.and_eq_true, soE_iff ts xs k, decide_eq_true_eq]
    constructor
    · rintro ⟨h1, h2⟩ j hj
      by_cases e : j = k
      · subst e; exact h1
      · exact h2 j (by omega)
    · intro h; exact ⟨h k (by omega), fun j hj => h j (by omega)⟩
theorem getD_get {xs : List Int} {k : Nat} (h : k < xs.length) : xs.getD k 0 = xs[k] := by simp [List.getD, List.getElem?_eq_getElem h]
theorem soE_pair (ts : List Th) (xs : List Int) : soE ts xs (xs.length - 1) = true ↔ xs.Pairwise (fun a b => (thOf ts b).pri ≤ (thOf ts a).pri) := by
  rw [soE_iff, List.pairwise_iff_getElem]
  constructor
  · intro h
    have key : ∀ (d i : Nat) (hj : i + d + 1 < xs.length), (thOf ts xs[i + d + 1]).pri ≤ (thOf ts (xs[i]'(by omega))).pri := by
      intro d
      induction d with
      | zero =>
        intro i hj
        have := h i (by omega)
        rwa [getD_get (by omega), getD_get (by omega)] at this
      | succ d ih =>
        intro i hj
        have h1 := ih i (by omega)
        have h2 := h (i + d + 1) (by omega)
        rw [getD_get (by omega), getD_get (by omega)] at h2
        have h3 : (thOf ts xs[i + (d + 1) + 1]).pri ≤ (thOf ts xs[i + d + 1]).pri := h2
        omega
    intro i j hi hj hij
    have := key (j - i - 1) i (by omega)
    have e : i + (j - i - 1) + 1 = j := by omega
    simp only [e] at this
    exact this
  · intro h j hj
    rw [getD_get (by omega), getD_get (by omega)]
    exact h j (j + 1) (by omega) (by omega) (by omega)
theorem runOf_eq (qs : List Qu) (t : Th) : runOf qs t = (quOf qs t.cpu).run := by
  unfold runOf quOf
  cases qs[t.cpu.toNat]? <;> rfl
theorem ok_of_chk {qs : List Qu} {ts : List Th} {q : Int} (h : chkB qs ts q = true) : Ok ⟨qs, ts, q⟩ := by
  simp only [chkB, Bool.and_eq_true] at h
  obtain ⟨⟨h1, h2⟩, h3⟩ := h
  simp only [bdB, Bool.and_eq_true, decide_eq_true_eq] at h1
  have n1 := inB_out h1.1.1
  have q1 := inB_out h1.2
  have m1 := h1.1.2
  rw [fitB, List.all_eq_true] at h2
  rw [cpusB, List.all_eq_true] at h3
  have th : ∀ (k : Nat) (t : Th), ts[k]? = some t → tF qs k t = true := by
    intro k t hk
    have := h2 k (by simpa using (List.getElem?_eq_some_iff.1 hk).1)
    rwa [hk] at this
  have cu : ∀ (c : Nat) (u : Qu), qs[c]? = some u → rfB ts u c q = true ∧ rdyB ts u c = true := by
    intro c u hu
    have := h3 c (by simpa using (List.getElem?_eq_some_iff.1 hu).1)
    rw [cpuB, quOf_of hu, Bool.and_eq_true] at this
    exact this
  have rdy : ∀ (c : Nat) (u : Qu), qs[c]? = some u → u.ready.Nodup ∧ (∀ r, r ∈ u.ready ↔ r ∈ rdyI ts c ts.length) ∧ u.ready.Pairwise (fun a b => (thOf ts b).pri ≤ (thOf ts a).pri) := by
    intro c u hu
    have h4 := (cu c u hu).2
    rw [rdyB, Bool.and_eq_true, decide_eq_true_eq, sort_iff, soE_pair] at h4
    exact ⟨h4.1.1, h4.1.2, h4.2⟩
  refine ⟨by show 1 ≤ qs.length; omega, by show qs.length ≤ 4; omega, m1, q1.1, q1.2, ?_, ?_, ?_, ?_, fun c u hu => (rdy c u hu).1, ?_, ?_, fun c u hu => (rdy c u hu).2.2⟩
  · intro k t hk
    have := th k t hk
    simp only [tF, Bool.and_eq_true] at this
    have a1 := inB_out this.1.1.1
    have a2 := inB_out this.1.1.2
    have a3 := inB_out this.1.2
    show _ ∧ _ ∧ _ ∧ t.cpu < (qs.length : Int) ∧ _
    omega
  · intro k t hk hst _
    have := th k t hk
    simp only [tF, Bool.and_eq_true, hst, runOf_eq] at this
    have := this.2
    simpa using this
  · intro c u hu hr
    have := (cu c u hu).1
    rw [rfB, if_pos hr] at this
    simpa using this
  · intro c u hu hr
    have := (cu c u hu).1
    rw [rfB, if_neg hr] at this
    simp only [Bool.and_eq_true] at this
    have a1 := inB_out this.1.1
    have a2 := inB_out this.2
    have a3 := this.1.2
    cases ht : ts[u.run.toNat]? with
    | none => rw [ht] at a3; exact absurd a3 (by simp)
    | some t =>
      rw [ht] at a3
      simp only [stB, Bool.and_eq_true, beq_iff_eq] at a3
      exact ⟨u.run.toNat, by omega, by simp, a2.1, a2.2, t, ht, a3.1, a3.2⟩
  · intro c u hu r hr
    obtain ⟨j, g1, g2, g3⟩ := (rdyI_iff ts c ts.length r).1 (((rdy c u hu).2.1 r).1 hr)
    simp only [stB, Bool.and_eq_true, beq_iff_eq] at g3
    exact ⟨j, g1, by simp, _, th_some g2, g3.1, g3.2⟩
  · intro k t hk hst _
    have := th k t hk
    simp only [tF, Bool.and_eq_true] at this
    have a2 := inB_out this.1.1.2
    have hkl := (List.getElem?_eq_some_iff.1 hk).1
    obtain ⟨c, hc⟩ : ∃ c : Nat, t.cpu = c := ⟨t.cpu.toNat, by omega⟩
    have hcl : c < qs.length := by omega
    show (k : Int) ∈ (quOf qs t.cpu).ready
    rw [hc]
    refine ((rdy c _ (qu_some hcl)).2.1 k).2 ((rdyI_iff ts c ts.length k).2 ⟨k, rfl, hkl, ?_⟩)
    rw [thOf_of hk]; simp [stB, hc, hst]
theorem chk_of_ok {qs : List Qu} {ts : List Th} {q : Int} (h : Ok ⟨qs, ts, q⟩) : chkB qs ts q = true := by
  have n1 : 1 ≤ qs.length := h.n1
  have n2 : qs.length ≤ 4 := h.n2
  have m2 : ts.length ≤ 16 := h.m2
  have q1 : 1 ≤ q := h.q1
  have q2 : q ≤ 20 := h.q2
  simp only [chkB, Bool.and_eq_true]
  refine ⟨⟨?_, ?_⟩, ?_⟩
  · simp only [bdB, Bool.and_eq_true, decide_eq_true_eq]
    exact ⟨⟨inB_in (by omega), m2⟩, inB_in (by omega)⟩
  · refine fit_yes ?_
    intro k t hk
    obtain ⟨a1, a2, a3, a4, a5, a6⟩ := h.th k t hk
    have a4 : t.cpu < (qs.length : Int) := a4
    simp only [tF, Bool.and_eq_true]
    refine ⟨⟨⟨inB_in (by omega), inB_in (by omega)⟩, inB_in (by omega)⟩, ?_⟩
    by_cases hst : t.st = 2
    · have := h.rn k t hk hst (by simp)
      rw [runOf_eq]; simp [this]
    · simp [hst]
  · refine cpusB_yes ?_
    intro k hk
    have hu := qu_some hk
    simp only [cpuB, Bool.and_eq_true]
    generalize quOf qs (k : Int) = u at hu
    refine ⟨?_, ?_⟩
    · rw [rfB]
      split
      · rename_i hr; simpa using h.qi k u hu hr
      · rename_i hr
        obtain ⟨j, g1, _, g2, g3, t, g4, g5, g6⟩ := h.qr k u hu hr
        have g4 : ts[j]? = some t := g4
        have hj := (List.getElem?_eq_some_iff.1 g4).1
        have e : u.run.toNat = j := by omega
        rw [e, g4]
        simp only [Bool.and_eq_true]
        exact ⟨⟨inB_in (by omega), by simp [stB, g5, g6]⟩, inB_in ⟨g2, g3⟩⟩
    · rw [rdyB, Bool.and_eq_true, decide_eq_true_eq, sort_iff, soE_pair]
      refine ⟨⟨h.nd k u hu, fun r => ?_⟩, h.so k u hu⟩
      rw [rdyI_iff]
      constructor
      · intro hr
        obtain ⟨j, g1, _, t, g2, g3, g4⟩ := h.rd k u hu r hr
        have g2 : ts[j]? = some t := g2
        exact ⟨j, g1, (List.getElem?_eq_some_iff.1 g2).1, by rw [thOf_of g2]; simp [stB, g3, g4]⟩
      · rintro ⟨j, rfl, g2, g3⟩
        simp only [stB, Bool.and_eq_true, beq_iff_eq] at g3
        have := h.dr j _ (th_some g2) g3.2 (by simp)
        rw [g3.1] at this
        have e : quOf qs (k : Int) = u := quOf_of hu
        have this : (j : Int) ∈ (quOf qs (k : Int)).ready := this
        rwa [e] at this
end Go.Proofs.Ytggikbcgijmhbaa
