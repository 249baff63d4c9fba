/- WHAT IS PROVED: what a switch leaves, in lists. CONDITIONS: none; no program stands here. -/
import Derived.Test.YtggikbcgijmhbaaSp
namespace Go.Proofs.Ytggikbcgijmhbaa
/-- A thread that is put to run: its processor, and the threads. -/
theorem toRunM_qu {s : St} {k c : Nat} (hk : k < s.ts.length) (hc : (thOf s.ts (k : Int)).cpu = c) (hcl : c < s.qs.length) (d : Nat) :
    quOf (toRunM s k).qs d = if c = d then ⟨k, s.q, (quOf s.qs c).ready.erase (k : Int)⟩ else quOf s.qs d := by
  have e := leaveM_th (st := 2) hk (k : Int)
  simp only [Int.toNat_natCast, if_true] at e
  simp only [toRunM, e, hc, Int.toNat_natCast]
  rw [quOf_set _ _ _ _ (by rw [leaveM_n]; exact hcl), leaveM_run hc]
  split
  · rw [quOf_set _ _ _ _ hcl, if_pos rfl]; rfl
  · rename_i h; rw [quOf_set _ _ _ _ hcl, if_neg h]
theorem toRunM_th {s : St} {k : Nat} (hk : k < s.ts.length) (r : Int) : thOf (toRunM s k).ts r = if k = r.toNat then { (thOf s.ts (k : Int)) with st := 2 } else thOf s.ts r := leaveM_th hk r
theorem toRunM_pri {s : St} {k : Nat} (hk : k < s.ts.length) (r : Int) : (thOf (toRunM s k).ts r).pri = (thOf s.ts r).pri := by
  rw [toRunM_th hk]; split
  · rename_i h; simp only [thOf, Int.toNat_natCast, h]
  · rfl
/-- What a dispatch leaves. -/
theorem disp_out {s : St} {c : Nat} (h : Ok s) (hc : c < s.qs.length) (hne : (quOf s.qs (c : Int)).ready ≠ []) :
    ∃ (s1 : St) (k : Nat) (l : List Int), Ok s1 ∧ (quOf s1.qs c).ready = (k : Int) :: l ∧ k < s1.ts.length ∧ dispM s c = toRunM s1 k ∧ quOf (dispM s c).qs c = ⟨k, s.q, l⟩ ∧ (∀ r, (thOf (dispM s c).ts r).pri = (thOf s1.ts r).pri) ∧
      s1 = (if (quOf s.qs c).run = -1 then s else if (quOf s.qs c).left = 0 then toEndM s (quOf s.qs c).run.toNat else toFrontM s (quOf s.qs c).run.toNat) := by
  obtain ⟨s1, e, h1, h2, h3, h4, h5, h6, h7⟩ := disp_mid h hc hne
  obtain ⟨k, l, g1, g2, g3, _⟩ := h1.head (by omega) h6
  rw [g1] at e; simp only [List.headD_cons, Int.toNat_natCast] at e
  refine ⟨s1, k, l, h1, g1, g2, e, ?_, ?_, h7⟩
  · rw [e, toRunM_qu g2 g3 (by omega), if_pos rfl, g1, h4]; simp
  · intro r; rw [e, toRunM_pri g2]
/-- Behind a switch: none is due, none is ready of a greater priority, and idle only where none is ready. -/
theorem high_ok {s : St} {c : Nat} (h : Ok s) (hc : c < s.qs.length) : dueM (switchM s c) c = false ∧ ((quOf (switchM s c).qs c).run = -1 → (quOf (switchM s c).qs c).ready = []) ∧
    ∀ r ∈ (quOf (switchM s c).qs c).ready, (thOf (switchM s c).ts r).pri ≤ (thOf (switchM s c).ts (quOf (switchM s c).qs c).run).pri := by
  have hq := h.q1
  have hso := h.so _ _ (qu_some hc)
  unfold switchM
  split
  · rename_i hd
    obtain ⟨s1, k, l, h1, h2, h3, h4, h5, h6, h7⟩ := disp_out h hc (due_ne hd)
    have hcl : c < s1.qs.length := by
      rcases Nat.lt_or_ge c s1.qs.length with h | h
      · exact h
      · simp [quOf, List.getElem?_eq_none h] at h2
    have hs1 := h1.so _ _ (qu_some hcl)
    rw [h2, List.pairwise_cons] at hs1
    have key : ∀ r ∈ l, (thOf (dispM s c).ts r).pri ≤ (thOf (dispM s c).ts k).pri := fun r hr => by rw [h6, h6]; exact hs1.1 r hr
    refine ⟨?_, ?_, ?_⟩
    · simp only [dueM, h5]
      cases l with
      | nil => rfl
      | cons r l => 
        have := key r (by simp)
        show (if (k : Int) = -1 then true else _) = false
        rw [if_neg (by omega)]
        simp only [Bool.or_eq_false_iff, decide_eq_false_iff_not, Bool.and_eq_false_imp, beq_iff_eq]
        exact ⟨by omega, fun e => by omega⟩
    · intro e; rw [h5] at e; simp only [] at e; omega
    · rw [h5]; exact key
  · rename_i hd
    have hd : dueM s c = false := by simpa using hd
    have base : ((quOf s.qs c).run = -1 → (quOf s.qs c).ready = []) ∧ ∀ r ∈ (quOf s.qs c).ready, (thOf s.ts r).pri ≤ (thOf s.ts (quOf s.qs c).run).pri := by
      simp only [dueM] at hd
      cases hr : (quOf s.qs c).ready with
      | nil => simp
      | cons r l =>
        rw [hr] at hd hso
        simp only [] at hd
        split at hd
        · simp at hd
        · rename_i hrun
          refine ⟨fun e => absurd e hrun, ?_⟩
          simp only [Bool.or_eq_false_iff, decide_eq_false_iff_not] at hd
          rw [List.pairwise_cons] at hso
          intro r' hr'
          rcases List.mem_cons.1 hr' with rfl | hr'
          · omega
          · have := hso.1 r' hr'; omega
    split
    · rename_i hz
      have e : quOf (setLeft s c s.q).qs c = { (quOf s.qs c) with left := s.q } := by
        simp only [setLeft]; rw [quOf_set _ _ _ _ hc, if_pos rfl]
      have et : (setLeft s c s.q).ts = s.ts := rfl
      rw [e, et]
      refine ⟨?_, base.1, base.2⟩
      simp only [dueM, e, et]
      cases hr : (quOf s.qs c).ready with
      | nil => rfl
      | cons r l =>
        have := base.2 r (by rw [hr]; simp)
        show (if (quOf s.qs ↑c).run = -1 then true else _) = false
        rw [if_neg hz.1]
        simp only [Bool.or_eq_false_iff, decide_eq_false_iff_not, Bool.and_eq_false_imp, beq_iff_eq]
        exact ⟨by omega, fun e => by omega⟩
    · exact ⟨hd, base.1, base.2⟩
theorem leaveM_pri {s : St} {k : Nat} {st : Int} (hk : k < s.ts.length) (r : Int) : (thOf (leaveM s k st).ts r).pri = (thOf s.ts r).pri := by
  rw [leaveM_th hk]; split
  · rename_i h; simp only [thOf, Int.toNat_natCast, h]
  · rfl
theorem enterM_pri {s : St} {k : Nat} (p) (hk : k < s.ts.length) (r : Int) : (thOf (enterM s k p).ts r).pri = (thOf s.ts r).pri := leaveM_pri hk r
theorem run_thr {s : St} {c : Nat} (h : Ok s) (hc : c < s.qs.length) (hr : (quOf s.qs (c : Int)).run ≠ -1) : ∃ k : Nat, (quOf s.qs (c : Int)).run = k ∧ k < s.ts.length ∧ (thOf s.ts (k : Int)).cpu = c ∧ (thOf s.ts (k : Int)).st = 2 ∧ 0 ≤ (quOf s.qs (c : Int)).left ∧ (quOf s.qs (c : Int)).left ≤ s.q := by
  obtain ⟨k, h1, _, h5, h6, t, h2, h3, h4⟩ := h.qr _ _ (qu_some hc) hr
  exact ⟨k, h1, (List.getElem?_eq_some_iff.1 h2).1, by rw [thOf_of h2]; exact h3, by rw [thOf_of h2]; exact h4, h5, h6⟩
/-- A switch leaves all priorities. -/
theorem switch_pri {s : St} {c : Nat} (h : Ok s) (hc : c < s.qs.length) (r : Int) : (thOf (switchM s c).ts r).pri = (thOf s.ts r).pri := by
  unfold switchM
  split
  · rename_i hd
    obtain ⟨s1, k, l, h1, h2, h3, h4, h5, h6, h7⟩ := disp_out h hc (due_ne hd)
    rw [h6, h7]
    split
    · rfl
    · rename_i hr
      obtain ⟨j, e, hj, _⟩ := run_thr h hc hr
      rw [e]
      split
      · exact enterM_pri _ hj r
      · exact enterM_pri _ hj r
  · split <;> rfl
theorem take_all {l : List Int} {p : Int → Bool} : ∀ x ∈ l.takeWhile p, p x = true := by
  have := List.all_takeWhile (p := p) (l := l); rw [List.all_eq_true] at this; exact this
/-- What stands behind the first that does not go ahead. -/
theorem drop_all {l : List Int} {f : Int → Int} {p : Int → Bool} {y : Int} (hs : l.Pairwise (fun a b => f b ≤ f a)) (hp : ∀ r, p r = false → f r < y) : ∀ x ∈ l.dropWhile p, f x < y := by
  intro b hb
  have h2 := hs.sublist (List.dropWhile_sublist p)
  cases hdl : l.dropWhile p with
  | nil => rw [hdl] at hb; exact absurd hb (by simp)
  | cons z m =>
    have hz : p z = false := by
      have := List.head?_dropWhile_not p l
      rw [hdl] at this; simpa using this
    rw [hdl] at hb h2
    rcases List.mem_cons.1 hb with rfl | hb
    · exact hp _ hz
    · have := (List.pairwise_cons.1 h2).1 b hb; have := hp _ hz; omega
theorem erase_not {s : St} {c : Nat} (h : Ok s) (hc : c < s.qs.length) {k : Nat} (hst : (thOf s.ts (k : Int)).st ≠ 1) : (k : Int) ∉ (quOf s.qs (c : Int)).ready := by
  intro hm
  obtain ⟨j, h1, _, t, h2, _, h4⟩ := h.rd _ _ (qu_some hc) _ hm
  have : k = j := by omega
  subst this; rw [thOf_of h2] at hst; exact hst h4
/-- Where the thread stands that a switch put back. -/
theorem pre_ok {s : St} {c : Nat} (h : Ok s) (hc : c < s.qs.length) (hd : dueM s c = true) {k : Nat} (hr : (quOf s.qs (c : Int)).run = k) :
    ∃ a b : List Int, (quOf (switchM s c).qs c).ready = a ++ (k : Int) :: b ∧ (k : Int) ∉ a ∧ (k : Int) ∉ b ∧ (quOf (switchM s c).qs c).run ≠ k ∧
      (0 < (quOf s.qs (c : Int)).left → ∀ x ∈ a, (thOf s.ts k).pri < (thOf s.ts x).pri) ∧ ((quOf s.qs (c : Int)).left = 0 → ∀ x ∈ b, (thOf s.ts x).pri < (thOf s.ts k).pri) := by
  have hso := h.so _ _ (qu_some hc)
  obtain ⟨j, e, hj, hjc, hjs, hl0, hlq⟩ := run_thr h hc (by rw [hr]; omega)
  have : j = k := by omega
  subst this
  obtain ⟨s1, m, l, h1, h2, h3, h4, h5, h6, h7⟩ := disp_out h hc (due_ne hd)
  have hsw : switchM s c = dispM s c := by unfold switchM; rw [if_pos hd]
  rw [hsw, h5]
  simp only []
  have hne : (quOf s.qs (c : Int)).run ≠ -1 := by rw [hr]; omega
  rw [if_neg hne, e] at h7
  simp only [Int.toNat_natCast] at h7
  have hnot := erase_not h hc (k := j) (by rw [hjs]; decide)
  -- what is due
  obtain ⟨r, rest, er⟩ : ∃ r rest, (quOf s.qs (c : Int)).ready = r :: rest := by
    cases hq : (quOf s.qs (c : Int)).ready with
    | nil => exact absurd hq (due_ne hd)
    | cons r l => exact ⟨r, l, rfl⟩
  have hdd : (thOf s.ts j).pri < (thOf s.ts r).pri ∨ ((quOf s.qs (c : Int)).left = 0 ∧ (thOf s.ts r).pri = (thOf s.ts j).pri) := by
    simp only [dueM] at hd
    rw [er] at hd
    simp only [hr] at hd
    rw [if_neg (by omega)] at hd
    simpa using hd
  have hcl1 : ∀ p, s1 = enterM s j p → (quOf s1.qs c).ready = insM (r :: rest) j (p (leaveM s j 1).ts) := by
    intro p ep
    rw [ep, enterM_qu p hj hjc hc, if_pos rfl]
    simp only []
    rw [List.erase_of_not_mem hnot, er]
  have hnd := h1.nd c (quOf s1.qs c) (qu_some (by
    rcases Nat.lt_or_ge c s1.qs.length with h | h
    · exact h
    · simp [quOf, List.getElem?_eq_none h] at h2))
  rw [er] at hso hnot
  have fin : ∀ p, s1 = enterM s j p → p (leaveM s j 1).ts r = true → (0 < (quOf s.qs (c : Int)).left → ∀ x, p (leaveM s j 1).ts x = true → (thOf s.ts j).pri < (thOf s.ts x).pri) → ((quOf s.qs (c : Int)).left = 0 → ∀ x, p (leaveM s j 1).ts x = false → (thOf s.ts x).pri < (thOf s.ts j).pri) →
      ∃ a b : List Int, l = a ++ (j : Int) :: b ∧ (j : Int) ∉ a ∧ (j : Int) ∉ b ∧ (m : Int) ≠ j ∧
      (0 < (quOf s.qs (c : Int)).left → ∀ x ∈ a, (thOf s.ts j).pri < (thOf s.ts x).pri) ∧ ((quOf s.qs (c : Int)).left = 0 → ∀ x ∈ b, (thOf s.ts x).pri < (thOf s.ts j).pri) := by
    intro p ep hpr hp1 hp2
    have e1 := hcl1 p ep
    rw [h2] at e1
    have e2 : insM (r :: rest) j (p (leaveM s j 1).ts) = r :: (rest.takeWhile (p (leaveM s j 1).ts) ++ (j : Int) :: rest.dropWhile (p (leaveM s j 1).ts)) := by
      simp [insM, hpr]
    rw [e2] at e1
    injection e1 with e3 e4
    refine ⟨_, _, e4, ?_, ?_, ?_, ?_, ?_⟩
    · intro hm; exact hnot (by simp only [List.mem_cons]; exact .inr ((List.takeWhile_sublist _).subset hm))
    · intro hm; exact hnot (by simp only [List.mem_cons]; exact .inr ((List.dropWhile_sublist _).subset hm))
    · rintro e5; rw [e5] at e3; exact hnot (by rw [e3]; simp)
    · intro hl x hx; exact hp1 hl x (take_all x hx)
    · intro hl x hx
      exact drop_all (f := fun x => (thOf s.ts x).pri) (List.pairwise_cons.1 hso).2 (hp2 hl) x hx
  have hp : ∀ x, (thOf (leaveM s j 1).ts x).pri = (thOf s.ts x).pri := fun x => leaveM_pri hj x
  by_cases hz : (quOf s.qs (c : Int)).left = 0
  · rw [if_pos hz] at h7
    refine fin (endP j) h7 ?_ (fun h => by omega) ?_
    · simp only [endP, hp, decide_eq_true_eq]; omega
    · intro _ x hx; simp only [endP, hp, decide_eq_false_iff_not] at hx; omega
  · rw [if_neg hz] at h7
    refine fin (frontP j) h7 ?_ ?_ (fun h => absurd h hz)
    · simp only [frontP, hp, decide_eq_true_eq]; omega
    · intro _ x hx; simp only [frontP, hp, decide_eq_true_eq] at hx; exact hx
theorem th_set_self (ts : List Th) (k : Nat) : ts.set k (thOf ts (k : Int)) = ts := by
  rcases Nat.lt_or_ge k ts.length with h | h
  · apply List.ext_getElem?
    intro j
    rw [List.getElem?_set]
    split
    · rename_i e; subst e; rw [th_some h]
    · rfl
  · exact List.set_eq_of_length_le h
theorem qu_set_self (qs : List Qu) (k : Nat) : qs.set k (quOf qs (k : Int)) = qs := by
  rcases Nat.lt_or_ge k qs.length with h | h
  · apply List.ext_getElem?
    intro j
    rw [List.getElem?_set]
    split
    · rename_i e; subst e; rw [qu_some h]
    · rfl
  · exact List.set_eq_of_length_le h
theorem thOf_set_self (ts : List Th) (k : Nat) (v : Th) (h : k < ts.length) : thOf (ts.set k v) (k : Int) = v := by
  have := thOf_set ts k (k : Int) v h; simpa using this
theorem quOf_set_self (ts : List Qu) (k : Nat) (v : Qu) (h : k < ts.length) : quOf (ts.set k v) (k : Int) = v := by
  have := quOf_set ts k k v h; simpa using this
/-- Leaving twice is leaving once. -/
theorem leave_leave {s : St} (h : Ok s) {k : Nat} (hk : k < s.ts.length) (a b : Int) : leaveM (leaveM s k a) k b = leaveM s k b := by
  obtain ⟨c, hc, hcl⟩ := h.cpu hk
  have hn := h.nd _ _ (qu_some hcl)
  have h1 : (thOf (leaveM s k a).ts (k : Int)).cpu = c := by rw [leaveM_th hk]; simpa using hc
  have e1 := leaveM_run (st := b) h1
  have e2 := leaveM_run (st := a) hc
  have e3 := leaveM_run (st := b) hc
  have g1 : (leaveM (leaveM s k a) k b).qs = (leaveM s k b).qs := by
    rw [e1, e2, e3, quOf_set_self _ _ _ hcl, List.set_set]
    congr 1
    simp only [Qu.mk.injEq]
    refine ⟨?_, ?_, ?_⟩
    · split
      · rename_i h; split <;> simp_all
      · rfl
    · split
      · split <;> first | rfl | (rename_i h1 h2; exact absurd h1 h2) | simp_all
      · rfl
    · exact List.erase_of_not_mem (fun hm => (hn.mem_erase_iff.1 hm).1 rfl)
  have g2 : (leaveM (leaveM s k a) k b).ts = (leaveM s k b).ts := by
    show (s.ts.set k _).set k { (thOf (s.ts.set k _) k) with st := b } = s.ts.set k _
    rw [thOf_set_self _ _ _ hk, List.set_set]
  have : ∀ x y : St, x.qs = y.qs → x.ts = y.ts → x.q = y.q → x = y := by
    rintro ⟨_, _, _⟩ ⟨_, _, _⟩ h1 h2 h3; simp only at h1 h2 h3; subst h1 h2 h3; rfl
  exact this _ _ g1 g2 rfl
/-- The queue that a woken thread enters: those ahead of it have no smaller priority, those behind it a smaller one. -/
theorem wake_ok {s : St} (h : Ok s) {k : Nat} (hk : k < s.ts.length) {c : Nat} (hc : (thOf s.ts (k : Int)).cpu = c) (hst : (thOf s.ts (k : Int)).st ≠ 1) :
    ∃ a b : List Int, (quOf (toEndM s k).qs c).ready = a ++ (k : Int) :: b ∧ (k : Int) ∉ a ∧ (k : Int) ∉ b ∧ (∀ x ∈ a, (thOf (toEndM s k).ts k).pri ≤ (thOf (toEndM s k).ts x).pri) ∧ (∀ x ∈ b, (thOf (toEndM s k).ts x).pri < (thOf (toEndM s k).ts k).pri) := by
  have hcl : c < s.qs.length := by obtain ⟨d, h1, h2⟩ := h.cpu hk; omega
  have hso := h.so _ _ (qu_some hcl)
  have hnot := erase_not h hcl hst
  have hp : ∀ x, (thOf (leaveM s k 1).ts x).pri = (thOf s.ts x).pri := fun x => leaveM_pri hk x
  have hq : ∀ x, (thOf (toEndM s k).ts x).pri = (thOf s.ts x).pri := fun x => enterM_pri _ hk x
  unfold toEndM at hq ⊢
  rw [enterM_qu _ hk hc hcl, if_pos rfl]
  simp only [hq]
  rw [List.erase_of_not_mem hnot]
  refine ⟨_, _, rfl, fun hm => hnot ((List.takeWhile_sublist _).subset hm), fun hm => hnot ((List.dropWhile_sublist _).subset hm), ?_, ?_⟩
  · intro x hx; have := take_all x hx; simpa [endP, hp] using this
  · intro x hx
    refine drop_all (f := fun x => (thOf s.ts x).pri) hso ?_ x hx
    intro r hr; simpa [endP, hp] using hr
/-- Entering twice at the end is entering once. -/
theorem toEnd_twice {s : St} (h : Ok s) {k : Nat} (hk : k < s.ts.length) (hst : (thOf s.ts (k : Int)).st ≠ 1) : toEndM (toEndM s k) k = toEndM s k := by
  obtain ⟨c, hc, hcl⟩ := h.cpu hk
  have hnot := erase_not h hcl hst
  have hth : thOf (toEndM s k).ts (k : Int) = { (thOf s.ts (k : Int)) with st := 1 } := by
    unfold toEndM; rw [enterM_th _ hk]; simp
  have hk2 : k < (toEndM s k).ts.length := by unfold toEndM; rw [enterM_m]; exact hk
  have hcl2 : c < (toEndM s k).qs.length := by unfold toEndM; rw [enterM_n]; exact hcl
  have hc2 : (thOf (toEndM s k).ts (k : Int)).cpu = c := by rw [hth]; exact hc
  -- threads
  have hts : (toEndM s k).ts = s.ts.set k { (thOf s.ts (k : Int)) with st := 1 } := rfl
  have hts2 : (toEndM (toEndM s k) k).ts = (toEndM s k).ts := by
    show (toEndM s k).ts.set k { (thOf (toEndM s k).ts (k : Int)) with st := 1 } = _
    rw [hth]
    simp only []
    rw [hts, List.set_set]
  have hp1 : ∀ x, (thOf (leaveM s k 1).ts x).pri = (thOf s.ts x).pri := fun x => leaveM_pri hk x
  have hp2 : ∀ x, (thOf (leaveM (toEndM s k) k 1).ts x).pri = (thOf s.ts x).pri := fun x => by rw [leaveM_pri hk2]; unfold toEndM; rw [enterM_pri _ hk]
  have hpp : endP k (leaveM (toEndM s k) k 1).ts = endP k (leaveM s k 1).ts := by
    funext x; simp [endP, hp1, hp2]
  have hqs : ∀ d : Nat, quOf (toEndM (toEndM s k) k).qs d = quOf (toEndM s k).qs d := by
    intro d
    have e1 := enterM_qu (endP k) hk2 hc2 hcl2 d
    have e0 := enterM_qu (endP k) hk hc hcl c
    have ed := enterM_qu (endP k) hk hc hcl d
    rw [if_pos rfl] at e0
    show quOf (enterM (toEndM s k) k (endP k)).qs d = _
    rw [e1]
    split
    · rename_i hcd; subst hcd
      rw [hpp]
      unfold toEndM
      rw [e0]
      simp only []
      generalize hP : endP k (leaveM s k 1).ts = P
      rw [List.erase_of_not_mem hnot]
      have hm : (k : Int) ∉ (quOf s.qs c).ready.takeWhile P := fun hm => hnot ((List.takeWhile_sublist _).subset hm)
      have e5 : (insM (quOf s.qs c).ready k P).erase (k : Int) = (quOf s.qs c).ready := by
        unfold insM
        rw [List.erase_append_right _ hm, List.erase_cons_head, List.takeWhile_append_dropWhile]
      rw [e5]
      congr 1
      · split
        · rename_i h; split <;> simp_all
        · rfl
      · split
        · split <;> first | rfl | (rename_i h1 h2; exact absurd h1 h2) | simp_all
        · rfl
    · rfl
  have hlen : (toEndM (toEndM s k) k).qs.length = (toEndM s k).qs.length := by
    show (enterM (toEndM s k) k (endP k)).qs.length = _; rw [enterM_n]
  have hqq : (toEndM (toEndM s k) k).qs = (toEndM s k).qs := by
    apply List.ext_getElem?
    intro j
    rcases Nat.lt_or_ge j (toEndM s k).qs.length with hl | hl
    · rw [qu_some hl, qu_some (by omega), hqs]
    · rw [List.getElem?_eq_none hl, List.getElem?_eq_none (by omega)]
  have : ∀ x y : St, x.qs = y.qs → x.ts = y.ts → x.q = y.q → x = y := by
    rintro ⟨_, _, _⟩ ⟨_, _, _⟩ h1 h2 h3; simp only at h1 h2 h3; subst h1 h2 h3; rfl
  exact this _ _ hqq hts2 rfl
/-- SetPri to the own priority, of the last of its priority. -/
theorem setPri_same {s : St} (h : Ok s) {k : Nat} (hk : k < s.ts.length) (hst : (thOf s.ts (k : Int)).st ≠ 1) : setPriM (toEndM s k) k (thOf (toEndM s k).ts k).pri = toEndM s k := by
  have hth : thOf (toEndM s k).ts (k : Int) = { (thOf s.ts (k : Int)) with st := 1 } := by
    unfold toEndM; rw [enterM_th _ hk]; simp
  have e : ({ (toEndM s k) with ts := (toEndM s k).ts.set k { (thOf (toEndM s k).ts k) with pri := (thOf (toEndM s k).ts k).pri } } : St) = toEndM s k := by
    have : ({ (thOf (toEndM s k).ts k) with pri := (thOf (toEndM s k).ts k).pri } : Th) = thOf (toEndM s k).ts k := rfl
    rw [this, th_set_self]
  unfold setPriM
  simp only []
  rw [if_pos (by rw [hth]), e]
  exact toEnd_twice h hk hst
theorem setLeft_n (s : St) (c : Nat) (l : Int) : (setLeft s c l).qs.length = s.qs.length := by simp [setLeft]
theorem dispM_n (s : St) (c : Nat) : (dispM s c).qs.length = s.qs.length := by
  unfold dispM; rw [toRunM_n]; split
  · rfl
  · split
    · exact enterM_n _ _ _
    · exact enterM_n _ _ _
theorem dispM_m (s : St) (c : Nat) : (dispM s c).ts.length = s.ts.length := by
  unfold dispM; rw [toRunM_m]; split
  · rfl
  · split
    · exact enterM_m _ _ _
    · exact enterM_m _ _ _
theorem switchM_n (s : St) (c : Nat) : (switchM s c).qs.length = s.qs.length := by
  unfold switchM; split
  · exact dispM_n _ _
  · split
    · exact setLeft_n _ _ _
    · rfl
theorem switchM_m (s : St) (c : Nat) : (switchM s c).ts.length = s.ts.length := by
  unfold switchM; split
  · exact dispM_m _ _
  · split
    · rfl
    · rfl
end Go.Proofs.Ytggikbcgijmhbaa
