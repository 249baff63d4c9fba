/- WHAT IS PROVED: the scheduler's states as lists, its operations as functions on them, and that they keep a valid state valid. CONDITIONS: none; no program stands here. -/
namespace Go.Proofs.Ytggikbcgijmhbaa

/-- A thread: its priority, its processor, its state. -/
structure Th where
  pri : Int
  cpu : Int
  st : Int
  deriving DecidableEq
/-- A processor: who runs, what is left of the time slice, who is ready. -/
structure Qu where
  run : Int
  left : Int
  ready : List Int
  deriving DecidableEq
/-- A state. -/
structure St where
  qs : List Qu
  ts : List Th
  q : Int
/-- Is n from lo to hi? -/
def inB (n lo hi : Int) : Bool := decide (lo ≤ n) && decide (n ≤ hi)
theorem inB_out {n lo hi : Int} (h : inB n lo hi = true) : lo ≤ n ∧ n ≤ hi := by simpa [inB] using h
theorem inB_in {n lo hi : Int} (h : lo ≤ n ∧ n ≤ hi) : inB n lo hi = true := by simpa [inB] using h
/-- The thread of a number, and the processor of one. -/
def thOf (ts : List Th) (r : Int) : Th := (ts[r.toNat]?).getD ⟨0, 0, 0⟩
def quOf (qs : List Qu) (r : Int) : Qu := (qs[r.toNat]?).getD ⟨-1, 0, []⟩
/-- A valid state, but that thread x (if there is one) is in no place. -/
structure OkX (x : Option Nat) (s : St) : Prop where
  n1 : 1 ≤ s.qs.length
  n2 : s.qs.length ≤ 4
  m2 : s.ts.length ≤ 16
  q1 : 1 ≤ s.q
  q2 : s.q ≤ 20
  th : ∀ (k : Nat) (t : Th), s.ts[k]? = some t → 0 ≤ t.pri ∧ t.pri ≤ 7 ∧ 0 ≤ t.cpu ∧ t.cpu < s.qs.length ∧ 1 ≤ t.st ∧ t.st ≤ 4
  rn : ∀ (k : Nat) (t : Th), s.ts[k]? = some t → t.st = 2 → x ≠ some k → (quOf s.qs t.cpu).run = k
  qi : ∀ (c : Nat) (u : Qu), s.qs[c]? = some u → u.run = -1 → u.left = 0
  qr : ∀ (c : Nat) (u : Qu), s.qs[c]? = some u → u.run ≠ -1 → ∃ k : Nat, u.run = k ∧ x ≠ some k ∧ 0 ≤ u.left ∧ u.left ≤ s.q ∧ ∃ t, s.ts[k]? = some t ∧ t.cpu = c ∧ t.st = 2
  nd : ∀ (c : Nat) (u : Qu), s.qs[c]? = some u → u.ready.Nodup
  rd : ∀ (c : Nat) (u : Qu), s.qs[c]? = some u → ∀ r ∈ u.ready, ∃ k : Nat, r = k ∧ x ≠ some k ∧ ∃ t, s.ts[k]? = some t ∧ t.cpu = c ∧ t.st = 1
  dr : ∀ (k : Nat) (t : Th), s.ts[k]? = some t → t.st = 1 → x ≠ some k → (k : Int) ∈ (quOf s.qs t.cpu).ready
  so : ∀ (c : Nat) (u : Qu), s.qs[c]? = some u → u.ready.Pairwise (fun a b => (thOf s.ts b).pri ≤ (thOf s.ts a).pri)
abbrev Ok (s : St) : Prop := OkX none s

/-- A thread leaves its place, for another state. -/
def leaveM (s : St) (k : Nat) (st : Int) : St :=
  let t := thOf s.ts k
  let u := quOf s.qs t.cpu
  { s with
    qs := s.qs.set t.cpu.toNat ⟨if u.run = k then -1 else u.run, if u.run = k then 0 else u.left, u.ready.erase (k : Int)⟩
    ts := s.ts.set k { t with st := st } }
/-- A list with an item behind those that go ahead of it. -/
def insM (l : List Int) (k : Int) (p : Int → Bool) : List Int := l.takeWhile p ++ k :: l.dropWhile p
def enterM (s : St) (k : Nat) (p : List Th → Int → Bool) : St :=
  let s1 := leaveM s k 1
  let c := (thOf s1.ts k).cpu
  let u := quOf s1.qs c
  { s1 with qs := s1.qs.set c.toNat { u with ready := insM u.ready k (p s1.ts) } }
def endP (k : Nat) (ts : List Th) (r : Int) : Bool := decide ((thOf ts k).pri ≤ (thOf ts r).pri)
def frontP (k : Nat) (ts : List Th) (r : Int) : Bool := decide ((thOf ts k).pri < (thOf ts r).pri)
def toEndM (s : St) (k : Nat) : St := enterM s k (endP k)
def toFrontM (s : St) (k : Nat) : St := enterM s k (frontP k)
def toRunM (s : St) (k : Nat) : St :=
  let s1 := leaveM s k 2
  let c := (thOf s1.ts k).cpu
  { s1 with qs := s1.qs.set c.toNat { (quOf s1.qs c) with run := k, left := s1.q } }
def toProcM (s : St) (k : Nat) (c : Int) : St :=
  let s1 := leaveM s k 1
  toEndM { s1 with ts := s1.ts.set k { (thOf s1.ts k) with cpu := c } } k
/-- Is a switch due? -/
def dueM (s : St) (c : Nat) : Bool :=
  let u := quOf s.qs c
  match u.ready with
  | [] => false
  | r :: _ => if u.run = -1 then true else decide ((thOf s.ts u.run).pri < (thOf s.ts r).pri) || (u.left == 0 && (thOf s.ts r).pri == (thOf s.ts u.run).pri)
def dispM (s : St) (c : Nat) : St :=
  let u := quOf s.qs c
  let s1 := if u.run = -1 then s else if u.left = 0 then toEndM s u.run.toNat else toFrontM s u.run.toNat
  toRunM s1 ((quOf s1.qs c).ready.headD 0).toNat
def setLeft (s : St) (c : Nat) (l : Int) : St := { s with qs := s.qs.set c { (quOf s.qs c) with left := l } }
def switchM (s : St) (c : Nat) : St :=
  if dueM s c then dispM s c
  else if (quOf s.qs c).run ≠ -1 ∧ (quOf s.qs c).left = 0 then setLeft s c s.q else s
def tickM (s : St) (c : Nat) : St := setLeft s c (max ((quOf s.qs c).left - 1) 0)
def yieldM (s : St) (c : Nat) : St := setLeft s c 0
def addM (s : St) (pri : Int) (c : Nat) : St := toEndM { s with ts := s.ts ++ [⟨pri, c, 1⟩] } s.ts.length
def setPriM (s : St) (k : Nat) (pri : Int) : St :=
  let s1 := { s with ts := s.ts.set k { (thOf s.ts k) with pri := pri } }
  if (thOf s.ts k).st = 1 then toEndM s1 k else s1

theorem quOf_nat (qs : List Qu) (c : Nat) : quOf qs (c : Int) = (qs[c]?).getD ⟨-1, 0, []⟩ := by simp [quOf]
theorem quOf_of {qs : List Qu} {c : Nat} {u : Qu} (h : qs[c]? = some u) : quOf qs (c : Int) = u := by simp [quOf, h]
theorem thOf_of {ts : List Th} {c : Nat} {u : Th} (h : ts[c]? = some u) : thOf ts (c : Int) = u := by simp [thOf, h]
theorem qu_some {qs : List Qu} {c : Nat} (h : c < qs.length) : qs[c]? = some (quOf qs (c : Int)) := by simp [quOf, List.getElem?_eq_getElem h]
theorem th_some {ts : List Th} {c : Nat} (h : c < ts.length) : ts[c]? = some (thOf ts (c : Int)) := by simp [thOf, List.getElem?_eq_getElem h]
theorem quOf_set (qs : List Qu) (c d : Nat) (v : Qu) (h : c < qs.length) : quOf (qs.set c v) (d : Int) = if c = d then v else quOf qs (d : Int) := by
  simp only [quOf, Int.toNat_natCast, List.getElem?_set]
  split
  · simp
  · rfl
theorem thOf_set (ts : List Th) (c : Nat) (r : Int) (v : Th) (h : c < ts.length) : thOf (ts.set c v) r = if c = r.toNat then v else thOf ts r := by
  simp only [thOf, List.getElem?_set]
  split
  · simp
  · rfl
theorem get_set {α : Type} {l : List α} {i j : Nat} {v x : α} (h : (l.set i v)[j]? = some x) : (i = j ∧ x = v ∧ i < l.length) ∨ (i ≠ j ∧ l[j]? = some x) := by
  rw [List.getElem?_set] at h
  split at h
  · split at h
    · left; refine ⟨by assumption, by simpa using h.symm, by assumption⟩
    · simp at h
  · right; exact ⟨by assumption, h⟩
/-- What is known of the thread that leaves. -/
theorem OkX.cpu {x : Option Nat} {s : St} (h : OkX x s) {k : Nat} (hk : k < s.ts.length) : ∃ c : Nat, (thOf s.ts (k : Int)).cpu = c ∧ c < s.qs.length := by
  obtain ⟨_, _, h1, h2, _⟩ := h.th k _ (th_some hk)
  exact ⟨(thOf s.ts (k : Int)).cpu.toNat, by omega, by omega⟩
theorem leave_okx {x : Option Nat} {s : St} {k : Nat} {st : Int} (h : OkX x s) (hx : x = none ∨ x = some k) (hk : k < s.ts.length) (hs : 1 ≤ st ∧ st ≤ 4) : OkX (some k) (leaveM s k st) := by
  obtain ⟨c, hc, hcl⟩ := h.cpu hk
  have ht := th_some hk
  generalize hT : thOf s.ts (k : Int) = t at *
  have hu := qu_some hcl
  generalize hU : quOf s.qs (c : Int) = u at *
  have e : leaveM s k st = { s with qs := s.qs.set c ⟨if u.run = k then -1 else u.run, if u.run = k then 0 else u.left, u.ready.erase (k : Int)⟩, ts := s.ts.set k { t with st := st } } := by
    simp [leaveM, hT, hc, hU]
  rw [e]
  have hxk : ∀ j : Nat, j ≠ k → x ≠ some j := by
    intro j hj; rcases hx with rfl | rfl
    · simp
    · simpa using fun e => hj e.symm
  refine ⟨by simpa using h.n1, by simpa using h.n2, by simpa using h.m2, h.q1, h.q2, ?_, ?_, ?_, ?_, ?_, ?_, ?_, ?_⟩
  · intro j y hj
    rcases get_set hj with ⟨rfl, rfl, _⟩ | ⟨_, hj⟩
    · have := h.th _ _ ht; simp only [List.length_set]; omega
    · have := h.th _ _ hj; simp only [List.length_set]; omega
  · intro j y hj hy2 hne
    rcases get_set hj with ⟨rfl, rfl, _⟩ | ⟨hkj, hj⟩
    · exact absurd rfl hne
    · have h1 := h.rn j y hj hy2 (hxk j (fun e => hkj e.symm))
      have h2 := h.th _ _ hj
      obtain ⟨d, hd⟩ : ∃ d : Nat, y.cpu = d := ⟨y.cpu.toNat, by omega⟩
      rw [hd] at h1 ⊢
      rw [quOf_set _ _ _ _ hcl]
      split
      · rename_i hcd; subst hcd
        rw [hU] at h1
        simp only []
        rw [if_neg (by rw [h1]; omega)]; exact h1
      · exact h1
  · intro d y hj hr
    rcases get_set hj with ⟨rfl, rfl, _⟩ | ⟨_, hj⟩
    · simp only [] at hr ⊢
      split
      · rfl
      · rename_i hne; rw [if_neg hne] at hr; exact h.qi _ _ hu hr
    · exact h.qi _ _ hj hr
  · intro d y hj hr
    rcases get_set hj with ⟨rfl, rfl, _⟩ | ⟨hcd, hj⟩
    · simp only [] at hr ⊢
      by_cases hne : u.run = k
      · rw [if_pos hne] at hr; exact absurd rfl hr
      · rw [if_neg hne] at hr ⊢; rw [if_neg hne]
        obtain ⟨j, h1, h2, h3, h4, y, h5, h6, h7⟩ := h.qr _ _ hu hr
        have hjk : j ≠ k := fun e => hne (by rw [h1, e])
        exact ⟨j, h1, by simpa using fun e => hjk e.symm, h3, h4, y, by rw [List.getElem?_set_ne (fun e => hjk e.symm)]; exact h5, h6, h7⟩
    · obtain ⟨j, h1, h2, h3, h4, z, h5, h6, h7⟩ := h.qr _ _ hj hr
      have hjk : j ≠ k := by
        rintro rfl
        rw [ht] at h5; cases h5
        rw [hc] at h6; omega
      exact ⟨j, h1, by simpa using fun e => hjk e.symm, h3, h4, z, by rw [List.getElem?_set_ne (fun e => hjk e.symm)]; exact h5, h6, h7⟩
  · intro d y hj
    rcases get_set hj with ⟨rfl, rfl, _⟩ | ⟨_, hj⟩
    · exact (h.nd _ _ hu).erase _
    · exact h.nd _ _ hj
  · intro d y hj r hr
    have key : ∃ u0, s.qs[d]? = some u0 ∧ r ∈ u0.ready ∧ r ≠ k := by
      rcases get_set hj with ⟨rfl, rfl, _⟩ | ⟨hcd, hj⟩
      · have := (h.nd _ _ hu).mem_erase_iff.1 hr
        exact ⟨u, hu, this.2, this.1⟩
      · refine ⟨y, hj, hr, ?_⟩
        rintro rfl
        obtain ⟨j, h1, _, z, h3, h4, _⟩ := h.rd _ _ hj _ hr
        have : j = k := by omega
        subst this
        rw [ht] at h3; cases h3
        rw [hc] at h4; omega
    obtain ⟨u0, h1, h2, h3⟩ := key
    obtain ⟨j, h4, h5, z, h6, h7, h8⟩ := h.rd _ _ h1 _ h2
    have hjk : j ≠ k := fun e => h3 (by rw [h4, e])
    exact ⟨j, h4, by simpa using fun e => hjk e.symm, z, by rw [List.getElem?_set_ne (fun e => hjk e.symm)]; exact h6, h7, h8⟩
  · intro j y hj hy1 hne
    rcases get_set hj with ⟨rfl, rfl, _⟩ | ⟨hkj, hj⟩
    · exact absurd rfl hne
    · have h1 := h.dr j y hj hy1 (hxk j (fun e => hkj e.symm))
      have h2 := h.th _ _ hj
      obtain ⟨d, hd⟩ : ∃ d : Nat, y.cpu = d := ⟨y.cpu.toNat, by omega⟩
      rw [hd] at h1 ⊢
      rw [quOf_set _ _ _ _ hcl]
      split
      · rename_i hcd; subst hcd
        rw [hU] at h1
        exact (h.nd _ _ hu).mem_erase_iff.2 ⟨by omega, h1⟩
      · exact h1
  · intro d y hj
    have key : ∀ (r : Int), (thOf (s.ts.set k { t with st := st }) r).pri = (thOf s.ts r).pri := by
      intro r
      rw [thOf_set _ _ _ _ hk]
      split
      · rename_i hr; simp only [thOf, ← hr, ht, Option.getD_some]
      · rfl
    simp only [key]
    rcases get_set hj with ⟨rfl, rfl, _⟩ | ⟨_, hj⟩
    · exact (h.so _ _ hu).sublist (List.erase_sublist)
    · exact h.so _ _ hj
/-- A thread that is in no place goes into its queue. -/
theorem ins_ok {s : St} {k c : Nat} {p : Int → Bool} (h : OkX (some k) s) (hk : k < s.ts.length) (hc : (thOf s.ts (k : Int)).cpu = c) (hst : (thOf s.ts (k : Int)).st = 1)
    (hp1 : ∀ r, p r = true → (thOf s.ts (k : Int)).pri ≤ (thOf s.ts r).pri) (hp2 : ∀ r, p r = false → (thOf s.ts r).pri ≤ (thOf s.ts (k : Int)).pri) :
    Ok { s with qs := s.qs.set c { (quOf s.qs (c : Int)) with ready := insM (quOf s.qs (c : Int)).ready (k : Int) p } } := by
  have hcl : c < s.qs.length := by obtain ⟨d, h1, h2⟩ := h.cpu hk; omega
  have ht := th_some hk
  generalize hT : thOf s.ts (k : Int) = t at *
  have hu := qu_some hcl
  generalize hU : quOf s.qs (c : Int) = u at *
  have hmem : ∀ r, r ∈ insM u.ready (k : Int) p ↔ r = k ∨ r ∈ u.ready := by
    intro r
    have : r ∈ u.ready ↔ r ∈ u.ready.takeWhile p ∨ r ∈ u.ready.dropWhile p := by rw [← List.mem_append, List.takeWhile_append_dropWhile]
    rw [this]; simp only [insM, List.mem_append, List.mem_cons]
    constructor
    · rintro (h | h | h)
      · exact .inr (.inl h)
      · exact .inl h
      · exact .inr (.inr h)
    · rintro (h | h | h)
      · exact .inr (.inl h)
      · exact .inl h
      · exact .inr (.inr h)
  have hnot : (k : Int) ∉ u.ready := by
    intro hm
    obtain ⟨j, h1, h2, _⟩ := h.rd _ _ hu _ hm
    exact h2 (by simp; omega)
  refine ⟨by simpa using h.n1, by simpa using h.n2, by simpa using h.m2, h.q1, h.q2, ?_, ?_, ?_, ?_, ?_, ?_, ?_, ?_⟩
  · intro j y hj
    have := h.th _ _ hj; simp only [List.length_set]; omega
  · intro j y hj hy2 _
    have hjk : j ≠ k := by rintro rfl; rw [ht] at hj; cases hj; omega
    have h1 := h.rn j y hj hy2 (by simpa using fun e => hjk e.symm)
    have h2 := h.th _ _ hj
    obtain ⟨d, hd⟩ : ∃ d : Nat, y.cpu = d := ⟨y.cpu.toNat, by omega⟩
    rw [hd] at h1 ⊢
    rw [quOf_set _ _ _ _ hcl]
    split
    · rename_i hcd; subst hcd; rw [hU] at h1; exact h1
    · exact h1
  · intro d y hj hr
    rcases get_set hj with ⟨rfl, rfl, _⟩ | ⟨_, hj⟩
    · exact h.qi c u hu hr
    · exact h.qi _ _ hj hr
  · intro d y hj hr
    rcases get_set hj with ⟨rfl, rfl, _⟩ | ⟨_, hj⟩
    · obtain ⟨j, h1, _, h3⟩ := h.qr _ _ hu hr; exact ⟨j, h1, by simp, h3⟩
    · obtain ⟨j, h1, _, h3⟩ := h.qr _ _ hj hr; exact ⟨j, h1, by simp, h3⟩
  · intro d y hj
    rcases get_set hj with ⟨rfl, rfl, _⟩ | ⟨_, hj⟩
    · have h1 := h.nd _ _ hu
      rw [← List.takeWhile_append_dropWhile (p := p) (l := u.ready), List.nodup_append] at h1
      obtain ⟨h1, h2, h3⟩ := h1
      simp only [insM]
      rw [List.nodup_append]
      refine ⟨h1, List.nodup_cons.2 ⟨fun hm => hnot (List.dropWhile_sublist p |>.subset hm), h2⟩, ?_⟩
      intro a ha b hb
      rcases List.mem_cons.1 hb with rfl | hb
      · rintro rfl; exact hnot (List.takeWhile_sublist p |>.subset ha)
      · exact h3 a ha b hb
    · exact h.nd _ _ hj
  · intro d y hj r hr
    rcases get_set hj with ⟨rfl, rfl, _⟩ | ⟨_, hj⟩
    · rcases (hmem r).1 hr with rfl | hr
      · exact ⟨k, rfl, by simp, t, ht, hc, hst⟩
      · obtain ⟨j, h1, _, h3⟩ := h.rd _ _ hu _ hr; exact ⟨j, h1, by simp, h3⟩
    · obtain ⟨j, h1, _, h3⟩ := h.rd _ _ hj _ hr; exact ⟨j, h1, by simp, h3⟩
  · intro j y hj hy1 _
    have h2 := h.th _ _ hj
    obtain ⟨d, hd⟩ : ∃ d : Nat, y.cpu = d := ⟨y.cpu.toNat, by omega⟩
    rw [hd]
    simp only []
    rw [quOf_set _ _ _ _ hcl]
    by_cases hjk : j = k
    · subst hjk; rw [ht] at hj; cases hj
      have : c = d := by omega
      rw [if_pos this]; exact (hmem _).2 (.inl rfl)
    · have h1 := h.dr j y hj hy1 (by simpa using fun e => hjk e.symm)
      rw [hd] at h1
      split
      · rename_i hcd; subst hcd; rw [hU] at h1; exact (hmem _).2 (.inr h1)
      · exact h1
  · intro d y hj
    rcases get_set hj with ⟨rfl, rfl, _⟩ | ⟨_, hj⟩
    · have h1 := h.so _ _ hu
      rw [← List.takeWhile_append_dropWhile (p := p) (l := u.ready), List.pairwise_append] at h1
      obtain ⟨h1, h2, h3⟩ := h1
      simp only [insM]
      rw [List.pairwise_append]
      have htw : ∀ a ∈ u.ready.takeWhile p, t.pri ≤ (thOf s.ts a).pri := fun a ha => hp1 a (by
        have := List.all_takeWhile (p := p) (l := u.ready); rw [List.all_eq_true] at this; exact this a ha)
      have hdw : ∀ b ∈ u.ready.dropWhile p, (thOf s.ts b).pri ≤ t.pri := by
        intro b hb
        cases hdl : u.ready.dropWhile p with
        | nil => rw [hdl] at hb; exact absurd hb (by simp)
        | cons z l =>
          have hz : p z = false := by
            have := List.head?_dropWhile_not p u.ready
            rw [hdl] at this; simpa using this
          rw [hdl] at hb h2
          rcases List.mem_cons.1 hb with rfl | hb
          · exact hp2 _ hz
          · exact Int.le_trans ((List.pairwise_cons.1 h2).1 b hb) (hp2 _ hz)
      refine ⟨h1, List.pairwise_cons.2 ⟨fun b hb => by rw [hT]; exact hdw b hb, h2⟩, ?_⟩
      intro a ha b hb
      rcases List.mem_cons.1 hb with rfl | hb
      · rw [hT]; exact htw a ha
      · exact h3 a ha b hb
    · exact h.so _ _ hj
theorem leaveM_th {s : St} {k : Nat} {st : Int} (hk : k < s.ts.length) (r : Int) : thOf (leaveM s k st).ts r = if k = r.toNat then { (thOf s.ts (k : Int)) with st := st } else thOf s.ts r := thOf_set _ _ _ _ hk
theorem enter_ok {x : Option Nat} {s : St} {k : Nat} (h : OkX x s) (hx : x = none ∨ x = some k) (hk : k < s.ts.length) (p : List Th → Int → Bool) (hp : p = endP k ∨ p = frontP k) : Ok (enterM s k p) := by
  have h1 := leave_okx h hx hk (st := 1) (by omega)
  have hk1 : k < (leaveM s k 1).ts.length := by simpa [leaveM] using hk
  have e := leaveM_th (st := 1) hk (k : Int)
  simp only [Int.toNat_natCast, if_true] at e
  obtain ⟨c, hc, _⟩ := h1.cpu hk1
  have := ins_ok (p := p (leaveM s k 1).ts) h1 hk1 hc (by rw [e]) (by
    intro r hr; rcases hp with rfl | rfl
    · simpa [endP] using hr
    · have : (thOf (leaveM s k 1).ts ↑k).pri < (thOf (leaveM s k 1).ts r).pri := by simpa [frontP] using hr
      omega) (by
    intro r hr; rcases hp with rfl | rfl
    · have : (thOf (leaveM s k 1).ts r).pri < (thOf (leaveM s k 1).ts ↑k).pri := by simpa [endP] using hr
      omega
    · simpa [frontP] using hr)
  simpa [enterM, hc] using this
theorem toEnd_ok {x : Option Nat} {s : St} {k : Nat} (h : OkX x s) (hx : x = none ∨ x = some k) (hk : k < s.ts.length) : Ok (toEndM s k) := enter_ok h hx hk _ (.inl rfl)
theorem toFront_ok {x : Option Nat} {s : St} {k : Nat} (h : OkX x s) (hx : x = none ∨ x = some k) (hk : k < s.ts.length) : Ok (toFrontM s k) := enter_ok h hx hk _ (.inr rfl)
/-- A thread that is in no place, and is to be in none. -/
theorem OkX.nowhere {s : St} {k : Nat} (h : OkX (some k) s) (hst : (thOf s.ts (k : Int)).st = 3 ∨ (thOf s.ts (k : Int)).st = 4) : Ok s := by
  refine ⟨h.n1, h.n2, h.m2, h.q1, h.q2, h.th, ?_, h.qi, ?_, h.nd, ?_, ?_, h.so⟩
  · intro j y hj hy _
    refine h.rn j y hj hy ?_
    rintro e; cases e
    rw [thOf_of hj] at hst; omega
  · intro c u hu hr
    obtain ⟨j, h1, _, h3⟩ := h.qr _ _ hu hr; exact ⟨j, h1, by simp, h3⟩
  · intro c u hu r hr
    obtain ⟨j, h1, _, h3⟩ := h.rd _ _ hu r hr; exact ⟨j, h1, by simp, h3⟩
  · intro j y hj hy _
    refine h.dr j y hj hy ?_
    rintro e; cases e
    rw [thOf_of hj] at hst; omega
theorem nowhere_ok {s : St} {k : Nat} {st : Int} (h : Ok s) (hk : k < s.ts.length) (hs : st = 3 ∨ st = 4) : Ok (leaveM s k st) := by
  refine (leave_okx h (.inl rfl) hk (st := st) (by omega)).nowhere ?_
  rw [leaveM_th hk]; simpa using hs
theorem leaveM_run {s : St} {k c : Nat} {st : Int} (hc : (thOf s.ts (k : Int)).cpu = c) : (leaveM s k st).qs = s.qs.set c ⟨if (quOf s.qs c).run = k then -1 else (quOf s.qs c).run, if (quOf s.qs c).run = k then 0 else (quOf s.qs c).left, (quOf s.qs c).ready.erase (k : Int)⟩ := by
  simp [leaveM, hc]
theorem toRun_ok {s : St} {k c : Nat} (h : Ok s) (hk : k < s.ts.length) (hc : (thOf s.ts (k : Int)).cpu = c) (hr : (quOf s.qs c).run = -1 ∨ (quOf s.qs c).run = k) : Ok (toRunM s k) := by
  have h1 := leave_okx h (.inl rfl) hk (st := 2) (by omega)
  have hk1 : k < (leaveM s k 2).ts.length := by simpa [leaveM] using hk
  have hcl : c < s.qs.length := by obtain ⟨d, h1, h2⟩ := h.cpu hk; omega
  have e := leaveM_th (st := 2) hk (k : Int)
  simp only [Int.toNat_natCast, if_true] at e
  have hqs := leaveM_run (st := 2) hc
  have hq0 : (quOf (leaveM s k 2).qs (c : Int)).run = -1 := by
    rw [hqs, quOf_set _ _ _ _ hcl, if_pos rfl]
    simp only []
    rcases hr with hr | hr
    · rw [hr]; split <;> rfl
    · rw [if_pos hr]
  generalize hs1 : leaveM s k 2 = s1 at *
  have hc1 : (thOf s1.ts (k : Int)).cpu = c := by rw [e]; exact hc
  have hst : (thOf s1.ts (k : Int)).st = 2 := by rw [e]
  have hcl1 : c < s1.qs.length := by rw [hqs]; simpa using hcl
  have ht := th_some hk1
  have hu := qu_some hcl1
  have eR : toRunM s k = { s1 with qs := s1.qs.set c { (quOf s1.qs (c : Int)) with run := k, left := s1.q } } := by
    simp [toRunM, hs1, hc1]
  rw [eR]
  generalize hT : thOf s1.ts (k : Int) = t at *
  generalize hU : quOf s1.qs (c : Int) = u at *
  refine ⟨by simpa using h1.n1, by simpa using h1.n2, by simpa using h1.m2, h1.q1, h1.q2, ?_, ?_, ?_, ?_, ?_, ?_, ?_, ?_⟩
  · intro j y hj
    have := h1.th _ _ hj; simp only [List.length_set]; omega
  · intro j y hj hy2 _
    have h2 := h1.th _ _ hj
    obtain ⟨d, hd⟩ : ∃ d : Nat, y.cpu = d := ⟨y.cpu.toNat, by omega⟩
    rw [hd]
    simp only []
    rw [quOf_set _ _ _ _ hcl1]
    by_cases hjk : j = k
    · subst hjk; rw [ht] at hj; cases hj
      have : c = d := by omega
      rw [if_pos this]
    · have h3 := h1.rn j y hj hy2 (by simpa using fun e => hjk e.symm)
      rw [hd] at h3
      split
      · rename_i hcd; subst hcd; rw [hU, hq0] at h3; omega
      · exact h3
  · intro d y hj hr
    rcases get_set hj with ⟨rfl, rfl, _⟩ | ⟨_, hj⟩
    · simp only [] at hr; omega
    · exact h1.qi _ _ hj hr
  · intro d y hj hr
    rcases get_set hj with ⟨rfl, rfl, _⟩ | ⟨_, hj⟩
    · have hq1 := h1.q1
      exact ⟨k, rfl, by simp, by simp only []; omega, by simp only []; omega, t, ht, hc1, hst⟩
    · obtain ⟨j, h2, _, h3⟩ := h1.qr _ _ hj hr; exact ⟨j, h2, by simp, h3⟩
  · intro d y hj
    rcases get_set hj with ⟨rfl, rfl, _⟩ | ⟨_, hj⟩
    · exact h1.nd c u hu
    · exact h1.nd _ _ hj
  · intro d y hj r hr
    rcases get_set hj with ⟨rfl, rfl, _⟩ | ⟨_, hj⟩
    · obtain ⟨j, h2, _, h3⟩ := h1.rd _ _ hu _ hr; exact ⟨j, h2, by simp, h3⟩
    · obtain ⟨j, h2, _, h3⟩ := h1.rd _ _ hj _ hr; exact ⟨j, h2, by simp, h3⟩
  · intro j y hj hy1 _
    have hjk : j ≠ k := by rintro rfl; rw [ht] at hj; cases hj; omega
    have h2 := h1.th _ _ hj
    obtain ⟨d, hd⟩ : ∃ d : Nat, y.cpu = d := ⟨y.cpu.toNat, by omega⟩
    have h3 := h1.dr j y hj hy1 (by simpa using fun e => hjk e.symm)
    rw [hd] at h3 ⊢
    simp only []
    rw [quOf_set _ _ _ _ hcl1]
    split
    · rename_i hcd; subst hcd; rw [hU] at h3; exact h3
    · exact h3
  · intro d y hj
    rcases get_set hj with ⟨rfl, rfl, _⟩ | ⟨_, hj⟩
    · exact h1.so c u hu
    · exact h1.so _ _ hj
theorem setLeft_ok {s : St} {c : Nat} {l : Int} (h : Ok s) (hc : c < s.qs.length) (hl : 0 ≤ l ∧ l ≤ s.q) (hr : (quOf s.qs (c : Int)).run = -1 → l = 0) : Ok (setLeft s c l) := by
  have hu := qu_some hc
  unfold setLeft
  generalize quOf s.qs (c : Int) = u at *
  refine ⟨by simpa using h.n1, by simpa using h.n2, by simpa using h.m2, h.q1, h.q2, ?_, ?_, ?_, ?_, ?_, ?_, ?_, ?_⟩
  · intro j y hj
    have := h.th _ _ hj; simp only [List.length_set]; omega
  · intro j y hj hy2 hne
    have h1 := h.rn j y hj hy2 hne
    have h2 := h.th _ _ hj
    obtain ⟨d, hd⟩ : ∃ d : Nat, y.cpu = d := ⟨y.cpu.toNat, by omega⟩
    rw [hd] at h1 ⊢
    simp only []
    rw [quOf_set _ _ _ _ hc]
    split
    · rename_i hcd; subst hcd; rw [quOf_of hu] at h1; exact h1
    · exact h1
  · intro d y hj hy
    rcases get_set hj with ⟨rfl, rfl, _⟩ | ⟨_, hj⟩
    · exact hr hy
    · exact h.qi _ _ hj hy
  · intro d y hj hy
    rcases get_set hj with ⟨rfl, rfl, _⟩ | ⟨_, hj⟩
    · obtain ⟨j, h1, h2, _, _, h3⟩ := h.qr c u hu hy; exact ⟨j, h1, h2, hl.1, hl.2, h3⟩
    · exact h.qr _ _ hj hy
  · intro d y hj
    rcases get_set hj with ⟨rfl, rfl, _⟩ | ⟨_, hj⟩
    · exact h.nd c u hu
    · exact h.nd _ _ hj
  · intro d y hj r hm
    rcases get_set hj with ⟨rfl, rfl, _⟩ | ⟨_, hj⟩
    · exact h.rd c u hu r hm
    · exact h.rd _ _ hj r hm
  · intro j y hj hy1 hne
    have h2 := h.th _ _ hj
    have h3 := h.dr j y hj hy1 hne
    obtain ⟨d, hd⟩ : ∃ d : Nat, y.cpu = d := ⟨y.cpu.toNat, by omega⟩
    rw [hd] at h3 ⊢
    simp only []
    rw [quOf_set _ _ _ _ hc]
    split
    · rename_i hcd; subst hcd; rw [quOf_of hu] at h3; exact h3
    · exact h3
  · intro d y hj
    rcases get_set hj with ⟨rfl, rfl, _⟩ | ⟨_, hj⟩
    · exact h.so c u hu
    · exact h.so _ _ hj
/-- Left of a processor of a valid state. -/
theorem OkX.left {x : Option Nat} {s : St} (h : OkX x s) {c : Nat} (hc : c < s.qs.length) : 0 ≤ (quOf s.qs (c : Int)).left ∧ (quOf s.qs (c : Int)).left ≤ s.q ∧ ((quOf s.qs (c : Int)).run = -1 → (quOf s.qs (c : Int)).left = 0) := by
  have hu := qu_some hc
  have hq := h.q1
  by_cases hr : (quOf s.qs (c : Int)).run = -1
  · have := h.qi _ _ hu hr; omega
  · obtain ⟨_, _, _, h1, h2, _⟩ := h.qr _ _ hu hr; omega
theorem tick_ok {s : St} {c : Nat} (h : Ok s) (hc : c < s.qs.length) : Ok (tickM s c) := by
  obtain ⟨h1, h2, h3⟩ := h.left hc
  exact setLeft_ok h hc (by have := h.q1; omega) (fun e => by have := h3 e; omega)
theorem yield_ok {s : St} {c : Nat} (h : Ok s) (hc : c < s.qs.length) : Ok (yieldM s c) := setLeft_ok h hc (by have := h.q1; omega) (fun _ => rfl)
theorem leaveM_q (s : St) (k : Nat) (st : Int) : (leaveM s k st).q = s.q := rfl
theorem leaveM_n (s : St) (k : Nat) (st : Int) : (leaveM s k st).qs.length = s.qs.length := by simp [leaveM]
theorem leaveM_m (s : St) (k : Nat) (st : Int) : (leaveM s k st).ts.length = s.ts.length := by simp [leaveM]
theorem enterM_n (s : St) (k : Nat) (p) : (enterM s k p).qs.length = s.qs.length := by simp [enterM, leaveM_n]
theorem enterM_m (s : St) (k : Nat) (p) : (enterM s k p).ts.length = s.ts.length := by simp [enterM, leaveM_m]
theorem toRunM_n (s : St) (k : Nat) : (toRunM s k).qs.length = s.qs.length := by simp [toRunM, leaveM_n]
theorem toRunM_m (s : St) (k : Nat) : (toRunM s k).ts.length = s.ts.length := by simp [toRunM, leaveM_m]
/-- The processors behind an entry. -/
theorem enterM_qu {s : St} {k c : Nat} (p) (hk : k < s.ts.length) (hc : (thOf s.ts (k : Int)).cpu = c) (hcl : c < s.qs.length) (d : Nat) :
    quOf (enterM s k p).qs d = if c = d then ⟨if (quOf s.qs c).run = k then -1 else (quOf s.qs c).run, if (quOf s.qs c).run = k then 0 else (quOf s.qs c).left, insM ((quOf s.qs c).ready.erase (k : Int)) k (p (leaveM s k 1).ts)⟩ else quOf s.qs d := by
  have e := leaveM_th (st := 1) hk (k : Int)
  simp only [Int.toNat_natCast, if_true] at e
  simp only [enterM, e, hc, Int.toNat_natCast]
  rw [quOf_set _ _ _ _ (by rw [leaveM_n]; exact hcl), leaveM_run hc]
  split
  · rw [quOf_set _ _ _ _ hcl, if_pos rfl]
  · rename_i h; rw [quOf_set _ _ _ _ hcl, if_neg h]
theorem enterM_th {s : St} {k : Nat} (p) (hk : k < s.ts.length) (r : Int) : thOf (enterM s k p).ts r = if k = r.toNat then { (thOf s.ts (k : Int)) with st := 1 } else thOf s.ts r := leaveM_th hk r
/-- The queue of a processor that is put back: not empty. -/
theorem insM_ne (l : List Int) (k : Int) (p) : insM l k p ≠ [] := by simp [insM]
/-- The state ahead of the run, in a dispatch. -/
theorem disp_mid {s : St} {c : Nat} (h : Ok s) (hc : c < s.qs.length) (hne : (quOf s.qs (c : Int)).ready ≠ []) :
    ∃ s1 : St, dispM s c = toRunM s1 ((quOf s1.qs c).ready.headD 0).toNat ∧ Ok s1 ∧ s1.qs.length = s.qs.length ∧ s1.ts.length = s.ts.length ∧ s1.q = s.q ∧ (quOf s1.qs c).run = -1 ∧ (quOf s1.qs c).ready ≠ [] ∧
      s1 = (if (quOf s.qs c).run = -1 then s else if (quOf s.qs c).left = 0 then toEndM s (quOf s.qs c).run.toNat else toFrontM s (quOf s.qs c).run.toNat) := by
  refine ⟨_, rfl, ?_⟩
  by_cases hr : (quOf s.qs (c : Int)).run = -1
  · rw [if_pos hr]; exact ⟨h, rfl, rfl, rfl, hr, hne, rfl⟩
  · rw [if_neg hr]
    obtain ⟨k, h1, _, _, _, t, h2, h3, _⟩ := h.qr _ _ (qu_some hc) hr
    have hk : k < s.ts.length := (List.getElem?_eq_some_iff.1 h2).1
    have hcc : (thOf s.ts (k : Int)).cpu = c := by rw [thOf_of h2]; exact h3
    have ek : (quOf s.qs (c : Int)).run.toNat = k := by omega
    rw [ek]
    have key : ∀ p, (p = endP k ∨ p = frontP k) → Ok (enterM s k p) ∧ (enterM s k p).qs.length = s.qs.length ∧ (enterM s k p).ts.length = s.ts.length ∧ (enterM s k p).q = s.q ∧ (quOf (enterM s k p).qs c).run = -1 ∧ (quOf (enterM s k p).qs c).ready ≠ [] := by
      intro p hp
      refine ⟨enter_ok h (.inl rfl) hk p hp, enterM_n _ _ _, enterM_m _ _ _, rfl, ?_, ?_⟩
      · rw [enterM_qu p hk hcc hc, if_pos rfl]; simp only []; rw [if_pos h1]
      · rw [enterM_qu p hk hcc hc, if_pos rfl]; exact insM_ne _ _ _
    split
    · obtain ⟨a1, a2, a3, a4, a5, a6⟩ := key _ (.inl rfl); exact ⟨a1, a2, a3, a4, a5, a6, rfl⟩
    · obtain ⟨a1, a2, a3, a4, a5, a6⟩ := key _ (.inr rfl); exact ⟨a1, a2, a3, a4, a5, a6, rfl⟩
/-- The first of a queue that is not empty. -/
theorem OkX.head {s : St} (h : Ok s) {c : Nat} (hc : c < s.qs.length) (hne : (quOf s.qs (c : Int)).ready ≠ []) :
    ∃ (k : Nat) (l : List Int), (quOf s.qs (c : Int)).ready = (k : Int) :: l ∧ k < s.ts.length ∧ (thOf s.ts (k : Int)).cpu = c ∧ (thOf s.ts (k : Int)).st = 1 := by
  obtain ⟨r, l, e⟩ : ∃ r l, (quOf s.qs (c : Int)).ready = r :: l := by
    cases hq : (quOf s.qs (c : Int)).ready with
    | nil => exact absurd hq hne
    | cons r l => exact ⟨r, l, rfl⟩
  obtain ⟨k, h1, _, t, h2, h3, h4⟩ := h.rd _ _ (qu_some hc) r (by rw [e]; simp)
  subst h1
  exact ⟨k, l, e, (List.getElem?_eq_some_iff.1 h2).1, by rw [thOf_of h2]; exact h3, by rw [thOf_of h2]; exact h4⟩
theorem disp_ok {s : St} {c : Nat} (h : Ok s) (hc : c < s.qs.length) (hne : (quOf s.qs (c : Int)).ready ≠ []) : Ok (dispM s c) := by
  obtain ⟨s1, e, h1, h2, h3, h4, h5, h6, _⟩ := disp_mid h hc hne
  rw [e]
  obtain ⟨k, l, g1, g2, g3, _⟩ := h1.head (by omega) h6
  rw [g1]; simp only [List.headD_cons, Int.toNat_natCast]
  exact toRun_ok h1 g2 g3 (.inl h5)
theorem due_ne {s : St} {c : Nat} (h : dueM s c = true) : (quOf s.qs (c : Int)).ready ≠ [] := by
  intro e; simp [dueM, e] at h
theorem switch_ok {s : St} {c : Nat} (h : Ok s) (hc : c < s.qs.length) : Ok (switchM s c) := by
  unfold switchM
  split
  · rename_i hd; exact disp_ok h hc (due_ne hd)
  · split
    · rename_i hr; exact setLeft_ok h hc (by have := h.q1; omega) (fun e => absurd e hr.1)
    · exact h
theorem OkX.setTh {s : St} {k : Nat} {t : Th} (h : OkX (some k) s) (hk : k < s.ts.length) (ht : 0 ≤ t.pri ∧ t.pri ≤ 7 ∧ 0 ≤ t.cpu ∧ t.cpu < s.qs.length ∧ 1 ≤ t.st ∧ t.st ≤ 4) : OkX (some k) { s with ts := s.ts.set k t } := by
  refine ⟨h.n1, h.n2, by simpa using h.m2, h.q1, h.q2, ?_, ?_, h.qi, ?_, h.nd, ?_, ?_, ?_⟩
  · intro j y hj
    rcases get_set hj with ⟨rfl, rfl, _⟩ | ⟨_, hj⟩
    · exact ht
    · exact h.th _ _ hj
  · intro j y hj hy hne
    rcases get_set hj with ⟨rfl, rfl, _⟩ | ⟨_, hj⟩
    · exact absurd rfl hne
    · exact h.rn _ _ hj hy hne
  · intro c u hu hr
    obtain ⟨j, h1, h2, h3, h4, y, h5, h6⟩ := h.qr _ _ hu hr
    exact ⟨j, h1, h2, h3, h4, y, by rw [List.getElem?_set_ne (fun e => h2 (by rw [e]))]; exact h5, h6⟩
  · intro c u hu r hr
    obtain ⟨j, h1, h2, y, h5, h6⟩ := h.rd _ _ hu r hr
    exact ⟨j, h1, h2, y, by rw [List.getElem?_set_ne (fun e => h2 (by rw [e]))]; exact h5, h6⟩
  · intro j y hj hy hne
    rcases get_set hj with ⟨rfl, rfl, _⟩ | ⟨_, hj⟩
    · exact absurd rfl hne
    · exact h.dr _ _ hj hy hne
  · intro c u hu
    refine (h.so _ _ hu).imp_of_mem ?_
    intro a b ha hb hab
    obtain ⟨i, h1, h2, _⟩ := h.rd _ _ hu a ha
    obtain ⟨j, h3, h4, _⟩ := h.rd _ _ hu b hb
    simp only []
    rw [thOf_set _ _ _ _ hk, thOf_set _ _ _ _ hk, if_neg (fun e => h4 (by rw [e, h3]; simp)), if_neg (fun e => h2 (by rw [e, h1]; simp))]
    exact hab
theorem add_ok {s : St} {c : Nat} {pri : Int} (h : Ok s) (hc : c < s.qs.length) (hm : s.ts.length < 16) (hp : 0 ≤ pri ∧ pri ≤ 7) : Ok (addM s pri c) := by
  have hx : OkX (some s.ts.length) { s with ts := s.ts ++ [⟨pri, c, 1⟩] } := by
    have old : ∀ (j : Nat) (y : Th), (s.ts ++ [⟨pri, c, 1⟩])[j]? = some y → (j = s.ts.length ∧ y = ⟨pri, c, 1⟩) ∨ (j < s.ts.length ∧ s.ts[j]? = some y) := by
      intro j y hj
      rcases Nat.lt_or_ge j s.ts.length with hl | hl
      · right; rw [List.getElem?_append_left hl] at hj; exact ⟨hl, hj⟩
      · left; rw [List.getElem?_append_right hl] at hj
        have : j - s.ts.length = 0 := by
          have := (List.getElem?_eq_some_iff.1 hj).1; simp at this; omega
        rw [this] at hj
        refine ⟨by omega, by simpa using hj.symm⟩
    have new : ∀ (j : Nat) (y : Th), s.ts[j]? = some y → (s.ts ++ [⟨pri, c, 1⟩])[j]? = some y := by
      intro j y hj
      rw [List.getElem?_append_left (List.getElem?_eq_some_iff.1 hj).1]; exact hj
    refine ⟨h.n1, h.n2, by simp; omega, h.q1, h.q2, ?_, ?_, h.qi, ?_, h.nd, ?_, ?_, ?_⟩
    · intro j y hj
      rcases old j y hj with ⟨_, rfl⟩ | ⟨_, hj⟩
      · simp only []; omega
      · exact h.th _ _ hj
    · intro j y hj hy hne
      rcases old j y hj with ⟨rfl, _⟩ | ⟨_, hj⟩
      · exact absurd rfl hne
      · exact h.rn _ _ hj hy (by simp)
    · intro d u hu hr
      obtain ⟨j, h1, _, h3, h4, y, h5, h6⟩ := h.qr _ _ hu hr
      have := (List.getElem?_eq_some_iff.1 h5).1
      exact ⟨j, h1, by simp; omega, h3, h4, y, new _ _ h5, h6⟩
    · intro d u hu r hr
      obtain ⟨j, h1, _, y, h5, h6⟩ := h.rd _ _ hu r hr
      have := (List.getElem?_eq_some_iff.1 h5).1
      exact ⟨j, h1, by simp; omega, y, new _ _ h5, h6⟩
    · intro j y hj hy hne
      rcases old j y hj with ⟨rfl, _⟩ | ⟨_, hj⟩
      · exact absurd rfl hne
      · exact h.dr _ _ hj hy (by simp)
    · intro d u hu
      refine (h.so _ _ hu).imp_of_mem ?_
      intro a b ha hb hab
      obtain ⟨i, h1, _, y, h2, _⟩ := h.rd _ _ hu a ha
      obtain ⟨j, h3, _, z, h4, _⟩ := h.rd _ _ hu b hb
      subst h1 h3
      simp only []
      rw [thOf_of (new _ _ h2), thOf_of (new _ _ h4)]
      rw [thOf_of h2, thOf_of h4] at hab
      exact hab
  exact toEnd_ok hx (.inr rfl) (by simp)
theorem leave_pri {s : St} {k : Nat} {st pri : Int} (hk : k < s.ts.length) :
    leaveM { s with ts := s.ts.set k { (thOf s.ts k) with pri := pri } } k st = { (leaveM s k st) with ts := (leaveM s k st).ts.set k { (thOf (leaveM s k st).ts k) with pri := pri } } := by
  have e := leaveM_th (st := st) hk (k : Int)
  simp only [Int.toNat_natCast, if_true] at e
  have e2 := thOf_set s.ts k (k : Int) { (thOf s.ts k) with pri := pri } hk
  simp only [Int.toNat_natCast, if_true] at e2
  rw [e]
  simp [leaveM, e2]
theorem setPri_ok {s : St} {k : Nat} {pri : Int} (h : Ok s) (hk : k < s.ts.length) (hp : 0 ≤ pri ∧ pri ≤ 7) : Ok (setPriM s k pri) := by
  have hb := h.th _ _ (th_some hk)
  unfold setPriM
  split
  · have h1 := leave_okx h (.inl rfl) hk (st := 1) (by omega)
    have hk1 : k < (leaveM s k 1).ts.length := by rw [leaveM_m]; exact hk
    have hb1 := h1.th _ _ (th_some hk1)
    have h2 := h1.setTh (t := { (thOf (leaveM s k 1).ts k) with pri := pri }) hk1 (by simp only []; omega)
    rw [← leave_pri hk] at h2
    have hk2 : k < ({ s with ts := s.ts.set k { (thOf s.ts k) with pri := pri } } : St).ts.length := by simpa using hk
    generalize ({ s with ts := s.ts.set k { (thOf s.ts k) with pri := pri } } : St) = s2 at *
    -- the entry leaves first, and what it leaves is valid but for k
    have e := leaveM_th (st := 1) hk2 (k : Int)
    simp only [Int.toNat_natCast, if_true] at e
    have hk3 : k < (leaveM s2 k 1).ts.length := by rw [leaveM_m]; exact hk2
    obtain ⟨c, hc, _⟩ := h2.cpu hk3
    have := ins_ok (p := endP k (leaveM s2 k 1).ts) h2 hk3 hc (by rw [e]) (by
      intro r hr; simpa [endP] using hr) (by
      intro r hr
      have : (thOf (leaveM s2 k 1).ts r).pri < (thOf (leaveM s2 k 1).ts ↑k).pri := by simpa [endP] using hr
      omega)
    simpa [toEndM, enterM, hc] using this
  · rename_i hne
    have hdis : ∀ (j : Nat), thOf (s.ts.set k { (thOf s.ts k) with pri := pri }) j = if k = j then { (thOf s.ts k) with pri := pri } else thOf s.ts j := by
      intro j; have := thOf_set s.ts k (j : Int) { (thOf s.ts k) with pri := pri } hk; simpa using this
    refine ⟨h.n1, h.n2, by simpa using h.m2, h.q1, h.q2, ?_, ?_, h.qi, ?_, h.nd, ?_, ?_, ?_⟩
    · intro j y hj
      rcases get_set hj with ⟨rfl, rfl, _⟩ | ⟨_, hj⟩
      · simp only []; omega
      · exact h.th _ _ hj
    · intro j y hj hy hn
      rcases get_set hj with ⟨rfl, rfl, _⟩ | ⟨_, hj⟩
      · exact h.rn k (thOf s.ts (k : Int)) (th_some hk) hy hn
      · exact h.rn _ _ hj hy hn
    · intro d u hu hr
      obtain ⟨j, h1, h2, h3, h4, y, h5, h6, h7⟩ := h.qr _ _ hu hr
      by_cases hjk : k = j
      · subst hjk; rw [th_some hk] at h5; cases h5
        exact ⟨k, h1, h2, h3, h4, _, List.getElem?_set_self hk, h6, h7⟩
      · exact ⟨j, h1, h2, h3, h4, y, by rw [List.getElem?_set_ne hjk]; exact h5, h6, h7⟩
    · intro d u hu r hr
      obtain ⟨j, h1, h2, y, h5, h6, h7⟩ := h.rd _ _ hu r hr
      have hjk : k ≠ j := by
        rintro rfl; rw [th_some hk] at h5; cases h5; exact hne h7
      exact ⟨j, h1, h2, y, by rw [List.getElem?_set_ne hjk]; exact h5, h6, h7⟩
    · intro j y hj hy hn
      rcases get_set hj with ⟨rfl, rfl, _⟩ | ⟨_, hj⟩
      · exact absurd hy hne
      · exact h.dr _ _ hj hy hn
    · intro d u hu
      refine (h.so _ _ hu).imp_of_mem ?_
      intro a b ha hb hab
      obtain ⟨i, h1, _, y, h2, _, h2'⟩ := h.rd _ _ hu a ha
      obtain ⟨j, h3, _, z, h4, _, h4'⟩ := h.rd _ _ hu b hb
      subst h1 h3
      have hi : k ≠ i := by rintro rfl; rw [th_some hk] at h2; cases h2; exact hne h2'
      have hj : k ≠ j := by rintro rfl; rw [th_some hk] at h4; cases h4; exact hne h4'
      simp only []
      rw [hdis, hdis, if_neg hi, if_neg hj]
      exact hab
end Go.Proofs.Ytggikbcgijmhbaa
