/- WHAT IS PROVED: stealing, in lists: it keeps a valid state valid, and after a round of it no processor is without threads beside one with two. CONDITIONS: none; no program stands here. -/
import Derived.Test.YtggikbcgijmhbaaPu
namespace Go.Proofs.Ytggikbcgijmhbaa
/-- How many threads a processor has. -/
def nThP (u : Qu) : Int := if u.run = -1 then u.ready.length else u.ready.length + 1
def mxP (qs : List Qu) : Nat → Nat
  | 0 => 0
  | k + 1 => if nThP (quOf qs ((mxP qs k : Nat) : Int)) < nThP (quOf qs ((k + 1 : Nat) : Int)) then k + 1 else mxP qs k
theorem mxP_le (qs : List Qu) : ∀ k, mxP qs k ≤ k
  | 0 => Nat.le_refl _
  | k + 1 => by have := mxP_le qs k; simp only [mxP]; split <;> omega
theorem mxP_max (qs : List Qu) : ∀ k j : Nat, j ≤ k → nThP (quOf qs (j : Int)) ≤ nThP (quOf qs ((mxP qs k : Nat) : Int))
  | 0, j, h => by obtain rfl : j = 0 := by omega
                  exact Int.le_refl _
  | k + 1, j, h => by
    simp only [mxP]
    split
    · rename_i hlt
      rcases Nat.lt_or_ge j (k + 1) with h1 | h1
      · have := mxP_max qs k j (by omega); omega
      · obtain rfl : j = k + 1 := by omega
        exact Int.le_refl _
    · rename_i hlt
      rcases Nat.lt_or_ge j (k + 1) with h1 | h1
      · exact mxP_max qs k j (by omega)
      · obtain rfl : j = k + 1 := by omega
        omega
def stealsP (s : St) (c f : Nat) : Prop := nThP (quOf s.qs (c : Int)) = 0 ∧ 2 ≤ nThP (quOf s.qs (f : Int))
/-- A thread that another processor takes: the processors. -/
theorem toProc_qu {s : St} (h : Ok s) {j c f : Nat} (hj : j < s.ts.length) (hc : c < s.qs.length) (hf : (thOf s.ts (j : Int)).cpu = f) (hst : (thOf s.ts (j : Int)).st = 1) (hcf : c ≠ f) (d : Nat) :
    ∃ l : List Int, l.length = (quOf s.qs (c : Int)).ready.length + 1 ∧ quOf (toProcM s j c).qs d = if c = d then ⟨(quOf s.qs (c : Int)).run, (quOf s.qs (c : Int)).left, l⟩ else if f = d then { (quOf s.qs (f : Int)) with ready := (quOf s.qs (f : Int)).ready.erase (j : Int) } else quOf s.qs d := by
  have hfl : f < s.qs.length := by obtain ⟨d, h1, h2⟩ := h.cpu hj; omega
  have hj1 : j < (leaveM s j 1).ts.length := by rw [leaveM_m]; exact hj
  have hrun : ∀ d, d < s.qs.length → (quOf s.qs (d : Int)).run ≠ (j : Int) := by
    intro d hd e
    obtain ⟨k, h1, h2, _, h3, _⟩ := run_thr h hd (by rw [e]; omega)
    obtain rfl : j = k := by omega
    rw [hst] at h3; omega
  have hnot : (j : Int) ∉ (quOf s.qs (c : Int)).ready := by
    intro hm
    obtain ⟨k, h1, _, t, h2, h3, _⟩ := h.rd _ _ (qu_some hc) _ hm
    obtain rfl : j = k := by omega
    rw [thOf_of h2] at hf; omega
  have hs1 : ∀ d : Nat, quOf (leaveM s j 1).qs d = if f = d then { (quOf s.qs (f : Int)) with ready := (quOf s.qs (f : Int)).ready.erase (j : Int) } else quOf s.qs d := by
    intro d
    rw [leaveM_run hf, quOf_set _ _ _ _ hfl, if_neg (hrun f hfl), if_neg (hrun f hfl)]
  generalize hS : ({ (leaveM s j 1) with ts := (leaveM s j 1).ts.set j { (thOf (leaveM s j 1).ts j) with cpu := (c : Int) } } : St) = s2
  have hq2 : s2.qs = (leaveM s j 1).qs := by rw [← hS]
  have ht2 : s2.ts = (leaveM s j 1).ts.set j { (thOf (leaveM s j 1).ts j) with cpu := (c : Int) } := by rw [← hS]
  have hj2 : j < s2.ts.length := by rw [ht2]; simpa using hj1
  have hc2 : (thOf s2.ts (j : Int)).cpu = c := by rw [ht2, thOf_set_self _ _ _ hj1]
  have hcl2 : c < s2.qs.length := by rw [hq2, leaveM_n]; exact hc
  have hs2c : quOf s2.qs (c : Int) = quOf s.qs (c : Int) := by rw [hq2, hs1, if_neg (fun e => hcf e.symm)]
  have e : toProcM s j c = enterM s2 j (endP j) := by rw [← hS]; rfl
  rw [e, enterM_qu _ hj2 hc2 hcl2]
  refine ⟨insM (quOf s.qs (c : Int)).ready j (endP j (leaveM s2 j 1).ts), ?_, ?_⟩
  · have := congrArg List.length (List.takeWhile_append_dropWhile (p := endP j (leaveM s2 j 1).ts) (l := (quOf s.qs (c : Int)).ready))
    simp only [insM, List.length_append, List.length_cons] at this ⊢
    omega
  · rw [hs2c, if_neg (hrun c hc), if_neg (hrun c hc), List.erase_of_not_mem hnot]
    split
    · rfl
    · rw [hq2, hs1]
theorem toProc_ok {s : St} (h : Ok s) {j c : Nat} (hj : j < s.ts.length) (hc : c < s.qs.length) : Ok (toProcM s j c) := by
  have h1 := leave_okx h (.inl rfl) hj (st := 1) (by omega)
  have hj1 : j < (leaveM s j 1).ts.length := by rw [leaveM_m]; exact hj
  have hb1 := h1.th _ _ (th_some hj1)
  have h2 := h1.setTh (t := { (thOf (leaveM s j 1).ts j) with cpu := (c : Int) }) hj1 (by
    have : (leaveM s j 1).qs.length = s.qs.length := leaveM_n _ _ _
    simp only []; omega)
  exact toEnd_ok h2 (.inr rfl) (by simpa using hj1)
theorem toProc_n (s : St) (j : Nat) (c : Int) : (toProcM s j c).qs.length = s.qs.length := by
  show (enterM _ j (endP j)).qs.length = _
  rw [enterM_n]; exact leaveM_n s j 1
theorem toProc_m (s : St) (j : Nat) (c : Int) : (toProcM s j c).ts.length = s.ts.length := by
  show (enterM _ j (endP j)).ts.length = _
  rw [enterM_m]; simp [leaveM_m]
/-- Stealing. -/
def stealM (s : St) (c : Nat) : St :=
  let f := mxP s.qs (s.qs.length - 1)
  if nThP (quOf s.qs (c : Int)) = 0 ∧ 2 ≤ nThP (quOf s.qs (f : Int)) then toProcM s ((quOf s.qs (f : Int)).ready.headD 0).toNat c else s
def stealN (s : St) (c : Nat) : Int :=
  let f := mxP s.qs (s.qs.length - 1)
  if nThP (quOf s.qs (c : Int)) = 0 ∧ 2 ≤ nThP (quOf s.qs (f : Int)) then (quOf s.qs (f : Int)).ready.headD 0 else -1
theorem fullest_head {s : St} (h : Ok s) (h2 : 2 ≤ nThP (quOf s.qs ((mxP s.qs (s.qs.length - 1) : Nat) : Int))) :
    ∃ (j : Nat) (l : List Int), (quOf s.qs ((mxP s.qs (s.qs.length - 1) : Nat) : Int)).ready = (j : Int) :: l ∧ j < s.ts.length ∧ (thOf s.ts (j : Int)).cpu = (mxP s.qs (s.qs.length - 1) : Nat) ∧ (thOf s.ts (j : Int)).st = 1 := by
  have hn := h.n1
  have hle := mxP_le s.qs (s.qs.length - 1)
  refine h.head (by omega) ?_
  intro e
  unfold nThP at h2
  rw [e] at h2
  simp at h2
  split at h2 <;> omega
theorem steal_ok {s : St} (h : Ok s) {c : Nat} (hc : c < s.qs.length) : Ok (stealM s c) := by
  unfold stealM
  simp only []
  split
  · rename_i hh
    obtain ⟨j, l, e, hj, _, _⟩ := fullest_head h hh.2
    rw [e]
    exact toProc_ok h hj hc
  · exact h
theorem steal_n (s : St) (c : Nat) : (stealM s c).qs.length = s.qs.length := by
  unfold stealM; simp only []; split
  · exact toProc_n _ _ _
  · rfl
theorem steal_m (s : St) (c : Nat) : (stealM s c).ts.length = s.ts.length := by
  unfold stealM; simp only []; split
  · exact toProc_m _ _ _
  · rfl
theorem steal_q (s : St) (c : Nat) : (stealM s c).q = s.q := by
  unfold stealM; simp only []; split <;> rfl
/-- No processor below m is without threads while another one has two. -/
def Fed (s : St) (m : Nat) : Prop := ∀ c, c < m → nThP (quOf s.qs (c : Int)) = 0 → ∀ d, d < s.qs.length → nThP (quOf s.qs (d : Int)) ≤ 1
theorem steal_fed {s : St} (h : Ok s) {c : Nat} (hc : c < s.qs.length) (hf : Fed s c) : Fed (stealM s c) (c + 1) := by
  have hn := h.n1
  unfold stealM
  simp only []
  have hmax : ∀ d, d < s.qs.length → nThP (quOf s.qs (d : Int)) ≤ nThP (quOf s.qs ((mxP s.qs (s.qs.length - 1) : Nat) : Int)) := fun d hd => mxP_max s.qs (s.qs.length - 1) d (by omega)
  have hle := mxP_le s.qs (s.qs.length - 1)
  by_cases hh : nThP (quOf s.qs (c : Int)) = 0 ∧ 2 ≤ nThP (quOf s.qs ((mxP s.qs (s.qs.length - 1) : Nat) : Int))
  · rw [if_pos hh]
    obtain ⟨j, l, e, hj, hcpu, hst⟩ := fullest_head h hh.2
    rw [e]
    simp only [List.headD_cons, Int.toNat_natCast]
    generalize hfm : mxP s.qs (s.qs.length - 1) = f at *
    have hcf : c ≠ f := by rintro rfl; omega
    have key : ∀ d : Nat, nThP (quOf (toProcM s j c).qs (d : Int)) = if c = d then 1 else if f = d then nThP (quOf s.qs (f : Int)) - 1 else nThP (quOf s.qs (d : Int)) := by
      intro d
      obtain ⟨l2, hl2, e2⟩ := toProc_qu h hj hc hcpu hst hcf d
      rw [e2]
      split
      · have h0 := hh.1
        unfold nThP at h0 ⊢
        simp only [hl2]
        split at h0
        · rename_i hr; rw [if_pos hr]; omega
        · omega
      · split
        · unfold nThP
          simp only [e, List.erase_cons_head, List.length_cons]
          split <;> omega
        · rfl
    intro c' hc' h0 d hd
    rw [toProc_n] at hd
    rw [key] at h0
    split at h0
    · omega
    · rename_i h1
      split at h0
      · omega
      · have := hf c' (by omega) h0 f (by omega)
        omega
  · rw [if_neg hh]
    intro c' hc' h0 d hd
    rcases Nat.lt_or_ge c' c with h1 | h1
    · exact hf c' h1 h0 d hd
    · obtain rfl : c' = c := by omega
      have := hmax d hd
      by_cases h2 : 2 ≤ nThP (quOf s.qs ((mxP s.qs (s.qs.length - 1) : Nat) : Int))
      · exact absurd ⟨h0, h2⟩ hh
      · omega
/-- A switch leaves the other processors, and the number of threads. -/
theorem switch_qu {s : St} (h : Ok s) {c : Nat} (hc : c < s.qs.length) (d : Nat) (hd : c ≠ d) : quOf (switchM s c).qs (d : Int) = quOf s.qs (d : Int) := by
  unfold switchM
  split
  · rename_i hdue
    obtain ⟨s1, e, h1, h2, h3, h4, h5, h6, h7⟩ := disp_mid h hc (due_ne hdue)
    obtain ⟨k, l, g1, g2, g3, _⟩ := h1.head (by omega) h6
    rw [e, g1]
    simp only [List.headD_cons, Int.toNat_natCast]
    rw [toRunM_qu g2 g3 (by omega), if_neg hd, h7]
    split
    · rfl
    · rename_i hr
      obtain ⟨k', e', hk', hc', _⟩ := run_thr h hc hr
      rw [e']
      simp only [Int.toNat_natCast]
      split
      · unfold toEndM; rw [enterM_qu _ hk' hc' hc, if_neg hd]
      · unfold toFrontM; rw [enterM_qu _ hk' hc' hc, if_neg hd]
  · split
    · simp only [setLeft]; rw [quOf_set _ _ _ _ hc, if_neg hd]
    · rfl
theorem insM_len (l : List Int) (k : Int) (p : Int → Bool) : (insM l k p).length = l.length + 1 := by
  have := congrArg List.length (List.takeWhile_append_dropWhile (p := p) (l := l))
  simp only [insM, List.length_append, List.length_cons] at this ⊢
  omega
theorem switch_nTh {s : St} (h : Ok s) {c : Nat} (hc : c < s.qs.length) (d : Nat) : nThP (quOf (switchM s c).qs (d : Int)) = nThP (quOf s.qs (d : Int)) := by
  by_cases hd : c = d
  · subst hd
    unfold switchM
    split
    · rename_i hdue
      obtain ⟨s1, k, l, h1, h2, h3, h4, h5, h6, h7⟩ := disp_out h hc (due_ne hdue)
      rw [h5]
      have hl : (quOf s1.qs (c : Int)).ready.length = l.length + 1 := by rw [h2]; simp
      unfold nThP
      simp only []
      rw [if_neg (by omega)]
      by_cases hr : (quOf s.qs (c : Int)).run = -1
      · rw [if_pos hr]; rw [if_pos hr] at h7; subst h7; omega
      · rw [if_neg hr]; rw [if_neg hr] at h7
        obtain ⟨k', e', hk', hc', hs', _⟩ := run_thr h hc hr
        have hnot := erase_not h hc (k := k') (by rw [hs']; decide)
        rw [e'] at h7
        simp only [Int.toNat_natCast] at h7
        have key : ∀ p, s1 = enterM s k' p → (quOf s1.qs (c : Int)).ready.length = (quOf s.qs (c : Int)).ready.length + 1 := by
          intro p ep
          rw [ep, enterM_qu p hk' hc' hc, if_pos rfl]
          simp only []
          rw [insM_len, List.erase_of_not_mem hnot]
        have : (quOf s1.qs (c : Int)).ready.length = (quOf s.qs (c : Int)).ready.length + 1 := by
          split at h7
          · exact key _ h7
          · exact key _ h7
        omega
    · split
      · simp only [setLeft]; rw [quOf_set _ _ _ _ hc, if_pos rfl]; rfl
      · rfl
  · rw [switch_qu h hc d hd]
theorem switch_fed {s : St} (h : Ok s) {c m : Nat} (hc : c < s.qs.length) (hf : Fed s m) : Fed (switchM s c) m := by
  intro c' hc' h0 d hd
  rw [switch_nTh h hc] at h0
  rw [switch_nTh h hc]
  exact hf c' hc' h0 d (by rw [switchM_n] at hd; exact hd)
/-- The processors below m that are idle have no ready thread. -/
def Idl (s : St) (m : Nat) : Prop := ∀ c, c < m → (quOf s.qs (c : Int)).run = -1 → (quOf s.qs (c : Int)).ready = []
theorem switch_idl {s : St} (h : Ok s) {c : Nat} (hc : c < s.qs.length) (hi : Idl s c) : Idl (switchM s c) (c + 1) := by
  intro c' hc' hr
  by_cases e : c = c'
  · subst e; exact (high_ok h hc).2.1 hr
  · rw [switch_qu h hc c' e] at hr ⊢
    exact hi c' (by omega) hr
/-- Work conservation. -/
theorem works_ok {s : St} (hf : Fed s s.qs.length) (hi : Idl s s.qs.length) {c d : Nat} (hc : c < s.qs.length) (hd : d < s.qs.length) (hr : (quOf s.qs (c : Int)).run = -1) : (quOf s.qs (d : Int)).ready = [] := by
  have h0 := hi c hc hr
  have hn : nThP (quOf s.qs (c : Int)) = 0 := by unfold nThP; rw [if_pos hr, h0]; rfl
  have h1 := hf c hc hn d hd
  by_cases hr2 : (quOf s.qs (d : Int)).run = -1
  · exact hi d hd hr2
  · unfold nThP at h1
    rw [if_neg hr2] at h1
    exact List.eq_nil_of_length_eq_zero (by omega)
end Go.Proofs.Ytggikbcgijmhbaa
