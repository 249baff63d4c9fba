/- WHAT IS PROVED: how long a ready thread waits, in lists. CONDITIONS: none; no program stands here. -/
import Derived.Test.YtggikbcgijmhbaaPu
namespace Go.Proofs.Ytggikbcgijmhbaa
theorem insM_get (k : Int) (p : Int → Bool) : ∀ (l : List Int) (j : Nat), j < l.length → (∀ i y, i ≤ j → l[i]? = some y → p y = true) → ∀ i, i ≤ j → (insM l k p)[i]? = l[i]?
  | [], j, hj, _, _, _ => absurd hj (by simp)
  | x :: l, j, hj, hp, i, hi => by
    have hx : p x = true := hp 0 x (Nat.zero_le _) rfl
    have e : insM (x :: l) k p = x :: insM l k p := by simp [insM, hx]
    rw [e]
    cases i with
    | zero => rfl
    | succ i =>
      simp only [List.getElem?_cons_succ]
      cases j with
      | zero => omega
      | succ j => exact insM_get k p l j (by simpa using hj) (fun i y h1 h2 => hp (i + 1) y (by omega) (by simpa using h2)) i (by omega)
/-- A thread waits at the place j of its queue, behind threads of the priority P alone. -/
structure Wt (s : St) (c j : Nat) (thr P : Int) : Prop where
  ok : Ok s
  cl : c < s.qs.length
  rn : (quOf s.qs (c : Int)).run ≠ -1
  pr : (thOf s.ts (quOf s.qs (c : Int)).run).pri ≤ P
  at_ : (quOf s.qs (c : Int)).ready[j]? = some thr
  al : ∀ i y, i ≤ j → (quOf s.qs (c : Int)).ready[i]? = some y → (thOf s.ts y).pri = P
/-- How many ticks at most. -/
def rem (s : St) (c j : Nat) (P : Int) : Int := (if (thOf s.ts (quOf s.qs (c : Int)).run).pri = P then max (quOf s.qs (c : Int)).left 1 else 1) + j * s.q
/-- One tick, and the switch that may be due. -/
def roundM (s : St) (c : Nat) : St := if dueM (tickM s c) c then switchM (tickM s c) c else tickM s c
theorem tickM_qu {s : St} {c : Nat} (hc : c < s.qs.length) : quOf (tickM s c).qs c = { (quOf s.qs c) with left := max ((quOf s.qs c).left - 1) 0 } := by
  simp only [tickM, setLeft]; rw [quOf_set _ _ _ _ hc, if_pos rfl]
theorem tickM_ts (s : St) (c : Nat) : (tickM s c).ts = s.ts := rfl
theorem tickM_q (s : St) (c : Nat) : (tickM s c).q = s.q := rfl
theorem tickM_n (s : St) (c : Nat) : (tickM s c).qs.length = s.qs.length := setLeft_n _ _ _
theorem enterM_q (s : St) (k : Nat) (p) : (enterM s k p).q = s.q := rfl
theorem dispM_q (s : St) (c : Nat) : (dispM s c).q = s.q := by
  unfold dispM
  show (if (quOf s.qs c).run = -1 then s else if (quOf s.qs c).left = 0 then toEndM s (quOf s.qs c).run.toNat else toFrontM s (quOf s.qs c).run.toNat).q = s.q
  split
  · rfl
  · split <;> rfl
theorem switchM_q (s : St) (c : Nat) : (switchM s c).q = s.q := by
  unfold switchM; split
  · exact dispM_q _ _
  · split <;> rfl
theorem roundM_n (s : St) (c : Nat) : (roundM s c).qs.length = s.qs.length := by
  unfold roundM; split
  · rw [switchM_n, tickM_n]
  · exact tickM_n _ _
theorem wait_round {s : St} {c j : Nat} {thr P : Int} (h : Wt s c j thr P) :
    Ok (roundM s c) ∧ (roundM s c).q = s.q ∧ ((quOf (roundM s c).qs (c : Int)).run = thr ∨ ∃ j', Wt (roundM s c) c j' thr P ∧ rem (roundM s c) c j' P + 1 ≤ rem s c j P) := by
  have hok := h.ok
  have hc := h.cl
  have hokt := tick_ok hok hc
  have hct : c < (tickM s c).qs.length := by rw [tickM_n]; exact hc
  obtain ⟨r, hr, hrl, hrc, hrs, hl0, hlq⟩ := run_thr hok hc h.rn
  have hq := hok.q1
  have hpr := h.pr
  rw [hr] at hpr
  have hjl : j < (quOf s.qs (c : Int)).ready.length := (List.getElem?_eq_some_iff.1 h.at_).1
  obtain ⟨y0, rest, er⟩ : ∃ y0 rest, (quOf s.qs (c : Int)).ready = y0 :: rest := by
    cases hq : (quOf s.qs (c : Int)).ready with
    | nil => rw [hq] at hjl; simp at hjl
    | cons r l => exact ⟨r, l, rfl⟩
  have hy0 : (thOf s.ts y0).pri = P := h.al 0 y0 (Nat.zero_le _) (by rw [er]; rfl)
  have hjq : (0 : Int) ≤ (j : Int) * s.q := Int.mul_nonneg (by omega) (by omega)
  have hdue : dueM (tickM s c) c = (decide ((thOf s.ts r).pri < P) || (max ((quOf s.qs c).left - 1) 0 == 0 && P == (thOf s.ts r).pri)) := by
    simp only [dueM, tickM_qu hc, tickM_ts, er, hr, hy0]
    rw [if_neg (by omega)]
  unfold roundM
  cases hd : dueM (tickM s c) c with
  | false =>
    rw [hd] at hdue
    simp only [Bool.false_eq_true, if_false]
    have hdue := hdue.symm
    simp only [Bool.or_eq_false_iff, decide_eq_false_iff_not] at hdue
    have hpe : (thOf s.ts r).pri = P := by omega
    have hne : max ((quOf s.qs c).left - 1) 0 ≠ 0 := by
      intro e
      have := hdue.2
      rw [e, hpe] at this; simp at this
    refine ⟨hokt, rfl, .inr ⟨j, ⟨hokt, hct, ?_, ?_, ?_, ?_⟩, ?_⟩⟩
    · rw [tickM_qu hc]; exact h.rn
    · rw [tickM_qu hc]; exact h.pr
    · rw [tickM_qu hc]; exact h.at_
    · rw [tickM_qu hc]; exact h.al
    · simp only [rem, tickM_qu hc, tickM_ts, tickM_q, hr, hpe, if_true]
      omega
  | true =>
    rw [hd] at hdue
    simp only [if_true]
    have hdue := hdue.symm
    simp only [Bool.or_eq_true, decide_eq_true_eq, Bool.and_eq_true, beq_iff_eq] at hdue
    have hsw : switchM (tickM s c) c = dispM (tickM s c) c := by unfold switchM; rw [if_pos hd]
    have hok2 := switch_ok hokt hct
    have hpri := fun x => switch_pri hokt hct x
    obtain ⟨s1, m, l, h1, h2, h3, h4, h5, h6, h7⟩ := disp_out hokt hct (due_ne hd)
    rw [← hsw] at h5
    have hrt : (quOf (tickM s c).qs c).run = r := by rw [tickM_qu hc]; exact hr
    have hnot : (r : Int) ∉ (quOf s.qs (c : Int)).ready := erase_not hok hc (by rw [hrs]; decide)
    rw [hrt, if_neg (by omega)] at h7
    simp only [Int.toNat_natCast] at h7
    have key : ∀ p, s1 = enterM (tickM s c) r p → (∀ x, (thOf s.ts x).pri = P → p (leaveM (tickM s c) r 1).ts x = true) → ∀ i, i ≤ j → ((m : Int) :: l)[i]? = (quOf s.qs (c : Int)).ready[i]? := by
      intro p ep hp i hi
      have e1 : (quOf s1.qs c).ready = insM (quOf s.qs (c : Int)).ready r (p (leaveM (tickM s c) r 1).ts) := by
        rw [ep, enterM_qu p (by rw [tickM_ts]; exact hrl) (by rw [tickM_ts]; exact hrc) hct, if_pos rfl]
        simp only [tickM_qu hc]
        rw [List.erase_of_not_mem hnot]
      rw [h2] at e1
      rw [e1]
      exact insM_get _ _ _ j hjl (fun i y h1 h2 => hp y (h.al i y h1 h2)) i hi
    have hlp : ∀ x, (thOf (leaveM (tickM s c) r 1).ts x).pri = (thOf s.ts x).pri := fun x => leaveM_pri (by rw [tickM_ts]; exact hrl) x
    have hget : ∀ i, i ≤ j → ((m : Int) :: l)[i]? = (quOf s.qs (c : Int)).ready[i]? := by
      by_cases hz : (quOf (tickM s c).qs c).left = 0
      · rw [if_pos hz] at h7
        refine key (endP r) h7 fun x hx => ?_
        simp only [endP, hlp, decide_eq_true_eq]; omega
      · rw [if_neg hz] at h7
        refine key (frontP r) h7 fun x hx => ?_
        simp only [frontP, hlp, decide_eq_true_eq]
        rw [tickM_qu hc] at hz
        simp only [] at hz
        rcases hdue with h | h
        · omega
        · exact absurd h.1 hz
    have hm : (m : Int) = y0 := by
      have := hget 0 (Nat.zero_le _)
      rw [er] at this; simpa using this
    refine ⟨hok2, switchM_q _ _, ?_⟩
    cases j with
    | zero =>
      left
      rw [h5]
      have := h.at_
      rw [er] at this
      rw [hm]; simpa using this
    | succ j =>
      right
      have hmp : (thOf (switchM (tickM s c) c).ts m).pri = P := by rw [hpri, tickM_ts, hm]; exact hy0
      refine ⟨j, ⟨hok2, by rw [switchM_n]; exact hct, ?_, ?_, ?_, ?_⟩, ?_⟩
      · rw [h5]; simp only []; omega
      · rw [h5]; simp only []; omega
      · rw [h5]
        have := hget (j + 1) (Nat.le_refl _)
        rw [h.at_] at this
        simpa using this
      · rw [h5]
        intro i y hi hy
        have := hget (i + 1) (by omega)
        simp only [List.getElem?_cons_succ] at this hy
        rw [hy] at this
        rw [hpri, tickM_ts]
        exact h.al (i + 1) y (by omega) this.symm
      · simp only [rem, h5, hmp, switchM_q, tickM_q, hr, if_true]
        have hmul : ((j + 1 : Nat) : Int) * s.q = (j : Int) * s.q + s.q := by rw [Int.natCast_add, Int.add_mul]; simp
        rw [hmul]
        split <;> omega
/-- The wait's beginning: where a thread runs. -/
theorem wait_start {s : St} {c k : Nat} {thr P : Int} (hok : Ok s) (hc : c < s.qs.length) (hat : (quOf s.qs (c : Int)).ready[k]? = some thr) (hP : (thOf s.ts thr).pri = P) (h0 : ∀ y, (quOf s.qs (c : Int)).ready[0]? = some y → (thOf s.ts y).pri = P) :
    ∀ i y, i ≤ k → (quOf s.qs (c : Int)).ready[i]? = some y → (thOf s.ts y).pri = P := by
  intro i y hi hy
  have hso := hok.so _ _ (qu_some hc)
  generalize (quOf s.qs (c : Int)).ready = l at *
  rw [List.pairwise_iff_getElem] at hso
  have hkl := (List.getElem?_eq_some_iff.1 hat).1
  have hil := (List.getElem?_eq_some_iff.1 hy).1
  have e1 : l[k] = thr := by rw [List.getElem?_eq_getElem hkl] at hat; simpa using hat
  have e2 : l[i] = y := by rw [List.getElem?_eq_getElem hil] at hy; simpa using hy
  have e0 : (thOf s.ts (l[0]'(by omega))).pri = P := h0 _ (List.getElem?_eq_getElem (by omega))
  have a1 : (thOf s.ts y).pri ≤ P := by
    rcases Nat.eq_zero_or_pos i with rfl | hp
    · rw [← e2]; omega
    · have := hso 0 i (by omega) hil hp; rw [e2] at this; omega
  have a2 : P ≤ (thOf s.ts y).pri := by
    rcases Nat.lt_or_ge i k with hp | hp
    · have := hso i k hil hkl hp; rw [e1, e2] at this; omega
    · obtain rfl : i = k := by omega
      rw [← e2, e1]; omega
  omega
theorem wait_run {s : St} {c k : Nat} {thr P : Int} (hok : Ok s) (hc : c < s.qs.length) (hr : (quOf s.qs (c : Int)).run ≠ -1) (hp : (thOf s.ts (quOf s.qs (c : Int)).run).pri ≤ P) (hat : (quOf s.qs (c : Int)).ready[k]? = some thr) (hal : ∀ i y, i ≤ k → (quOf s.qs (c : Int)).ready[i]? = some y → (thOf s.ts y).pri = P) :
    Wt s c k thr P ∧ rem s c k P ≤ ((k : Int) + 1) * s.q := by
  refine ⟨⟨hok, hc, hr, hp, hat, hal⟩, ?_⟩
  obtain ⟨h1, h2, _⟩ := hok.left hc
  have hq := hok.q1
  simp only [rem]
  rw [Int.add_mul]
  split <;> omega
theorem wait_idle {s : St} {c k : Nat} {thr P : Int} (hok : Ok s) (hc : c < s.qs.length) (hr : (quOf s.qs (c : Int)).run = -1) (hat : (quOf s.qs (c : Int)).ready[k]? = some thr) (hal : ∀ i y, i ≤ k → (quOf s.qs (c : Int)).ready[i]? = some y → (thOf s.ts y).pri = P) :
    Ok (switchM s c) ∧ (switchM s c).q = s.q ∧ ((quOf (switchM s c).qs (c : Int)).run = thr ∨ ∃ j', Wt (switchM s c) c j' thr P ∧ rem (switchM s c) c j' P ≤ ((k : Int) + 1) * s.q) := by
  have hok2 := switch_ok hok hc
  have hq := hok.q1
  have hne : (quOf s.qs (c : Int)).ready ≠ [] := by intro e; rw [e] at hat; simp at hat
  have hd : dueM s c = true := by
    simp only [dueM]
    cases hq : (quOf s.qs (c : Int)).ready with
    | nil => exact absurd hq hne
    | cons y l => simp only []; rw [if_pos hr]
  have hsw : switchM s c = dispM s c := by unfold switchM; rw [if_pos hd]
  have hpri := fun x => switch_pri hok hc x
  obtain ⟨s1, m, l, h1, h2, h3, h4, h5, h6, h7⟩ := disp_out hok hc hne
  rw [← hsw] at h5
  rw [if_pos hr] at h7
  subst h7
  refine ⟨hok2, switchM_q _ _, ?_⟩
  rw [h2] at hat hal
  cases k with
  | zero => left; rw [h5]; simpa using hat
  | succ j =>
    right
    have hmp : (thOf (switchM s1 c).ts m).pri = P := by rw [hpri]; exact hal 0 m (Nat.zero_le _) rfl
    refine ⟨j, ⟨hok2, by rw [switchM_n]; exact hc, ?_, ?_, ?_, ?_⟩, ?_⟩
    · rw [h5]; simp only []; omega
    · rw [h5]; simp only []; omega
    · rw [h5]; simpa using hat
    · rw [h5]
      intro i y hi hy
      rw [hpri]
      exact hal (i + 1) y (by omega) (by simpa using hy)
    · simp only [rem, h5, hmp, switchM_q, if_true]
      have hmul : ((j + 1 : Nat) : Int) * s1.q = (j : Int) * s1.q + s1.q := by rw [Int.natCast_add, Int.add_mul]; simp
      rw [Int.add_mul, hmul]
      omega
/-- What the wait's rounds keep, after i of them. -/
def Iw (s : St) (c i : Nat) (N thr P : Int) : Prop := Ok s ∧ c < s.qs.length ∧ ((quOf s.qs (c : Int)).run = thr ∨ ∃ j, Wt s c j thr P ∧ rem s c j P + i ≤ N)
theorem rem_pos {s : St} {c j : Nat} {thr P : Int} (h : Wt s c j thr P) : 1 ≤ rem s c j P := by
  have hq := h.ok.q1
  have hjq : (0 : Int) ≤ (j : Int) * s.q := Int.mul_nonneg (by omega) (by omega)
  simp only [rem]; split <;> omega
theorem Iw.next {s : St} {c i : Nat} {N thr P : Int} (h : Iw s c i N thr P) (hne : (quOf s.qs (c : Int)).run ≠ thr) : Iw (roundM s c) c (i + 1) N thr P := by
  obtain ⟨_, hc, h | ⟨j, hw, hr⟩⟩ := h
  · exact absurd h hne
  · obtain ⟨h1, _, h3⟩ := wait_round hw
    refine ⟨h1, by rw [roundM_n]; exact hc, ?_⟩
    rcases h3 with h3 | ⟨j', h4, h5⟩
    · exact .inl h3
    · exact .inr ⟨j', h4, by have : ((i + 1 : Nat) : Int) = i + 1 := by omega
                             omega⟩
theorem Iw.last {s : St} {c i : Nat} {N thr P : Int} (h : Iw s c i N thr P) (hi : N ≤ i) : (quOf s.qs (c : Int)).run = thr := by
  obtain ⟨_, _, h | ⟨j, hw, hr⟩⟩ := h
  · exact h
  · have := rem_pos hw; omega
end Go.Proofs.Ytggikbcgijmhbaa
