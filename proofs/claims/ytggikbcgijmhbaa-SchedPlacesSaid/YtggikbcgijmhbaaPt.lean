/- WHAT IS PROVED: what an operation may do to the threads' states, in lists. CONDITIONS: none; no program stands here. -/
import Derived.Test.YtggikbcgijmhbaaPs
namespace Go.Proofs.Ytggikbcgijmhbaa
/-- What an operation of the laws leaves: a valid state, in which no thread has another state but the one that it names, the one that ran, and the one that runs. -/
def Spec (s : St) (K N : Int) (s' : St) : Prop :=
  Ok s' ∧ s'.qs.length = s.qs.length ∧ s.ts.length ≤ s'.ts.length ∧ s'.ts.length ≤ s.ts.length + 1 ∧ s'.q = s.q ∧
    ∀ k : Nat, k < s.ts.length → (thOf s'.ts (k : Int)).st = (thOf s.ts (k : Int)).st ∨ (1 ≤ K ∧ K ≤ 4 ∧ N = k) ∨ (K = 5 ∧ ∃ c : Nat, N = c ∧ c < s.qs.length ∧ ((quOf s.qs (c : Int)).run = k ∨ (quOf s'.qs (c : Int)).run = k))
theorem spec_same {s : St} (h : Ok s) (K N : Int) : Spec s K N s := ⟨h, rfl, Nat.le_refl _, by omega, rfl, fun _ _ => .inl rfl⟩
theorem spec_add {s : St} (h : Ok s) {c : Nat} {p : Int} (hc : c < s.qs.length) (hm : s.ts.length < 16) (hp : 0 ≤ p ∧ p ≤ 7) (K N : Int) : Spec s K N (addM s p c) := by
  have hk : s.ts.length < ({ s with ts := s.ts ++ [⟨p, c, 1⟩] } : St).ts.length := by simp
  have hl : (addM s p c).ts.length = s.ts.length + 1 := by
    show (enterM _ _ _).ts.length = _
    rw [enterM_m]; simp
  refine ⟨add_ok h hc hm hp, enterM_n _ _ _, by omega, by omega, rfl, fun k hkl => .inl ?_⟩
  show (thOf (enterM _ s.ts.length _).ts (k : Int)).st = _
  rw [enterM_th _ hk, if_neg (by omega)]
  simp [thOf, List.getElem?_append_left hkl]
theorem spec_leave {s : St} (h : Ok s) {j : Nat} {st : Int} (hj : j < s.ts.length) (hs : st = 3 ∨ st = 4) {K : Int} (hK : 1 ≤ K ∧ K ≤ 4) : Spec s K j (leaveM s j st) := by
  refine ⟨nowhere_ok h hj hs, leaveM_n _ _ _, by rw [leaveM_m]; omega, by rw [leaveM_m]; omega, rfl, fun k hk => ?_⟩
  by_cases e : j = k
  · subst e; exact .inr (.inl ⟨hK.1, hK.2, rfl⟩)
  · left; rw [leaveM_th hj, if_neg (by omega)]
theorem spec_wake {s : St} (h : Ok s) {j : Nat} (hj : j < s.ts.length) {K : Int} (hK : 1 ≤ K ∧ K ≤ 4) : Spec s K j (toEndM s j) := by
  have hl : (toEndM s j).ts.length = s.ts.length := enterM_m _ _ _
  refine ⟨toEnd_ok h (.inl rfl) hj, enterM_n _ _ _, by omega, by omega, rfl, fun k hk => ?_⟩
  by_cases e : j = k
  · subst e; exact .inr (.inl ⟨hK.1, hK.2, rfl⟩)
  · left; unfold toEndM; rw [enterM_th _ hj, if_neg (by omega)]
theorem spec_pri {s : St} (h : Ok s) {j : Nat} {p : Int} (hj : j < s.ts.length) (hp : 0 ≤ p ∧ p ≤ 7) {K : Int} (hK : 1 ≤ K ∧ K ≤ 4) : Spec s K j (setPriM s j p) := by
  have hok := setPri_ok h hj hp
  have hj2 : j < ({ s with ts := s.ts.set j { (thOf s.ts j) with pri := p } } : St).ts.length := by simpa using hj
  unfold setPriM at hok ⊢
  simp only [] at hok ⊢
  split at hok
  · rename_i h1
    rw [if_pos h1]
    have hl : (toEndM { s with ts := s.ts.set j { (thOf s.ts j) with pri := p } } j).ts.length = s.ts.length := by
      show (enterM _ j (endP j)).ts.length = _
      rw [enterM_m]; simp
    refine ⟨hok, enterM_n _ _ _, Nat.le_of_eq hl.symm, Nat.le_trans (Nat.le_of_eq hl) (Nat.le_succ _), rfl, fun k hk => ?_⟩
    by_cases e : j = k
    · subst e; exact .inr (.inl ⟨hK.1, hK.2, rfl⟩)
    · left; unfold toEndM; rw [enterM_th _ hj2, if_neg (by omega)]
      rw [thOf_set _ _ _ _ hj, if_neg (by omega)]
  · rename_i h1
    rw [if_neg h1]
    refine ⟨hok, rfl, by simp, by simp, rfl, fun k hk => ?_⟩
    by_cases e : j = k
    · subst e; exact .inr (.inl ⟨hK.1, hK.2, rfl⟩)
    · left; rw [thOf_set _ _ _ _ hj, if_neg (by omega)]
theorem setLeft_q (s : St) (c : Nat) (l : Int) : (setLeft s c l).q = s.q := rfl
theorem spec_left {s : St} {c : Nat} {l : Int} (h : Ok (setLeft s c l)) (K N : Int) : Spec s K N (setLeft s c l) :=
  ⟨h, setLeft_n _ _ _, Nat.le_refl _, by show s.ts.length ≤ _; omega, rfl, fun _ _ => .inl rfl⟩
theorem spec_steal {s : St} (h : Ok s) {c : Nat} (hc : c < s.qs.length) (K N : Int) : Spec s K N (stealM s c) := by
  refine ⟨steal_ok h hc, steal_n _ _, by rw [steal_m]; omega, by rw [steal_m]; omega, steal_q _ _, fun k hk => .inl ?_⟩
  unfold stealM
  simp only []
  split
  · rename_i hh
    obtain ⟨j, l, e, hj, _, hst⟩ := fullest_head h hh.2
    rw [e]
    simp only [List.headD_cons, Int.toNat_natCast]
    have hj1 : j < (leaveM s j 1).ts.length := by rw [leaveM_m]; exact hj
    have hj2 : j < ({ (leaveM s j 1) with ts := (leaveM s j 1).ts.set j { (thOf (leaveM s j 1).ts j) with cpu := (c : Int) } } : St).ts.length := by simpa using hj1
    show (thOf (enterM _ j (endP j)).ts (k : Int)).st = _
    rw [enterM_th _ hj2]
    by_cases e : j = k
    · subst e; simp [hst]
    · rw [if_neg (by omega), thOf_set _ _ _ _ hj1, if_neg (by omega), leaveM_th hj, if_neg (by omega)]
  · rfl
theorem spec_switch {s : St} (h : Ok s) {c : Nat} (hc : c < s.qs.length) : Spec s 5 c (switchM s c) := by
  refine ⟨switch_ok h hc, switchM_n _ _, by rw [switchM_m]; omega, by rw [switchM_m]; omega, ?_, fun k hk => ?_⟩
  · unfold switchM; split
    · unfold dispM
      show (if (quOf s.qs c).run = -1 then s else if (quOf s.qs c).left = 0 then toEndM s (quOf s.qs c).run.toNat else toFrontM s (quOf s.qs c).run.toNat).q = s.q
      split
      · rfl
      · split <;> rfl
    · split <;> rfl
  · by_cases hdue : dueM s c = true
    · have hsw : switchM s c = dispM s c := by unfold switchM; rw [if_pos hdue]
      obtain ⟨s1, m, l, h1, h2, h3, h4, h5, h6, h7⟩ := disp_out h hc (due_ne hdue)
      by_cases e1 : m = k
      · right; right
        refine ⟨rfl, c, rfl, hc, .inr ?_⟩
        rw [hsw, h5]; simp [e1]
      · by_cases e2 : (quOf s.qs (c : Int)).run = k
        · exact .inr (.inr ⟨rfl, c, rfl, hc, .inl e2⟩)
        · left
          rw [hsw, h4, toRunM_th h3, if_neg (by omega), h7]
          split
          · rfl
          · rename_i hr
            obtain ⟨k', e', hk', _⟩ := run_thr h hc hr
            rw [e']
            simp only [Int.toNat_natCast]
            split
            · unfold toEndM; rw [enterM_th _ hk', if_neg (by omega)]
            · unfold toFrontM; rw [enterM_th _ hk', if_neg (by omega)]
    · left
      unfold switchM
      rw [if_neg hdue]
      split <;> rfl
end Go.Proofs.Ytggikbcgijmhbaa
