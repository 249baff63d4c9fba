/- WHAT IS PROVED: taplinelaw03.MemChanges answers true, for every two spaces. CONDITIONS: the arguments read as lists of numbers. -/
import Derived.Test.YtdbcbmdekdfdoaaMn
import Derived.Test.YtdbcbmdekdfdoaaMy
namespace Go.Proofs.Ytdbcbmdekdfdoaa
open Go Go.RowKit Go.QrBits Go.QrMem

theorem chg_symm (A B : List Int) (i : Nat) : chg B A i = chg A B i := by unfold chg; rw [bne_comm]
theorem dI_symm (A B : List Int) : ∀ k, dI B A k = dI A B k
  | 0 => rfl
  | k + 1 => by rw [dI, dI, dI_symm A B k, chg_symm]
theorem dI_self (A : List Int) : ∀ k, dI A A k = []
  | 0 => rfl
  | k + 1 => by rw [dI, dI_self A k]; simp [chg]
theorem dI_has {A B : List Int} : ∀ {k i : Nat}, i < k → chg A B i = true → i ∈ dI A B k
  | 0, i, h, _ => by omega
  | k + 1, i, h, hc => by
    rw [dI]
    by_cases hi : i < k
    · exact List.mem_append_left _ (dI_has hi hc)
    · have : i = k := by omega
      subst this
      rw [if_pos hc]; simp
theorem dI_up (A B : List Int) : ∀ k, (dI A B k).Pairwise (· < ·)
  | 0 => List.Pairwise.nil
  | k + 1 => by
    rw [dI]
    refine List.pairwise_append.2 ⟨dI_up A B k, ?_, fun x hx y hy => ?_⟩
    · split <;> simp
    · have := (dI_mem hx).1
      split at hy
      · simp at hy; omega
      · simp at hy
/-- The first space, some of whose bytes are the second one's. -/
def putL (B : List Int) : List Nat → List Int → List Int
  | [], A => A
  | i :: l, A => putL B l (A.set i (B[i]?.getD 0))
theorem putL_len (B : List Int) : ∀ (l : List Nat) (A : List Int), (putL B l A).length = A.length
  | [], _ => rfl
  | i :: l, A => by rw [putL, putL_len B l]; simp
theorem putL_snoc (B : List Int) (i : Nat) : ∀ (l : List Nat) (A : List Int), putL B (l ++ [i]) A = (putL B l A).set i (B[i]?.getD 0)
  | [], A => rfl
  | x :: l, A => by simp only [List.cons_append, putL]; exact putL_snoc B i l _
theorem putL_get (B : List Int) : ∀ (l : List Nat) (A : List Int) (j : Nat), j < A.length → (putL B l A)[j]?.getD 0 = if j ∈ l then B[j]?.getD 0 else A[j]?.getD 0
  | [], A, j, _ => by simp [putL]
  | i :: l, A, j, hj => by
    rw [putL, putL_get B l _ j (by simpa using hj)]
    by_cases h1 : j ∈ l
    · rw [if_pos h1, if_pos (List.mem_cons_of_mem _ h1)]
    · rw [if_neg h1]
      by_cases h2 : i = j
      · subst h2
        rw [if_pos (List.mem_cons_self ..)]; simp [hj]
      · rw [if_neg (by simp only [List.mem_cons, not_or]; exact ⟨fun e => h2 e.symm, h1⟩)]
        simp [h2]
theorem list_eq {A B : List Int} (hl : A.length = B.length) (h : ∀ j, j < A.length → A[j]?.getD 0 = B[j]?.getD 0) : A = B := by
  refine List.ext_getElem hl fun j h1 h2 => ?_
  have := h j h1
  simpa [h1, h2] using this
theorem putL_all {A B : List Int} (hl : A.length = B.length) : putL B (dI A B A.length) A = B := by
  refine list_eq (by rw [putL_len]; exact hl) fun j hj => ?_
  rw [putL_len] at hj
  rw [putL_get B _ A j hj]
  by_cases h : j ∈ dI A B A.length
  · rw [if_pos h]
  · rw [if_neg h]
    by_cases hc : chg A B j = true
    · exact absurd (dI_has hj hc) h
    · have : (B[j]?.getD 0 != A[j]?.getD 0) = false := by simpa [chg] using hc
      have h2 : B[j]?.getD 0 = A[j]?.getD 0 := by simpa using this
      exact h2.symm
theorem putL_take {B : List Int} {l : List Nat} {k q : Nat} (A : List Int) (h : l[k]? = some q) : putL B (l.take (k + 1)) A = (putL B (l.take k) A).set q (B[q]?.getD 0) := by
  rw [List.take_add_one, h]; exact putL_snoc B q _ A
theorem dI_none {A B : List Int} (hl : A.length = B.length) : (((dI A B A.length).length : Int) == 0) = (decide (A = B)) := by
  by_cases h : A = B
  · subst h; rw [dI_self]; simp
  · have h2 : dI A B A.length ≠ [] := fun e => h (by have := putL_all hl; rw [e] at this; exact this)
    have h3 : 0 < (dI A B A.length).length := List.length_pos_iff.2 h2
    rw [decide_eq_false h]
    simp; exact h2
theorem putL_ok {B : List Int} (hB : okB B) : ∀ (l : List Nat) (A : List Int), okB A → okB (putL B l A)
  | [], A, h => h
  | i :: l, A, h => by
    rw [putL]
    refine putL_ok hB l _ fun n hn => ?_
    rcases List.mem_or_eq_of_mem_set hn with h1 | rfl
    · exact h n h1
    · cases hb : B[i]? with
      | none => simp
      | some b => exact hB b (List.mem_of_getElem? hb)
theorem kN_one {P T : List Int} (hc : chk P T.length = true) {q : Nat} (hq : q < T.length) : kN P T q 0 1 = 1 :=
  lead_uniq _ 1 1 (Nat.le_refl _) (fun j hj => by
    obtain rfl : j = 0 := by omega
    have := kN_full hc
    have h2 := kN_all (perm := P) (bytes := T) (t := 0) (q := 0) (n := T.length) (i := q) (by omega)
    simpa using h2) (fun h => by omega)
set_option linter.unusedSimpArgs false in
set_option linter.unusedVariables false in
set_option maxHeartbeats 4000000 in
set_option maxRecDepth 100000 in
theorem mch_e (a : Option Addr) (c : Nat) (a2 : Option Addr) (c2 : Nat) (a' : Option Addr) (c' : Nat) (a2' : Option Addr) (c2' : Nat) (P A P' B : List Int) (w : World) (hS : SpIn w a c a2 c2 P A) (hS' : SpIn w a' c' a2' c2' P' B) (er : Int) (hD : ∀ w, SpIn w a c a2 c2 P A → SpIn w a' c' a2' c2' P' B → Calls Try.prog 39 #[.agg #[.slice a P.length c, .slice a2 A.length c2], .agg #[.slice a' P'.length c', .slice a2' B.length c2']] w (DfPost [] 0 er w)) (her : (er == 0) = false) :
    Calls Try.prog 12 #[.agg #[.slice a P.length c, .slice a2 A.length c2], .agg #[.slice a' P'.length c', .slice a2' B.length c2']] w fun e w' => e = .returned (.bool true) ∧ Below w.heap.size w w' := by
  have hS0 := Lib.hid hS
  clear hS
  have hS1 := Lib.hid hS'
  clear hS'
  go_enter Try.func12, Try.ntmps12
  have HK := Kw.start w
  go_wp2_with fail
  replace HK := HK.box (vs := [.slice a P.length c, .slice a2 A.length c2]) (t := 25)
  replace HK := HK.box (vs := [.slice a' P'.length c', .slice a2' B.length c2']) (t := 25)
  simp only [World.size_alloc] at HK
  refine (sane_c _).mono ?_
  rintro e w11 ⟨rfl, hq⟩
  replace HK := HK.below hq
  clear hq
  have z1 := HK.lt 0 rfl
  have r_0 := HK.get 0 0 rfl rfl
  have r_1 := HK.get 0 1 rfl rfl
  have r_s := HK.lt 0 rfl
  have p_0 := HK.get 1 0 rfl rfl
  have p_1 := HK.get 1 1 rfl rfl
  have p_s := HK.lt 1 rfl
  go_wp2_with fail
  clear r_0 r_1 r_s p_0 p_1 p_s
  refine (hD _ (hS0.out.below HK.base) (hS1.out.below HK.base)).mono ?_
  rintro e w12 ⟨al, cl, rfl, _, _, hq⟩
  replace HK := HK.below hq
  clear hq
  have z2 := HK.lt 0 rfl
  have hK := HK.base
  clear HK
  go_wp2
  go_ret
  exact ⟨rfl, hK⟩
set_option maxHeartbeats 1000000 in
set_option maxRecDepth 100000 in
theorem memChanges_walk (a : Option Addr) (c : Nat) (a2 : Option Addr) (c2 : Nat) (a' : Option Addr) (c' : Nat) (a2' : Option Addr) (c2' : Nat) (P A P' B : List Int) (w : World) (hS : SpIn w a c a2 c2 P A) (hok : okB A) (hS' : SpIn w a' c' a2' c2' P' B) (hok' : okB B) :
    Calls Try.prog 12 #[.agg #[.slice a P.length c, .slice a2 A.length c2], .agg #[.slice a' P'.length c', .slice a2' B.length c2']] w fun e w' => e = .returned (.bool true) ∧ Below w.heap.size w w' := by
  cases h1 : chk P A.length with
  | false => exact mch_e a c a2 c2 a' c' a2' c2' P A P' B w hS hS' 30 (fun w hs hs' => diff_n _ _ _ _ _ _ _ _ _ _ _ _ w hs hs' h1) (by decide)
  | true =>
  cases h2 : chk P' B.length with
  | false => exact mch_e a c a2 c2 a' c' a2' c2' P A P' B w hS hS' 30 (fun w hs hs' => diff_n2 _ _ _ _ _ _ _ _ _ _ _ _ w hs hs' h1 h2) (by decide)
  | true =>
  by_cases hP : P = P'
  rotate_left
  · exact mch_e a c a2 c2 a' c' a2' c2' P A P' B w hS hS' 1 (fun w hs hs' => diff_p _ _ _ _ _ _ _ _ _ _ _ _ w hs hs' h1 h2 hP) (by decide)
  subst hP
  have hBB : A.length = B.length := by have := (chk_len4 h1).2; have := (chk_len4 h2).2; omega
  have hl := (chk_le h1).2
  have hlen : ∀ k, (putL B ((dI A B A.length).take k) A).length = A.length := fun k => putL_len B _ A
  refine mch_y a c a2 c2 a' c' a2' c2' P A B w hS hS' (dI A B A.length) (decide (A = B)) (fun k => putL B ((dI A B A.length).take k) A) ?_ ?_ ?_ (Lib.hid (dI_none hBB)) ?_ (Lib.hid rfl) (Lib.hid hlen) ?_ ?_ (Lib.hid fun q hq => (dI_mem hq).2) (Lib.hid fun k p q hp hq => ?_)
  · exact fun a c a2 c2 a' c' a2' c2' w h h' => diff_y a c a2 c2 P A a' c' a2' c2' B w h h' h1 h2 hBB
  · intro a c a2 c2 a' c' a2' c2' w h h'
    have := diff_y a c a2 c2 P B a' c' a2' c2' A w h h' h2 h1 hBB.symm
    have e : dI B A B.length = dI A B A.length := by rw [dI_symm, hBB]
    rw [e] at this
    exact this
  · intro a c a2 c2 a' c' a2' c2' w h h'
    have := diff_y a c a2 c2 P A a' c' a2' c2' A w h h' h1 h1 rfl
    rw [dI_self] at this
    exact this
  · intro a c a2 c2 a' c' a2' c2' w h h'
    have := same_c a c a2 c2 P A a' c' a2' c2' P B w h h' hok hok'
    simpa using this
  · intro a c a2 c2 a' c' a2' c2' w h h'
    have hT : putL B ((dI A B A.length).take (dI A B A.length).length) A = B := by rw [List.take_length]; exact putL_all hBB
    have h2 : SpIn w a c a2 c2 P B := by have h9 := h; rw [hT] at h9; exact h9
    rw [hBB]
    have := same_c a c a2 c2 P B a' c' a2' c2' P B w h2 h' hok' hok'
    simpa using this
  · intro k q hq a c a2 c2 ab cb w h hb
    have hqm := dI_mem (List.mem_of_getElem? hq)
    have hTl := hlen k
    have hcT : chk P (putL B ((dI A B A.length).take k) A).length = true := by rw [hTl]; exact h1
    have := poke_y a c a2 c2 P _ q ab 1 cb [B[q]?.getD 0] w h hb rfl hcT (by omega) (by unfold I64; omega) (kN_one hcT (by omega))
    have e : wrB (putL B ((dI A B A.length).take k) A) q [B[q]?.getD 0] 1 = putL B ((dI A B A.length).take (k + 1)) A := by
      rw [putL_take A hq]; simp [wrB]
    rw [e] at this
    obtain hp := this.mono (fun e w' h => spOut3_of h)
    rw [hTl] at hp
    refine hp.mono fun e w' ⟨a, c, b, d, he, o1, o2, hb⟩ => ?_
    rw [hlen (k + 1)] at he o2
    exact ⟨a, c, b, d, he, o1, o2, hb⟩
  · obtain ⟨k1, e1⟩ := List.getElem?_eq_some_iff.1 hp
    obtain ⟨k2, e2⟩ := List.getElem?_eq_some_iff.1 hq
    have := List.pairwise_iff_getElem.1 (dI_up A B A.length) k (k + 1) k1 k2 (by omega)
    rw [e1, e2] at this; exact this
end Go.Proofs.Ytdbcbmdekdfdoaa
