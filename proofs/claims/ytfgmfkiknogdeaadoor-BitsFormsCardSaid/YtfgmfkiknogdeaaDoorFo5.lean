/- WHAT IS PROVED: when the reference's Parse accepts a string, bits.Parse accepts it too, and the other way. CONDITIONS: a valid type. -/
import Derived.Test.YtfgmfkiknogdeaaDoorFo4
import Derived.Test.YtfgmfkiknogdeaaDoorBt
namespace Go.Proofs.YtfgmfkiknogdeaaDoor
open Go Go.RowKit Go.QrBits

section
variable {s : Int} {g : Bool} {str : ByteArray} {v u : Int}
theorem pO_split (hO : pO s g str = true) : rO str = true ∧ nmN g (pv s g str) = rN str ∧ nmS g (pv s g str) = rS str := by
  unfold pO at hO
  simpa only [Bool.and_eq_true, beq_iff_eq] using hO
theorem pO_pat (h : vB s = true) (hO : pO s g str = true) : pat (rN str) (rS str) = pv s g str := by
  obtain ⟨_, h2, h3⟩ := pO_split hO
  rw [← h2, ← h3]; exact pat_num (wr_I64 h (pat_I64 _ _))
theorem pv_wr (h : vB s = true) : wr s g (pv s g str) = pv s g str := wr_wr h
theorem txV_size20 (h : vB s = true) (hv : I64 v) : (txV s g v).size ≤ 20 := by
  rw [← bts_len, txV_bts h hv]
  have hi := wr_I64 (g := g) h hv
  generalize wr s g v = x at *
  unfold I64 at hi
  by_cases hn : nmN g x = true
  · have hm : nmS g x = -x := by unfold nmS; rw [if_pos hn]
    have hx : x < 0 := by unfold nmN at hn; simp at hn; exact hn.2
    rw [hn, hm]
    have := decL_lenR 18 (-x).toNat (Nat.lt_of_lt_of_le (show (-x).toNat < 10000000000000000000 by omega) (by decide))
    unfold txL; rw [List.length_append, if_pos rfl, List.length_singleton]; omega
  · have hm : nmS g x = uN x := by unfold nmS; rw [if_neg hn]
    have hu := uN_bd x
    have hn' : nmN g x = false := by simpa using hn
    rw [hn', hm]
    exact decL_lenR 19 (uN x).toNat (ten20 (by omega))
theorem hex_size (hx : hx str = true) (hO : rO str = true) : str.size ≤ 18 := by
  rw [hx_eq] at hx
  rw [rO_eq] at hO
  unfold rOL at hO
  rw [if_pos hx] at hO
  simp only [Bool.and_eq_true, decide_eq_true_eq] at hO
  have := hO.2
  unfold hDL at this
  rw [if_pos hx, List.length_drop, bts_len] at this
  omega
theorem pO_size (h : vB s = true) (hO : pO s g str = true) : str.size ≤ 20 := by
  by_cases hx' : hx str = true
  · have := hex_size hx' (pO_split hO).1; omega
  · rw [← text_back h hO (by rw [← hx_eq]; simpa using hx')]; exact txV_size20 h (wr_I64 h (pat_I64 _ _))
theorem ans_no (h : pO s g str = false) : pV s g str = 0 ∧ pE s g str = 13 := by simp [pV, pE, h]
theorem ans_yes (h : pO s g str = true ∧ pv s g str = v) : pV s g str = v ∧ pE s g str = 0 := by simp [pV, pE, h.1, h.2]
theorem no_size (h : vB s = true) (hs : 20 < str.size) : pO s g str = false := by
  cases hO : pO s g str with
  | false => rfl
  | true => have := pO_size h hO; omega
theorem hex_rN (hx : hx str = true) : rN str = false := by unfold rN; rw [if_pos hx]
theorem hex_rS (hx : hx str = true) : rS str = (dg 16 (hD str)).getD 0 := by unfold rS; rw [if_pos hx]
theorem hex_rO (hx : hx str = true) : rO str = rhO str := by unfold rO; rw [if_pos hx]
theorem dec_facts (hx : hx str = false) (hO : rO str = true) : rN str = mi str ∧ rS str = (dg 10 (mD str)).getD 0 ∧ (dg 10 (mD str)).isSome = true := by
  unfold rO at hO
  rw [hx] at hO
  simp only [Bool.false_eq_true, if_false] at hO
  by_cases hd : (dg 10 (mD str)).isSome = true
  · rw [if_pos hd] at hO
    have hb : bad0 str = false := by simpa using hO
    unfold rN rS rdN rdS
    rw [hx, hb, hd]
    exact ⟨rfl, rfl, rfl⟩
  · rw [if_neg hd] at hO; cases hO
theorem no_wr {n : Bool} (h : vB s = true) (e : rO str = true → rN str = n ∧ rS str = u) (hw : ¬ wr s g (pat n u) = pat n u) : pO s g str = false := by
  cases hO : pO s g str with
  | false => rfl
  | true =>
    obtain ⟨e1, e2⟩ := e (pO_split hO).1
    have := pO_pat h hO
    rw [e1, e2] at this
    exact absurd (by rw [this]; exact pv_wr h) hw
theorem hex_none (hx : hx str = true) (hd : (dg 16 (hD str)).isSome = false) : pO s g str = false := by
  unfold pO; rw [hex_rO hx]; unfold rhO; rw [hd]; rfl
theorem hex_big (hx : hx str = true) (hb : 18 < str.size) : pO s g str = false := by
  cases hO : pO s g str with
  | false => rfl
  | true => have := hex_size hx (pO_split hO).1; omega
theorem hex_tx (h : vB s = true) (hx : hx str = true) (hu : (dg 16 (hD str)).getD 0 = u) (ht : ¬ txV s g (pat false u) = strOf (decL u.toNat)) : pO s g str = false := by
  cases hO : pO s g str with
  | false => rfl
  | true =>
    exfalso; apply ht
    obtain ⟨_, h2, h3⟩ := pO_split hO
    have e := pO_pat h hO
    rw [hex_rN hx, hex_rS hx, hu] at e
    rw [hex_rN hx] at h2; rw [hex_rS hx, hu] at h3
    rw [e]
    unfold txV
    rw [pv_wr h, h2, h3]; rfl
theorem hex_yes (h : vB s = true) (hx : hx str = true) (hd : (dg 16 (hD str)).isSome = true) (hb : ¬ 18 < str.size) (hu : (dg 16 (hD str)).getD 0 = u) (hw : wr s g (pat false u) = pat false u) (ht : txV s g (pat false u) = strOf (decL u.toNat)) : pO s g str = true ∧ pv s g str = pat false u := by
  have hub := dg_bd (base := 16) (by omega) (hD str)
  rw [hu] at hub
  have e := congrArg bts ht
  have hvI := pat_I64 false u
  rw [txV_bts h hvI, bts_strOf (decL_okB (ten20 (by omega))), hw] at e
  have hpv : pv s g str = pat false u := by unfold pv; rw [hex_rN hx, hex_rS hx, hu, hw]
  have hsb := nmS_bd (g := g) hvI
  have hn : nmN g (pat false u) = false := by
    cases hn : nmN g (pat false u) with
    | false => rfl
    | true =>
      rw [hn] at e
      obtain ⟨d, l, e', h1, _⟩ := decL_head 19 u.toNat (ten20 (by omega))
      rw [e'] at e
      unfold txL at e
      simp at e
      omega
  rw [hn] at e
  have e2 : decL (nmS g (pat false u)).toNat = decL u.toNat := e
  have e3 := congrArg (fun l => dgs 10 l 0) e2
  rw [dgs_decL 19 _ (ten20 (by omega)) (by omega), dgs_decL 19 _ (ten20 (by omega)) (by omega)] at e3
  have e4 := Option.some.inj e3
  have hns : nmS g (pat false u) = u := by omega
  refine ⟨?_, hpv⟩
  have hO : rO str = true := by
    rw [hex_rO hx]; unfold rhO; rw [hd]
    have : bts (hD str) = (bts str).drop 2 := by rw [bts_hD, if_pos (by rw [← hx_eq]; exact hx)]
    have := congrArg List.length this
    rw [bts_len, List.length_drop, bts_len] at this
    simp; omega
  unfold pO
  rw [hpv, hO, hn, hns, hex_rN hx, hex_rS hx, hu]; simp
theorem dec_none (hx : hx str = false) (hd : (dg 10 (mD str)).isSome = false) : pO s g str = false := by
  cases hO : pO s g str with
  | false => rfl
  | true => have := (dec_facts hx (pO_split hO).1).2.2; rw [hd] at this; cases this
theorem dec_tx (h : vB s = true) (hx : hx str = false) (hu : (dg 10 (mD str)).getD 0 = u) (ht : ¬ txV s g (pat (mi str) u) = str) : pO s g str = false := by
  cases hO : pO s g str with
  | false => rfl
  | true =>
    exfalso; apply ht
    obtain ⟨e1, e2, _⟩ := dec_facts hx (pO_split hO).1
    have e := pO_pat h hO
    rw [e1, e2, hu] at e
    rw [e]
    exact text_back h hO (by rw [← hx_eq]; exact hx)
theorem dec_yes (h : vB s = true) (hv : I64 v) (hw : wr s g v = v) (ht : txV s g v = str) : pO s g str = true ∧ pv s g str = v := by
  subst ht
  rw [pO_tx h hv, pv_tx h hv, hw, hw]
  simp
theorem hx_of {h2 : 2 < str.size} (e0 : ((str[0]'(by omega)).toNat : Int) = 48) (e1 : ((str[1]'(by omega)).toNat : Int) = 120) : hx str = true := by
  rw [hx_eq]; unfold hxL
  have t1 := bts_take str 0 (by omega)
  have t2 := bts_take str 1 (by omega)
  rw [← sk_eq (by omega), e0] at t1
  rw [← sk_eq (by omega), e1, t1] at t2
  simp at t2
  rw [t2]; rfl
theorem hx_no0 {h0 : 0 < str.size} (e0 : ¬ ((str[0]'h0).toNat : Int) = 48) : hx str = false := by
  rw [hx_eq]; unfold hxL
  cases hb : ((bts str).take 2 == [48, 120]) with
  | false => rfl
  | true =>
    have t1 := bts_take str 0 h0
    rw [← sk_eq h0] at t1
    have e := congrArg (List.take 1) (beq_iff_eq.1 hb)
    rw [List.take_take] at e
    simp at e t1
    rw [t1] at e
    simp at e
    exact absurd e e0
theorem hx_no1 {h1 : 1 < str.size} (e1 : ¬ ((str[1]'h1).toNat : Int) = 120) : hx str = false := by
  rw [hx_eq]; unfold hxL
  cases hb : ((bts str).take 2 == [48, 120]) with
  | false => rfl
  | true =>
    have t2 := bts_take str 1 h1
    rw [← sk_eq h1, beq_iff_eq.1 hb] at t2
    have := congrArg (fun l => l.getD 1 0) t2
    have hl : ((bts str).take 1).length = 1 := by rw [List.length_take, bts_len]; omega
    match hm : (bts str).take 1, hl with
    | [x], _ => rw [hm] at this; simp at this; exact absurd this.symm e1
theorem mi_yes {h0 : 0 < str.size} (e0 : ((str[0]'h0).toNat : Int) = 45) : mi str = true := by
  rw [mi_eq]; unfold miL
  have t1 := bts_take str 0 h0
  rw [← sk_eq h0, e0] at t1
  simp at t1
  rw [t1]; rfl
theorem mi_no {h0 : 0 < str.size} (e0 : ¬ ((str[0]'h0).toNat : Int) = 45) : mi str = false := by
  rw [mi_eq]; unfold miL
  have t1 := bts_take str 0 h0
  rw [← sk_eq h0] at t1
  simp at t1
  rw [t1]
  simpa using e0
theorem bts_ne {k : Nat} (hk : str.size = k) : (bts str).length = k := by rw [bts_len, hk]
theorem hx_two (h2 : hx str = true) : mi str = false ∧ (dg 10 str).isSome = false := by
  rw [hx_eq] at h2
  rw [mi_eq, dg_eq]
  unfold hxL at h2
  have e := beq_iff_eq.1 h2
  match hl : bts str with
  | [] => rw [hl] at e; simp at e
  | [a] => rw [hl] at e; simp at e
  | a :: b :: l =>
    rw [hl] at e
    simp at e
    obtain ⟨rfl, rfl⟩ := e
    refine ⟨by simp [miL], ?_⟩
    simp [dgL, dgs, dStep, dOk, dV]
theorem hx_twoD (h2 : str.size ≤ 2) (hx : hx str = true) : (dg 16 (hD str)).isSome = false := by
  rw [dg_eq]
  have hb := bts_hD str
  rw [if_pos (by rw [← hx_eq]; exact hx)] at hb
  have : bts (hD str) = [] := by rw [hb]; exact List.drop_eq_nil_of_le (by rw [bts_len]; exact h2)
  rw [this]; rfl
theorem mi_empty (h0 : str.size = 0) : mi str = false := by unfold mi; rw [h0]; rfl
theorem hx_short (h0 : str.size < 2) : hx str = false := by unfold hx; rw [decide_eq_false (by omega)]; rfl
end
end Go.Proofs.YtfgmfkiknogdeaaDoor
