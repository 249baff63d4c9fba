/- WHAT IS PROVED: the law SchedPreempts, walked. -/
import Derived.Test.YtggikbcgijmhbaaAc
import Derived.Test.YtggikbcgijmhbaaAd
import Derived.Test.YtggikbcgijmhbaaPu
set_option linter.unusedSimpArgs false
set_option linter.unusedVariables false
namespace Go.Proofs.Ytggikbcgijmhbaa
open Go Go.RowKit Go.QrBits Go.QrMem
set_option maxHeartbeats 4000000 in
set_option maxRecDepth 100000 in
theorem pre_e (v0 v1 v2 : Value) (k er : Int) (w : World) (he : er = 50 ∨ er = 52) (hsw : ∀ W, Below w.heap.size w W → Calls Try.prog 22 #[.agg #[v0, v1, v2], .int .i64 k] W fun y w' => y = .returned (.tuple #[zSt, .int .i64 0, .int .i64 er]) ∧ Below W.heap.size W w') :
    Calls Try.prog 7 #[.agg #[v0, v1, v2], .int .i64 k] w fun y w' => y = .returned (.bool true) ∧ Below w.heap.size w w' := by
  have HK := (Kw.start w).box (vs := [v0, v1, v2]) (t := 25)
  have HSW := Lib.hid hsw
  clear hsw
  rcases he with rfl | rfl
  all_goals
    go_enter Try.func7, Try.ntmps7
    go_wp2_with fail
    refine (sane_c _).mono ?_
    rintro y w1 ⟨rfl, hq⟩
    replace HK := HK.below hq
    clear hq
    have p_0 := HK.get 0 0 rfl rfl
    have p_1 := HK.get 0 1 rfl rfl
    have p_2 := HK.get 0 2 rfl rfl
    go_wp2_with fail
    refine (HSW.out _ HK.base).mono ?_
    rintro y w2 ⟨rfl, hq⟩
    unfold zSt
    have hB := (HK.below hq).base
    clear HK hq p_0 p_1 p_2 HSW
    have hA := Below.tail hB (b_alloc (o := .cells #[.slice none 0 0, .slice none 0 0, .int .i64 0] 25) (Below.refl w2.heap.size w2))
    clear hB
    go_wp2
    go_ret
    exact ⟨rfl, hA⟩
set_option maxHeartbeats 8000000 in
set_option maxRecDepth 100000 in
theorem pre_f (a : Option Addr) (c : Nat) (a2 : Option Addr) (c2 : Nat) (qs : List Qu) (ts : List Th) (q : Int) (k : Nat) (w : World) (hs : ScIn w a c a2 c2 qs ts) (hck : chkB qs ts q = true) (hk : k < qs.length) (hd : dueM ⟨qs, ts, q⟩ k = false) :
    Calls Try.prog 7 #[.agg #[.slice a qs.length c, .slice a2 ts.length c2, .int .i64 q], .int .i64 k] w fun y w' => y = .returned (.bool true) ∧ Below w.heap.size w w' := by
  have hok := ok_of_chk hck
  have HS := Lib.hid hs
  have HSW := Lib.hid (fun w hs => switch_y a c a2 c2 qs ts q k w hs hck hk)
  have HDU := Lib.hid (fun w hs => dueF_y a c a2 c2 qs ts q k w hs hck hk)
  have HDE := Lib.hid hd
  generalize switchM ⟨qs, ts, q⟩ k = st at *
  have HK := (Kw.start w).box (vs := [.slice a qs.length c, .slice a2 ts.length c2, .int .i64 q]) (t := 25)
  clear hs hck hok hd
  go_enter Try.func7, Try.ntmps7
  go_wp2_with fail
  refine (sane_c _).mono ?_
  rintro y w1 ⟨rfl, hq⟩
  replace HK := HK.below hq
  clear hq
  have p_0 := HK.get 0 0 rfl rfl
  have p_1 := HK.get 0 1 rfl rfl
  have p_2 := HK.get 0 2 rfl rfl
  go_wp2_with fail
  refine (HSW.out _ (HS.out.below HK.base)).mono ?_
  rintro y w2 ⟨g, d, b, e, rfl, hsc, hq, -⟩
  replace HK := (HK.below hq).box (vs := [.slice (some ⟨g, 0, none⟩) st.qs.length d, .slice b st.ts.length e, .int .i64 st.q]) (t := 25)
  clear hq p_0 p_1 p_2 HSW
  have p_0 := HK.get 1 0 rfl rfl
  have p_1 := HK.get 1 1 rfl rfl
  have p_2 := HK.get 1 2 rfl rfl
  go_wp2_with fail
  refine (HDU.out _ (HS.out.below HK.base)).mono ?_
  rintro y w3 ⟨rfl, hq⟩
  rw [HDE.out]
  clear p_0 p_1 p_2
  have hA := (HK.below hq).base
  clear HK hq
  go_wp2
  go_ret
  exact ⟨rfl, hA⟩
set_option maxHeartbeats 8000000 in
set_option maxRecDepth 100000 in
theorem pre_i (a : Option Addr) (c : Nat) (a2 : Option Addr) (c2 : Nat) (qs : List Qu) (ts : List Th) (q : Int) (k : Nat) (w : World) (hs : ScIn w a c a2 c2 qs ts) (hck : chkB qs ts q = true) (hk : k < qs.length) (hd : dueM ⟨qs, ts, q⟩ k = true) (hr : (quOf qs (k : Int)).run = -1) :
    Calls Try.prog 7 #[.agg #[.slice a qs.length c, .slice a2 ts.length c2, .int .i64 q], .int .i64 k] w fun y w' => y = .returned (.bool true) ∧ Below w.heap.size w w' := by
  have hok := ok_of_chk hck
  have HS := Lib.hid hs
  have HSW := Lib.hid (fun w hs => switch_y a c a2 c2 qs ts q k w hs hck hk)
  have HDU := Lib.hid (fun w hs => dueF_y a c a2 c2 qs ts q k w hs hck hk)
  have HDE := Lib.hid hd
  generalize switchM ⟨qs, ts, q⟩ k = st at *
  have HK := (Kw.start w).box (vs := [.slice a qs.length c, .slice a2 ts.length c2, .int .i64 q]) (t := 25)
  obtain ⟨bq, oq, rfl, hbq, c0, _⟩ := hs.qu (qu_some hk)
  rw [hr] at c0
  have hm1 := hs.v1.max
  unfold maxLen at hm1
  have k0 : (0 : Int) ≤ (k : Int) := Int.natCast_nonneg _
  have k1 : (k : Int) < (qs.length : Int) := by omega
  clear hs hck hok hd
  go_enter Try.func7, Try.ntmps7
  go_wp2_with fail
  refine (sane_c _).mono ?_
  rintro y w1 ⟨rfl, hq⟩
  replace HK := HK.below hq
  clear hq
  have p_0 := HK.get 0 0 rfl rfl
  have p_1 := HK.get 0 1 rfl rfl
  have p_2 := HK.get 0 2 rfl rfl
  go_wp2_with fail
  refine (HSW.out _ (HS.out.below HK.base)).mono ?_
  rintro y w2 ⟨g, d, b, e, rfl, hsc, hq, -⟩
  replace HK := (HK.below hq).box (vs := [.slice (some ⟨g, 0, none⟩) st.qs.length d, .slice b st.ts.length e, .int .i64 st.q]) (t := 25)
  clear hq p_0 p_1 p_2 HSW
  have p_0 := HK.get 1 0 rfl rfl
  have p_1 := HK.get 1 1 rfl rfl
  have p_2 := HK.get 1 2 rfl rfl
  go_wp2_with fail
  refine (HDU.out _ (HS.out.below HK.base)).mono ?_
  rintro y w3 ⟨rfl, hq⟩
  rw [HDE.out]
  clear p_0 p_1 p_2
  replace HK := HK.below hq
  clear hq
  have p_0 := HK.get 1 0 rfl rfl
  have e_0 := (HK.base.cell (p := ⟨bq, oq + k * 3, none⟩) hbq).trans c0
  have hA := HK.base
  clear HK c0
  go_wp2
  go_ret
  exact ⟨rfl, hA⟩
set_option maxHeartbeats 8000000 in
set_option maxRecDepth 100000 in
theorem pre_y (a : Option Addr) (c : Nat) (a2 : Option Addr) (c2 : Nat) (qs : List Qu) (ts : List Th) (q : Int) (k : Nat) (w : World) (hs : ScIn w a c a2 c2 qs ts) (hck : chkB qs ts q = true) (hk : k < qs.length) (hd : dueM ⟨qs, ts, q⟩ k = true) (m : Nat) (hr : (quOf qs (k : Int)).run = m) :
    Calls Try.prog 7 #[.agg #[.slice a qs.length c, .slice a2 ts.length c2, .int .i64 q], .int .i64 k] w fun y w' => y = .returned (.bool true) ∧ Below w.heap.size w w' := by
  have hok := ok_of_chk hck
  have HS := Lib.hid hs
  have HSW := Lib.hid (fun w hs => switch_y a c a2 c2 qs ts q k w hs hck hk)
  have HDU := Lib.hid (fun w hs => dueF_y a c a2 c2 qs ts q k w hs hck hk)
  have HDE := Lib.hid hd
  have hok2 : Ok (switchM ⟨qs, ts, q⟩ k) := switch_ok hok hk
  obtain ⟨A, Bs, hab, hna, hnb, hne, hf1, hf2⟩ := pre_ok hok hk hd hr
  have hlen : (switchM ⟨qs, ts, q⟩ k).qs.length = qs.length := switchM_n _ _
  have hlen2 : (switchM ⟨qs, ts, q⟩ k).ts.length = ts.length := switchM_m _ _
  have hpri : ∀ r, (thOf (switchM ⟨qs, ts, q⟩ k).ts r).pri = (thOf ts r).pri := fun r => switch_pri hok hk r
  have hR := run_thr (s := ⟨qs, ts, q⟩) (c := k) hok hk (by show (quOf qs (k : Int)).run ≠ -1; rw [hr]; omega)
  dsimp only at hR hlen hlen2 hpri
  obtain ⟨m', hm', hml, _, _, hl0, _⟩ := hR
  obtain rfl : m = m' := by omega
  generalize switchM ⟨qs, ts, q⟩ k = st at *
  have hk2 : k < st.qs.length := by omega
  have hu := qu_some hk2
  have hmem := hok2.rd k _ hu
  have hl16 := short16 hok2 k _ hu
  generalize quOf st.qs (k : Int) = u at *
  obtain ⟨tm, htm⟩ : ∃ t, st.ts[m]? = some t := ⟨_, List.getElem?_eq_getElem (by omega)⟩
  have htp : (thOf ts (m : Int)).pri = tm.pri := by rw [← hpri, thOf_of htm]
  have HK := (Kw.start w).box (vs := [.slice a qs.length c, .slice a2 ts.length c2, .int .i64 q]) (t := 25)
  obtain ⟨bq, oq, rfl, hbq, c0, c1, _⟩ := hs.qu (qu_some hk)
  rw [hr] at c0
  generalize (quOf qs (k : Int)).left = lf at *
  have hm1 := hs.v1.max
  unfold maxLen at hm1
  have k0 : (0 : Int) ≤ (k : Int) := Int.natCast_nonneg _
  have k1 : (k : Int) < (qs.length : Int) := by omega
  have k2 : (k : Int) < (st.qs.length : Int) := by omega
  have m0 : (0 : Int) ≤ (m : Int) := Int.natCast_nonneg _
  have m1 : (m : Int) < (st.ts.length : Int) := by omega
  have hm0 : ((m : Int) == -1) = false := by simp
  have hrm : (u.run == (m : Int)) = false := by simpa using hne
  have HF1 := Lib.hid hf1
  have HF2 := Lib.hid hf2
  have HNA := Lib.hid hna
  have HNB := Lib.hid hnb
  have HAB := Lib.hid hab
  have HMEM := Lib.hid hmem
  have HPRI := Lib.hid hpri
  have HU := Lib.hid hu
  have HTM := Lib.hid htm
  have HTP := Lib.hid htp
  have i0n : A.length < u.ready.length := by rw [hab]; simp
  have HLR := Lib.hid (show u.ready.length = A.length + 1 + Bs.length by rw [hab]; simp; omega)
  clear hs hck hok hd hr hm' hok2 hlen hlen2 hf1 hf2 hna hnb hne hab hmem hpri hu htm htp hml
  go_enter Try.func7, Try.ntmps7
  go_wp2_with fail
  refine (sane_c _).mono ?_
  rintro y w1 ⟨rfl, hq⟩
  replace HK := HK.below hq
  clear hq
  have p_0 := HK.get 0 0 rfl rfl
  have p_1 := HK.get 0 1 rfl rfl
  have p_2 := HK.get 0 2 rfl rfl
  go_wp2_with fail
  refine (HSW.out _ (HS.out.below HK.base)).mono ?_
  rintro y w2 ⟨g, d, b, e, rfl, hsc, hq, -⟩
  have HWB := Lib.hid (HK.below hq).base
  have harow := (HK.below hq).row 0 rfl
  have hal := (Array.getElem?_eq_some_iff.1 harow).1
  clear HK
  have HK := (Kw.start w2).box (vs := [.slice (some ⟨g, 0, none⟩) st.qs.length d, .slice b st.ts.length e, .int .i64 st.q]) (t := 25)
  clear hq p_0 p_1 p_2 HSW
  obtain ⟨p_0, p_1, p_2, _, _, _, _⟩ := row3 ((HK.base.block _ hal).trans harow)
  go_wp2_with fail
  refine (HDU.out _ (HS.out.below (HWB.out.trans (HK.base.mono (Nat.le_of_lt hal))))).mono ?_
  rintro y w3 ⟨rfl, hq⟩
  rw [HDE.out]
  clear p_0 p_1 p_2
  obtain ⟨gb, goff, hg, hgl, _, _, ar, cr, cx, hv, h5⟩ := hsc.qu HU.out
  obtain ⟨rfl, rfl⟩ : g = gb ∧ goff = 0 := by simp at hg; exact ⟨hg.1, hg.2.symm⟩
  clear hg
  obtain ⟨bb, oo, rfl, hbb, t0, _, _⟩ := hsc.th HTM.out
  have HG : Hid (∀ i, i < u.ready.length → ∃ (j : Nat) (p : Int) (br orr : Nat), ar = some ⟨br, orr, none⟩ ∧ br < w2.heap.size ∧ w2.cell? ⟨br, orr + i, none⟩ = some (.int .i64 j) ∧ (j : Int) < (st.ts.length : Int) ∧ w2.cell? ⟨bb, oo + j * 3, none⟩ = some (.int .i64 p) ∧ ((j : Int) == (m : Int)) = decide (i = A.length) ∧ (0 < lf → i < A.length → tm.pri < p) ∧ (lf = 0 → A.length < i → p < tm.pri)) := by
    refine Lib.hid fun i hi => ?_
    obtain ⟨j, hj, _, tj, htj, _, _⟩ := HMEM.out _ (List.getElem_mem hi)
    obtain ⟨b', o', e', _, g0, _, _⟩ := hsc.th htj
    obtain ⟨rfl, rfl⟩ : bb = b' ∧ oo = o' := by simpa using e'
    have hpj : (thOf ts (j : Int)).pri = tj.pri := by rw [← HPRI.out, thOf_of htj]
    have hget : u.ready[i]? = some (j : Int) := by rw [List.getElem?_eq_getElem hi, hj]
    rw [HAB.out] at hget
    rcases h5 with h | ⟨br, orr, har, hbr, hcr⟩
    · simp [iV] at h; rw [h] at hi; simp at hi
    · refine ⟨j, tj.pri, br, orr, har, hbr, ?_, by have := (List.getElem?_eq_some_iff.1 htj).1; omega, g0, ?_, ?_, ?_⟩
      · refine hcr i _ ?_
        simp [iV, List.getElem?_eq_getElem hi, hj]
      · rcases Nat.lt_trichotomy i A.length with hlt | rfl | hgt
        · rw [List.getElem?_append_left hlt] at hget
          have : (j : Int) ∈ A := List.mem_of_getElem? hget
          have hne : (j : Int) ≠ (m : Int) := fun e => HNA.out (by rw [← e]; exact this)
          rw [decide_eq_false (by omega)]; simpa using hne
        · rw [List.getElem?_append_right (Nat.le_refl _)] at hget
          simp at hget; simp [hget]
        · rw [List.getElem?_append_right (by omega)] at hget
          obtain ⟨i', hi'⟩ : ∃ i', i - A.length = i' + 1 := ⟨i - A.length - 1, by omega⟩
          rw [hi', List.getElem?_cons_succ] at hget
          have : (j : Int) ∈ Bs := List.mem_of_getElem? hget
          have hne : (j : Int) ≠ (m : Int) := fun e => HNB.out (by rw [← e]; exact this)
          rw [decide_eq_false (by omega)]; simpa using hne
      · intro h0 hlt
        rw [List.getElem?_append_left hlt] at hget
        have := HF1.out h0 _ (List.mem_of_getElem? hget)
        rw [HTP.out, hpj] at this; exact this
      · intro h0 hgt
        rw [List.getElem?_append_right (by omega)] at hget
        obtain ⟨i', hi'⟩ : ∃ i', i - A.length = i' + 1 := ⟨i - A.length - 1, by omega⟩
        rw [hi', List.getElem?_cons_succ] at hget
        have := HF2.out h0 _ (List.mem_of_getElem? hget)
        rw [HTP.out, hpj] at this; exact this
  have HV := Lib.hid hv
  clear hsc hv h5 HF1 HF2 HNA HNB HAB HMEM HPRI HU HTM HTP HDU HDE HS
  simp only [Nat.zero_add] at cx
  generalize u.ready.length = n at *
  generalize A.length = ia at *
  generalize Bs.length = nb at *
  generalize u.run = ru at *
  generalize tm.pri = pm at *
  replace HK := HK.below hq
  clear hq
  have HD := Lib.hid (HWB.out.trans (HK.base.mono (Nat.le_of_lt hal)))
  obtain ⟨p_0, p_1, p_2, _, _, _, _⟩ := row3 ((HK.base.block _ hal).trans harow)
  have e_0 := HK.get 0 0 rfl rfl
  have s_0 := (HD.out.cell (p := ⟨bq, oq + k * 3, none⟩) hbq).trans c0
  have x_2 := (HK.base.cell (p := ⟨g, k * 3 + 2, none⟩) hgl).trans cx
  go_wp2_with fail
  clear p_0 p_1 p_2 e_0 s_0 x_2
  go_loopw [11, 12] (fun at_ i wr => ∃ (j : Nat) (wv : World), wv = wr ∧ j ≤ n ∧ i = .int .i64 j ∧ at_ = .int .i64 (if j ≤ ia then -1 else (ia : Int)) ∧ Kw [(w2.heap.size, [.slice (some ⟨g, 0, none⟩) st.qs.length d, .slice (some ⟨bb, oo, none⟩) st.ts.length e, .int .i64 st.q], 25)] w2 wv) (fun _ i _ => n - (intOf i).toNat)
  case atStart => exact ⟨0, _, rfl, Nat.zero_le _, rfl, by simp, HK⟩
  case round =>
    clear HK HD
    obtain ⟨i, wv, hw, hi, rfl, rfl, HK⟩ := hrel
    subst hw
    by_cases hlt : i < n
    · obtain ⟨j, p, br, orr, rfl, hbr, g1, hj, g2, hq1, _, _⟩ := HG.out i hlt
      have e3 := (HK.base.cell (p := ⟨br, orr + i, none⟩) hbr).trans g1
      have i0 : (0 : Int) ≤ (i : Int) := Int.natCast_nonneg _
      have i1 : (i : Int) < (n : Int) := by omega
      by_cases hia : i = ia
      · have hq2 : ((j : Int) == (m : Int)) = true := by rw [hq1]; simpa using hia
        have HIA := Lib.hid hia
        clear g1 g2 hq1 hbr hia
        go_wp2
        go_roundw
        case rel => exact ⟨i + 1, _, rfl, by omega, by go_num, by rw [if_neg (by have := HIA.out; omega), HIA.out], HK⟩
        case measure => simp [intOf]; omega
      · have hq2 : ((j : Int) == (m : Int)) = false := by rw [hq1]; simpa using hia
        have HIA := Lib.hid hia
        clear g1 g2 hq1 hbr hia
        go_wp2
        go_roundw
        case rel => exact ⟨i + 1, _, rfl, by omega, by go_num, by
          rcases Nat.lt_or_gt_of_ne HIA.out with h | h
          · rw [if_pos (show i ≤ ia by omega), if_pos (show i + 1 ≤ ia by omega)]
          · rw [if_neg (show ¬ i ≤ ia by omega), if_neg (show ¬ i + 1 ≤ ia by omega)], HK⟩
        case measure => simp [intOf]; omega
    · obtain rfl : i = n := by omega
      rw [if_neg (by omega)]
      have HD := Lib.hid (HWB.out.trans (HK.base.mono (Nat.le_of_lt hal)))
      obtain ⟨p_0, p_1, p_2, _, _, _, _⟩ := row3 ((HK.base.block _ hal).trans harow)
      have e_1 := HK.get 0 1 rfl rfl
      have s_1 := (HD.out.cell (p := ⟨bq, oq + k * 3 + 1, none⟩) hbq).trans c1
      have x_0 := (HK.base.cell (p := ⟨bb, oo + m * 3, none⟩) hbb).trans t0
      have a0 : ((ia : Int) < 0) = False := by simp
      have n0 : (0 : Int) ≤ (i : Int) := Int.natCast_nonneg _
      have hB := Lib.hid HK.base
      clear HK c0 c1 t0 cx hlt
      by_cases h0 : 0 < lf
      · cases ia with
        | zero =>
          have hA := HD.out
          clear HD HG
          go_wp2
          go_region
          go_wp2
          go_ret
          exact ⟨by simp, by first | exact hA | exact hA.drew | exact below_drewN hA _⟩
        | succ i1 =>
          obtain ⟨j, p, br, orr, rfl, hbr, g1, hj, g2, _, hq2, _⟩ := HG.out i1 (by omega)
          have hlt := hq2 h0 (by omega)
          have e3 := (hB.out.cell (p := ⟨br, orr + i1, none⟩) hbr).trans g1
          have e4 := (hB.out.cell (p := ⟨bb, oo + j * 3, none⟩) hbb).trans g2
          have hw1 : IntKind.i64.wrap (((i1 + 1 : Nat) : Int) - 1) = (i1 : Int) := by rw [IntWalk.i64_in _ (by omega)]; omega
          have hz : (((i1 + 1 : Nat) : Int) == 0) = false := by simp; omega
          have z0 : (0 : Int) ≤ (i1 : Int) := Int.natCast_nonneg _
          have z1 : (i1 : Int) < (i : Int) := by omega
          have y0 : (0 : Int) ≤ (j : Int) := Int.natCast_nonneg _
          have hA := HD.out
          clear HD HG hq2 g1 g2 hB
          generalize hI : ((i1 + 1 : Nat) : Int) = I at *
          clear hI
          go_wp2
          go_region
          go_wp2
          go_ret
          exact ⟨by simp [hlt], by first | exact hA | exact hA.drew | exact below_drewN hA _⟩
      · have hlz : lf = 0 := by omega
        subst hlz
        clear h0
        have hlenR := HLR.out
        cases nb with
        | zero =>
          have hw1 : IntKind.i64.wrap ((i : Int) - 1) = (ia : Int) := by rw [IntWalk.i64_in _ (by omega)]; omega
          have hA := HD.out
          clear HD HG hB hlenR i0n
          go_wp2
          go_region
          go_wp2
          go_ret
          exact ⟨by simp, by first | exact hA | exact hA.drew | exact below_drewN hA _⟩
        | succ nb1 =>
          obtain ⟨ib, hib⟩ : ∃ ib : Nat, ib = ia + 1 := ⟨_, rfl⟩
          obtain ⟨im, him⟩ : ∃ im : Nat, i = im + 1 := ⟨i - 1, by omega⟩
          obtain ⟨j, p, br, orr, rfl, hbr, g1, hj, g2, _, _, hq3⟩ := HG.out ib (by omega)
          have hlt := hq3 rfl (by omega)
          have e3 := (hB.out.cell (p := ⟨br, orr + ib, none⟩) hbr).trans g1
          have e4 := (hB.out.cell (p := ⟨bb, oo + j * 3, none⟩) hbb).trans g2
          have hw1 : IntKind.i64.wrap ((i : Int) - 1) = (im : Int) := by rw [IntWalk.i64_in _ (by omega)]; omega
          have hw2 : IntKind.i64.wrap ((ia : Int) + 1) = (ib : Int) := by rw [IntWalk.i64_in _ (by omega)]; omega
          have hz : ((ia : Int) == (im : Int)) = false := by simp; omega
          have z0 : (0 : Int) ≤ (ib : Int) := Int.natCast_nonneg _
          have z1 : (ib : Int) < (i : Int) := by omega
          have y0 : (0 : Int) ≤ (j : Int) := Int.natCast_nonneg _
          clear hib him i0n hlenR
          have hA := HD.out
          clear HD HG hq3 g1 g2 hB
          go_wp2
          go_region
          go_wp2
          go_ret
          exact ⟨by simp [hlt], by first | exact hA | exact hA.drew | exact below_drewN hA _⟩
theorem preempts_walk (a : Option Addr) (c : Nat) (a2 : Option Addr) (c2 : Nat) (qs : List Qu) (ts : List Th) (q k : Int) (w : World) (hs : ScIn w a c a2 c2 qs ts) :
    Calls Try.prog 7 #[.agg #[.slice a qs.length c, .slice a2 ts.length c2, .int .i64 q], .int .i64 k] w fun y w' => y = .returned (.bool true) ∧ Below w.heap.size w w' := by
  cases hck : chkB qs ts q with
  | false => exact pre_e _ _ _ k 50 w (.inl rfl) fun W hW => switch_n a c a2 c2 qs ts q k W (hs.below hW) hck
  | true =>
    cases hk : inB k 0 ((qs.length : Int) - 1) with
    | false => exact pre_e _ _ _ k 52 w (.inr rfl) fun W hW => switch_p a c a2 c2 qs ts q k W (hs.below hW) hck hk
    | true =>
      obtain ⟨h1, h2⟩ := inB_out hk
      obtain ⟨n, rfl⟩ : ∃ n : Nat, k = n := ⟨k.toNat, by omega⟩
      have hn : n < qs.length := by omega
      cases hd : dueM ⟨qs, ts, q⟩ n with
      | false => exact pre_f a c a2 c2 qs ts q n w hs hck hn hd
      | true =>
        by_cases hr : (quOf qs (n : Int)).run = -1
        · exact pre_i a c a2 c2 qs ts q n w hs hck hn hd hr
        · obtain ⟨m, hm, _⟩ := run_thr (s := ⟨qs, ts, q⟩) (c := n) (ok_of_chk hck) hn hr
          exact pre_y a c a2 c2 qs ts q n w hs hck hn hd m hm
end Go.Proofs.Ytggikbcgijmhbaa
