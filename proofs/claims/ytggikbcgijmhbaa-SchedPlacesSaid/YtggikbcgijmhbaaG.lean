/- WHAT IS PROVED: sched.Check and sched.Due, for every state. CONDITIONS: as the cells lie. -/
import Derived.Test.YtggikbcgijmhbaaF
set_option linter.unusedSimpArgs false
set_option linter.unusedVariables false
namespace Go.Proofs.Ytggikbcgijmhbaa
open Go Go.RowKit Go.QrBits Go.QrMem
/-- Is processor k as it has to be? -/
def cpuB (qs : List Qu) (ts : List Th) (q : Int) (k : Nat) : Bool := rfB ts (quOf qs k) k q && rdyB ts (quOf qs k) k
def cpusB (qs : List Qu) (ts : List Th) (q : Int) : Bool := (List.range qs.length).all fun k => cpuB qs ts q k
def chkB (qs : List Qu) (ts : List Th) (q : Int) : Bool := bdB qs.length ts.length q && fitB qs ts && cpusB qs ts q
def okE (b : Bool) : Int := if b then 0 else 50
theorem cpusB_no {qs : List Qu} {ts : List Th} {q : Int} {k : Nat} (hk : k < qs.length) (h : cpuB qs ts q k = false) : cpusB qs ts q = false := by
  rw [cpusB, List.all_eq_false]
  exact ⟨k, by simpa using hk, by simp [h]⟩
theorem cpusB_yes {qs : List Qu} {ts : List Th} {q : Int} (h : ∀ k, k < qs.length → cpuB qs ts q k = true) : cpusB qs ts q = true := by
  rw [cpusB, List.all_eq_true]
  intro k hk
  exact h k (by simpa using hk)
theorem fit_pri {qs : List Qu} {ts : List Th} (h : fitB qs ts = true) : ∀ (k : Nat) (t : Th), ts[k]? = some t → 0 ≤ t.pri ∧ t.pri ≤ 7 := by
  intro k t hk
  rw [fitB, List.all_eq_true] at h
  have := h k (by simpa using (List.getElem?_eq_some_iff.1 hk).1)
  rw [hk] at this
  simp only [tF, Bool.and_eq_true] at this
  exact inB_out this.1.1.1
set_option maxHeartbeats 4000000 in
set_option maxRecDepth 100000 in
theorem check_c (a : Option Addr) (c : Nat) (a2 : Option Addr) (c2 : Nat) (qs : List Qu) (ts : List Th) (q : Int) (w : World) (hs : ScIn w a c a2 c2 qs ts) :
    Calls Try.prog 13 #[.agg #[.slice a qs.length c, .slice a2 ts.length c2, .int .i64 q]] w fun e w' => e = .returned (.int .i64 (okE (chkB qs ts q))) ∧ Below w.heap.size w w' := by
  have hm1 := hs.v1.max
  have hC1 := fun w => bounded_c a qs.length c a2 ts.length c2 q w hs.v2.max
  unfold maxLen at hm1
  have HS := Lib.hid hs
  have HK := (Kw.start w).box (vs := [.slice a qs.length c, .slice a2 ts.length c2, .int .i64 q]) (t := 25)
  clear hs
  cases hb : bdB qs.length ts.length q with
  | false =>
    rw [hb] at hC1
    have HF := Lib.hid (show okE (chkB qs ts q) = 50 by simp [chkB, hb, okE])
    have HC := Lib.hid hC1
    clear hC1 hb
    go_enter Try.func13, Try.ntmps13
    go_wp2_with fail
    refine (HC.out _).mono ?_
    rintro e w' ⟨rfl, hq⟩
    have hK := (HK.below hq).base
    clear HK hq
    go_wp2
    go_ret
    exact ⟨by simp [HF.out], hK⟩
  | true =>
  rw [hb] at hC1
  have hm : ts.length ≤ 16 := by simp only [bdB, Bool.and_eq_true, decide_eq_true_eq] at hb; exact hb.1.2
  have HC := Lib.hid hC1
  have hC2 := fun w hs => threadsFit_c a c a2 c2 qs ts q w hs
  cases hf : fitB qs ts with
  | false =>
    rw [hf] at hC2
    have HF := Lib.hid (show okE (chkB qs ts q) = 50 by simp [chkB, hf, okE])
    have HC2 := Lib.hid hC2
    clear hC1 hC2 hb hf
    go_enter Try.func13, Try.ntmps13
    go_wp2_with fail
    refine (HC.out _).mono ?_
    rintro e w' ⟨rfl, hq⟩
    replace HK := HK.below hq
    clear hq
    have p_0 := HK.get 0 0 rfl rfl
    have p_1 := HK.get 0 1 rfl rfl
    have p_2 := HK.get 0 2 rfl rfl
    go_wp2_with fail
    refine (HC2.out _ (HS.out.below HK.base)).mono ?_
    rintro e w' ⟨rfl, hq⟩
    have hK := (HK.below hq).base
    clear HK hq p_0 p_1 p_2
    go_wp2
    go_ret
    exact ⟨by simp [HF.out], hK⟩
  | true =>
  rw [hf] at hC2
  have HP := Lib.hid (fit_pri hf)
  have HF := Lib.hid (show chkB qs ts q = cpusB qs ts q by simp [chkB, hb, hf])
  have HC2 := Lib.hid hC2
  clear hC1 hC2 hb hf
  go_enter Try.func13, Try.ntmps13
  go_wp2_with fail
  refine (HC.out _).mono ?_
  rintro e w1 ⟨rfl, hq⟩
  replace HK := HK.below hq
  clear hq
  have p_0 := HK.get 0 0 rfl rfl
  have p_1 := HK.get 0 1 rfl rfl
  have p_2 := HK.get 0 2 rfl rfl
  go_wp2_with fail
  refine (HC2.out _ (HS.out.below HK.base)).mono ?_
  rintro e w2 ⟨rfl, hq⟩
  replace HK := HK.below hq
  clear hq p_0 p_1 p_2
  have p_0 := HK.get 0 0 rfl rfl
  go_wp2_with fail
  clear p_0
  go_loopw [15] (fun i wr => ∃ (k : Nat) (wv : World), wv = wr ∧ k ≤ qs.length ∧ i = .int .i64 k ∧ Kw [(w.heap.size, [.slice a qs.length c, .slice a2 ts.length c2, .int .i64 q], 25)] w wv ∧ Hid (∀ j, j < k → cpuB qs ts q j = true)) (fun i _ => qs.length - (intOf i).toNat)
  case atStart => exact ⟨0, _, rfl, Nat.zero_le _, rfl, HK, Lib.hid fun j hj => absurd hj (Nat.not_lt_zero j)⟩
  case round =>
    clear HK
    obtain ⟨k, wv, hw, hk, rfl, HK, hall⟩ := hrel
    subst hw
    have p_0 := HK.get 0 0 rfl rfl
    have p_1 := HK.get 0 1 rfl rfl
    have p_2 := HK.get 0 2 rfl rfl
    by_cases hlt : k < qs.length
    · have hkq := qu_some hlt
      have hR := fun w hs => runFits_c a c a2 c2 qs ts q k _ w hs hkq
      have hD := fun w hs => readyFits_c a c a2 c2 qs ts q k _ w hs hkq hm HP.out
      have hcB : cpuB qs ts q k = (rfB ts (quOf qs k) k q && rdyB ts (quOf qs k) k) := rfl
      have hcN : cpuB qs ts q k = false → cpusB qs ts q = false := cpusB_no hlt
      generalize rfB ts (quOf qs (k : Int)) k q = b1 at hR hcB
      generalize rdyB ts (quOf qs (k : Int)) k = b2 at hD hcB
      have HR := Lib.hid hR
      have HD := Lib.hid hD
      have HN := Lib.hid hcN
      clear hR hD hcN hkq
      cases b1 with
      | false =>
        have HZ := Lib.hid (show okE (chkB qs ts q) = 50 by rw [HF.out, HN.out (by rw [hcB]; rfl)]; rfl)
        clear hcB
        go_wp2_with fail
        refine (HR.out _ (HS.out.below HK.base)).mono ?_
        rintro e w' ⟨rfl, hq⟩
        have hK := (HK.below hq).base
        clear HK hq p_0 p_1 p_2
        go_wp2
        go_ret
        exact ⟨by simp [HZ.out], hK⟩
      | true =>
        cases b2 with
        | false =>
          have HZ := Lib.hid (show okE (chkB qs ts q) = 50 by rw [HF.out, HN.out (by rw [hcB]; rfl)]; rfl)
          clear hcB
          go_wp2_with fail
          refine (HR.out _ (HS.out.below HK.base)).mono ?_
          rintro e w' ⟨rfl, hq⟩
          replace HK := HK.below hq
          clear hq p_0 p_1 p_2
          have p_0 := HK.get 0 0 rfl rfl
          have p_1 := HK.get 0 1 rfl rfl
          have p_2 := HK.get 0 2 rfl rfl
          go_wp2_with fail
          refine (HD.out _ (HS.out.below HK.base)).mono ?_
          rintro e w' ⟨rfl, hq⟩
          have hK := (HK.below hq).base
          clear HK hq p_0 p_1 p_2
          go_wp2
          go_ret
          exact ⟨by simp [HZ.out], hK⟩
        | true =>
          have HZ := Lib.hid (show cpuB qs ts q k = true by rw [hcB]; rfl)
          clear hcB
          go_wp2_with fail
          refine (HR.out _ (HS.out.below HK.base)).mono ?_
          rintro e w' ⟨rfl, hq⟩
          replace HK := HK.below hq
          clear hq p_0 p_1 p_2
          have p_0 := HK.get 0 0 rfl rfl
          have p_1 := HK.get 0 1 rfl rfl
          have p_2 := HK.get 0 2 rfl rfl
          go_wp2_with fail
          refine (HD.out _ (HS.out.below HK.base)).mono ?_
          rintro e w' ⟨rfl, hq⟩
          replace HK := HK.below hq
          clear hq p_0 p_1 p_2
          go_wp2
          go_roundw
          case rel => exact ⟨k + 1, _, rfl, by omega, by go_num, HK, Lib.hid fun j hj => by
            rcases Nat.lt_or_ge j k with h | h
            · exact hall.out j h
            · have e : j = k := by omega
              subst e; exact HZ.out⟩
          case measure => simp [intOf]; omega
    · have HZ := Lib.hid (show okE (chkB qs ts q) = 0 by rw [HF.out, cpusB_yes (fun j hj => hall.out j (by omega))]; rfl)
      have hK := HK.base
      clear HK p_0 p_1 p_2
      go_wp2
      go_ret
      exact ⟨by simp [HZ.out], hK⟩
end Go.Proofs.Ytggikbcgijmhbaa
