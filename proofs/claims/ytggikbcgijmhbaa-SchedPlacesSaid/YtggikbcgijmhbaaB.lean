/- WHAT IS PROVED: sched.threadsFit, for every state. CONDITIONS: the cells hold the lists. -/
import Derived.Test.YtggikbcgijmhbaaA
import Derived.LoopTactic
namespace Go.Proofs.Ytggikbcgijmhbaa
open Go Go.RowKit Go.QrBits Go.QrMem

theorem isPri_y (n : Int) (w : World) (h : inB n 0 7 = true) : Calls Try.prog 60 #[.int .i64 n] w fun e w' => e = .returned (.bool true) ∧ w = w' := by have := isPri_c n w; rwa [h] at this
theorem isPri_n (n : Int) (w : World) (h : inB n 0 7 = false) : Calls Try.prog 60 #[.int .i64 n] w fun e w' => e = .returned (.bool false) ∧ w = w' := by have := isPri_c n w; rwa [h] at this
/-- Who runs on the processor of a thread. -/
def runOf (qs : List Qu) (t : Th) : Int := match qs[t.cpu.toNat]? with | some x => x.run | none => -1
/-- Is thread k as it has to be? -/
def tF (qs : List Qu) (k : Nat) (t : Th) : Bool := inB t.pri 0 7 && inB t.cpu 0 ((qs.length : Int) - 1) && inB t.st 1 4 && !(t.st == 2 && runOf qs t != (k : Int))
def fitB (qs : List Qu) (ts : List Th) : Bool := (List.range ts.length).all fun k => match ts[k]? with | some t => tF qs k t | none => true
theorem fit_no {qs : List Qu} {ts : List Th} {k : Nat} {t : Th} (hk : ts[k]? = some t) (h : tF qs k t = false) : fitB qs ts = false := by
  have hl := (List.getElem?_eq_some_iff.1 hk).1
  rw [fitB, List.all_eq_false]
  exact ⟨k, by simpa using hl, by rw [hk]; simp [h]⟩
theorem fit_yes {qs : List Qu} {ts : List Th} (h : ∀ (k : Nat) (t : Th), ts[k]? = some t → tF qs k t = true) : fitB qs ts = true := by
  rw [fitB, List.all_eq_true]
  intro k _
  cases hk : ts[k]? with
  | none => rfl
  | some t => exact h k t hk
set_option linter.unusedSimpArgs false in
set_option linter.unusedVariables false in
set_option maxHeartbeats 4000000 in
set_option maxRecDepth 100000 in
theorem threadsFit_c (a : Option Addr) (c : Nat) (a2 : Option Addr) (c2 : Nat) (qs : List Qu) (ts : List Th) (q : Int) (w : World) (hs : ScIn w a c a2 c2 qs ts) :
    Calls Try.prog 34 #[.agg #[.slice a qs.length c, .slice a2 ts.length c2, .int .i64 q]] w fun e w' => e = .returned (.bool (fitB qs ts)) ∧ Below w.heap.size w w' := by
  have hm := hs.v2.max
  have hm1 := hs.v1.max
  unfold maxLen at hm hm1
  have HS := Lib.hid hs
  clear hs
  have HK := (Kw.start w).box (vs := [.slice a qs.length c, .slice a2 ts.length c2, .int .i64 q]) (t := 25)
  go_enter Try.func34, Try.ntmps34
  go_wp2_with fail
  go_loopw [8] (fun i wr => ∃ (k : Nat) (wv : World), wv = wr ∧ k ≤ ts.length ∧ i = .int .i64 k ∧ Kw [(w.heap.size, [.slice a qs.length c, .slice a2 ts.length c2, .int .i64 q], 25)] w wv ∧ Hid (∀ (j : Nat) (t : Th), j < k → ts[j]? = some t → tF qs j t = true)) (fun i _ => ts.length - (intOf i).toNat)
  case atStart => exact ⟨0, _, rfl, Nat.zero_le _, rfl, HK, Lib.hid fun j t hj => absurd hj (Nat.not_lt_zero j)⟩
  case round =>
    clear HK
    obtain ⟨k, wv, hw, hk, rfl, HK, hall⟩ := hrel
    subst hw
    by_cases hlt : k < ts.length
    · have hkt := Lib.hid (List.getElem?_eq_getElem hlt)
      generalize ts[k] = t at hkt
      obtain ⟨b, off, rfl, hb, c0, c1, c2x⟩ := (HS.out.below HK.base).th hkt.out
      have k0 : (0 : Int) ≤ (k : Int) := Int.natCast_nonneg _
      have k1 : (k : Int) < (ts.length : Int) := by omega
      have p_0 := HK.get 0 0 rfl rfl
      have p_1 := HK.get 0 1 rfl rfl
      have p_s := HK.lt 0 rfl
      have HKt := Lib.hid (HK.alloc (o := (.cells #[.int .i64 t.pri, .int .i64 t.cpu, .int .i64 t.st] 44)))
      have HKh := Lib.hid HK
      clear HK
      cases h1 : inB t.pri 0 7 with
      | false =>
        have hf := Lib.hid (fit_no (qs := qs) hkt.out (by simp [tF, h1]))
        have H1 := Lib.hid h1
        clear h1
        go_wp2_with fail
        refine (isPri_n _ _ H1.out).mono ?_
        rintro e w' ⟨rfl, rfl⟩
        have hK := HKt.out.base
        clear HKt
        go_wp2
        go_ret
        exact ⟨by simp [hf.out], hK⟩
      | true =>
      have H1 := Lib.hid h1
      cases h2 : inB t.cpu 0 ((qs.length : Int) - 1) with
      | false =>
        have hf := Lib.hid (fit_no (qs := qs) hkt.out (by simp [tF, h1, h2]))
        have H2 := Lib.hid h2
        clear h1 h2
        go_wp2_with fail
        refine (isPri_y _ _ H1.out).mono ?_
        rintro e w' ⟨rfl, rfl⟩
        go_wp2_with fail
        refine (within_n _ _ _ _ H2.out).mono ?_
        rintro e w' ⟨rfl, rfl⟩
        have hK := HKt.out.base
        clear HKt
        go_wp2
        go_ret
        exact ⟨by simp [hf.out], hK⟩
      | true =>
      have H2 := Lib.hid h2
      cases h3 : inB t.st 1 4 with
      | false =>
        have hf := Lib.hid (fit_no (qs := qs) hkt.out (by simp [tF, h1, h2, h3]))
        have H3 := Lib.hid h3
        clear h1 h2 h3
        go_wp2_with fail
        refine (isPri_y _ _ H1.out).mono ?_
        rintro e w' ⟨rfl, rfl⟩
        go_wp2_with fail
        refine (within_y _ _ _ _ H2.out).mono ?_
        rintro e w' ⟨rfl, rfl⟩
        go_wp2_with fail
        refine (within_n _ _ _ _ H3.out).mono ?_
        rintro e w' ⟨rfl, rfl⟩
        have hK := HKt.out.base
        clear HKt
        go_wp2
        go_ret
        exact ⟨by simp [hf.out], hK⟩
      | true =>
      have H3 := Lib.hid h3
      obtain ⟨x0, x1⟩ := inB_out h2
      obtain ⟨x, hx⟩ : ∃ x, qs[t.cpu.toNat]? = some x := ⟨qs[t.cpu.toNat]'(by omega), List.getElem?_eq_getElem _⟩
      have hro : runOf qs t = x.run := by simp [runOf, hx]
      obtain ⟨bq, offq, rfl, hbq, q0, _, _⟩ := (HS.out.below HKh.out.base).qu hx
      obtain ⟨m, hm0⟩ : ∃ m : Nat, t.cpu = (m : Int) := ⟨t.cpu.toNat, by omega⟩
      rw [hm0] at q0 x0 x1 c1 HKt
      simp only [Int.toNat_natCast] at q0
      have H2 : Hid (inB (m : Int) 0 ((qs.length : Int) - 1) = true) := Lib.hid (by rw [← hm0]; exact h2)
      have HM := Lib.hid hm0
      have m1 : (m : Int) < (qs.length : Int) := by omega
      cases h4 : t.st == 2 with
      | false =>
        have hf : tF qs k t = true := by simp [tF, h1, h2, h3, h4]
        have HF := Lib.hid hf
        clear h1 h2 h3 hf hro hx hm0
        go_wp2_with fail
        refine (isPri_y _ _ H1.out).mono ?_
        rintro e w' ⟨rfl, rfl⟩
        go_wp2_with fail
        refine (within_y _ _ _ _ H2.out).mono ?_
        rintro e w' ⟨rfl, rfl⟩
        go_wp2_with fail
        refine (within_y _ _ _ _ H3.out).mono ?_
        rintro e w' ⟨rfl, rfl⟩
        go_wp2
        go_roundw
        case rel => exact ⟨k + 1, _, rfl, by omega, by go_num, HKt.out, Lib.hid fun j t' hj ht' => by
          rcases Nat.lt_or_ge j k with h | h
          · exact hall.out j t' h ht'
          · have e : j = k := by omega
            subst e
            rw [hkt.out] at ht'; cases ht'; exact HF.out⟩
        case measure => simp [intOf]; omega
      | true =>
      cases h5 : x.run != (k : Int) with
      | false =>
        have hf : tF qs k t = true := by simp [tF, h1, h2, h3, h4, hro, h5]
        have HF := Lib.hid hf
        clear h1 h2 h3 hf hro hx hm0
        go_wp2_with fail
        refine (isPri_y _ _ H1.out).mono ?_
        rintro e w' ⟨rfl, rfl⟩
        go_wp2_with fail
        refine (within_y _ _ _ _ H2.out).mono ?_
        rintro e w' ⟨rfl, rfl⟩
        go_wp2_with fail
        refine (within_y _ _ _ _ H3.out).mono ?_
        rintro e w' ⟨rfl, rfl⟩
        go_wp2
        go_roundw
        case rel => exact ⟨k + 1, _, rfl, by omega, by go_num, HKt.out, Lib.hid fun j t' hj ht' => by
          rcases Nat.lt_or_ge j k with h | h
          · exact hall.out j t' h ht'
          · have e : j = k := by omega
            subst e
            rw [hkt.out] at ht'; cases ht'; exact HF.out⟩
        case measure => simp [intOf]; omega
      | true =>
        have hf := Lib.hid (fit_no (qs := qs) hkt.out (by simp [tF, h1, h2, h3, h4, hro, h5]))
        clear h1 h2 h3 hro hx hm0
        go_wp2_with fail
        refine (isPri_y _ _ H1.out).mono ?_
        rintro e w' ⟨rfl, rfl⟩
        go_wp2_with fail
        refine (within_y _ _ _ _ H2.out).mono ?_
        rintro e w' ⟨rfl, rfl⟩
        go_wp2_with fail
        refine (within_y _ _ _ _ H3.out).mono ?_
        rintro e w' ⟨rfl, rfl⟩
        have hK := HKt.out.base
        clear HKt
        go_wp2
        go_ret
        exact ⟨by simp [hf.out], hK⟩
    · have hf := Lib.hid (fit_yes (qs := qs) (ts := ts) fun j t ht => hall.out j t (by have := (List.getElem?_eq_some_iff.1 ht).1; omega) ht)
      have hK := HK.base
      clear HK
      go_wp2
      go_ret
      exact ⟨by simp [hf.out], hK⟩
end Go.Proofs.Ytggikbcgijmhbaa
