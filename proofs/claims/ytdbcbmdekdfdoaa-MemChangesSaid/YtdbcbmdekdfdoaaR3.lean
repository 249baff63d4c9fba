/- WHAT IS PROVED: the reference's permitted and Check of layer 3 are the program's. CONDITIONS: the slices' cells hold the lists. -/
import Derived.Test.YtdbcbmdekdfdoaaEq
namespace Go.Proofs.Ytdbcbmdekdfdoaa
open Go Go.RowKit Go.QrBits Go.QrMem

theorem permitted_c (p : Int) (w : World) : Calls Try.prog 50 #[.int .i64 p] w fun e w' => e = .returned (.bool (pB p)) ∧ w = w' := by
  by_cases h0 : p = 0
  · subst h0; go_enter Try.func50, Try.ntmps50; go_wp2; go_ret; exact ⟨rfl, rfl⟩
  by_cases h1 : p = 1
  · subst h1; go_enter Try.func50, Try.ntmps50; go_wp2; go_ret; exact ⟨rfl, rfl⟩
  by_cases h3 : p = 3
  · subst h3; go_enter Try.func50, Try.ntmps50; go_wp2; go_ret; exact ⟨rfl, rfl⟩
  by_cases h4 : p = 4
  · subst h4; go_enter Try.func50, Try.ntmps50; go_wp2; go_ret; exact ⟨rfl, rfl⟩
  have e : pB p = false := by simp [pB, dB, *]
  rw [e]
  have h0 := beq_eq_false_iff_ne.2 h0
  have h1 := beq_eq_false_iff_ne.2 h1
  have h3 := beq_eq_false_iff_ne.2 h3
  have h4 := beq_eq_false_iff_ne.2 h4
  clear e
  go_enter Try.func50, Try.ntmps50; go_wp2; go_ret; exact ⟨rfl, rfl⟩
theorem permitted_y (p : Int) (w : World) (h : pB p = true) : Calls Try.prog 50 #[.int .i64 p] w fun e w' => e = .returned (.bool true) ∧ w = w' := by have := permitted_c p w; rwa [h] at this
theorem permitted_n (p : Int) (w : World) (h : pB p = false) : Calls Try.prog 50 #[.int .i64 p] w fun e w' => e = .returned (.bool false) ∧ w = w' := by have := permitted_c p w; rwa [h] at this
set_option maxHeartbeats 2000000 in
theorem rspace_c (a : Option Addr) (c : Nat) (a2 : Option Addr) (n2 c2 : Nat) (perm : List Int) (w : World) (hs : SlAt w a (iV perm)) (hl : n2 ≤ maxLen) :
    Calls Try.prog 22 #[.agg #[.slice a perm.length c, .slice a2 n2 c2]] w fun e w' => e = .returned (.int .i64 (eS perm n2)) ∧ Below w.heap.size w w' := by
  unfold maxLen at hl
  by_cases hb : 32 < perm.length
  · have HB := Lib.hid (eS_n (chk_big (n := n2) hb))
    go_enter Try.func22, Try.ntmps22; go_wp2; go_ret; exact ⟨ret_int HB.out.symm, by go_grown⟩
  by_cases he : (n2 : Int) = (perm.length : Int) * 64
  · have HE := Lib.hid he
    have he' : ((n2 : Int) != (perm.length : Int) * 64) = false := by simp [he]
    clear he
    rcases hs with hs | ⟨b, off, rfl, hb0, hc⟩
    · have hz : perm = [] := by simpa [iV] using hs
      subst hz
      obtain rfl : n2 = 0 := by have := HE.out; simp at this; omega
      clear he' HE
      have HB := Lib.hid (eS_y (chk_ok (perm := []) (n := 0) (by simp) (by simp) (fun j x h => by simp at h)))
      go_enter Try.func22, Try.ntmps22
      go_wp2
      go_rounds 1
      go_ret
      exact ⟨ret_int HB.out.symm, by go_grown⟩
    · go_enter Try.func22, Try.ntmps22
      go_wp2
      go_loop [3] (fun i => ∃ k : Nat, k ≤ perm.length ∧ i = .int .i64 k ∧ ∀ (j : Nat) (x : Int), j < k → perm[j]? = some x → pB x = true) (fun i => perm.length - (intOf i).toNat)
      case atStart => exact ⟨0, Nat.zero_le _, rfl, fun j x h => by omega⟩
      case round =>
        obtain ⟨k, hk, rfl, hgood⟩ := hrel
        have HG := Lib.hid hgood
        clear hgood
        by_cases hlt : k < perm.length
        · have hx : perm[k]? = some perm[k] := by simp [hlt]
          have hcell := hc k _ (iV_get hx)
          have HC := Lib.hid hc
          clear hc
          by_cases hd : pB perm[k] = true
          · have HX := Lib.hid hx
            clear hx
            go_wp2_with (go_at_call 50; refine (permitted_y _ _ (by assumption)).mono ?_; rintro e w' ⟨rfl, rfl⟩)
            go_round
            case rel =>
              refine ⟨k + 1, by omega, by go_num, fun j x hj hx => ?_⟩
              by_cases hjk : j = k
              · subst hjk; have := HX.out; rw [hx] at this; cases this; exact hd
              · exact HG.out j x (by omega) hx
            case measure => simp [intOf]; omega
          · have hd : pB perm[k] = false := by simpa using hd
            have HB := Lib.hid (eS_n (chk_bad (n := n2) hx hd))
            have HX := Lib.hid hx
            clear hx
            go_wp2_with (go_at_call 50; refine (permitted_n _ _ (by assumption)).mono ?_; rintro e w' ⟨rfl, rfl⟩)
            go_ret
            exact ⟨ret_int HB.out.symm, by go_grown⟩
        · have HB := Lib.hid (eS_y (chk_ok (n := n2) (perm := perm) (by omega) (by have := HE.out; omega) (fun j x h => HG.out j x (by have := (List.getElem?_eq_some_iff.1 h).1; omega) h)))
          have HC := Lib.hid hc
          clear hc
          go_wp2
          go_ret
          exact ⟨ret_int HB.out.symm, by go_grown⟩
  · have HB := Lib.hid (eS_n (chk_len (n := n2) (perm := perm) (by omega)))
    have he' := bne_iff_ne.2 he
    clear he
    go_enter Try.func22, Try.ntmps22; go_wp2; go_ret; exact ⟨ret_int HB.out.symm, by go_grown⟩
theorem rspace_y (a : Option Addr) (c : Nat) (a2 : Option Addr) (c2 : Nat) (perm bytes : List Int) (w : World) (h : SpIn w a c a2 c2 perm bytes) (hk : chk perm bytes.length = true) :
    Calls Try.prog 22 #[.agg #[.slice a perm.length c, .slice a2 bytes.length c2]] w fun e w' => e = .returned (.int .i64 0) ∧ Below w.heap.size w w' := by
  have := rspace_c a c a2 bytes.length c2 perm w h.s1 h.v2.max; rwa [eS_y hk] at this
theorem rspace_n (a : Option Addr) (c : Nat) (a2 : Option Addr) (c2 : Nat) (perm bytes : List Int) (w : World) (h : SpIn w a c a2 c2 perm bytes) (hk : chk perm bytes.length = false) :
    Calls Try.prog 22 #[.agg #[.slice a perm.length c, .slice a2 bytes.length c2]] w fun e w' => e = .returned (.int .i64 30) ∧ Below w.heap.size w w' := by
  have := rspace_c a c a2 bytes.length c2 perm w h.s1 h.v2.max; rwa [eS_n hk] at this
set_option maxHeartbeats 4000000 in
theorem samePerm_c (a : Option Addr) (c : Nat) (a2 : Option Addr) (n2 c2 : Nat) (a' : Option Addr) (c' : Nat) (a2' : Option Addr) (n2' c2' : Nat) (p p' : List Int) (w : World) (v : SlV a p.length c) (v' : SlV a' p'.length c') (hs : SlAt w a (iV p)) (hs' : SlAt w a' (iV p')) :
    Calls Try.prog 52 #[.agg #[.slice a p.length c, .slice a2 n2 c2], .agg #[.slice a' p'.length c', .slice a2' n2' c2']] w fun e w' => e = .returned (.bool (decide (p = p'))) ∧ Below w.heap.size w w' := by
  have hm := v.max
  have hm' := v'.max
  unfold maxLen at hm hm'
  by_cases hl : p.length = p'.length
  rotate_left
  · have hb := decide_eq_false (fun e : p = p' => hl (by rw [e]))
    have HB := Lib.hid hb
    clear hb hs hs' v v'
    generalize p.length = n at *
    generalize p'.length = n' at *
    have hl1 : ((n : Int) != (n' : Int)) = true := by simp; omega
    have hl2 : (n == n') = false := by simp; omega
    have hl3 : (n != n') = true := by simp; omega
    go_enter Try.func52, Try.ntmps52
    go_wp2
    go_ret
    exact ⟨congrArg (fun x => Ending.returned (.bool x)) HB.out.symm, b_alloc (b_alloc (Below.refl _ _))⟩
  · have hl' : ((p.length : Int) != (p'.length : Int)) = false := by simp; omega
    have HL := Lib.hid hl
    clear hl
    go_enter Try.func52, Try.ntmps52
    have HK := Kw.start w
    go_wp2
    replace HK := HK.box (vs := [.slice a p.length c, .slice a2 n2 c2]) (t := 25)
    replace HK := HK.box (vs := [.slice a' p'.length c', .slice a2' n2' c2']) (t := 25)
    simp only [World.size_alloc] at HK
    go_loopw [5] (fun i wr => ∃ (k : Nat) (w5 : World), w5 = wr ∧ k ≤ p.length ∧ i = .int .i64 k ∧ Hid (∀ j : Nat, j < k → p[j]? = p'[j]?) ∧ Kw [(w.heap.size + 1, [.slice a' p'.length c', .slice a2' n2' c2'], 25), (w.heap.size, [.slice a p.length c, .slice a2 n2 c2], 25)] w w5) (fun i _ => p.length - (intOf i).toNat)
    case atStart => exact ⟨0, _, rfl, Nat.zero_le _, rfl, fun j h => by omega, HK⟩
    case round =>
      clear HK
      obtain ⟨k, w5, hw, hk, rfl, HG, HK⟩ := hrel
      subst hw
      have HB := HK.base
      have ht := hs.below HB
      have ht' := hs'.below HB
      have r_0 := HK.get 0 0 rfl rfl
      have r_1 := HK.get 0 1 rfl rfl
      have p_0 := HK.get 1 0 rfl rfl
      have p_1 := HK.get 1 1 rfl rfl
      by_cases hlt : k < p.length
      · have hlt' : k < p'.length := by have := HL.out; omega
        obtain ⟨g, off, rfl, hc⟩ : ∃ g off : Nat, a = some ⟨g, off, none⟩ ∧ w5.cell? ⟨g, off + k, none⟩ = some (.int .i64 p[k]) := by
          rcases ht with hs | ⟨g, off, rfl, _, hc⟩
          · have : p = [] := by simpa [iV] using hs
            subst this; simp at hlt
          · exact ⟨g, off, rfl, hc k _ (by simp [iV, hlt])⟩
        obtain ⟨g', off', rfl, hc'⟩ : ∃ g off : Nat, a' = some ⟨g, off, none⟩ ∧ w5.cell? ⟨g, off + k, none⟩ = some (.int .i64 p'[k]) := by
          rcases ht' with hs | ⟨g, off, rfl, _, hc⟩
          · have : p' = [] := by simpa [iV] using hs
            subst this; simp at hlt'
          · exact ⟨g, off, rfl, hc k _ (by simp [iV, hlt'])⟩
        have hx : Hid (p[k]? = some p[k] ∧ p'[k]? = some p'[k]) := ⟨by simp [hlt], by simp [hlt']⟩
        have HKh := Lib.hid HK
        generalize p[k] = x at *
        generalize p'[k] = y at *
        clear hs hs' ht ht' v v' HK
        have HL2 := Lib.hid hlt'
        by_cases hxy : (x != y) = true
        · go_wp2_with (fail)
          · go_region
            all_goals (go_wp2; go_ret)
            all_goals (refine ⟨congrArg (fun x => Ending.returned (.bool x)) (decide_eq_false fun e => ?_).symm, HB.drew⟩)
            all_goals (subst e; have h1 := hx.1; have h2 := hx.2; rw [h1] at h2; simp at h2; subst h2; simp at hxy)
        · have hxy : (x != y) = false := by simpa using hxy
          go_wp2_with (fail)
          · go_region
            all_goals
              go_wp2
              go_roundw
              case rel =>
                refine ⟨k + 1, _, rfl, by omega, by go_num, fun j hj => ?_, HKh.out.drew⟩
                by_cases hjk : j = k
                · subst hjk; rw [hx.1, hx.2]; simpa using hxy
                · exact HG.out j (by omega)
              case measure => simp [intOf]; omega
      · clear HK
        go_wp2
        go_ret
        refine ⟨congrArg (fun x => Ending.returned (.bool x)) (decide_eq_true ?_).symm, HB⟩
        refine List.ext_getElem? fun j => ?_
        by_cases hj : j < k
        · exact HG.out j hj
        · have := HL.out
          rw [List.getElem?_eq_none (by omega), List.getElem?_eq_none (by omega)]
set_option maxHeartbeats 4000000 in
theorem rsame_c (a : Option Addr) (c : Nat) (a2 : Option Addr) (c2 : Nat) (perm bytes : List Int) (a' : Option Addr) (c' : Nat) (a2' : Option Addr) (c2' : Nat) (perm' bytes' : List Int) (w : World) (hs : SpIn w a c a2 c2 perm bytes) (hs' : SpIn w a' c' a2' c2' perm' bytes') (hok : okB bytes) (hok' : okB bytes') :
    Calls Try.prog 23 #[.agg #[.slice a perm.length c, .slice a2 bytes.length c2], .agg #[.slice a' perm'.length c', .slice a2' bytes'.length c2']] w fun e w' => e = .returned (.bool (decide (perm = perm') && decide (bytes = bytes'))) ∧ Below w.heap.size w w' := by
  have hb : ((strB bytes).toList == (strB bytes').toList) = decide (bytes = bytes') := by
    rw [ByteArray.toList_eq, ByteArray.toList_eq]
    by_cases h : bytes = bytes'
    · subst h; simp
    · rw [decide_eq_false h]
      exact beq_eq_false_iff_ne.2 fun e => h (strB_inj hok hok' (ba_ext e))
  have HB := Lib.hid hb
  clear hb
  go_enter Try.func23, Try.ntmps23
  have HK := Kw.start w
  go_wp2_with fail
  replace HK := HK.box (vs := [.slice a perm.length c, .slice a2 bytes.length c2]) (t := 25)
  replace HK := HK.box (vs := [.slice a' perm'.length c', .slice a2' bytes'.length c2']) (t := 25)
  simp only [World.size_alloc] at HK
  refine (samePerm_c _ _ _ _ _ _ _ _ _ _ perm perm' _ hs.v1 hs'.v1 (hs.below HK.base).s1 (hs'.below HK.base).s1).mono ?_
  rintro e w1 ⟨rfl, hq⟩
  replace HK := HK.below hq
  have h1 := str_c hs.v2 (hs.below HK.base).s2 hok
  have h2 := str_c hs'.v2 (hs'.below HK.base).s2 hok'
  have hK := HK.base
  have r_0 := HK.get 0 0 rfl rfl
  have r_1 := HK.get 0 1 rfl rfl
  have p_0 := HK.get 1 0 rfl rfl
  have p_1 := HK.get 1 1 rfl rfl
  clear HK hs hs' hok hok' hq
  generalize bytes.length = m at *
  generalize bytes'.length = m' at *
  generalize strB bytes = S at *
  generalize strB bytes' = S' at *
  cases hD : decide (perm = perm') with
  | true =>
    have HD := Lib.hid hD
    clear hD
    go_wp2
    go_ret
    exact ⟨congrArg (fun x => Ending.returned (.bool x)) (by rw [HD.out, Bool.true_and, HB.out]), hK⟩
  | false =>
    have HD := Lib.hid hD
    clear hD
    go_wp2
    go_ret
    exact ⟨congrArg (fun x => Ending.returned (.bool x)) (by rw [HD.out, Bool.false_and]), hK⟩
end Go.Proofs.Ytdbcbmdekdfdoaa
