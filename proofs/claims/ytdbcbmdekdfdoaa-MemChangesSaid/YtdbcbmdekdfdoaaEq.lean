/- WHAT IS PROVED: slices.Equal over numbers, bytes.Equal, mem.Same, for every two spaces. CONDITIONS: the slices' cells hold the lists. -/
import Derived.Test.YtdbcbmdekdfdoaaSe
import Derived.Test.YtdbcbmdekdfdoaaBd
import Derived.Laws.IdiomStrings
import Derived.Laws.BytesString
namespace Go.Proofs.Ytdbcbmdekdfdoaa
open Go Go.RowKit Go.QrBits Go.QrMem

theorem ba_ext {s t : ByteArray} (h : s.data.toList = t.data.toList) : s = t := by
  cases s; cases t; simpa using h
/-- The string of a list of bytes. -/
def strB (b : List Int) : ByteArray := ⟨(b.map fun n => UInt8.ofNat n.toNat).toArray⟩
theorem strB_inj {b b' : List Int} (h : okB b) (h' : okB b') (e : strB b = strB b') : b = b' := by
  have e1 : (b.map fun n => UInt8.ofNat n.toNat) = b'.map fun n => UInt8.ofNat n.toNat := by
    have := congrArg (fun s : ByteArray => s.data.toList) e
    simpa [strB] using this
  refine List.ext_getElem? fun j => ?_
  have e2 := congrArg (fun l : List UInt8 => l[j]?) e1
  simp only [List.getElem?_map] at e2
  cases hb : b[j]? with
  | none => cases hb' : b'[j]? with
    | none => rfl
    | some y => rw [hb, hb'] at e2; simp at e2
  | some x => cases hb' : b'[j]? with
    | none => rw [hb, hb'] at e2; simp at e2
    | some y =>
      rw [hb, hb'] at e2
      have hx := h x (List.mem_of_getElem? hb)
      have hy := h' y (List.mem_of_getElem? hb')
      simp only [Option.map_some, Option.some.injEq] at e2
      have e3 := congrArg UInt8.toNat e2
      simp only [UInt8.toNat_ofNat'] at e3
      congr 1; omega
theorem str_c {w : World} {a : Option Addr} {c : Nat} {b : List Int} (hv : SlV a b.length c) (hs : SlAt w a (bV b)) (hok : okB b) : (convert 23 9 (.slice a b.length c)).run Try.prog w = .ok (.string (strB b)) w := by
  rcases hs with hs | ⟨g, off, rfl, _, hc⟩
  · have hz : b = [] := by simpa [bV] using hs
    subst hz
    cases a with
    | none =>
      obtain ⟨_, rfl⟩ := hv.2.2 rfl
      show (convert 23 9 (.slice none 0 0)).run Try.prog w = _
      rw [run_convert_bytes_string w 23 9 5 none 0 0 Try.underlying23 Try.underlying5 Try.underlying9]; rfl
    | some a => exact run_convert_bytes_back w 23 9 5 a c [] Try.underlying23 Try.underlying5 Try.underlying9 (fun j hj => by simp at hj)
  · have := run_convert_bytes_back (P := Try.prog) w 23 9 5 ⟨g, off, none⟩ c (b.map fun n => UInt8.ofNat n.toNat) Try.underlying23 Try.underlying5 Try.underlying9 (fun j hj => by
      have hj' : j < b.length := by simpa using hj
      have h1 := hc j (.int .u8 b[j]) (by simp [bV, hj'])
      have h2 := hok b[j] (List.getElem_mem hj')
      show w.cell? ((⟨g, off, none⟩ : Addr).add j) = _
      rw [Addr.add_lit, h1]
      simp only [List.getElem_map, UInt8.toNat_ofNat']
      congr 2; omega)
    rwa [List.length_map] at this
set_option maxHeartbeats 2000000 in
theorem bytesEqual_c (a : Option Addr) (c : Nat) (a' : Option Addr) (c' : Nat) (b b' : List Int) (w : World) (v : SlV a b.length c) (v' : SlV a' b'.length c') (hs : SlAt w a (bV b)) (hs' : SlAt w a' (bV b')) (hok : okB b) (hok' : okB b') :
    Calls Try.prog 54 #[.slice a b.length c, .slice a' b'.length c'] w fun e w' => e = .returned (.bool (decide (b = b'))) ∧ Below w.heap.size w w' := by
  have h1 := str_c v hs hok
  have h2 := str_c v' hs' hok'
  have hb : ((strB b).toList == (strB b').toList) = decide (b = b') := by
    rw [ByteArray.toList_eq, ByteArray.toList_eq]
    by_cases h : b = b'
    · subst h; simp
    · rw [decide_eq_false h]
      exact beq_eq_false_iff_ne.2 fun e => h (strB_inj hok hok' (ba_ext e))
  clear hs hs' v v' hok hok'
  generalize b.length = n at *
  generalize b'.length = n' at *
  generalize strB b = S at *
  generalize strB b' = S' at *
  have HB := Lib.hid hb
  clear hb
  go_enter Try.func54, Try.ntmps54
  go_wp2
  go_ret
  exact ⟨congrArg (fun x => Ending.returned (.bool x)) HB.out, Below.refl _ _⟩
set_option maxHeartbeats 4000000 in
theorem slicesEqual_c (a : Option Addr) (c : Nat) (a' : Option Addr) (c' : Nat) (p p' : List Int) (w : World) (v : SlV a p.length c) (v' : SlV a' p'.length c') (hs : SlAt w a (iV p)) (hs' : SlAt w a' (iV p')) :
    Calls Try.prog 53 #[.slice a p.length c, .slice a' p'.length c'] w fun e w' => e = .returned (.bool (decide (p = p'))) ∧ Below w.heap.size w w' := by
  have hm := v.max
  have hm' := v'.max
  unfold maxLen at hm hm'
  by_cases hl : p.length = p'.length
  rotate_left
  · have hb := decide_eq_false (fun e : p = p' => hl (by rw [e]))
    have HB := Lib.hid hb
    clear hb hs hs' v v'
    generalize p.length = n at *
    generalize p'.length = n' at *
    have hl1 : ((n : Int) != (n' : Int)) = true := by simp; omega
    have hl2 : (n == n') = false := by simp; omega
    have hl3 : (n != n') = true := by simp; omega
    go_enter Try.func53, Try.ntmps53
    go_wp2
    go_ret
    exact ⟨congrArg (fun x => Ending.returned (.bool x)) HB.out.symm, Below.refl _ _⟩
  · have hl' : ((p.length : Int) != (p'.length : Int)) = false := by simp; omega
    have HL := Lib.hid hl
    clear hl
    go_enter Try.func53, Try.ntmps53
    go_wp2
    go_loopw [13] (fun i wr => ∃ (k : Nat) (w5 : World), w5 = wr ∧ k ≤ p.length ∧ i = .int .i64 k ∧ Hid (∀ j : Nat, j < k → p[j]? = p'[j]?) ∧ Below w.heap.size w w5) (fun i _ => p.length - (intOf i).toNat)
    case atStart => exact ⟨0, _, rfl, Nat.zero_le _, rfl, fun j h => by omega, Below.refl _ _⟩
    case round =>
      obtain ⟨k, w5, hw, hk, rfl, HG, HB⟩ := hrel
      subst hw
      have ht := hs.below HB
      have ht' := hs'.below HB
      by_cases hlt : k < p.length
      · have hlt' : k < p'.length := by have := HL.out; omega
        obtain ⟨g, off, rfl, hc⟩ : ∃ g off : Nat, a = some ⟨g, off, none⟩ ∧ w5.cell? ⟨g, off + k, none⟩ = some (.int .i64 p[k]) := by
          rcases ht with hs | ⟨g, off, rfl, _, hc⟩
          · have : p = [] := by simpa [iV] using hs
            subst this; simp at hlt
          · exact ⟨g, off, rfl, hc k _ (by simp [iV, hlt])⟩
        obtain ⟨g', off', rfl, hc'⟩ : ∃ g off : Nat, a' = some ⟨g, off, none⟩ ∧ w5.cell? ⟨g, off + k, none⟩ = some (.int .i64 p'[k]) := by
          rcases ht' with hs | ⟨g, off, rfl, _, hc⟩
          · have : p' = [] := by simpa [iV] using hs
            subst this; simp at hlt'
          · exact ⟨g, off, rfl, hc k _ (by simp [iV, hlt'])⟩
        have hx : Hid (p[k]? = some p[k] ∧ p'[k]? = some p'[k]) := ⟨by simp [hlt], by simp [hlt']⟩
        generalize p[k] = x at *
        generalize p'[k] = y at *
        clear hs hs' ht ht' v v'
        have HL2 := Lib.hid hlt'
        by_cases hxy : (x != y) = true
        · go_wp2_with (fail)
          · go_region
            all_goals (go_wp2; go_ret)
            all_goals (refine ⟨congrArg (fun x => Ending.returned (.bool x)) (decide_eq_false fun e => ?_).symm, HB.drew⟩)
            all_goals (subst e; have h1 := hx.1; have h2 := hx.2; rw [h1] at h2; simp at h2; subst h2; simp at hxy)
        · have hxy : (x != y) = false := by simpa using hxy
          go_wp2_with (fail)
          · go_region
            all_goals
              go_wp2
              go_roundw
              case rel =>
                refine ⟨k + 1, _, rfl, by omega, by go_num, fun j hj => ?_, HB.drew⟩
                by_cases hjk : j = k
                · subst hjk; rw [hx.1, hx.2]; simpa using hxy
                · exact HG.out j (by omega)
              case measure => simp [intOf]; omega
      · go_wp2
        go_ret
        refine ⟨congrArg (fun x => Ending.returned (.bool x)) (decide_eq_true ?_).symm, HB⟩
        refine List.ext_getElem? fun j => ?_
        by_cases hj : j < k
        · exact HG.out j hj
        · have := HL.out
          rw [List.getElem?_eq_none (by omega), List.getElem?_eq_none (by omega)]
/-- Equality of two spaces. -/
theorem same_c (a : Option Addr) (c : Nat) (a2 : Option Addr) (c2 : Nat) (perm bytes : List Int) (a' : Option Addr) (c' : Nat) (a2' : Option Addr) (c2' : Nat) (perm' bytes' : List Int) (w : World) (hs : SpIn w a c a2 c2 perm bytes) (hs' : SpIn w a' c' a2' c2' perm' bytes') (hok : okB bytes) (hok' : okB bytes') :
    Calls Try.prog 24 #[.agg #[.slice a perm.length c, .slice a2 bytes.length c2], .agg #[.slice a' perm'.length c', .slice a2' bytes'.length c2']] w fun e w' => e = .returned (.bool (decide (perm = perm') && decide (bytes = bytes'))) ∧ Below w.heap.size w w' := by
  by_cases hp : perm = perm'
  · have he := decide_eq_true hp
    have HE := Lib.hid he
    generalize hD : decide (bytes = bytes') = D at *
    have HD := Lib.hid hD
    clear hp he hD
    go_enter Try.func24, Try.ntmps24
    have HK := Kw.start w
    go_wp2_with fail
    replace HK := HK.box (vs := [.slice a perm.length c, .slice a2 bytes.length c2]) (t := 25)
    replace HK := HK.box (vs := [.slice a' perm'.length c', .slice a2' bytes'.length c2']) (t := 25)
    simp only [World.size_alloc] at HK
    refine (slicesEqual_c _ _ _ _ perm perm' _ hs.v1 hs'.v1 (hs.below HK.base).s1 (hs'.below HK.base).s1).mono ?_
    rintro e w1 ⟨rfl, hq⟩
    rw [HE.out]
    replace HK := HK.below hq
    have r_0 := HK.get 0 0 rfl rfl
    have r_1 := HK.get 0 1 rfl rfl
    have r_s := HK.lt 0 rfl
    have p_0 := HK.get 1 0 rfl rfl
    have p_1 := HK.get 1 1 rfl rfl
    have p_s := HK.lt 1 rfl
    go_wp2_with fail
    refine (bytesEqual_c _ _ _ _ bytes bytes' _ hs.v2 hs'.v2 (hs.below HK.base).s2 (hs'.below HK.base).s2 hok hok').mono ?_
    rintro e w2 ⟨rfl, hq2⟩
    rw [HD.out]
    have hK := (HK.below hq2).base
    clear HK
    go_wp2
    go_ret
    exact ⟨congrArg (fun x => Ending.returned (.bool x)) (by rw [HE.out, Bool.true_and]), hK⟩
  · have he := decide_eq_false hp
    have HE := Lib.hid he
    clear hp he
    generalize hD : decide (bytes = bytes') = D at *
    clear hD
    go_enter Try.func24, Try.ntmps24
    have HK := Kw.start w
    go_wp2_with fail
    replace HK := HK.box (vs := [.slice a perm.length c, .slice a2 bytes.length c2]) (t := 25)
    replace HK := HK.box (vs := [.slice a' perm'.length c', .slice a2' bytes'.length c2']) (t := 25)
    simp only [World.size_alloc] at HK
    refine (slicesEqual_c _ _ _ _ perm perm' _ hs.v1 hs'.v1 (hs.below HK.base).s1 (hs'.below HK.base).s1).mono ?_
    rintro e w1 ⟨rfl, hq⟩
    rw [HE.out]
    have hK := (HK.below hq).base
    clear HK
    go_wp2
    go_ret
    exact ⟨congrArg (fun x => Ending.returned (.bool x)) (by rw [HE.out, Bool.false_and]), hK⟩
end Go.Proofs.Ytdbcbmdekdfdoaa
