/- WHAT IS PROVED: the reference's Inside and Fault of layer 3: the fault of an access is that of the program. CONDITIONS: the slices' cells hold the lists. -/
import Derived.Test.YtdbcbmdekdfdoaaR3
import Derived.Test.YtdbcbmdekdfdoaaMg
import Derived.Test.YtdbcbmdekdfdoaaSo
namespace Go.Proofs.Ytdbcbmdekdfdoaa
open Go Go.RowKit Go.QrBits Go.QrMem

theorem inside_y (a : Option Addr) (n c : Nat) (a2 : Option Addr) (n2 c2 : Nat) (x : Int) (w : World) (h0 : 0 ≤ x) (h1 : x < n2) :
    Calls Try.prog 73 #[.agg #[.slice a n c, .slice a2 n2 c2], .int .i64 x] w fun e w' => e = .returned (.bool true) ∧ Below w.heap.size w w' := by
  go_enter Try.func73, Try.ntmps73; go_wp2; go_ret; exact ⟨rfl, by go_grown⟩
theorem inside_n (a : Option Addr) (n c : Nat) (a2 : Option Addr) (n2 c2 : Nat) (x : Int) (w : World) (h : x < 0 ∨ n2 ≤ x) :
    Calls Try.prog 73 #[.agg #[.slice a n c, .slice a2 n2 c2], .int .i64 x] w fun e w' => e = .returned (.bool false) ∧ Below w.heap.size w w' := by
  by_cases h0 : x < 0
  · have h0' : decide (0 ≤ x) = false := by simp; omega
    clear h
    go_enter Try.func73, Try.ntmps73; go_wp2; go_ret; exact ⟨rfl, by go_grown⟩
  · have h1 : decide (x < (n2 : Int)) = false := by simp; omega
    have h2 : decide (0 ≤ x) = true := by simp; omega
    have h3 : 0 ≤ x := by omega
    clear h h0
    go_enter Try.func73, Try.ntmps73; go_wp2; go_ret; exact ⟨rfl, by go_grown⟩
theorem pB_cases {q : Int} (h : pB q = true) : q = 0 ∨ q = 1 ∨ q = 3 ∨ q = 4 := by
  simp [pB, dB] at h; omega
theorem may1 {q : Int} (h : pB q = true) : (bits .and .i64 q 1 == 0) = !mayB q 1 := by
  rcases pB_cases h with rfl | rfl | rfl | rfl <;> rfl
theorem may2 {q : Int} (h : pB q = true) : (bits .and .i64 q 2 == 0) = !mayB q 2 := by
  rcases pB_cases h with rfl | rfl | rfl | rfl <;> rfl
theorem may4 {q : Int} (h : pB q = true) : (q != 4) = !mayB q 4 := by
  rcases pB_cases h with rfl | rfl | rfl | rfl <;> rfl
theorem may0 (q : Int) : mayB q 0 = true := by unfold mayB; simp [bits]; decide
theorem chk_pB {P : List Int} {n p : Nat} {q : Int} (h : chk P n = true) (hp : P[p]? = some q) : pB q = true := by
  simp only [chk, Bool.and_eq_true, List.all_eq_true] at h
  exact h.2 _ (List.mem_of_getElem? hp)
theorem kN_at {P B : List Int} {t q : Int} {n k : Nat} (h : k ≤ kN P B t q n) (hg : good P B q (t + k) = false) : kN P B t q n = k := by
  rcases Nat.lt_or_ge k (kN P B t q n) with h1 | h1
  · have := kN_all (perm := P) (bytes := B) (t := t) (q := q) (n := n) h1; rw [hg] at this; cases this
  · omega
theorem fK_at {P B : List Int} {t q : Int} {n k : Nat} (h : kN P B t q n = k) (hk : k < n) : fK P B t q n = kd B q (t + k) ∧ fX P B t q n = t + k := by
  unfold fK fX; rw [h, if_pos hk, if_pos hk]; exact ⟨rfl, rfl⟩
theorem fK_end {P B : List Int} {t q : Int} {n : Nat} (h : kN P B t q n = n) : fK P B t q n = 0 ∧ fX P B t q n = 0 := by
  unfold fK fX; rw [h, if_neg (by omega), if_neg (by omega)]; exact ⟨rfl, rfl⟩
theorem kN_in {P B : List Int} {t q : Int} {n k : Nat} (hl : B.length ≤ 2048) (ht : I64 t) (h : k ≤ kN P B t q n) : -9223372036854775808 ≤ t + k ∧ t + k ≤ 9223372036854775807 := by
  unfold I64 at ht
  rcases Nat.eq_zero_or_pos k with rfl | h0
  · simp; exact ht
  · have := good_range (kN_all (perm := P) (bytes := B) (t := t) (q := q) (n := n) (i := k - 1) (by omega))
    omega
theorem kd_out {B : List Int} {q x : Int} (h : x < 0 ∨ B.length ≤ x) : kd B q x = 1 := by unfold kd; rw [if_neg (by omega)]
theorem kd_in {B : List Int} {q x : Int} (h0 : 0 ≤ x) (h : x < B.length) : kd B q x = kO q := by unfold kd; rw [if_pos ⟨h0, h⟩]
theorem ret2_eq {k x k' x' : Int} (h : k' = k ∧ x' = x) : Ending.returned (.agg #[.int .i64 k, .int .i64 x]) = .returned (.agg #[.int .i64 k', .int .i64 x']) := by rw [h.1, h.2]

set_option maxHeartbeats 4000000 in
set_option maxRecDepth 100000 in
theorem fault_c (q : Int) (hq : q = 0 ∨ q = 1 ∨ q = 2 ∨ q = 4) (a : Option Addr) (c : Nat) (a2 : Option Addr) (c2 : Nat) (P B : List Int) (t : Int) (n : Nat) (w : World) (hs : SpIn w a c a2 c2 P B) (hc : chk P B.length = true) (ht : I64 t) (hn : n ≤ 4096) :
    Calls Try.prog 58 #[.agg #[.slice a P.length c, .slice a2 B.length c2], .int .i64 t, .int .i64 (n : Int), .int .i64 q] w fun e w' => e = .returned (.agg #[.int .i64 (fK P B t q n), .int .i64 (fX P B t q n)]) ∧ Below w.heap.size w w' := by
  have HL := Lib.hid (chk_len4 hc)
  have HC := Lib.hid hc
  have HS := Lib.hid hs
  have HT := Lib.hid ht
  clear hc hs ht
  rcases hq with rfl | rfl | rfl | rfl
  all_goals
    go_enter Try.func58, Try.ntmps58
    have HK := Kw.start w
    go_wp2
    replace HK := HK.box (vs := [.slice a P.length c, .slice a2 B.length c2]) (t := 25)
    replace HK := HK.box (vs := [.int .i64 0, .int .i64 0]) (t := 34)
    simp only [World.size_alloc] at HK
  · go_loopw [9] (fun i wr => ∃ (k : Nat) (w5 : World), w5 = wr ∧ k ≤ n ∧ i = .int .i64 k ∧ Hid (k ≤ kN P B t 0 n) ∧ Kw [(w.heap.size + 1, [.int .i64 0, .int .i64 0], 34), (w.heap.size, [.slice a P.length c, .slice a2 B.length c2], 25)] w w5) (fun i _ => n - (intOf i).toNat)
    case atStart => exact ⟨0, _, rfl, Nat.zero_le _, rfl, Nat.zero_le _, HK⟩
    case round =>
      clear HK
      obtain ⟨k, w5, hw, hk, rfl, HG, HK⟩ := hrel
      subst hw
      have HB := HK.base
      have p_0 := HK.get 1 0 rfl rfl
      have p_1 := HK.get 1 1 rfl rfl
      obtain ⟨hb0, hb1⟩ := kN_in (by have := HL.out; omega) HT.out HG.out
      by_cases hlt : k < n
      · by_cases hg : good P B 0 (t + k) = true
        · obtain ⟨x0, x1, p, x, hp, hx, hm⟩ := good_out hg
          obtain ⟨b, off, rfl⟩ := HS.out.shape hx
          obtain ⟨m, hm0⟩ : ∃ m : Nat, t + (k : Int) = m := ⟨(t + k).toNat, by omega⟩
          have hpl := (List.getElem?_eq_some_iff.1 hx).1
          have HG2 := Lib.hid (good_lt HG.out hlt hg)
          rw [hm0] at hp x0 x1
          have HD : ((m : Int) / 64) = (p : Int) := by simp only [Int.toNat_natCast] at hp; omega
          have HX := Lib.hid hx
          have m0 : (0 : Int) ≤ (m : Int) := Int.natCast_nonneg _
          have m1 : (m : Int) < (B.length : Int) := by omega
          have q0 : (0 : Int) ≤ (p : Int) := Int.natCast_nonneg _
          have q1 : (p : Int) < (P.length : Int) := by omega
          clear hx hp hg hm
          go_wp2_with fail
          refine (inside_y _ _ _ _ _ _ _ _ (by omega) (by omega)).mono ?_
          rintro e w6 ⟨rfl, hq⟩
          replace HK := HK.below hq
          have p_0 := HK.get 1 0 rfl rfl
          have p_1 := HK.get 1 1 rfl rfl
          have hcell := (HS.out.below HK.base).cell HX.out
          have HKh := Lib.hid HK
          clear HK hq
          go_wp2
          go_roundw
          case rel => exact ⟨k + 1, _, rfl, by omega, by go_num, HG2.out, HKh.out⟩
          case measure => simp [intOf]; omega
        · have hg : good P B 0 (t + k) = false := by simpa using hg
          have hz := kN_at HG.out hg
          rcases good_not HC.out hg with ho | ⟨x0, x1, p, x, hp, hx, hm⟩
          · have HE := Lib.hid (fK_at hz hlt)
            rw [kd_out ho] at HE
            clear hg hz
            go_wp2_with fail
            refine (inside_n _ _ _ _ _ _ _ _ ho).mono ?_
            rintro e w6 ⟨rfl, hq⟩
            clear ho
            replace HK := HK.below hq
            have r_0 := HK.get 0 0 rfl rfl
            have r_1 := HK.get 0 1 rfl rfl
            have r_s := HK.lt 0 rfl
            have r_f0 := HK.fz 0 0 rfl
            have r_f1 := HK.fz 0 1 rfl
            have hK := HK.base
            obtain ⟨g1, g2⟩ := put2 (.int .i64 1) (.int .i64 (t + k)) r_0 r_1
            clear HK hq
            go_wp2
            refine bodyPost_ret (v := .agg #[.int .i64 1, .int .i64 (t + k)]) (by simp [results, Try.results58, go_sem, g1, g2]) rfl ?_
            exact ⟨ret2_eq HE.out, (hK.setCell (by show _ ≤ w.heap.size + 1; omega) _).setCell (by show _ ≤ w.heap.size + 1; omega) _⟩
          · rw [may0] at hm; cases hm
      · have HE := Lib.hid (fK_end (P := P) (B := B) (t := t) (q := 0) (n := n) (by have := HG.out; have := kN_le P B t 0 n; omega))
        have r_0 := HK.get 0 0 rfl rfl
        have r_1 := HK.get 0 1 rfl rfl
        have r_s := HK.lt 0 rfl
        have r_f0 := HK.fz 0 0 rfl
        have r_f1 := HK.fz 0 1 rfl
        obtain ⟨g1, g2⟩ := put2 (.int .i64 0) (.int .i64 0) r_0 r_1
        clear HK
        go_wp2
        refine bodyPost_ret (v := .agg #[.int .i64 0, .int .i64 0]) (by simp [results, Try.results58, go_sem, g1, g2]) rfl ?_
        exact ⟨ret2_eq HE.out, (HB.setCell (by show _ ≤ w.heap.size + 1; omega) _).setCell (by show _ ≤ w.heap.size + 1; omega) _⟩
  · go_loopw [9] (fun i wr => ∃ (k : Nat) (w5 : World), w5 = wr ∧ k ≤ n ∧ i = .int .i64 k ∧ Hid (k ≤ kN P B t 1 n) ∧ Kw [(w.heap.size + 1, [.int .i64 0, .int .i64 0], 34), (w.heap.size, [.slice a P.length c, .slice a2 B.length c2], 25)] w w5) (fun i _ => n - (intOf i).toNat)
    case atStart => exact ⟨0, _, rfl, Nat.zero_le _, rfl, Nat.zero_le _, HK⟩
    case round =>
      clear HK
      obtain ⟨k, w5, hw, hk, rfl, HG, HK⟩ := hrel
      subst hw
      have HB := HK.base
      have p_0 := HK.get 1 0 rfl rfl
      have p_1 := HK.get 1 1 rfl rfl
      obtain ⟨hb0, hb1⟩ := kN_in (by have := HL.out; omega) HT.out HG.out
      by_cases hlt : k < n
      · by_cases hg : good P B 1 (t + k) = true
        · obtain ⟨x0, x1, p, x, hp, hx, hm⟩ := good_out hg
          obtain ⟨b, off, rfl⟩ := HS.out.shape hx
          obtain ⟨m, hm0⟩ : ∃ m : Nat, t + (k : Int) = m := ⟨(t + k).toNat, by omega⟩
          have hmy := may1 (chk_pB HC.out hx)
          rw [hm] at hmy
          simp only [Bool.not_true] at hmy
          have hpl := (List.getElem?_eq_some_iff.1 hx).1
          have HG2 := Lib.hid (good_lt HG.out hlt hg)
          rw [hm0] at hp x0 x1
          have HD : ((m : Int) / 64) = (p : Int) := by simp only [Int.toNat_natCast] at hp; omega
          have HX := Lib.hid hx
          have m0 : (0 : Int) ≤ (m : Int) := Int.natCast_nonneg _
          have m1 : (m : Int) < (B.length : Int) := by omega
          have q0 : (0 : Int) ≤ (p : Int) := Int.natCast_nonneg _
          have q1 : (p : Int) < (P.length : Int) := by omega
          clear hx hp hg hm
          go_wp2_with fail
          refine (inside_y _ _ _ _ _ _ _ _ (by omega) (by omega)).mono ?_
          rintro e w6 ⟨rfl, hq⟩
          replace HK := HK.below hq
          have p_0 := HK.get 1 0 rfl rfl
          have p_1 := HK.get 1 1 rfl rfl
          have hcell := (HS.out.below HK.base).cell HX.out
          have HKh := Lib.hid HK
          clear HK hq
          go_wp2
          go_roundw
          case rel => exact ⟨k + 1, _, rfl, by omega, by go_num, HG2.out, HKh.out⟩
          case measure => simp [intOf]; omega
        · have hg : good P B 1 (t + k) = false := by simpa using hg
          have hz := kN_at HG.out hg
          rcases good_not HC.out hg with ho | ⟨x0, x1, p, x, hp, hx, hm⟩
          · have HE := Lib.hid (fK_at hz hlt)
            rw [kd_out ho] at HE
            clear hg hz
            go_wp2_with fail
            refine (inside_n _ _ _ _ _ _ _ _ ho).mono ?_
            rintro e w6 ⟨rfl, hq⟩
            clear ho
            replace HK := HK.below hq
            have r_0 := HK.get 0 0 rfl rfl
            have r_1 := HK.get 0 1 rfl rfl
            have r_s := HK.lt 0 rfl
            have r_f0 := HK.fz 0 0 rfl
            have r_f1 := HK.fz 0 1 rfl
            have hK := HK.base
            obtain ⟨g1, g2⟩ := put2 (.int .i64 1) (.int .i64 (t + k)) r_0 r_1
            clear HK hq
            go_wp2
            refine bodyPost_ret (v := .agg #[.int .i64 1, .int .i64 (t + k)]) (by simp [results, Try.results58, go_sem, g1, g2]) rfl ?_
            exact ⟨ret2_eq HE.out, (hK.setCell (by show _ ≤ w.heap.size + 1; omega) _).setCell (by show _ ≤ w.heap.size + 1; omega) _⟩
          · obtain ⟨b, off, rfl⟩ := HS.out.shape hx
            obtain ⟨m, hm0⟩ : ∃ m : Nat, t + (k : Int) = m := ⟨(t + k).toNat, by omega⟩
            have hmy := may1 (chk_pB HC.out hx)
            rw [hm] at hmy
            simp only [Bool.not_false] at hmy
            have hpl := (List.getElem?_eq_some_iff.1 hx).1
            rw [hm0] at hp
            have HD : ((m : Int) / 64) = (p : Int) := by simp only [Int.toNat_natCast] at hp; omega
            have hkd := kd_in (q := 1) x0 x1
            have HE := Lib.hid (fK_at hz hlt)
            rw [hkd] at HE
            rw [hm0] at x0 x1 HE
            have HX := Lib.hid hx
            have m0 : (0 : Int) ≤ (m : Int) := Int.natCast_nonneg _
            have m1 : (m : Int) < (B.length : Int) := by omega
            have q0 : (0 : Int) ≤ (p : Int) := Int.natCast_nonneg _
            have q1 : (p : Int) < (P.length : Int) := by omega
            have HKD := Lib.hid hkd
            clear hx hp hg hkd hm hz
            go_wp2_with fail
            refine (inside_y _ _ _ _ _ _ _ _ (by omega) (by omega)).mono ?_
            rintro e w6 ⟨rfl, hq⟩
            replace HK := HK.below hq
            have p_0 := HK.get 1 0 rfl rfl
            have p_1 := HK.get 1 1 rfl rfl
            have r_0 := HK.get 0 0 rfl rfl
            have r_1 := HK.get 0 1 rfl rfl
            have r_s := HK.lt 0 rfl
            have r_f0 := HK.fz 0 0 rfl
            have r_f1 := HK.fz 0 1 rfl
            have hcell := (HS.out.below HK.base).cell HX.out
            have hK := HK.base
            obtain ⟨g1, g2⟩ := put2 (.int .i64 2) (.int .i64 (m : Int)) r_0 r_1
            rw [show kO 1 = 2 from rfl] at HE
            clear HK hq
            go_wp2
            refine bodyPost_ret (v := .agg #[.int .i64 2, .int .i64 (m : Int)]) (by simp [results, Try.results58, go_sem, g1, g2]) rfl ?_
            exact ⟨ret2_eq HE.out, (hK.setCell (by show _ ≤ w.heap.size + 1; omega) _).setCell (by show _ ≤ w.heap.size + 1; omega) _⟩
      · have HE := Lib.hid (fK_end (P := P) (B := B) (t := t) (q := 1) (n := n) (by have := HG.out; have := kN_le P B t 1 n; omega))
        have r_0 := HK.get 0 0 rfl rfl
        have r_1 := HK.get 0 1 rfl rfl
        have r_s := HK.lt 0 rfl
        have r_f0 := HK.fz 0 0 rfl
        have r_f1 := HK.fz 0 1 rfl
        obtain ⟨g1, g2⟩ := put2 (.int .i64 0) (.int .i64 0) r_0 r_1
        clear HK
        go_wp2
        refine bodyPost_ret (v := .agg #[.int .i64 0, .int .i64 0]) (by simp [results, Try.results58, go_sem, g1, g2]) rfl ?_
        exact ⟨ret2_eq HE.out, (HB.setCell (by show _ ≤ w.heap.size + 1; omega) _).setCell (by show _ ≤ w.heap.size + 1; omega) _⟩
  · go_loopw [9] (fun i wr => ∃ (k : Nat) (w5 : World), w5 = wr ∧ k ≤ n ∧ i = .int .i64 k ∧ Hid (k ≤ kN P B t 2 n) ∧ Kw [(w.heap.size + 1, [.int .i64 0, .int .i64 0], 34), (w.heap.size, [.slice a P.length c, .slice a2 B.length c2], 25)] w w5) (fun i _ => n - (intOf i).toNat)
    case atStart => exact ⟨0, _, rfl, Nat.zero_le _, rfl, Nat.zero_le _, HK⟩
    case round =>
      clear HK
      obtain ⟨k, w5, hw, hk, rfl, HG, HK⟩ := hrel
      subst hw
      have HB := HK.base
      have p_0 := HK.get 1 0 rfl rfl
      have p_1 := HK.get 1 1 rfl rfl
      obtain ⟨hb0, hb1⟩ := kN_in (by have := HL.out; omega) HT.out HG.out
      by_cases hlt : k < n
      · by_cases hg : good P B 2 (t + k) = true
        · obtain ⟨x0, x1, p, x, hp, hx, hm⟩ := good_out hg
          obtain ⟨b, off, rfl⟩ := HS.out.shape hx
          obtain ⟨m, hm0⟩ : ∃ m : Nat, t + (k : Int) = m := ⟨(t + k).toNat, by omega⟩
          have hmy := may2 (chk_pB HC.out hx)
          rw [hm] at hmy
          simp only [Bool.not_true] at hmy
          have hpl := (List.getElem?_eq_some_iff.1 hx).1
          have HG2 := Lib.hid (good_lt HG.out hlt hg)
          rw [hm0] at hp x0 x1
          have HD : ((m : Int) / 64) = (p : Int) := by simp only [Int.toNat_natCast] at hp; omega
          have HX := Lib.hid hx
          have m0 : (0 : Int) ≤ (m : Int) := Int.natCast_nonneg _
          have m1 : (m : Int) < (B.length : Int) := by omega
          have q0 : (0 : Int) ≤ (p : Int) := Int.natCast_nonneg _
          have q1 : (p : Int) < (P.length : Int) := by omega
          clear hx hp hg hm
          go_wp2_with fail
          refine (inside_y _ _ _ _ _ _ _ _ (by omega) (by omega)).mono ?_
          rintro e w6 ⟨rfl, hq⟩
          replace HK := HK.below hq
          have p_0 := HK.get 1 0 rfl rfl
          have p_1 := HK.get 1 1 rfl rfl
          have hcell := (HS.out.below HK.base).cell HX.out
          have HKh := Lib.hid HK
          clear HK hq
          go_wp2
          go_roundw
          case rel => exact ⟨k + 1, _, rfl, by omega, by go_num, HG2.out, HKh.out⟩
          case measure => simp [intOf]; omega
        · have hg : good P B 2 (t + k) = false := by simpa using hg
          have hz := kN_at HG.out hg
          rcases good_not HC.out hg with ho | ⟨x0, x1, p, x, hp, hx, hm⟩
          · have HE := Lib.hid (fK_at hz hlt)
            rw [kd_out ho] at HE
            clear hg hz
            go_wp2_with fail
            refine (inside_n _ _ _ _ _ _ _ _ ho).mono ?_
            rintro e w6 ⟨rfl, hq⟩
            clear ho
            replace HK := HK.below hq
            have r_0 := HK.get 0 0 rfl rfl
            have r_1 := HK.get 0 1 rfl rfl
            have r_s := HK.lt 0 rfl
            have r_f0 := HK.fz 0 0 rfl
            have r_f1 := HK.fz 0 1 rfl
            have hK := HK.base
            obtain ⟨g1, g2⟩ := put2 (.int .i64 1) (.int .i64 (t + k)) r_0 r_1
            clear HK hq
            go_wp2
            refine bodyPost_ret (v := .agg #[.int .i64 1, .int .i64 (t + k)]) (by simp [results, Try.results58, go_sem, g1, g2]) rfl ?_
            exact ⟨ret2_eq HE.out, (hK.setCell (by show _ ≤ w.heap.size + 1; omega) _).setCell (by show _ ≤ w.heap.size + 1; omega) _⟩
          · obtain ⟨b, off, rfl⟩ := HS.out.shape hx
            obtain ⟨m, hm0⟩ : ∃ m : Nat, t + (k : Int) = m := ⟨(t + k).toNat, by omega⟩
            have hmy := may2 (chk_pB HC.out hx)
            rw [hm] at hmy
            simp only [Bool.not_false] at hmy
            have hpl := (List.getElem?_eq_some_iff.1 hx).1
            rw [hm0] at hp
            have HD : ((m : Int) / 64) = (p : Int) := by simp only [Int.toNat_natCast] at hp; omega
            have hkd := kd_in (q := 2) x0 x1
            have HE := Lib.hid (fK_at hz hlt)
            rw [hkd] at HE
            rw [hm0] at x0 x1 HE
            have HX := Lib.hid hx
            have m0 : (0 : Int) ≤ (m : Int) := Int.natCast_nonneg _
            have m1 : (m : Int) < (B.length : Int) := by omega
            have q0 : (0 : Int) ≤ (p : Int) := Int.natCast_nonneg _
            have q1 : (p : Int) < (P.length : Int) := by omega
            have HKD := Lib.hid hkd
            clear hx hp hg hkd hm hz
            go_wp2_with fail
            refine (inside_y _ _ _ _ _ _ _ _ (by omega) (by omega)).mono ?_
            rintro e w6 ⟨rfl, hq⟩
            replace HK := HK.below hq
            have p_0 := HK.get 1 0 rfl rfl
            have p_1 := HK.get 1 1 rfl rfl
            have r_0 := HK.get 0 0 rfl rfl
            have r_1 := HK.get 0 1 rfl rfl
            have r_s := HK.lt 0 rfl
            have r_f0 := HK.fz 0 0 rfl
            have r_f1 := HK.fz 0 1 rfl
            have hcell := (HS.out.below HK.base).cell HX.out
            have hK := HK.base
            obtain ⟨g1, g2⟩ := put2 (.int .i64 3) (.int .i64 (m : Int)) r_0 r_1
            rw [show kO 2 = 3 from rfl] at HE
            clear HK hq
            go_wp2
            refine bodyPost_ret (v := .agg #[.int .i64 3, .int .i64 (m : Int)]) (by simp [results, Try.results58, go_sem, g1, g2]) rfl ?_
            exact ⟨ret2_eq HE.out, (hK.setCell (by show _ ≤ w.heap.size + 1; omega) _).setCell (by show _ ≤ w.heap.size + 1; omega) _⟩
      · have HE := Lib.hid (fK_end (P := P) (B := B) (t := t) (q := 2) (n := n) (by have := HG.out; have := kN_le P B t 2 n; omega))
        have r_0 := HK.get 0 0 rfl rfl
        have r_1 := HK.get 0 1 rfl rfl
        have r_s := HK.lt 0 rfl
        have r_f0 := HK.fz 0 0 rfl
        have r_f1 := HK.fz 0 1 rfl
        obtain ⟨g1, g2⟩ := put2 (.int .i64 0) (.int .i64 0) r_0 r_1
        clear HK
        go_wp2
        refine bodyPost_ret (v := .agg #[.int .i64 0, .int .i64 0]) (by simp [results, Try.results58, go_sem, g1, g2]) rfl ?_
        exact ⟨ret2_eq HE.out, (HB.setCell (by show _ ≤ w.heap.size + 1; omega) _).setCell (by show _ ≤ w.heap.size + 1; omega) _⟩
  · go_loopw [9] (fun i wr => ∃ (k : Nat) (w5 : World), w5 = wr ∧ k ≤ n ∧ i = .int .i64 k ∧ Hid (k ≤ kN P B t 4 n) ∧ Kw [(w.heap.size + 1, [.int .i64 0, .int .i64 0], 34), (w.heap.size, [.slice a P.length c, .slice a2 B.length c2], 25)] w w5) (fun i _ => n - (intOf i).toNat)
    case atStart => exact ⟨0, _, rfl, Nat.zero_le _, rfl, Nat.zero_le _, HK⟩
    case round =>
      clear HK
      obtain ⟨k, w5, hw, hk, rfl, HG, HK⟩ := hrel
      subst hw
      have HB := HK.base
      have p_0 := HK.get 1 0 rfl rfl
      have p_1 := HK.get 1 1 rfl rfl
      obtain ⟨hb0, hb1⟩ := kN_in (by have := HL.out; omega) HT.out HG.out
      by_cases hlt : k < n
      · by_cases hg : good P B 4 (t + k) = true
        · obtain ⟨x0, x1, p, x, hp, hx, hm⟩ := good_out hg
          obtain ⟨b, off, rfl⟩ := HS.out.shape hx
          obtain ⟨m, hm0⟩ : ∃ m : Nat, t + (k : Int) = m := ⟨(t + k).toNat, by omega⟩
          have hmy := may4 (chk_pB HC.out hx)
          rw [hm] at hmy
          simp only [Bool.not_true] at hmy
          have hpl := (List.getElem?_eq_some_iff.1 hx).1
          have HG2 := Lib.hid (good_lt HG.out hlt hg)
          rw [hm0] at hp x0 x1
          have HD : ((m : Int) / 64) = (p : Int) := by simp only [Int.toNat_natCast] at hp; omega
          have HX := Lib.hid hx
          have m0 : (0 : Int) ≤ (m : Int) := Int.natCast_nonneg _
          have m1 : (m : Int) < (B.length : Int) := by omega
          have q0 : (0 : Int) ≤ (p : Int) := Int.natCast_nonneg _
          have q1 : (p : Int) < (P.length : Int) := by omega
          clear hx hp hg hm
          go_wp2_with fail
          refine (inside_y _ _ _ _ _ _ _ _ (by omega) (by omega)).mono ?_
          rintro e w6 ⟨rfl, hq⟩
          replace HK := HK.below hq
          have p_0 := HK.get 1 0 rfl rfl
          have p_1 := HK.get 1 1 rfl rfl
          have hcell := (HS.out.below HK.base).cell HX.out
          have HKh := Lib.hid HK
          clear HK hq
          go_wp2
          go_roundw
          case rel => exact ⟨k + 1, _, rfl, by omega, by go_num, HG2.out, HKh.out⟩
          case measure => simp [intOf]; omega
        · have hg : good P B 4 (t + k) = false := by simpa using hg
          have hz := kN_at HG.out hg
          rcases good_not HC.out hg with ho | ⟨x0, x1, p, x, hp, hx, hm⟩
          · have HE := Lib.hid (fK_at hz hlt)
            rw [kd_out ho] at HE
            clear hg hz
            go_wp2_with fail
            refine (inside_n _ _ _ _ _ _ _ _ ho).mono ?_
            rintro e w6 ⟨rfl, hq⟩
            clear ho
            replace HK := HK.below hq
            have r_0 := HK.get 0 0 rfl rfl
            have r_1 := HK.get 0 1 rfl rfl
            have r_s := HK.lt 0 rfl
            have r_f0 := HK.fz 0 0 rfl
            have r_f1 := HK.fz 0 1 rfl
            have hK := HK.base
            obtain ⟨g1, g2⟩ := put2 (.int .i64 1) (.int .i64 (t + k)) r_0 r_1
            clear HK hq
            go_wp2
            refine bodyPost_ret (v := .agg #[.int .i64 1, .int .i64 (t + k)]) (by simp [results, Try.results58, go_sem, g1, g2]) rfl ?_
            exact ⟨ret2_eq HE.out, (hK.setCell (by show _ ≤ w.heap.size + 1; omega) _).setCell (by show _ ≤ w.heap.size + 1; omega) _⟩
          · obtain ⟨b, off, rfl⟩ := HS.out.shape hx
            obtain ⟨m, hm0⟩ : ∃ m : Nat, t + (k : Int) = m := ⟨(t + k).toNat, by omega⟩
            have hmy := may4 (chk_pB HC.out hx)
            rw [hm] at hmy
            simp only [Bool.not_false] at hmy
            have hpl := (List.getElem?_eq_some_iff.1 hx).1
            rw [hm0] at hp
            have HD : ((m : Int) / 64) = (p : Int) := by simp only [Int.toNat_natCast] at hp; omega
            have hkd := kd_in (q := 4) x0 x1
            have HE := Lib.hid (fK_at hz hlt)
            rw [hkd] at HE
            rw [hm0] at x0 x1 HE
            have HX := Lib.hid hx
            have m0 : (0 : Int) ≤ (m : Int) := Int.natCast_nonneg _
            have m1 : (m : Int) < (B.length : Int) := by omega
            have q0 : (0 : Int) ≤ (p : Int) := Int.natCast_nonneg _
            have q1 : (p : Int) < (P.length : Int) := by omega
            have HKD := Lib.hid hkd
            clear hx hp hg hkd hm hz
            go_wp2_with fail
            refine (inside_y _ _ _ _ _ _ _ _ (by omega) (by omega)).mono ?_
            rintro e w6 ⟨rfl, hq⟩
            replace HK := HK.below hq
            have p_0 := HK.get 1 0 rfl rfl
            have p_1 := HK.get 1 1 rfl rfl
            have r_0 := HK.get 0 0 rfl rfl
            have r_1 := HK.get 0 1 rfl rfl
            have r_s := HK.lt 0 rfl
            have r_f0 := HK.fz 0 0 rfl
            have r_f1 := HK.fz 0 1 rfl
            have hcell := (HS.out.below HK.base).cell HX.out
            have hK := HK.base
            obtain ⟨g1, g2⟩ := put2 (.int .i64 4) (.int .i64 (m : Int)) r_0 r_1
            rw [show kO 4 = 4 from rfl] at HE
            clear HK hq
            go_wp2
            refine bodyPost_ret (v := .agg #[.int .i64 4, .int .i64 (m : Int)]) (by simp [results, Try.results58, go_sem, g1, g2]) rfl ?_
            exact ⟨ret2_eq HE.out, (hK.setCell (by show _ ≤ w.heap.size + 1; omega) _).setCell (by show _ ≤ w.heap.size + 1; omega) _⟩
      · have HE := Lib.hid (fK_end (P := P) (B := B) (t := t) (q := 4) (n := n) (by have := HG.out; have := kN_le P B t 4 n; omega))
        have r_0 := HK.get 0 0 rfl rfl
        have r_1 := HK.get 0 1 rfl rfl
        have r_s := HK.lt 0 rfl
        have r_f0 := HK.fz 0 0 rfl
        have r_f1 := HK.fz 0 1 rfl
        obtain ⟨g1, g2⟩ := put2 (.int .i64 0) (.int .i64 0) r_0 r_1
        clear HK
        go_wp2
        refine bodyPost_ret (v := .agg #[.int .i64 0, .int .i64 0]) (by simp [results, Try.results58, go_sem, g1, g2]) rfl ?_
        exact ⟨ret2_eq HE.out, (HB.setCell (by show _ ≤ w.heap.size + 1; omega) _).setCell (by show _ ≤ w.heap.size + 1; omega) _⟩
end Go.Proofs.Ytdbcbmdekdfdoaa
