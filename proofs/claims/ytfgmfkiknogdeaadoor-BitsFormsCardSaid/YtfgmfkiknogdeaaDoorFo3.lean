/- WHAT IS PROVED: the reference's Digits and Text, and its digit. CONDITIONS: int64 values; bytes from 0 to 255. -/
import Derived.Test.YtfgmfkiknogdeaaDoorFo1
namespace Go.Proofs.YtfgmfkiknogdeaaDoor
open Go Go.RowKit Go.QrBits
attribute [local go_sem] reg_cell reg_frozen reg_setCell reg_lt reg_lt_add reg_drew reg_of_drew

theorem bts_append (a b : ByteArray) : bts (a ++ b) = bts a ++ bts b := by simp [bts]
theorem strOf_append {l l' : List Int} (h : okB l) (h' : okB l') : strOf l ++ strOf l' = strOf (l ++ l') := by
  refine ba_ext ?_
  rw [bts_append, bts_strOf h, bts_strOf h', bts_strOf (fun n hn => by
    rcases List.mem_append.1 hn with hn | hn
    · exact h n hn
    · exact h' n hn)]
theorem decL_okB {n : Nat} (h : n < 10 ^ (19 + 1)) : okB (decL n) := fun c hc => by have := decL_ok 19 n h c hc; omega
theorem decL_lenR (k : Nat) : ∀ n : Nat, n < 10 ^ (k + 1) → (decL n).length ≤ k + 1 := by
  induction k with
  | zero => intro n h; rw [decL_lt (by omega)]; simp
  | succ k ih =>
    intro n h
    by_cases h9 : (n : Int) < 10
    · rw [decL_lt h9]; simp
    · rw [decL_ge h9, List.length_append, List.length_singleton]
      have := ih (n / 10) (by rw [Nat.pow_succ] at h; omega)
      omega
theorem strOf_size {l : List Int} (h : okB l) : (strOf l).size = l.length := by rw [← bts_len, bts_strOf h]
theorem decL_size {n : Nat} (h : n < 10 ^ (19 + 1)) : (strOf (decL n)).size ≤ 20 := by rw [strOf_size (decL_okB h)]; exact decL_lenR 19 n h
theorem one_ok {c : Int} (h0 : 0 ≤ c) (h1 : c ≤ 255) : okB [c] := fun n hn => by rw [List.mem_singleton.1 hn]; exact ⟨h0, h1⟩
set_option maxHeartbeats 4000000 in
set_option maxRecDepth 100000 in
theorem rdig_1 (n : Nat) (w : World) (h : (n : Int) < 10) : Calls Tryd.prog 66 #[.int .u64 n] w fun e w' => e = .returned (.string (strOf (decL n))) ∧ Below w.heap.size w w' := by
  rw [decL_lt h]
  have hn : n = 0 ∨ n = 1 ∨ n = 2 ∨ n = 3 ∨ n = 4 ∨ n = 5 ∨ n = 6 ∨ n = 7 ∨ n = 8 ∨ n = 9 := by omega
  rcases hn with rfl | rfl | rfl | rfl | rfl | rfl | rfl | rfl | rfl | rfl
  all_goals
    clear h
    go_enter Tryd.func66, Tryd.ntmps66
    go_wp2
    go_ret
    exact ⟨by first | rfl | exact congrArg (fun s => Ending.returned (.string s)) (ba_ext (by decide)), by go_grown⟩
set_option maxHeartbeats 4000000 in
set_option maxRecDepth 100000 in
theorem rdig_c (k : Nat) : ∀ (n : Nat) (w : World), n < 10 ^ (k + 1) → k ≤ 19 → (n : Int) ≤ 18446744073709551615 → Calls Tryd.prog 66 #[.int .u64 n] w fun e w' => e = .returned (.string (strOf (decL n))) ∧ Below w.heap.size w w' := by
  induction k with
  | zero => intro n w h _ _; exact rdig_1 n w (by omega)
  | succ k ih =>
    intro n w hn hk hmax
    by_cases h9 : (n : Int) < 10
    · exact rdig_1 n w h9
    have hd : n / 10 < 10 ^ (k + 1) := by rw [Nat.pow_succ] at hn; omega
    have hrec := fun w => ih (n / 10) w hd (by omega) (by omega)
    have hlast := fun w => rdig_1 (n % 10) w (by omega)
    have hk20 : n / 10 < 10 ^ (19 + 1) := Nat.lt_of_lt_of_le hd (Nat.pow_le_pow_right (by omega) (by omega))
    have he : strOf (decL (n / 10)) ++ strOf (decL (n % 10)) = strOf (decL n) := by
      rw [decL_lt (n := n % 10) (by omega), decL_ge h9, strOf_append (decL_okB hk20) (one_ok (by omega) (by omega))]
      congr 2
      congr 1; omega
    have hz1 := decL_size hk20
    have hz2 := decL_size (n := n % 10) (ten20 (by omega))
    have hz : ¬ 9223372036854775807 < (strOf (decL (n / 10))).size + (strOf (decL (n % 10))).size := by omega
    rw [← he]
    clear hz1 hz2
    have HR := Lib.hid hrec; have HL := Lib.hid hlast
    have HM := Lib.hid hmax
    clear he hrec hlast ih hn hd hk20 hmax
    have h10 : (10 : Int) ≤ n := by omega
    go_enter Tryd.func66, Tryd.ntmps66
    go_wp2_with fail
    rw [show IntKind.u64.wrap ((n : Int) / 10) = ((n / 10 : Nat) : Int) from by have := HM.out; rw [IntKind.wrap_u64]; omega]
    refine (HR.out _).mono ?_
    rintro e w1 ⟨rfl, hq1⟩
    have HQ1 := Lib.hid hq1
    clear hq1
    go_wp2_with fail
    rw [show ((n : Int) % 10) = ((n % 10 : Nat) : Int) from by omega]
    refine (HL.out _).mono ?_
    rintro e w2 ⟨rfl, hq2⟩
    have HQ2 := Lib.hid hq2
    clear hq2
    go_wp2
    go_ret
    exact ⟨rfl, Below.tail HQ1.out HQ2.out⟩
theorem rDigits_c (m : Int) (w : World) (h0 : 0 ≤ m) (h1 : m ≤ 18446744073709551615) : Calls Tryd.prog 66 #[.int .u64 m] w fun e w' => e = .returned (.string (strOf (decL m.toNat))) ∧ Below w.heap.size w w' := by
  have := rdig_c 19 m.toNat w (ten20 (by omega)) (by omega) (by omega)
  rwa [Int.toNat_of_nonneg h0] at this
set_option maxHeartbeats 4000000 in
set_option maxRecDepth 100000 in
theorem rText_c (s : Int) (g : Bool) (v : Int) (w : World) (h : vB s = true) (hv : I64 v) : Calls Tryd.prog 37 #[.agg #[.int .i64 s, .bool g], .int .i64 v] w fun e w' => e = .returned (.tuple #[.string (txV s g v), .int .i64 0]) ∧ Below w.heap.size w w' := by
  have hi := wr_I64 (g := g) h hv
  have hT : txV s g v = strOf (txL (nmN g (wr s g v)) (nmS g (wr s g v)).toNat) := rfl
  rw [hT]
  clear hT
  have hwc := fun w => rWrapped_c s g v w h
  generalize wr s g v = x at *
  have HW := Lib.hid hwc
  clear hwc
  by_cases hn : nmN g x = true
  · have hg : g = true ∧ x < 0 := by unfold nmN at hn; simpa using hn
    obtain ⟨rfl, hx⟩ := hg
    have hm : nmS true x = -x := by unfold nmS; rw [if_pos hn]
    rw [hn, hm]
    unfold I64 at hi
    obtain ⟨hi1, hi2⟩ := hi
    have hdg := fun w => rDigits_c (-x) w (by omega) (by omega)
    have hcat : (⟨#[45]⟩ : ByteArray) ++ strOf (decL (-x).toNat) = strOf (txL true (-x).toNat) := by
      rw [show (⟨#[45]⟩ : ByteArray) = strOf [45] from rfl, strOf_append (one_ok (by omega) (by omega)) (decL_okB (ten20 (by omega)))]; rfl
    have hz1 := decL_size (n := (-x).toNat) (ten20 (by omega))
    have hz : ¬ 9223372036854775807 < 1 + (strOf (decL (-x).toNat)).size := by omega
    rw [← hcat]
    have HD := Lib.hid hdg
    clear hdg hcat hn hm hz1
    go_enter Tryd.func37, Tryd.ntmps37
    go_wp2_with (first
      | (go_at_call 25; refine (rCheck_c _ _ _ h).mono ?_; rintro e w' ⟨rfl, hq⟩; (first | obtain ⟨p, rfl⟩ := regrown2 hq | obtain ⟨p, rfl⟩ := regrown hq); clear hq)
      | (go_at_call 47; refine (HW.out _).mono ?_; rintro e w' ⟨rfl, hq⟩; (first | obtain ⟨p, rfl⟩ := regrown2 hq | obtain ⟨p, rfl⟩ := regrown hq); clear hq))
    go_at_call 66
    rw [show -(x + 1) + 1 = -x from by omega]
    refine (HD.out _).mono ?_
    rintro e w' ⟨rfl, hq⟩; (first | obtain ⟨p, rfl⟩ := regrown2 hq | obtain ⟨p, rfl⟩ := regrown hq); clear hq
    go_wp2
    go_returns
    exact ⟨rfl, by repeat (first | exact Below.refl _ _ | apply b_alloc | apply b_reg)⟩
  · have hn' : nmN g x = false := by simpa using hn
    have hm : nmS g x = uN x := by unfold nmS; rw [if_neg hn]
    rw [hn', hm]
    have hu := uN_bd x
    have hdg := fun w => rDigits_c (uN x) w hu.1 (by omega)
    have hcat : strOf (decL (uN x).toNat) = strOf (txL false (uN x).toNat) := rfl
    rw [← hcat]
    have HD := Lib.hid hdg
    clear hdg hcat hm hn
    unfold nmN at hn'
    cases g
    · clear hn'
      go_enter Tryd.func37, Tryd.ntmps37
      go_wp2_with (first
        | (go_at_call 25; refine (rCheck_c _ _ _ h).mono ?_; rintro e w' ⟨rfl, hq⟩; (first | obtain ⟨p, rfl⟩ := regrown2 hq | obtain ⟨p, rfl⟩ := regrown hq); clear hq)
        | (go_at_call 47; refine (HW.out _).mono ?_; rintro e w' ⟨rfl, hq⟩; (first | obtain ⟨p, rfl⟩ := regrown2 hq | obtain ⟨p, rfl⟩ := regrown hq); clear hq)
        | (go_at_call 66; rw [u64_uN]; refine (HD.out _).mono ?_; rintro e w' ⟨rfl, hq⟩; (first | obtain ⟨p, rfl⟩ := regrown2 hq | obtain ⟨p, rfl⟩ := regrown hq); clear hq))
      go_returns
      exact ⟨rfl, by repeat (first | exact Below.refl _ _ | apply b_alloc | apply b_reg)⟩
    · have hx : ¬ x < 0 := by simpa using hn'
      clear hn'
      go_enter Tryd.func37, Tryd.ntmps37
      go_wp2_with (first
        | (go_at_call 25; refine (rCheck_c _ _ _ h).mono ?_; rintro e w' ⟨rfl, hq⟩; (first | obtain ⟨p, rfl⟩ := regrown2 hq | obtain ⟨p, rfl⟩ := regrown hq); clear hq)
        | (go_at_call 47; refine (HW.out _).mono ?_; rintro e w' ⟨rfl, hq⟩; (first | obtain ⟨p, rfl⟩ := regrown2 hq | obtain ⟨p, rfl⟩ := regrown hq); clear hq)
        | (go_at_call 66; rw [u64_uN]; refine (HD.out _).mono ?_; rintro e w' ⟨rfl, hq⟩; (first | obtain ⟨p, rfl⟩ := regrown2 hq | obtain ⟨p, rfl⟩ := regrown hq); clear hq))
      go_returns
      exact ⟨rfl, by repeat (first | exact Below.refl _ _ | apply b_alloc | apply b_reg)⟩
/-- The reference's digit. -/
def dR (c : Int) : Int := if dOk c then dV c else -1
set_option maxHeartbeats 4000000 in
set_option maxRecDepth 100000 in
theorem rdigit_c (c : Int) (w : World) (h0 : 0 ≤ c) (h1 : c ≤ 255) : Calls Tryd.prog 104 #[.int .u8 c] w fun e w' => e = .returned (.int .i64 (dR c)) ∧ Below w.heap.size w w' := by
  by_cases a1 : 48 ≤ c <;> by_cases a2 : c ≤ 57 <;> by_cases a3 : 97 ≤ c <;> by_cases a4 : c ≤ 102 <;> by_cases a5 : 65 ≤ c <;> by_cases a6 : c ≤ 70
  all_goals first | (exfalso; omega) | skip
  all_goals
    have e : dR c = (if 48 ≤ c ∧ c ≤ 57 then c - 48 else if 97 ≤ c ∧ c ≤ 102 then c - 87 else if 65 ≤ c ∧ c ≤ 70 then c - 55 else -1) := by
      unfold dR dOk dV
      simp only [a1, a2, a3, a4, a5, a6, decide_true, decide_false, Bool.and_true, Bool.and_false, Bool.or_false, Bool.or_true, and_self, and_true, and_false, if_true, if_false, Bool.false_eq_true]
    rw [e]
    simp only [a1, a2, a3, a4, a5, a6, and_self, and_true, and_false, if_true, if_false]
    clear e
    go_enter Tryd.func104, Tryd.ntmps104
    go_wp2
    go_ret
    exact ⟨ret_int (by first | rfl | omega), by go_grown⟩
end Go.Proofs.YtfgmfkiknogdeaaDoor
