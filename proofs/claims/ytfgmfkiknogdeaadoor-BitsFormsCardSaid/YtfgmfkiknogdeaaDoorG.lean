/- WHAT IS PROVED: bits.digits reads a list of digits of base 10 or 16. CONDITIONS: the string is one that can be (its length is an int). -/
import Derived.Test.YtfgmfkiknogdeaaDoorN
import Derived.Lib.ConvBytes
namespace Go.Proofs.YtfgmfkiknogdeaaDoor
open Go Go.RowKit Go.QrBits

/-- The bytes of a string, as numbers. -/
def bts (s : ByteArray) : List Int := s.data.toList.map fun b => (b.toNat : Int)
/-- One digit more. -/
def dStep (base n c : Int) : Option Int := if !dOk c || decide (base ≤ dV c) || decide ((18446744073709551615 - dV c) / base < n) then none else some (n * base + dV c)
/-- The number of a list of digits. -/
def dgs (base : Int) : List Int → Int → Option Int
  | [], n => some n
  | c :: cs, n => (dStep base n c).bind (dgs base cs)

theorem dgs_append (base : Int) : ∀ (l l' : List Int) (n : Int), dgs base (l ++ l') n = (dgs base l n).bind (dgs base l')
  | [], _, _ => rfl
  | c :: cs, l', n => by
    simp only [List.cons_append, dgs]
    cases h : dStep base n c with
    | none => rfl
    | some m => simp only [Option.bind_some]; exact dgs_append base cs l' m

theorem bts_len (s : ByteArray) : (bts s).length = s.size := by simp [bts]
theorem bts_take (s : ByteArray) (k : Nat) (h : k < s.size) : (bts s).take (k + 1) = (bts s).take k ++ [((s.data.toList.getD k 0).toNat : Int)] := by
  rw [List.take_succ_eq_append_getElem (by rw [bts_len]; exact h)]
  congr 1
  simp [bts, List.getD, h]

theorem dgs_bd {base : Int} (h1 : 1 ≤ base) : ∀ (l : List Int) (n m : Int), 0 ≤ n → n ≤ 18446744073709551615 → dgs base l n = some m → 0 ≤ m ∧ m ≤ 18446744073709551615
  | [], n, m, h0, hn, h => by cases h; exact ⟨h0, hn⟩
  | c :: cs, n, m, h0, hn, h => by
    simp only [dgs] at h
    cases hs : dStep base n c with
    | none => rw [hs] at h; cases h
    | some n' =>
      rw [hs] at h
      refine dgs_bd h1 cs n' m ?_ ?_ h
      all_goals
        unfold dStep at hs
        split at hs
        · cases hs
        · rename_i hc
          simp only [Bool.or_eq_true, decide_eq_true_eq, not_or] at hc
          have hd := dV_bd c
          cases hs
          have h2 : n ≤ (18446744073709551615 - dV c) / base := by omega
          have h3 := Int.mul_le_mul_of_nonneg_right h2 (show 0 ≤ base by omega)
          have h4 : (18446744073709551615 - dV c) / base * base ≤ 18446744073709551615 - dV c := Int.ediv_mul_le _ (by omega)
          have h5 : 0 ≤ n * base := Int.mul_nonneg h0 (by omega)
          omega


theorem dStep_no1 {base n c : Int} (h : dOk c = false) : dStep base n c = none := by simp [dStep, h]
theorem dStep_no2 {base n c : Int} (h : base ≤ dV c) : dStep base n c = none := by simp [dStep, h]
theorem dStep_no3 {base n c : Int} (h : (18446744073709551615 - dV c) / base < n) : dStep base n c = none := by simp [dStep, h]
theorem dStep_yes {base n c : Int} (h1 : dOk c = true) (h2 : ¬ base ≤ dV c) (h3 : ¬ (18446744073709551615 - dV c) / base < n) : dStep base n c = some (n * base + dV c) := by simp [dStep, h1, h2, h3]
theorem dgs_step {base m c : Int} {l : List Int} {n : Option Int} (h : dgs base l 0 = some m) (hs : dStep base m c = n) : dgs base (l ++ [c]) 0 = n := by
  rw [dgs_append, h, Option.bind_some]; simp only [dgs, hs]
  cases n <;> rfl
theorem dgs_dead {base : Int} {l : List Int} {k : Nat} (h : dgs base (l.take k) 0 = none) : dgs base l 0 = none := by
  have e : l = l.take k ++ l.drop k := (List.take_append_drop k l).symm
  rw [e, dgs_append, h]; rfl

/-- The cells of the bytes in a later world. -/
theorem byte_cell {w wr : World} {s : ByteArray} (hb : Below (Lib.bytesWorld w 5 s).heap.size (Lib.bytesWorld w 5 s) wr) {k : Nat} (hk : k < s.size) :
    wr.cell? ⟨w.heap.size, k, none⟩ = some (.int .u8 ((s.data.toList.getD k 0).toNat : Int)) := by
  rw [hb.cell (p := ⟨w.heap.size, k, none⟩) (by rw [Lib.bytesWorld_size]; simp), Lib.bytesWorld_cell w 5 s k hk]
theorem bytesWorld_below (w : World) (s : ByteArray) : Below w.heap.size w (Lib.bytesWorld w 5 s) :=
  ⟨rfl, rfl, rfl, by rw [Lib.bytesWorld_size]; omega, fun k hk => Lib.bytesWorld_at_old w 5 s k hk⟩

set_option maxHeartbeats 2000000 in
set_option maxRecDepth 100000 in
theorem digits_10 (s : ByteArray) (w : World) (hs : s.size ≤ maxLen) :
    Calls Tryd.prog 103 #[.string s, .int .u64 10] w fun e w' => e = .returned (.tuple #[.int .u64 ((dgs 10 (bts s) 0).getD 0), .bool ((dgs 10 (bts s) 0).isSome && !s.toList.isEmpty)]) ∧ Below w.heap.size w w' := by
  unfold maxLen at hs
  have hs' : s.size ≤ 9223372036854775807 := by omega
  clear hs
  have hcv := fun w => Lib.run_convert_string_bytes (P := Tryd.prog) w 9 48 5 s Tryd.underlying9 Tryd.underlying48 Tryd.underlying5
  go_enter Tryd.func103, Tryd.ntmps103
  go_wp2_with fail
  clear hcv
  go_loopw [6, 14] (fun v6 v14 wr => ∃ (k : Nat) (m : Int), k ≤ s.size ∧ v14 = .int .i64 k ∧ v6 = .int .u64 m ∧ Hid (dgs 10 ((bts s).take k) 0 = some m) ∧ Hid (Below (Lib.bytesWorld w 5 s).heap.size (Lib.bytesWorld w 5 s) wr)) (fun _ v14 _ => s.size - (intOf v14).toNat)
  case atStart => exact ⟨0, 0, Nat.zero_le _, rfl, rfl, rfl, Below.refl _ _⟩
  case round =>
    obtain ⟨k, m, hk, rfl, rfl, HD, HB⟩ := hrel
    have hm := dgs_bd (base := 10) (by omega) _ 0 m (by omega) (by omega) HD.out
    obtain ⟨m0, m1⟩ := hm
    by_cases hlt : k < s.size
    · have hcell := byte_cell HB.out hlt
      have htake := bts_take s k hlt
      have hlen := bts_len s
      have hc1 : (s.data.toList.getD k 0).toNat ≤ 255 := by have := (s.data.toList.getD k 0).toNat_lt; omega
      generalize hcc : ((s.data.toList.getD k 0).toNat : Int) = c at *
      have c0 : 0 ≤ c := by omega
      have c1 : c ≤ 255 := by omega
      have HT := Lib.hid htake
      clear htake hlen hc1 hcc
      have hd := dV_bd c
      obtain ⟨d0, d1⟩ := hd
      by_cases t1 : dOk c = true
      case neg =>
        have t1 : dOk c = false := by simpa using t1
        have T1 := Lib.hid t1
        go_wp2_with (go_at_call 108; refine (digit_c _ _ c0 c1).mono ?_; rintro e w' ⟨rfl, hq⟩)
        go_ret2
        exact ⟨by rw [dgs_dead (k := k + 1) (by rw [HT.out]; exact dgs_step HD.out (dStep_no1 T1.out))]; rfl, Below.tail (bytesWorld_below w s) (Below.tail HB.out hq)⟩
      case pos =>
      by_cases t2 : 10 ≤ dV c
      case pos =>
        go_wp2_with (go_at_call 108; refine (digit_c _ _ c0 c1).mono ?_; rintro e w' ⟨rfl, hq⟩)
        go_ret2
        exact ⟨by rw [dgs_dead (k := k + 1) (by rw [HT.out]; exact dgs_step HD.out (dStep_no2 t2))]; rfl, Below.tail (bytesWorld_below w s) (Below.tail HB.out hq)⟩
      case neg =>
      by_cases t3 : (18446744073709551615 - dV c) / 10 < m
      case pos =>
        go_wp2_with (go_at_call 108; refine (digit_c _ _ c0 c1).mono ?_; rintro e w' ⟨rfl, hq⟩)
        go_ret2
        exact ⟨by rw [dgs_dead (k := k + 1) (by rw [HT.out]; exact dgs_step HD.out (dStep_no3 t3))]; rfl, Below.tail (bytesWorld_below w s) (Below.tail HB.out hq)⟩
      case neg =>
      have HS := Lib.hid (dStep_yes t1 t2 t3)
      go_wp2_with (go_at_call 108; refine (digit_c _ _ c0 c1).mono ?_; rintro e w' ⟨rfl, hq⟩)
      go_roundw
      case rel => exact ⟨k + 1, m * 10 + dV c, by omega, by go_num, rfl, by rw [HT.out]; exact dgs_step HD.out HS.out, Below.tail HB.out hq⟩
      case measure => simp [intOf]; omega
    · go_wp2
      go_ret2
      have hks : k = s.size := by omega
      subst hks
      have hfull : dgs 10 (bts s) 0 = some m := by have := HD.out; rwa [List.take_of_length_le (by rw [bts_len]; omega)] at this
      exact ⟨by rw [hfull]; rfl, Below.tail (bytesWorld_below w s) HB.out⟩
set_option maxHeartbeats 2000000 in
set_option maxRecDepth 100000 in
theorem digits_16 (s : ByteArray) (w : World) (hs : s.size ≤ maxLen) :
    Calls Tryd.prog 103 #[.string s, .int .u64 16] w fun e w' => e = .returned (.tuple #[.int .u64 ((dgs 16 (bts s) 0).getD 0), .bool ((dgs 16 (bts s) 0).isSome && !s.toList.isEmpty)]) ∧ Below w.heap.size w w' := by
  unfold maxLen at hs
  have hs' : s.size ≤ 9223372036854775807 := by omega
  clear hs
  have hcv := fun w => Lib.run_convert_string_bytes (P := Tryd.prog) w 9 48 5 s Tryd.underlying9 Tryd.underlying48 Tryd.underlying5
  go_enter Tryd.func103, Tryd.ntmps103
  go_wp2_with fail
  clear hcv
  go_loopw [6, 14] (fun v6 v14 wr => ∃ (k : Nat) (m : Int), k ≤ s.size ∧ v14 = .int .i64 k ∧ v6 = .int .u64 m ∧ Hid (dgs 16 ((bts s).take k) 0 = some m) ∧ Hid (Below (Lib.bytesWorld w 5 s).heap.size (Lib.bytesWorld w 5 s) wr)) (fun _ v14 _ => s.size - (intOf v14).toNat)
  case atStart => exact ⟨0, 0, Nat.zero_le _, rfl, rfl, rfl, Below.refl _ _⟩
  case round =>
    obtain ⟨k, m, hk, rfl, rfl, HD, HB⟩ := hrel
    have hm := dgs_bd (base := 16) (by omega) _ 0 m (by omega) (by omega) HD.out
    obtain ⟨m0, m1⟩ := hm
    by_cases hlt : k < s.size
    · have hcell := byte_cell HB.out hlt
      have htake := bts_take s k hlt
      have hlen := bts_len s
      have hc1 : (s.data.toList.getD k 0).toNat ≤ 255 := by have := (s.data.toList.getD k 0).toNat_lt; omega
      generalize hcc : ((s.data.toList.getD k 0).toNat : Int) = c at *
      have c0 : 0 ≤ c := by omega
      have c1 : c ≤ 255 := by omega
      have HT := Lib.hid htake
      clear htake hlen hc1 hcc
      have hd := dV_bd c
      obtain ⟨d0, d1⟩ := hd
      by_cases t1 : dOk c = true
      case neg =>
        have t1 : dOk c = false := by simpa using t1
        have T1 := Lib.hid t1
        go_wp2_with (go_at_call 108; refine (digit_c _ _ c0 c1).mono ?_; rintro e w' ⟨rfl, hq⟩)
        go_ret2
        exact ⟨by rw [dgs_dead (k := k + 1) (by rw [HT.out]; exact dgs_step HD.out (dStep_no1 T1.out))]; rfl, Below.tail (bytesWorld_below w s) (Below.tail HB.out hq)⟩
      case pos =>
      by_cases t2 : 16 ≤ dV c
      case pos =>
        go_wp2_with (go_at_call 108; refine (digit_c _ _ c0 c1).mono ?_; rintro e w' ⟨rfl, hq⟩)
        go_ret2
        exact ⟨by rw [dgs_dead (k := k + 1) (by rw [HT.out]; exact dgs_step HD.out (dStep_no2 t2))]; rfl, Below.tail (bytesWorld_below w s) (Below.tail HB.out hq)⟩
      case neg =>
      by_cases t3 : (18446744073709551615 - dV c) / 16 < m
      case pos =>
        go_wp2_with (go_at_call 108; refine (digit_c _ _ c0 c1).mono ?_; rintro e w' ⟨rfl, hq⟩)
        go_ret2
        exact ⟨by rw [dgs_dead (k := k + 1) (by rw [HT.out]; exact dgs_step HD.out (dStep_no3 t3))]; rfl, Below.tail (bytesWorld_below w s) (Below.tail HB.out hq)⟩
      case neg =>
      have HS := Lib.hid (dStep_yes t1 t2 t3)
      go_wp2_with (go_at_call 108; refine (digit_c _ _ c0 c1).mono ?_; rintro e w' ⟨rfl, hq⟩)
      go_roundw
      case rel => exact ⟨k + 1, m * 16 + dV c, by omega, by go_num, rfl, by rw [HT.out]; exact dgs_step HD.out HS.out, Below.tail HB.out hq⟩
      case measure => simp [intOf]; omega
    · go_wp2
      go_ret2
      have hks : k = s.size := by omega
      subst hks
      have hfull : dgs 16 (bts s) 0 = some m := by have := HD.out; rwa [List.take_of_length_le (by rw [bts_len]; omega)] at this
      exact ⟨by rw [hfull]; rfl, Below.tail (bytesWorld_below w s) HB.out⟩
end Go.Proofs.YtfgmfkiknogdeaaDoor
