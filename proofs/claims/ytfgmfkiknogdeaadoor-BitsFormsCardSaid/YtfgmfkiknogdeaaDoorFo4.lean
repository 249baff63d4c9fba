/- WHAT IS PROVED: the reference's number of digits to the bases 10 and 16. CONDITIONS: the string is one that can be. -/
import Derived.Test.YtfgmfkiknogdeaaDoorFo3
namespace Go.Proofs.YtfgmfkiknogdeaaDoor
open Go Go.RowKit Go.QrBits
attribute [local go_sem] reg_cell reg_frozen reg_setCell reg_lt reg_lt_add reg_drew reg_of_drew

theorem dR_no {c : Int} (h : dOk c = false) : dR c = -1 := by unfold dR; rw [h]; rfl
theorem dR_yes {c : Int} (h : dOk c = true) : dR c = dV c := by unfold dR; rw [if_pos h]
theorem sk_eq {s : ByteArray} {k : Nat} (h : k < s.size) : ((s[k]'h).toNat : Int) = ((s.data.toList.getD k 0).toNat : Int) := by
  have h' : k < s.data.toList.length := by simpa using h
  have : s.data.toList.getD k 0 = s[k]'h := by
    simp only [List.getD, List.getElem?_eq_getElem h', Option.getD_some]
    rfl
  rw [this]
theorem dg_snd' (base : Int) (s : ByteArray) : ((dgs base (bts s) 0).isSome && decide (0 < s.size)) = (dg base s).isSome := by
  have e := dg_snd base s
  cases hd : (dgs base (bts s) 0).isSome
  · rw [hd] at e; exact e
  · rw [hd] at e
    rw [← e]
    by_cases he : s.toList.isEmpty = true
    · have h0 : s.size = 0 := by rw [← bts_len, toList_empty he]; rfl
      rw [he, h0]; rfl
    · have he : s.toList.isEmpty = false := by simpa using he
      rw [he] at e
      rw [he, decide_eq_true (dg_pos e.symm)]
      rfl
set_option maxHeartbeats 4000000 in
set_option maxRecDepth 100000 in
theorem rnumber_10 (s : ByteArray) (w : World) (hs : s.size ≤ maxLen) :
    Calls Tryd.prog 69 #[.string s, .int .u64 10] w fun e w' => e = .returned (.tuple #[.int .u64 ((dg 10 s).getD 0), .bool (dg 10 s).isSome]) ∧ Below w.heap.size w w' := by
  rw [← dg_fst, ← dg_snd']
  unfold maxLen at hs
  have hs' : s.size ≤ 9223372036854775807 := by omega
  clear hs
  go_enter Tryd.func69, Tryd.ntmps69
  go_wp2_with fail
  go_loopw [6, 7] (fun v6 v7 wr => ∃ (k : Nat) (m : Int), k ≤ s.size ∧ v7 = .int .i64 k ∧ v6 = .int .u64 m ∧ Hid (dgs 10 ((bts s).take k) 0 = some m) ∧ Hid (Below w.heap.size w wr)) (fun _ v7 _ => s.size - (intOf v7).toNat)
  case atStart => exact ⟨0, 0, Nat.zero_le _, rfl, rfl, rfl, Below.refl _ _⟩
  case round =>
    obtain ⟨k, m, hk, rfl, rfl, HD, HB⟩ := hrel
    have hm := dgs_bd (base := 10) (by omega) _ 0 m (by omega) (by omega) HD.out
    obtain ⟨m0, m1⟩ := hm
    by_cases hlt : k < s.size
    · have htake := bts_take s k hlt
      rw [← sk_eq hlt] at htake
      have hc1 : (s[k]'hlt).toNat ≤ 255 := by have := (s[k]'hlt).toNat_lt; omega
      go_wp2_with fail
      generalize hcc : ((s[k]'hlt).toNat : Int) = c at *
      have c0 : 0 ≤ c := by omega
      have c1 : c ≤ 255 := by omega
      have HT := Lib.hid htake
      clear htake hc1 hcc
      have hd := dV_bd c
      obtain ⟨d0, d1⟩ := hd
      refine (rdigit_c _ _ c0 c1).mono ?_
      rintro e w' ⟨rfl, hq⟩
      by_cases t1 : dOk c = true
      case neg =>
        have t1 : dOk c = false := by simpa using t1
        rw [dR_no t1]
        have T1 := Lib.hid t1
        clear t1
        go_wp2
        go_ret2
        exact ⟨by rw [dgs_dead (k := k + 1) (by rw [HT.out]; exact dgs_step HD.out (dStep_no1 T1.out))]; rfl, Below.tail HB.out hq⟩
      case pos =>
      rw [dR_yes t1]
      have T1 := Lib.hid t1
      clear t1
      generalize hdv : dV c = d at *
      by_cases t2 : 10 ≤ d
      case pos =>
        go_wp2
        go_ret2
        exact ⟨by rw [dgs_dead (k := k + 1) (by rw [HT.out]; exact dgs_step HD.out (dStep_no2 (by rw [hdv]; exact t2)))]; rfl, Below.tail HB.out hq⟩
      case neg =>
      by_cases t3 : (18446744073709551615 - d) / 10 < m
      case pos =>
        go_wp2
        go_ret2
        exact ⟨by rw [dgs_dead (k := k + 1) (by rw [HT.out]; exact dgs_step HD.out (dStep_no3 (by rw [hdv]; exact t3)))]; rfl, Below.tail HB.out hq⟩
      case neg =>
      have HS := Lib.hid (dStep_yes (base := 10) (n := m) T1.out (by rw [hdv]; exact t2) (by rw [hdv]; exact t3))
      rw [hdv] at HS
      go_wp2
      go_roundw
      case rel => exact ⟨k + 1, m * 10 + d, by omega, by go_num, by go_num, by rw [HT.out]; exact dgs_step HD.out HS.out, Below.tail HB.out hq⟩
      case measure => simp [intOf]; omega
    · go_wp2
      go_ret2
      have hks : k = s.size := by omega
      have hfull : dgs 10 (bts s) 0 = some m := by have := HD.out; rwa [List.take_of_length_le (by rw [bts_len]; omega)] at this
      exact ⟨by rw [hfull]; rfl, HB.out⟩
set_option maxHeartbeats 4000000 in
set_option maxRecDepth 100000 in
theorem rnumber_16 (s : ByteArray) (w : World) (hs : s.size ≤ maxLen) :
    Calls Tryd.prog 69 #[.string s, .int .u64 16] w fun e w' => e = .returned (.tuple #[.int .u64 ((dg 16 s).getD 0), .bool (dg 16 s).isSome]) ∧ Below w.heap.size w w' := by
  rw [← dg_fst, ← dg_snd']
  unfold maxLen at hs
  have hs' : s.size ≤ 9223372036854775807 := by omega
  clear hs
  go_enter Tryd.func69, Tryd.ntmps69
  go_wp2_with fail
  go_loopw [6, 7] (fun v6 v7 wr => ∃ (k : Nat) (m : Int), k ≤ s.size ∧ v7 = .int .i64 k ∧ v6 = .int .u64 m ∧ Hid (dgs 16 ((bts s).take k) 0 = some m) ∧ Hid (Below w.heap.size w wr)) (fun _ v7 _ => s.size - (intOf v7).toNat)
  case atStart => exact ⟨0, 0, Nat.zero_le _, rfl, rfl, rfl, Below.refl _ _⟩
  case round =>
    obtain ⟨k, m, hk, rfl, rfl, HD, HB⟩ := hrel
    have hm := dgs_bd (base := 16) (by omega) _ 0 m (by omega) (by omega) HD.out
    obtain ⟨m0, m1⟩ := hm
    by_cases hlt : k < s.size
    · have htake := bts_take s k hlt
      rw [← sk_eq hlt] at htake
      have hc1 : (s[k]'hlt).toNat ≤ 255 := by have := (s[k]'hlt).toNat_lt; omega
      go_wp2_with fail
      generalize hcc : ((s[k]'hlt).toNat : Int) = c at *
      have c0 : 0 ≤ c := by omega
      have c1 : c ≤ 255 := by omega
      have HT := Lib.hid htake
      clear htake hc1 hcc
      have hd := dV_bd c
      obtain ⟨d0, d1⟩ := hd
      refine (rdigit_c _ _ c0 c1).mono ?_
      rintro e w' ⟨rfl, hq⟩
      by_cases t1 : dOk c = true
      case neg =>
        have t1 : dOk c = false := by simpa using t1
        rw [dR_no t1]
        have T1 := Lib.hid t1
        clear t1
        go_wp2
        go_ret2
        exact ⟨by rw [dgs_dead (k := k + 1) (by rw [HT.out]; exact dgs_step HD.out (dStep_no1 T1.out))]; rfl, Below.tail HB.out hq⟩
      case pos =>
      rw [dR_yes t1]
      have T1 := Lib.hid t1
      clear t1
      generalize hdv : dV c = d at *
      by_cases t2 : 16 ≤ d
      case pos =>
        go_wp2
        go_ret2
        exact ⟨by rw [dgs_dead (k := k + 1) (by rw [HT.out]; exact dgs_step HD.out (dStep_no2 (by rw [hdv]; exact t2)))]; rfl, Below.tail HB.out hq⟩
      case neg =>
      by_cases t3 : (18446744073709551615 - d) / 16 < m
      case pos =>
        go_wp2
        go_ret2
        exact ⟨by rw [dgs_dead (k := k + 1) (by rw [HT.out]; exact dgs_step HD.out (dStep_no3 (by rw [hdv]; exact t3)))]; rfl, Below.tail HB.out hq⟩
      case neg =>
      have HS := Lib.hid (dStep_yes (base := 16) (n := m) T1.out (by rw [hdv]; exact t2) (by rw [hdv]; exact t3))
      rw [hdv] at HS
      go_wp2
      go_roundw
      case rel => exact ⟨k + 1, m * 16 + d, by omega, by go_num, by go_num, by rw [HT.out]; exact dgs_step HD.out HS.out, Below.tail HB.out hq⟩
      case measure => simp [intOf]; omega
    · go_wp2
      go_ret2
      have hks : k = s.size := by omega
      have hfull : dgs 16 (bts s) 0 = some m := by have := HD.out; rwa [List.take_of_length_le (by rw [bts_len]; omega)] at this
      exact ⟨by rw [hfull]; rfl, HB.out⟩
end Go.Proofs.YtfgmfkiknogdeaaDoor
