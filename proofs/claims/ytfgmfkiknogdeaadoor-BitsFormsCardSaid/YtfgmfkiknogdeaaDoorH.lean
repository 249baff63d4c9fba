/- WHAT IS PROVED: bits.read gives the number that a string represents. CONDITIONS: the string is one that can be. -/
import Derived.Test.YtfgmfkiknogdeaaDoorG
namespace Go.Proofs.YtfgmfkiknogdeaaDoor
open Go Go.RowKit Go.QrBits
attribute [local go_sem] reg_cell reg_frozen reg_setCell reg_lt reg_lt_add reg_drew reg_of_drew

/-- Does a string begin with "0x" (with "-")? And what stands behind. -/
def hx (s : ByteArray) : Bool := decide (2 ≤ s.size) && ((s.extract 0 2).toList == [48, 120])
def hD (s : ByteArray) : ByteArray := if hx s then s.extract 2 s.size else s
def mi (s : ByteArray) : Bool := decide (1 ≤ s.size) && ((s.extract 0 1).toList == [45])
def mD (s : ByteArray) : ByteArray := if mi s then s.extract 1 s.size else s

theorem hD_size (s : ByteArray) : (hD s).size ≤ s.size := by unfold hD; split <;> simp
theorem mD_size (s : ByteArray) : (mD s).size ≤ s.size := by unfold mD; split <;> simp

set_option maxHeartbeats 1000000 in
set_option maxRecDepth 100000 in
theorem cut0x (s : ByteArray) (w : World) (hs : s.size ≤ maxLen) :
    Calls Tryd.prog 102 #[.string s, .string ⟨#[48, 120]⟩] w fun e w' => e = .returned (.tuple #[.string (hD s), .bool (hx s)]) ∧ Below w.heap.size w w' := by
  unfold maxLen at hs
  have hs' : s.size ≤ 9223372036854775807 := by omega
  clear hs
  by_cases h : 2 ≤ s.size
  · cases h2 : ((s.extract 0 2).toList == [48, 120])
    · rw [show hx s = false by unfold hx; rw [h2]; simp, show hD s = s by unfold hD hx; rw [h2]; simp]
      go_enter Tryd.func102, Tryd.ntmps102; go_wp2; go_ret2; exact ⟨rfl, by go_grown⟩
    · rw [show hx s = true by unfold hx; rw [h2]; simp [h], show hD s = s.extract 2 s.size by unfold hD hx; rw [h2]; simp [h]]
      go_enter Tryd.func102, Tryd.ntmps102; go_wp2; go_ret2; exact ⟨rfl, by go_grown⟩
  · rw [show hx s = false by simp [hx, h], show hD s = s by simp [hD, hx, h]]
    go_enter Tryd.func102, Tryd.ntmps102; go_wp2; go_ret2; exact ⟨rfl, by go_grown⟩

set_option maxHeartbeats 1000000 in
set_option maxRecDepth 100000 in
theorem cutm (s : ByteArray) (w : World) (hs : s.size ≤ maxLen) :
    Calls Tryd.prog 102 #[.string s, .string ⟨#[45]⟩] w fun e w' => e = .returned (.tuple #[.string (mD s), .bool (mi s)]) ∧ Below w.heap.size w w' := by
  unfold maxLen at hs
  have hs' : s.size ≤ 9223372036854775807 := by omega
  clear hs
  by_cases h : 1 ≤ s.size
  · cases h2 : ((s.extract 0 1).toList == [45])
    · rw [show mi s = false by unfold mi; rw [h2]; simp, show mD s = s by unfold mD mi; rw [h2]; simp]
      go_enter Tryd.func102, Tryd.ntmps102; go_wp2; go_ret2; exact ⟨rfl, by go_grown⟩
    · rw [show mi s = true by unfold mi; rw [h2]; simp [h], show mD s = s.extract 1 s.size by unfold mD mi; rw [h2]; simp [h]]
      go_enter Tryd.func102, Tryd.ntmps102; go_wp2; go_ret2; exact ⟨rfl, by go_grown⟩
  · rw [show mi s = false by simp [mi, h], show mD s = s by simp [mD, mi, h]]
    go_enter Tryd.func102, Tryd.ntmps102; go_wp2; go_ret2; exact ⟨rfl, by go_grown⟩

/-- The number of digits of a base. -/
def dg (base : Int) (s : ByteArray) : Option Int := if s.toList.isEmpty then none else dgs base (bts s) 0
theorem dg_bd {base : Int} (h1 : 1 ≤ base) (s : ByteArray) : 0 ≤ (dg base s).getD 0 ∧ (dg base s).getD 0 ≤ 18446744073709551615 := by
  unfold dg; split
  · simp
  · cases h : dgs base (bts s) 0 with
    | none => simp
    | some m => exact dgs_bd h1 _ 0 m (by omega) (by omega) h
theorem toList_empty {s : ByteArray} (h : s.toList.isEmpty = true) : bts s = [] := by
  have : s.data.toList = s.toList := (ByteArray.toList_eq s).symm
  unfold bts; rw [this, List.isEmpty_iff.1 h]; rfl
theorem dg_fst (base : Int) (s : ByteArray) : (dgs base (bts s) 0).getD 0 = (dg base s).getD 0 := by
  unfold dg; split
  · rename_i h; rw [toList_empty h]; rfl
  · rfl
theorem dg_snd (base : Int) (s : ByteArray) : ((dgs base (bts s) 0).isSome && !s.toList.isEmpty) = (dg base s).isSome := by
  unfold dg; split
  · rename_i h; rw [h]; simp
  · rename_i h; simp at h; simp [h]
theorem dig10 (s : ByteArray) (w : World) (hs : s.size ≤ maxLen) : Calls Tryd.prog 103 #[.string s, .int .u64 10] w fun e w' => e = .returned (.tuple #[.int .u64 ((dg 10 s).getD 0), .bool (dg 10 s).isSome]) ∧ Below w.heap.size w w' := by
  rw [← dg_fst, ← dg_snd]; exact digits_10 s w hs
theorem dig16 (s : ByteArray) (w : World) (hs : s.size ≤ maxLen) : Calls Tryd.prog 103 #[.string s, .int .u64 16] w fun e w' => e = .returned (.tuple #[.int .u64 ((dg 16 s).getD 0), .bool (dg 16 s).isSome]) ∧ Below w.heap.size w w' := by
  rw [← dg_fst, ← dg_snd]; exact digits_16 s w hs

/-- A hexadecimal number. -/
def rhO (s : ByteArray) : Bool := (dg 16 (hD s)).isSome && decide (((hD s).size : Int) ≤ 16)
set_option maxHeartbeats 1000000 in
set_option maxRecDepth 100000 in
theorem read_hex (s : ByteArray) (w : World) (hs : s.size ≤ maxLen) (h : hx s = true) :
    Calls Tryd.prog 67 #[.string s] w fun e w' => e = .returned (.tuple #[.agg #[.bool false, .int .u64 ((dg 16 (hD s)).getD 0)], .bool (rhO s)]) ∧ Below w.heap.size w w' := by
  have hsz := Nat.le_trans (hD_size s) hs
  cases h1 : (dg 16 (hD s)).isSome
  · rw [show rhO s = false by unfold rhO; rw [h1]; rfl]
    go_enter Tryd.func67, Tryd.ntmps67
    go_wp2_with (first
      | (go_at_call 102; refine (cut0x _ _ hs).mono ?_; rintro e w' ⟨rfl, hq⟩; (first | obtain ⟨p, rfl⟩ := regrown2 hq | obtain ⟨p, rfl⟩ := regrown hq); clear hq)
      | (go_at_call 103; refine (dig16 _ _ hsz).mono ?_; rintro e w' ⟨rfl, hq⟩; (first | obtain ⟨p, rfl⟩ := regrown2 hq | obtain ⟨p, rfl⟩ := regrown hq); clear hq))
    go_returns
    exact ⟨rfl, by repeat (first | exact Below.refl _ _ | apply b_alloc | apply b_reg)⟩
  · rw [show rhO s = decide (((hD s).size : Int) ≤ 16) by unfold rhO; rw [h1]; rfl]
    go_enter Tryd.func67, Tryd.ntmps67
    go_wp2_with (first
      | (go_at_call 102; refine (cut0x _ _ hs).mono ?_; rintro e w' ⟨rfl, hq⟩; (first | obtain ⟨p, rfl⟩ := regrown2 hq | obtain ⟨p, rfl⟩ := regrown hq); clear hq)
      | (go_at_call 103; refine (dig16 _ _ hsz).mono ?_; rintro e w' ⟨rfl, hq⟩; (first | obtain ⟨p, rfl⟩ := regrown2 hq | obtain ⟨p, rfl⟩ := regrown hq); clear hq))
    go_returns
    exact ⟨rfl, by repeat (first | exact Below.refl _ _ | apply b_alloc | apply b_reg)⟩

/-- Is a decimal number written with a needless zero (or none at all)? -/
def bad0 (s : ByteArray) : Bool := ((((mD s).data.toList.getD 0 0).toNat : Int) == 48) && !(s.toList == [48])
def rdN (s : ByteArray) : Bool := if bad0 s then false else mi s
def rdS (s : ByteArray) : Int := if bad0 s then 0 else (dg 10 (mD s)).getD 0
theorem first_eq {t : ByteArray} (h : 0 < t.size) : ((t[0]'h).toNat : Int) = ((t.data.toList.getD 0 0).toNat : Int) := by
  have : t[0]'h = t.data.toList.getD 0 0 := by
    simp [List.getD, ByteArray.getElem_eq_getElem_data]
    rw [Array.getElem?_eq_getElem (by simpa using h)]; rfl
  rw [this]
theorem bad0_yes {s : ByteArray} (h0 : 0 < (mD s).size) (h : (((mD s)[0]'h0).toNat : Int) = 48) (h2 : (!s.toList == [48]) = true) : bad0 s = true := by
  unfold bad0; rw [first_eq h0] at h; rw [h2, h]; rfl
theorem bad0_no1 {s : ByteArray} (h2 : (!s.toList == [48]) = false) : bad0 s = false := by unfold bad0; rw [h2]; simp
theorem bad0_no2 {s : ByteArray} (h0 : 0 < (mD s).size) (h : ¬ (((mD s)[0]'h0).toNat : Int) = 48) : bad0 s = false := by
  unfold bad0; rw [first_eq h0] at h; rw [beq_eq_false_iff_ne.2 h]; rfl
set_option maxHeartbeats 1000000 in
set_option maxRecDepth 100000 in
theorem read_none (s : ByteArray) (w : World) (hs : s.size ≤ maxLen) (h : hx s = false) (hd : (dg 10 (mD s)).isSome = false) :
    Calls Tryd.prog 67 #[.string s] w fun e w' => e = .returned (.tuple #[.agg #[.bool false, .int .u64 0], .bool false]) ∧ Below w.heap.size w w' := by
  have hsz := Nat.le_trans (mD_size s) hs
  go_enter Tryd.func67, Tryd.ntmps67
  go_wp2_with fail
  refine (cut0x _ _ hs).mono ?_
  rintro e w' ⟨rfl, hq⟩; (first | obtain ⟨p, rfl⟩ := regrown2 hq | obtain ⟨p, rfl⟩ := regrown hq); clear hq
  go_wp2_with fail
  refine (cutm _ _ hs).mono ?_
  rintro e w' ⟨rfl, hq⟩; (first | obtain ⟨p, rfl⟩ := regrown2 hq | obtain ⟨p, rfl⟩ := regrown hq); clear hq
  go_wp2_with fail
  refine (dig10 _ _ hsz).mono ?_
  rintro e w' ⟨rfl, hq⟩; (first | obtain ⟨p, rfl⟩ := regrown2 hq | obtain ⟨p, rfl⟩ := regrown hq); clear hq
  go_wp2
  go_returns
  exact ⟨rfl, by repeat (first | exact Below.refl _ _ | apply b_alloc | apply b_reg)⟩
set_option maxHeartbeats 1000000 in
set_option maxRecDepth 100000 in
theorem read_some (s : ByteArray) (w : World) (hs : s.size ≤ maxLen) (h : hx s = false) (hd : (dg 10 (mD s)).isSome = true) (h0 : 0 < (mD s).size) :
    Calls Tryd.prog 67 #[.string s] w fun e w' => e = .returned (.tuple #[.agg #[.bool (rdN s), .int .u64 (rdS s)], .bool !bad0 s]) ∧ Below w.heap.size w w' := by
  have hsz := Nat.le_trans (mD_size s) hs
  go_enter Tryd.func67, Tryd.ntmps67
  go_wp2_with fail
  refine (cut0x _ _ hs).mono ?_
  rintro e w' ⟨rfl, hq⟩; (first | obtain ⟨p, rfl⟩ := regrown2 hq | obtain ⟨p, rfl⟩ := regrown hq); clear hq
  go_wp2_with fail
  refine (cutm _ _ hs).mono ?_
  rintro e w' ⟨rfl, hq⟩; (first | obtain ⟨p, rfl⟩ := regrown2 hq | obtain ⟨p, rfl⟩ := regrown hq); clear hq
  go_wp2_with fail
  refine (dig10 _ _ hsz).mono ?_
  rintro e w' ⟨rfl, hq⟩; (first | obtain ⟨p, rfl⟩ := regrown2 hq | obtain ⟨p, rfl⟩ := regrown hq); clear hq
  go_wp2
  all_goals go_returns
  · have hb := bad0_yes h0 (by assumption) (by assumption)
    exact ⟨by simp [rdN, rdS, hb], by repeat (first | exact Below.refl _ _ | apply b_alloc | apply b_reg)⟩
  · have hb := bad0_no1 (s := s) (by assumption)
    exact ⟨by simp [rdN, rdS, hb], by repeat (first | exact Below.refl _ _ | apply b_alloc | apply b_reg)⟩
  · have hb := bad0_no2 h0 (by assumption)
    exact ⟨by simp [rdN, rdS, hb], by repeat (first | exact Below.refl _ _ | apply b_alloc | apply b_reg)⟩
theorem dg_pos {base : Int} {t : ByteArray} (h : (dg base t).isSome = true) : 0 < t.size := by
  unfold dg at h
  split at h
  · cases h
  · rename_i h1
    rw [ByteArray.toList_eq] at h1
    show 0 < t.data.size
    rw [← Array.length_toList]
    cases ht : t.data.toList with
    | nil => rw [ht] at h1; exact absurd rfl h1
    | cons _ _ => simp

/-- THE NUMBER THAT A STRING REPRESENTS: its sign, its size, and whether there is one. -/
def rN (s : ByteArray) : Bool := if hx s then false else if (dg 10 (mD s)).isSome then rdN s else false
def rS (s : ByteArray) : Int := if hx s then (dg 16 (hD s)).getD 0 else if (dg 10 (mD s)).isSome then rdS s else 0
def rO (s : ByteArray) : Bool := if hx s then rhO s else if (dg 10 (mD s)).isSome then !bad0 s else false
theorem rS_bd (s : ByteArray) : 0 ≤ rS s ∧ rS s ≤ 18446744073709551615 := by
  unfold rS; repeat' split
  · exact dg_bd (by omega) _
  · unfold rdS; split
    · omega
    · exact dg_bd (by omega) _
  · omega
theorem read_c (s : ByteArray) (w : World) (hs : s.size ≤ maxLen) :
    Calls Tryd.prog 67 #[.string s] w fun e w' => e = .returned (.tuple #[.agg #[.bool (rN s), .int .u64 (rS s)], .bool (rO s)]) ∧ Below w.heap.size w w' := by
  cases h : hx s
  · cases hd : (dg 10 (mD s)).isSome
    · simpa [rN, rS, rO, h, hd] using read_none s w hs h hd
    · simpa [rN, rS, rO, h, hd] using read_some s w hs h hd (dg_pos hd)
  · simpa [rN, rS, rO, h] using read_hex s w hs h
end Go.Proofs.YtfgmfkiknogdeaaDoor
