/- WHAT IS PROVED: what bits.read and bits.text make of strings, said of their lists of bytes. CONDITIONS: none. -/
import Derived.Test.YtfgmfkiknogdeaaDoorH
import Derived.Lib.Strings
namespace Go.Proofs.YtfgmfkiknogdeaaDoor
open Go Go.RowKit Go.QrBits

def bi (b : UInt8) : Int := (b.toNat : Int)
theorem bi_inj {a b : UInt8} (h : bi a = bi b) : a = b := by
  unfold bi at h
  exact UInt8.toNat_inj.1 (by omega)
theorem map_bi_inj : ∀ {l l' : List UInt8}, l.map bi = l'.map bi → l = l'
  | [], [], _ => rfl
  | [], _ :: _, h => by simp at h
  | _ :: _, [], h => by simp at h
  | a :: l, b :: l', h => by
    simp only [List.map_cons, List.cons.injEq] at h
    rw [bi_inj h.1, map_bi_inj h.2]
theorem bts_map (s : ByteArray) : bts s = s.data.toList.map bi := rfl
theorem beq_map (l l' : List UInt8) : (l == l') = (l.map bi == l'.map bi) := by
  rw [Bool.eq_iff_iff, beq_iff_eq, beq_iff_eq]
  exact ⟨fun h => by rw [h], map_bi_inj⟩
theorem toList_bts (s : ByteArray) (l : List UInt8) : (s.toList == l) = (bts s == l.map bi) := by
  rw [ByteArray.toList_eq, beq_map]; rfl

/-- Does a list begin with 48, 120 (with 45)? -/
def hxL (l : List Int) : Bool := l.take 2 == [48, 120]
def miL (l : List Int) : Bool := l.take 1 == [45]

theorem hx_eq (s : ByteArray) : hx s = hxL (bts s) := by
  unfold hx hxL
  have h1 : ((s.extract 0 2).toList == [48, 120]) = ((bts s).take 2 == [48, 120]) := by
    rw [toList_bts, bts_map, bts_map, Lib.extract_data]; simp [List.map_take]; rfl
  rw [h1]
  by_cases h : 2 ≤ s.size
  · simp [h]
  · have hl : (bts s).length < 2 := by rw [bts_len]; omega
    have : ((bts s).take 2 == [48, 120]) = false := by
      rw [beq_eq_false_iff_ne]; intro e
      have := congrArg List.length e
      rw [List.length_take] at this
      simp at this; omega
    simp [h, this]
theorem mi_eq (s : ByteArray) : mi s = miL (bts s) := by
  unfold mi miL
  have h1 : ((s.extract 0 1).toList == [45]) = ((bts s).take 1 == [45]) := by
    rw [toList_bts, bts_map, bts_map, Lib.extract_data]; simp [List.map_take]; rfl
  rw [h1]
  by_cases h : 1 ≤ s.size
  · simp [h]
  · have hl : (bts s).length < 1 := by rw [bts_len]; omega
    have : ((bts s).take 1 == [45]) = false := by
      rw [beq_eq_false_iff_ne]; intro e
      have := congrArg List.length e
      rw [List.length_take] at this
      simp at this; omega
    simp [h, this]
theorem bts_hD (s : ByteArray) : bts (hD s) = if hxL (bts s) then (bts s).drop 2 else bts s := by
  unfold hD; rw [hx_eq]; split
  · rw [bts_map, Lib.extract_data, bts_map, ← List.map_drop, List.take_of_length_le]
    rw [List.length_drop]; simp
  · rfl
theorem bts_mD (s : ByteArray) : bts (mD s) = if miL (bts s) then (bts s).drop 1 else bts s := by
  unfold mD; rw [mi_eq]; split
  · rw [bts_map, Lib.extract_data, bts_map, ← List.map_drop, List.take_of_length_le]
    rw [List.length_drop]; simp
  · rfl

/-- The number of a list of digits: none for the empty list. -/
def dgL (base : Int) (l : List Int) : Option Int := if l.isEmpty then none else dgs base l 0
theorem dg_eq (base : Int) (s : ByteArray) : dg base s = dgL base (bts s) := by
  unfold dg dgL; rw [ByteArray.toList_eq, bts_map]; simp

def hDL (l : List Int) : List Int := if hxL l then l.drop 2 else l
def mDL (l : List Int) : List Int := if miL l then l.drop 1 else l
def bad0L (l : List Int) : Bool := ((mDL l).getD 0 0 == 48) && !(l == [48])
theorem bad0_eq (s : ByteArray) : bad0 s = bad0L (bts s) := by
  unfold bad0 bad0L
  rw [toList_bts]
  have : ((((mD s).data.toList.getD 0 0).toNat : Int)) = (mDL (bts s)).getD 0 0 := by
    unfold mDL; rw [← bts_mD, bts_map]
    cases (mD s).data.toList <;> rfl
  rw [this]; rfl

def rOL (l : List Int) : Bool := if hxL l then (dgL 16 (hDL l)).isSome && decide (((hDL l).length : Int) ≤ 16) else if (dgL 10 (mDL l)).isSome then !bad0L l else false
def rNL (l : List Int) : Bool := if hxL l then false else if (dgL 10 (mDL l)).isSome then (if bad0L l then false else miL l) else false
def rSL (l : List Int) : Int := if hxL l then (dgL 16 (hDL l)).getD 0 else if (dgL 10 (mDL l)).isSome then (if bad0L l then 0 else (dgL 10 (mDL l)).getD 0) else 0
theorem rO_eq (s : ByteArray) : rO s = rOL (bts s) := by
  unfold rO rOL rhO; rw [hx_eq, dg_eq, dg_eq, bad0_eq, bts_hD, bts_mD, ← bts_len (hD s), bts_hD]; rfl
theorem rN_eq (s : ByteArray) : rN s = rNL (bts s) := by
  unfold rN rNL rdN; rw [hx_eq, dg_eq, bad0_eq, bts_mD, mi_eq]; rfl
theorem rS_eq (s : ByteArray) : rS s = rSL (bts s) := by
  unfold rS rSL rdS; rw [hx_eq, dg_eq, dg_eq, bad0_eq, bts_hD, bts_mD]; rfl

/-! ### decimal digits by fuel -/
def decF : Nat → Nat → List Int
  | 0, n => [48 + (n : Int) % 10]
  | k + 1, n => if n < 10 then [48 + (n : Int) % 10] else decF k (n / 10) ++ [48 + (n : Int) % 10]
theorem decL_eq : ∀ (k n : Nat), n < 10 ^ (k + 1) → decL n = decF k n
  | 0, n, h => by rw [decL_lt (by omega)]; rfl
  | k + 1, n, h => by
    by_cases h9 : n < 10
    · rw [decL_lt (by omega)]; simp [decF, h9]
    · rw [decL_ge (by omega), decL_eq k (n / 10) (by rw [Nat.pow_succ] at h; omega)]; simp [decF, h9]

theorem foldl_push : ∀ (l : List Int) (r : ByteArray), (l.foldl (fun r n => r.push (UInt8.ofNat n.toNat)) r).data.toList = r.data.toList ++ l.map fun n => UInt8.ofNat n.toNat
  | [], r => by simp
  | n :: l, r => by rw [List.foldl_cons, foldl_push l]; simp [ByteArray.push]
theorem strOf_data (l : List Int) : (strOf l).data.toList = l.map fun n => UInt8.ofNat n.toNat := by
  unfold strOf; rw [foldl_push]; simp
/-- Numbers that are bytes. -/
def okB (l : List Int) : Prop := ∀ n ∈ l, 0 ≤ n ∧ n ≤ 255
theorem bts_strOf {l : List Int} (h : okB l) : bts (strOf l) = l := by
  rw [bts_map, strOf_data, List.map_map]
  conv => rhs; rw [← List.map_id l]
  apply List.map_congr_left
  intro n hn
  have := h n hn
  simp only [Function.comp, bi, id]
  have : (UInt8.ofNat n.toNat).toNat = n.toNat := by rw [UInt8.toNat_ofNat']; omega
  omega
theorem decL_ok : ∀ (k n : Nat), n < 10 ^ (k + 1) → ∀ c ∈ decL n, 48 ≤ c ∧ c ≤ 57
  | 0, n, h => by rw [decL_lt (by omega)]; intro c hc; simp at hc; omega
  | k + 1, n, h => by
    by_cases h9 : n < 10
    · rw [decL_lt (by omega)]; intro c hc; simp at hc; omega
    · rw [decL_ge (by omega)]
      intro c hc
      rcases List.mem_append.1 hc with hc | hc
      · exact decL_ok k (n / 10) (by rw [Nat.pow_succ] at h; omega) c hc
      · simp at hc; omega
theorem ba_ext {a b : ByteArray} (h : bts a = bts b) : a = b := by
  have := map_bi_inj (l := a.data.toList) (l' := b.data.toList) h
  obtain ⟨⟨x⟩⟩ := a; obtain ⟨⟨y⟩⟩ := b
  simp at this; rw [this]
end Go.Proofs.YtfgmfkiknogdeaaDoor
