/- WHAT IS PROVED: slices in memory read as lists; contracts of mem.data, mem.has, mem.kindOf and mem.Check for every argument. CONDITIONS: the slices' cells hold the lists. -/
import Derived.Test.YtdbcbmdekdfdoaaA
import Derived.Test.YtdbcbmdekdfdoaaKn
import Derived.LoopTactic
import Derived.Outline
namespace Go.Proofs.Ytdbcbmdekdfdoaa
open Go Go.RowKit Go.QrBits

/-- The cells behind a slice's address hold a list. -/
def SlAt (w : World) (a : Option Addr) (xs : List Value) : Prop :=
  xs = [] ∨ ∃ b off : Nat, a = some ⟨b, off, none⟩ ∧ b < w.heap.size ∧ ∀ (j : Nat) (x : Value), xs[j]? = some x → w.cell? ⟨b, off + j, none⟩ = some x
theorem SlAt.below {w w' : World} {a : Option Addr} {xs : List Value} (h : SlAt w a xs) (hq : Below w.heap.size w w') : SlAt w' a xs := by
  rcases h with h | ⟨b, off, ha, hb, hc⟩
  · exact .inl h
  · exact .inr ⟨b, off, ha, Nat.lt_of_lt_of_le hb hq.size, fun j x hx => by rw [below_cell hq _ _ hb]; exact hc j x hx⟩
theorem SlAt.nil (w : World) (a : Option Addr) : SlAt w a [] := .inl rfl
/-- numbers, bytes -/
def iV (xs : List Int) : List Value := xs.map (Value.int .i64)
def bV (xs : List Int) : List Value := xs.map (Value.int .u8)
theorem iV_get {xs : List Int} {j : Nat} {x : Int} (h : xs[j]? = some x) : (iV xs)[j]? = some (.int .i64 x) := by simp [iV, h]
theorem bV_get {xs : List Int} {j : Nat} {x : Int} (h : xs[j]? = some x) : (bV xs)[j]? = some (.int .u8 x) := by simp [bV, h]
theorem iV_len (xs : List Int) : (iV xs).length = xs.length := by simp [iV]
theorem bV_len (xs : List Int) : (bV xs).length = xs.length := by simp [bV]

/-- What a data page may be permitted. -/
def dB (p : Int) : Bool := p == 0 || p == 1 || p == 3
/-- What a page may be permitted. -/
def pB (p : Int) : Bool := p == 4 || dB p
/-- A valid space. -/
def chk (perm : List Int) (n : Nat) : Bool := decide (perm.length ≤ 32) && (n == perm.length * 64) && perm.all pB

theorem data_c (p : Int) (w : World) : Calls Try.prog 48 #[.int .i64 p] w fun e w' => e = .returned (.bool (dB p)) ∧ w = w' := by
  by_cases h0 : p = 0
  · subst h0; go_enter Try.func48, Try.ntmps48; go_wp2; go_ret; exact ⟨rfl, rfl⟩
  by_cases h1 : p = 1
  · subst h1; go_enter Try.func48, Try.ntmps48; go_wp2; go_ret; exact ⟨rfl, rfl⟩
  by_cases h3 : p = 3
  · subst h3; go_enter Try.func48, Try.ntmps48; go_wp2; go_ret; exact ⟨rfl, rfl⟩
  have e : dB p = false := by simp [dB, *]
  rw [e]
  have h0 := beq_eq_false_iff_ne.2 h0
  have h1 := beq_eq_false_iff_ne.2 h1
  have h3 := beq_eq_false_iff_ne.2 h3
  clear e
  go_enter Try.func48, Try.ntmps48; go_wp2; go_ret; exact ⟨rfl, rfl⟩
theorem data_y (p : Int) (w : World) (h : dB p = true) : Calls Try.prog 48 #[.int .i64 p] w fun e w' => e = .returned (.bool true) ∧ w = w' := by have := data_c p w; rwa [h] at this
theorem data_n (p : Int) (w : World) (h : dB p = false) : Calls Try.prog 48 #[.int .i64 p] w fun e w' => e = .returned (.bool false) ∧ w = w' := by have := data_c p w; rwa [h] at this

theorem has_c (a : Option Addr) (n c : Nat) (v : Value) (p : Int) (w : World) : Calls Try.prog 47 #[.agg #[.slice a n c, v], .int .i64 p] w fun e w' => e = .returned (.bool (decide (0 ≤ p) && decide (p < n))) ∧ Below w.heap.size w w' := by
  by_cases h0 : 0 ≤ p
  · by_cases h1 : p < n
    · go_enter Try.func47, Try.ntmps47; go_wp2; go_ret; exact ⟨by simp [h0, h1], by go_grown⟩
    · go_enter Try.func47, Try.ntmps47; go_wp2; go_ret; exact ⟨by simp [h1], by go_grown⟩
  · have h0' : decide (0 ≤ p) = false := by simpa using h0
    go_enter Try.func47, Try.ntmps47; go_wp2; go_ret; exact ⟨by simp, by go_grown⟩

/-- The kind of the fault where a permission is missing. -/
def kO (p : Int) : Int := if p = 1 then 2 else if p = 2 then 3 else 4
theorem kindOf_c (p : Int) (w : World) : Calls Try.prog 91 #[.int .i64 p] w fun e w' => e = .returned (.int .i64 (kO p)) ∧ w = w' := by
  by_cases h1 : p = 1
  · subst h1; go_enter Try.func91, Try.ntmps91; go_wp2; go_ret; exact ⟨rfl, rfl⟩
  by_cases h2 : p = 2
  · subst h2; go_enter Try.func91, Try.ntmps91; go_wp2; go_ret; exact ⟨rfl, rfl⟩
  have e : kO p = 4 := by simp [kO, *]
  rw [e]
  have h1 := beq_eq_false_iff_ne.2 h1
  have h2 := beq_eq_false_iff_ne.2 h2
  clear e
  go_enter Try.func91, Try.ntmps91; go_wp2; go_ret; exact ⟨rfl, rfl⟩

theorem chk_big {perm : List Int} {n : Nat} (h : 32 < perm.length) : chk perm n = false := by simp [chk]; omega
theorem chk_len {perm : List Int} {n : Nat} (h : ¬ n = perm.length * 64) : chk perm n = false := by simp [chk, h]
theorem chk_bad {perm : List Int} {n k : Nat} {x : Int} (hx : perm[k]? = some x) (h : pB x = false) : chk perm n = false := by
  have : perm.all pB = false := by
    rw [List.all_eq_false]; exact ⟨x, List.mem_of_getElem? hx, by simp [h]⟩
  simp [chk, this]
theorem chk_ok {perm : List Int} {n : Nat} (h1 : perm.length ≤ 32) (h2 : n = perm.length * 64) (h : ∀ (j : Nat) (x : Int), perm[j]? = some x → pB x = true) : chk perm n = true := by
  have : perm.all pB = true := by
    rw [List.all_eq_true]; intro x hx; obtain ⟨j, hj⟩ := List.getElem?_of_mem hx; exact h j x hj
  simp [chk, this, h1, h2]

/-- The error of a space. -/
def eS (perm : List Int) (n : Nat) : Int := if chk perm n then 0 else 30
theorem eS_y {perm : List Int} {n : Nat} (h : chk perm n = true) : eS perm n = 0 := by simp [eS, h]
theorem eS_n {perm : List Int} {n : Nat} (h : chk perm n = false) : eS perm n = 30 := by simp [eS, h]

set_option maxHeartbeats 2000000 in
theorem check_c (a : Option Addr) (c : Nat) (a2 : Option Addr) (n2 c2 : Nat) (perm : List Int) (w : World) (hs : SlAt w a (iV perm)) (hl : n2 ≤ maxLen) :
    Calls Try.prog 21 #[.agg #[.slice a perm.length c, .slice a2 n2 c2]] w fun e w' => e = .returned (.int .i64 (eS perm n2)) ∧ Below w.heap.size w w' := by
  unfold maxLen at hl
  by_cases hb : 32 < perm.length
  · have HB := Lib.hid (eS_n (chk_big (n := n2) hb))
    go_enter Try.func21, Try.ntmps21; go_wp2; go_ret; exact ⟨ret_int HB.out.symm, by go_grown⟩
  by_cases he : (n2 : Int) = (perm.length : Int) * 64
  · have HE := Lib.hid he
    have he' : ((n2 : Int) != (perm.length : Int) * 64) = false := by simp [he]
    clear he
    rcases hs with hs | ⟨b, off, rfl, hb0, hc⟩
    · have hz : perm = [] := by simpa [iV] using hs
      subst hz
      obtain rfl : n2 = 0 := by have := HE.out; simp at this; omega
      clear he' HE
      have HB := Lib.hid (eS_y (chk_ok (perm := []) (n := 0) (by simp) (by simp) (fun j x h => by simp at h)))
      go_enter Try.func21, Try.ntmps21
      go_wp2
      go_rounds 1
      go_ret
      exact ⟨ret_int HB.out.symm, by go_grown⟩
    · go_enter Try.func21, Try.ntmps21
      go_wp2
      go_loop [22] (fun i => ∃ k : Nat, k ≤ perm.length ∧ i = .int .i64 k ∧ ∀ (j : Nat) (x : Int), j < k → perm[j]? = some x → pB x = true) (fun i => perm.length - (intOf i).toNat)
      case atStart => exact ⟨0, Nat.zero_le _, rfl, fun j x h => by omega⟩
      case round =>
        obtain ⟨k, hk, rfl, hgood⟩ := hrel
        have HG := Lib.hid hgood
        clear hgood
        by_cases hlt : k < perm.length
        · have hx : perm[k]? = some perm[k] := by simp [hlt]
          have hcell := hc k _ (iV_get hx)
          have HC := Lib.hid hc
          clear hc
          by_cases h4 : perm[k] = 4
          · have HX := Lib.hid hx
            clear hx
            rw [h4] at hcell
            go_wp2
            go_round
            case rel =>
              refine ⟨k + 1, by omega, by go_num, fun j x hj hx => ?_⟩
              by_cases hjk : j = k
              · subst hjk; have := HX.out; rw [hx] at this; cases this; simp [pB, h4]
              · exact HG.out j x (by omega) hx
            case measure => simp [intOf]; omega
          have h4' := bne_iff_ne.2 h4
          by_cases hd : dB perm[k] = true
          · have HX := Lib.hid hx
            clear hx
            go_wp2_with (go_at_call 48; refine (data_y _ _ (by assumption)).mono ?_; rintro e w' ⟨rfl, rfl⟩)
            go_round
            case rel =>
              refine ⟨k + 1, by omega, by go_num, fun j x hj hx => ?_⟩
              by_cases hjk : j = k
              · subst hjk; have := HX.out; rw [hx] at this; cases this; simp [pB, hd]
              · exact HG.out j x (by omega) hx
            case measure => simp [intOf]; omega
          · have hd : dB perm[k] = false := by simpa using hd
            have HB := Lib.hid (eS_n (chk_bad (n := n2) hx (by simp [pB, h4, hd])))
            have HX := Lib.hid hx
            clear hx
            go_wp2_with (go_at_call 48; refine (data_n _ _ (by assumption)).mono ?_; rintro e w' ⟨rfl, rfl⟩)
            go_ret
            exact ⟨ret_int HB.out.symm, by go_grown⟩
        · have HB := Lib.hid (eS_y (chk_ok (n := n2) (perm := perm) (by omega) (by have := HE.out; omega) (fun j x h => HG.out j x (by have := (List.getElem?_eq_some_iff.1 h).1; omega) h)))
          have HC := Lib.hid hc
          clear hc
          go_wp2
          go_ret
          exact ⟨ret_int HB.out.symm, by go_grown⟩
  · have HB := Lib.hid (eS_n (chk_len (n := n2) (perm := perm) (by omega)))
    have he' := bne_iff_ne.2 he
    clear he
    go_enter Try.func21, Try.ntmps21; go_wp2; go_ret; exact ⟨ret_int HB.out.symm, by go_grown⟩
end Go.Proofs.Ytdbcbmdekdfdoaa
