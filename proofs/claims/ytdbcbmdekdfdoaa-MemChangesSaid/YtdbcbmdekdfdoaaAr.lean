/- WHAT IS PROVED: arithmetic of stores: what a store changes, that stores apart commute, that faults do not hang on the bytes; the contracts of the reference's Check of a type and of the law's apart. CONDITIONS: none. -/
import Derived.Test.YtdbcbmdekdfdoaaSa
import Derived.Test.YtdbcbmdekdfdoaaEq
namespace Go.Proofs.Ytdbcbmdekdfdoaa
open Go Go.RowKit Go.QrBits Go.QrMem

theorem wrB_get {bytes : List Int} {t : Int} {bs : List Int} (ht : 0 ≤ t) : ∀ (n j : Nat), t + n ≤ bytes.length → (wrB bytes t bs n)[j]? = if t ≤ j ∧ (j : Int) < t + n then some (bs[j - t.toNat]?.getD 0) else bytes[j]?
  | 0, j, _ => by rw [if_neg (by omega)]; rfl
  | n + 1, j, h => by
    rw [wrB, List.getElem?_set, wrB_len]
    by_cases e : (t + (n : Int)).toNat = j
    · rw [if_pos e, if_pos (by omega), if_pos (by omega), show j - t.toNat = n by omega]
    · rw [if_neg e, wrB_get ht n j (by omega)]
      by_cases e2 : t ≤ j ∧ (j : Int) < t + n
      · rw [if_pos e2, if_pos (by omega)]
      · rw [if_neg e2, if_neg (by omega)]
theorem wrB_comm {B : List Int} {t u : Int} {x y : List Int} {n m : Nat} (ht : 0 ≤ t) (hu : 0 ≤ u) (h1 : t + n ≤ B.length) (h2 : u + m ≤ B.length) (hd : t + n ≤ u ∨ u + m ≤ t) :
    wrB (wrB B t x n) u y m = wrB (wrB B u y m) t x n := by
  refine List.ext_getElem? fun j => ?_
  rw [wrB_get hu m j (by rw [wrB_len]; exact h2), wrB_get ht n j h1, wrB_get ht n j (by rw [wrB_len]; exact h1), wrB_get hu m j h2]
  by_cases e1 : t ≤ j ∧ (j : Int) < t + n
  · rw [if_pos e1, if_pos e1, if_neg (by omega)]
  · rw [if_neg e1, if_neg e1]
theorem wrB_ok {B bs : List Int} (t : Int) (h : okB B) (h2 : okB bs) : ∀ n, okB (wrB B t bs n)
  | 0 => h
  | n + 1 => by
    intro x hx
    rcases List.mem_or_eq_of_mem_set hx with h3 | h3
    · exact wrB_ok t h h2 n x h3
    · subst h3
      cases hb : bs[n]? with
      | none => simp
      | some y => simpa using h2 y (List.mem_of_getElem? hb)
section
variable {perm B B' : List Int} (h : B.length = B'.length) (t q : Int) (n : Nat)
include h
theorem kN_len : kN perm B t q n = kN perm B' t q n := by simp only [kN, good, h]
theorem fK_len : fK perm B t q n = fK perm B' t q n := by simp only [fK, kN_len h, kd, h]
theorem fX_len : fX perm B t q n = fX perm B' t q n := by simp only [fX, kN_len h]
end
/-- Where all bytes of an access are good. -/
theorem in_range {perm B : List Int} {t q : Int} {n : Nat} (hk : kN perm B t q n = n) (hn : 0 < n) : 0 ≤ t ∧ t + n ≤ B.length := by
  have g1 : good perm B q (t + (0 : Nat)) = true := lead_all (fun i => good perm B q (t + (i : Nat))) n 0 (by show 0 < kN perm B t q n; omega)
  have g2 : good perm B q (t + ((n - 1 : Nat) : Int)) = true := lead_all (fun i => good perm B q (t + (i : Nat))) n (n - 1) (by show n - 1 < kN perm B t q n; omega)
  simp only [good, Bool.and_eq_true, decide_eq_true_eq] at g1 g2
  omega
set_option maxHeartbeats 4000000 in
theorem rcheck_y (s : Int) (g : Bool) (w : World) (h : vB s = true) : Calls Try.prog 45 #[.agg #[.int .i64 s, .bool g]] w fun e w' => e = .returned (.int .i64 0) ∧ Below w.heap.size w w' := by
  rcases vB_cases h with rfl | rfl | rfl | rfl
  all_goals (go_enter Try.func45, Try.ntmps45; go_wp2; go_ret; exact ⟨rfl, b_alloc (Below.refl _ _)⟩)
set_option maxHeartbeats 4000000 in
theorem rcheck_n (s : Int) (g : Bool) (w : World) (h : vB s = false) : Calls Try.prog 45 #[.agg #[.int .i64 s, .bool g]] w fun e w' => e = .returned (.int .i64 10) ∧ Below w.heap.size w w' := by
  simp only [vB, Bool.or_eq_false_iff, beq_eq_false_iff_ne] at h
  obtain ⟨⟨⟨h1, h2⟩, h4⟩, h8⟩ := h
  have b1 : (s != 1) = true := bne_iff_ne.2 h1
  have b2 : (s != 2) = true := bne_iff_ne.2 h2
  have b4 : (s != 4) = true := bne_iff_ne.2 h4
  have b8 : (s != 8) = true := bne_iff_ne.2 h8
  clear h1 h2 h4 h8
  go_enter Try.func45, Try.ntmps45
  go_wp2
  go_ret
  exact ⟨rfl, b_alloc (Below.refl _ _)⟩
/-- The law's apart. -/
def apP (t s u r : Int) : Prop := 0 ≤ t ∧ 0 ≤ u ∧ t < 1099511627776 ∧ u < 1099511627776 ∧ (t + s ≤ u ∨ u + r ≤ t)
def ApPost (t s u r : Int) (w : World) (e : Ending) (w' : World) : Prop := (∃ b : Bool, e = .returned (.bool b) ∧ (b = true ↔ apP t s u r)) ∧ Below w.heap.size w w'
set_option maxHeartbeats 4000000 in
theorem apart_c (t s u r x y : Int) (g h : Bool) (w : World) (hs : 0 < s ∧ s ≤ 8) (hr : 0 < r ∧ r ≤ 8) :
    Calls Try.prog 44 #[.agg #[.int .i64 t, .int .i64 s, .bool g, .int .i64 x], .agg #[.int .i64 u, .int .i64 r, .bool h, .int .i64 y]] w (ApPost t s u r w) := by
  obtain ⟨s0, s1⟩ := hs
  obtain ⟨r0, r1⟩ := hr
  by_cases h1 : 0 ≤ t
  rotate_left
  · have hb : ¬ apP t s u r := fun h => h1 h.1
    have HB := Lib.hid hb
    clear hb
    go_enter Try.func44, Try.ntmps44
    go_wp2
    go_ret
    exact ⟨⟨false, rfl, ⟨fun h => (by cases h), fun h => (HB.out h).elim⟩⟩, b_alloc (b_alloc (Below.refl _ _))⟩
  by_cases h2 : 0 ≤ u
  rotate_left
  · have hb : ¬ apP t s u r := fun h => h2 h.2.1
    have HB := Lib.hid hb
    clear hb
    go_enter Try.func44, Try.ntmps44
    go_wp2
    go_ret
    exact ⟨⟨false, rfl, ⟨fun h => (by cases h), fun h => (HB.out h).elim⟩⟩, b_alloc (b_alloc (Below.refl _ _))⟩
  by_cases h3 : t < 1099511627776
  rotate_left
  · have hb : ¬ apP t s u r := fun h => h3 h.2.2.1
    have HB := Lib.hid hb
    clear hb
    go_enter Try.func44, Try.ntmps44
    go_wp2
    go_ret
    exact ⟨⟨false, rfl, ⟨fun h => (by cases h), fun h => (HB.out h).elim⟩⟩, b_alloc (b_alloc (Below.refl _ _))⟩
  by_cases h4 : u < 1099511627776
  rotate_left
  · have hb : ¬ apP t s u r := fun h => h4 h.2.2.2.1
    have HB := Lib.hid hb
    clear hb
    go_enter Try.func44, Try.ntmps44
    go_wp2
    go_ret
    exact ⟨⟨false, rfl, ⟨fun h => (by cases h), fun h => (HB.out h).elim⟩⟩, b_alloc (b_alloc (Below.refl _ _))⟩
  by_cases h5 : t + s ≤ u
  · have hb : apP t s u r := ⟨h1, h2, h3, h4, .inl h5⟩
    have HB := Lib.hid hb
    clear hb
    go_enter Try.func44, Try.ntmps44
    go_wp2
    go_ret
    exact ⟨⟨true, rfl, ⟨fun _ => HB.out, fun _ => rfl⟩⟩, b_alloc (b_alloc (Below.refl _ _))⟩
  by_cases h6 : u + r ≤ t
  · have hb : apP t s u r := ⟨h1, h2, h3, h4, .inr h6⟩
    have HB := Lib.hid hb
    clear hb
    go_enter Try.func44, Try.ntmps44
    go_wp2
    go_ret
    exact ⟨⟨true, rfl, ⟨fun _ => HB.out, fun _ => rfl⟩⟩, b_alloc (b_alloc (Below.refl _ _))⟩
  · have hb : ¬ apP t s u r := fun h => by unfold apP at h; omega
    have HB := Lib.hid hb
    clear hb
    go_enter Try.func44, Try.ntmps44
    go_wp2
    go_ret
    exact ⟨⟨false, rfl, ⟨fun h => (by cases h), fun h => (HB.out h).elim⟩⟩, b_alloc (b_alloc (Below.refl _ _))⟩
theorem apart_y (t s u r x y : Int) (g h : Bool) (w : World) (hs : 0 < s ∧ s ≤ 8) (hr : 0 < r ∧ r ≤ 8) (ha : apP t s u r) :
    Calls Try.prog 44 #[.agg #[.int .i64 t, .int .i64 s, .bool g, .int .i64 x], .agg #[.int .i64 u, .int .i64 r, .bool h, .int .i64 y]] w fun e w' => e = .returned (.bool true) ∧ Below w.heap.size w w' :=
  (apart_c t s u r x y g h w hs hr).mono fun e w' ⟨⟨b, he, hb⟩, hq⟩ => ⟨by rw [he, hb.2 ha], hq⟩
theorem apart_n (t s u r x y : Int) (g h : Bool) (w : World) (hs : 0 < s ∧ s ≤ 8) (hr : 0 < r ∧ r ≤ 8) (ha : ¬ apP t s u r) :
    Calls Try.prog 44 #[.agg #[.int .i64 t, .int .i64 s, .bool g, .int .i64 x], .agg #[.int .i64 u, .int .i64 r, .bool h, .int .i64 y]] w fun e w' => e = .returned (.bool false) ∧ Below w.heap.size w w' :=
  (apart_c t s u r x y g h w hs hr).mono fun e w' ⟨⟨b, he, hb⟩, hq⟩ => ⟨by rw [he, show b = false by cases b with | false => rfl | true => exact (ha (hb.1 rfl)).elim], hq⟩
end Go.Proofs.Ytdbcbmdekdfdoaa
