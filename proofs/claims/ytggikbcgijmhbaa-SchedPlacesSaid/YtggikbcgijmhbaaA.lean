/- WHAT IS PROVED: the first helpers of package sched: within, isPri, bounded, stands, threads; how a state lies in memory. CONDITIONS: the cells hold the lists. -/
import Derived.Test.YtggikbcgijmhbaaChecked
import Derived.Test.YtggikbcgijmhbaaMk
import Derived.Test.YtggikbcgijmhbaaSp
import Derived.Handy
import Derived.PlainAid
import Derived.WalkSpells
import Derived.WalkLawsBesides
import Derived.LoopTactic
import Derived.Outline
import Derived.Says
import Derived.Deep.QuietTactic
import Derived.BigQuiet
import Derived.Lib.Hide
import Derived.IntWalk
namespace Go.Proofs.Ytggikbcgijmhbaa
open Go Go.RowKit Go.QrBits Go.QrMem

/-- The cells that a slice holds, from its address on. -/
def SlAt (w : World) (a : Option Addr) (xs : List Value) : Prop :=
  xs = [] ∨ ∃ b off : Nat, a = some ⟨b, off, none⟩ ∧ b < w.heap.size ∧ ∀ (j : Nat) (x : Value), xs[j]? = some x → w.cell? ⟨b, off + j, none⟩ = some x
theorem SlAt.below {w w' : World} {a : Option Addr} {xs : List Value} (h : SlAt w a xs) (hq : Below w.heap.size w w') : SlAt w' a xs := by
  rcases h with h | ⟨b, off, ha, hb, hc⟩
  · exact .inl h
  · exact .inr ⟨b, off, ha, Nat.lt_of_lt_of_le hb hq.size, fun j x hx => (hq.cell (p := ⟨b, off + j, none⟩) hb).trans (hc j x hx)⟩
/-- A slice's length and capacity. -/
def SlV (a : Option Addr) (n c : Nat) : Prop := n ≤ c ∧ c ≤ maxLen ∧ (a = none → n = 0 ∧ c = 0)
theorem SlV.max {a : Option Addr} {n c : Nat} (h : SlV a n c) : n ≤ maxLen := Nat.le_trans h.1 h.2.1
def iV (xs : List Int) : List Value := xs.map (Value.int .i64)
def tV (ts : List Th) : List Value := ts.flatMap fun t => [.int .i64 t.pri, .int .i64 t.cpu, .int .i64 t.st]
/-- The processors, each with a slice of its own. -/
def QsAt (w : World) (a : Option Addr) (qs : List Qu) : Prop :=
  qs = [] ∨ ∃ b off : Nat, a = some ⟨b, off, none⟩ ∧ b < w.heap.size ∧ ∀ (k : Nat) (x : Qu), qs[k]? = some x →
    w.cell? ⟨b, off + k * 3, none⟩ = some (.int .i64 x.run) ∧ w.cell? ⟨b, off + k * 3 + 1, none⟩ = some (.int .i64 x.left) ∧
    ∃ (ar : Option Addr) (cr : Nat), w.cell? ⟨b, off + k * 3 + 2, none⟩ = some (.slice ar x.ready.length cr) ∧ SlV ar x.ready.length cr ∧ SlAt w ar (iV x.ready)
theorem QsAt.below {w w' : World} {a : Option Addr} {qs : List Qu} (h : QsAt w a qs) (hq : Below w.heap.size w w') : QsAt w' a qs := by
  rcases h with h | ⟨b, off, ha, hb, hc⟩
  · exact .inl h
  · refine .inr ⟨b, off, ha, Nat.lt_of_lt_of_le hb hq.size, fun k x hx => ?_⟩
    obtain ⟨h1, h2, ar, cr, h3, h4, h5⟩ := hc k x hx
    exact ⟨(hq.cell (p := ⟨b, off + k * 3, none⟩) hb).trans h1, (hq.cell (p := ⟨b, off + k * 3 + 1, none⟩) hb).trans h2, ar, cr, (hq.cell (p := ⟨b, off + k * 3 + 2, none⟩) hb).trans h3, h4, h5.below hq⟩
/-- A state as it comes in. -/
structure ScIn (w : World) (a : Option Addr) (c : Nat) (a2 : Option Addr) (c2 : Nat) (qs : List Qu) (ts : List Th) : Prop where
  v1 : SlV a qs.length c
  v2 : SlV a2 ts.length c2
  s1 : QsAt w a qs
  s2 : SlAt w a2 (tV ts)
  rc : ∀ (k : Nat) (u : Qu), qs[k]? = some u → u.ready.length * 8 ≤ 140737488351232
theorem ScIn.below {w w' : World} {a : Option Addr} {c : Nat} {a2 : Option Addr} {c2 : Nat} {qs : List Qu} {ts : List Th} (h : ScIn w a c a2 c2 qs ts) (hq : Below w.heap.size w w') : ScIn w' a c a2 c2 qs ts :=
  ⟨h.v1, h.v2, h.s1.below hq, h.s2.below hq, h.rc⟩
theorem tV_get : ∀ (ts : List Th) (k : Nat) (t : Th), ts[k]? = some t → (tV ts)[k * 3]? = some (.int .i64 t.pri) ∧ (tV ts)[k * 3 + 1]? = some (.int .i64 t.cpu) ∧ (tV ts)[k * 3 + 2]? = some (.int .i64 t.st)
  | [], k, t, h => by simp at h
  | x :: l, 0, t, h => by
    simp at h; subst h
    simp [tV]
  | x :: l, k + 1, t, h => by
    have := tV_get l k t (by simpa using h)
    have e : tV (x :: l) = .int .i64 x.pri :: .int .i64 x.cpu :: .int .i64 x.st :: tV l := by simp [tV]
    rw [e, show (k + 1) * 3 = k * 3 + 3 by omega]
    simpa using this
/-- A thread's three cells. -/
theorem ScIn.th {w : World} {a : Option Addr} {c : Nat} {a2 : Option Addr} {c2 k : Nat} {qs : List Qu} {ts : List Th} {t : Th} (h : ScIn w a c a2 c2 qs ts) (hk : ts[k]? = some t) :
    ∃ b off : Nat, a2 = some ⟨b, off, none⟩ ∧ b < w.heap.size ∧ w.cell? ⟨b, off + k * 3, none⟩ = some (.int .i64 t.pri) ∧ w.cell? ⟨b, off + k * 3 + 1, none⟩ = some (.int .i64 t.cpu) ∧ w.cell? ⟨b, off + k * 3 + 2, none⟩ = some (.int .i64 t.st) := by
  obtain ⟨g1, g2, g3⟩ := tV_get ts k t hk
  rcases h.s2 with h | ⟨b, off, ha, hb, hc⟩
  · rw [h] at g1; simp at g1
  · exact ⟨b, off, ha, hb, hc _ _ g1, by have := hc _ _ g2; rwa [← Nat.add_assoc] at this, by have := hc _ _ g3; rwa [← Nat.add_assoc] at this⟩
/-- A processor's three cells. -/
theorem ScIn.qu {w : World} {a : Option Addr} {c : Nat} {a2 : Option Addr} {c2 k : Nat} {qs : List Qu} {ts : List Th} {x : Qu} (h : ScIn w a c a2 c2 qs ts) (hk : qs[k]? = some x) :
    ∃ b off : Nat, a = some ⟨b, off, none⟩ ∧ b < w.heap.size ∧ w.cell? ⟨b, off + k * 3, none⟩ = some (.int .i64 x.run) ∧ w.cell? ⟨b, off + k * 3 + 1, none⟩ = some (.int .i64 x.left) ∧
      ∃ (ar : Option Addr) (cr : Nat), w.cell? ⟨b, off + k * 3 + 2, none⟩ = some (.slice ar x.ready.length cr) ∧ SlV ar x.ready.length cr ∧ SlAt w ar (iV x.ready) := by
  rcases h.s1 with h | ⟨b, off, ha, hb, hc⟩
  · rw [h] at hk; simp at hk
  · exact ⟨b, off, ha, hb, hc k x hk⟩

theorem within_c (n lo hi : Int) (w : World) : Calls Try.prog 31 #[.int .i64 n, .int .i64 lo, .int .i64 hi] w fun e w' => e = .returned (.bool (inB n lo hi)) ∧ w = w' := by
  by_cases h1 : lo ≤ n
  · by_cases h2 : n ≤ hi
    · have h : inB n lo hi = true := by simp [inB, h1, h2]
      rw [h]; clear h
      go_enter Try.func31, Try.ntmps31
      go_wp2
      go_ret
      exact ⟨rfl, rfl⟩
    · have h : inB n lo hi = false := by simp [inB, h2]
      rw [h]; clear h
      go_enter Try.func31, Try.ntmps31
      go_wp2
      go_ret
      exact ⟨rfl, rfl⟩
  · have h : inB n lo hi = false := by simp [inB, h1]
    rw [h]; clear h
    go_enter Try.func31, Try.ntmps31
    go_wp2
    go_ret
    exact ⟨rfl, rfl⟩
theorem within_y (n lo hi : Int) (w : World) (h : inB n lo hi = true) : Calls Try.prog 31 #[.int .i64 n, .int .i64 lo, .int .i64 hi] w fun e w' => e = .returned (.bool true) ∧ w = w' := by have := within_c n lo hi w; rwa [h] at this
theorem within_n (n lo hi : Int) (w : World) (h : inB n lo hi = false) : Calls Try.prog 31 #[.int .i64 n, .int .i64 lo, .int .i64 hi] w fun e w' => e = .returned (.bool false) ∧ w = w' := by have := within_c n lo hi w; rwa [h] at this
theorem isPri_c (n : Int) (w : World) : Calls Try.prog 60 #[.int .i64 n] w fun e w' => e = .returned (.bool (inB n 0 7)) ∧ w = w' := by
  have hW := within_c n 0 7 w
  generalize inB n 0 7 = b at hW ⊢
  go_enter Try.func60, Try.ntmps60
  go_wp2_with fail
  refine hW.mono ?_
  rintro e w' ⟨rfl, rfl⟩
  go_wp2
  go_ret
  exact ⟨rfl, rfl⟩
/-- As many processors and threads, and such a Quantum. -/
def bdB (n m : Nat) (q : Int) : Bool := inB n 1 4 && decide (m ≤ 16) && inB q 1 20
theorem bounded_c (a : Option Addr) (n c : Nat) (a2 : Option Addr) (m c2 : Nat) (q : Int) (w : World) (hm : m ≤ maxLen) :
    Calls Try.prog 33 #[.agg #[.slice a n c, .slice a2 m c2, .int .i64 q]] w fun e w' => e = .returned (.bool (bdB n m q)) ∧ Below w.heap.size w w' := by
  unfold maxLen at hm
  have HK := (Kw.start w).box (vs := [.slice a n c, .slice a2 m c2, .int .i64 q]) (t := 25)
  cases h1 : inB n 1 4 with
  | false =>
    have h : bdB n m q = false := by simp [bdB, h1]
    rw [h]; clear h
    have H1 := Lib.hid h1
    clear h1
    go_enter Try.func33, Try.ntmps33
    go_wp2_with fail
    refine (within_n _ _ _ _ H1.out).mono ?_
    rintro e w' ⟨rfl, rfl⟩
    have hK := HK.base
    clear HK
    go_wp2
    go_ret
    exact ⟨rfl, hK⟩
  | true =>
  have H1 := Lib.hid h1
  by_cases h2 : m ≤ 16
  · have h2' : (m : Int) ≤ 16 := by omega
    have h : bdB n m q = inB q 1 20 := by simp [bdB, h1, h2]
    rw [h]; clear h h1 h2
    have hW := fun w => within_c q 1 20 w
    generalize inB q 1 20 = b at hW ⊢
    go_enter Try.func33, Try.ntmps33
    go_wp2_with fail
    refine (within_y _ _ _ _ H1.out).mono ?_
    rintro e w' ⟨rfl, rfl⟩
    go_wp2_with fail
    refine (hW _).mono ?_
    rintro e w' ⟨rfl, rfl⟩
    have hK := HK.base
    clear HK
    go_wp2
    go_ret
    exact ⟨rfl, hK⟩
  · have h2' : ¬ (m : Int) ≤ 16 := by omega
    have h : bdB n m q = false := by simp [bdB, h2]
    rw [h]; clear h h1 h2
    go_enter Try.func33, Try.ntmps33
    go_wp2_with fail
    refine (within_y _ _ _ _ H1.out).mono ?_
    rintro e w' ⟨rfl, rfl⟩
    have hK := HK.base
    clear HK
    go_wp2
    go_ret
    exact ⟨rfl, hK⟩
/-- How many threads a processor has. -/
def thN (run : Int) (n : Nat) : Int := if run = -1 then n else n + 1
theorem threads_c (run left : Int) (ar : Option Addr) (n cr : Nat) (w : World) (hn : n < maxLen) :
    Calls Try.prog 72 #[.agg #[.int .i64 run, .int .i64 left, .slice ar n cr]] w fun e w' => e = .returned (.int .i64 (thN run n)) ∧ Below w.heap.size w w' := by
  unfold maxLen at hn
  by_cases h : run = -1
  · have e : thN run n = n := if_pos h
    rw [e]; subst h; clear e
    go_enter Try.func72, Try.ntmps72
    go_wp2
    go_ret
    exact ⟨rfl, b_alloc (Below.refl _ _)⟩
  · have e : thN run n = n + 1 := if_neg h
    rw [e]
    have h' : (run == -1) = false := by simpa using h
    clear e h
    go_enter Try.func72, Try.ntmps72
    go_wp2
    go_ret
    exact ⟨rfl, b_alloc (Below.refl _ _)⟩
/-- Has the thread this processor and this state? -/
def stB (t : Th) (cpu st : Int) : Bool := t.cpu == cpu && t.st == st
set_option maxRecDepth 100000 in
theorem stands_c (a : Option Addr) (c : Nat) (a2 : Option Addr) (c2 : Nat) (qs : List Qu) (ts : List Th) (q : Int) (k : Nat) (t : Th) (cpu st : Int) (w : World) (hs : ScIn w a c a2 c2 qs ts) (hk : ts[k]? = some t) :
    Calls Try.prog 62 #[.agg #[.slice a qs.length c, .slice a2 ts.length c2, .int .i64 q], .int .i64 k, .int .i64 cpu, .int .i64 st] w fun e w' => e = .returned (.bool (stB t cpu st)) ∧ Below w.heap.size w w' := by
  obtain ⟨b, off, rfl, hb, c0, c1, c2x⟩ := hs.th hk
  have hkl : k < ts.length := (List.getElem?_eq_some_iff.1 hk).1
  have k0 : (0 : Int) ≤ (k : Int) := Int.natCast_nonneg _
  have k1 : (k : Int) < (ts.length : Int) := by omega
  have hm := hs.v2.max
  unfold maxLen at hm
  clear hs hk
  generalize qs.length = nq
  generalize ts.length = nt at *
  cases h1 : t.cpu == cpu with
  | false =>
    have h : stB t cpu st = false := by simp [stB, h1]
    rw [h]; clear h
    go_enter Try.func62, Try.ntmps62
    go_wp2
    go_ret
    exact ⟨rfl, b_alloc (b_alloc (Below.refl _ _))⟩
  | true =>
    have h : stB t cpu st = (t.st == st) := by simp [stB, h1]
    rw [h]; clear h
    cases h2 : t.st == st with
    | false =>
      go_enter Try.func62, Try.ntmps62
      go_wp2
      go_ret
      exact ⟨rfl, b_alloc (b_alloc (Below.refl _ _))⟩
    | true =>
      go_enter Try.func62, Try.ntmps62
      go_wp2
      go_ret
      exact ⟨rfl, b_alloc (b_alloc (Below.refl _ _))⟩
end Go.Proofs.Ytggikbcgijmhbaa
