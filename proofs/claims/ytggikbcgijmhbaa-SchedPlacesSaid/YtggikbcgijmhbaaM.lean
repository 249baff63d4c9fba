/- WHAT IS PROVED: movesOf; slices.Clone of processors and threads; the copy of a state. CONDITIONS: as the cells lie. -/
import Derived.Test.YtggikbcgijmhbaaL
import Derived.Laws.EntriesVeiled
set_option linter.unusedSimpArgs false
set_option linter.unusedVariables false
namespace Go.Proofs.Ytggikbcgijmhbaa
open Go Go.RowKit Go.QrBits Go.QrMem
theorem heap_up {w : World} {o x : Obj} {k : Nat} (h : w.heap[k]? = some x) : (w.alloc o).heap[k]? = some x := (Below.heap_alloc _ _ _ (Array.getElem?_eq_some_iff.1 h).1).trans h
theorem heap_new {w : World} {o : Obj} {n : Nat} (h : w.heap.size = n) : (w.alloc o).heap[n]? = some o := by rw [← h]; exact heap_alloc_new w o
/-- The moves, as a value. -/
def mvV (e : Nat) : Value := .agg #[.func (.func 88) #[] #[.pointer (some ⟨e + 2, 0, none⟩), .pointer (some ⟨e, 0, none⟩)], .func (.func 92) #[] #[.pointer (some ⟨e + 4, 0, none⟩), .pointer (some ⟨e, 0, none⟩)], .func (.func 94) #[] #[.pointer (some ⟨e + 4, 0, none⟩), .pointer (some ⟨e, 0, none⟩)],
  .func (.func 96) #[] #[.pointer (some ⟨e + 3, 0, none⟩), .pointer (some ⟨e + 2, 0, none⟩), .pointer (some ⟨e, 0, none⟩)], .func (.func 97) #[] #[.pointer (some ⟨e + 3, 0, none⟩), .pointer (some ⟨e, 0, none⟩), .pointer (some ⟨e + 5, 0, none⟩)]]
set_option maxHeartbeats 2000000 in
set_option maxRecDepth 100000 in
theorem movesOf_c (b0 : Nat) (w : World) : Calls Try.prog 75 #[.pointer (some ⟨b0, 0, none⟩)] w fun x w' => x = .returned (mvV w.heap.size) ∧ Env b0 w.heap.size w' ∧ Below w.heap.size w w' := by
  have hmf : ∀ (fn : Fn) (first cap : Array Value) (w : World), (Instr.makeFunc fn first cap).run Try.prog w = .ok (.func fn first cap) w := fun _ _ _ _ => rfl
  go_enter Try.func75, Try.ntmps75
  go_wp2
  refine bodyPost_ret (v := mvV w.heap.size) (by simp [results, Try.results75, go_sem, mvV]) rfl ⟨rfl, ⟨?_, ?_, ?_, ?_, ?_⟩, ?_⟩
  · exact heap_up (heap_up (heap_up (heap_up (heap_up (heap_alloc_new w _)))))
  · exact heap_up (heap_up (heap_up (heap_new (by simp))))
  · exact heap_up (heap_up (heap_new (by simp)))
  · exact heap_up (heap_new (by simp))
  · exact heap_new (by simp)
  · exact b_alloc (b_alloc (b_alloc (b_alloc (b_alloc (b_alloc (Below.refl _ _))))))

theorem Try.info47 : (Try.prog.info? 47).map (fun i => (i.zero, i.size, i.bytes)) = some (some (.agg #[.int .i64 0, .int .i64 0, .slice none 0 0]), 3, 40) := by kernel_rfl
theorem Try.info44 : (Try.prog.info? 44).map (fun i => (i.zero, i.size, i.bytes)) = some (some (.agg #[.int .i64 0, .int .i64 0, .int .i64 0]), 3, 24) := by kernel_rfl
/-- What slices.Clone hands back. -/
def Cloned (E size n : Nat) (xs : List Value) (w : World) (e : Ending) (w' : World) : Prop := ∃ (a : Option Addr) (c : Nat), e = .returned (.slice a n c) ∧ w'.ownsRow w.heap.size E size (.slice a n c) n xs ∧ Below w.heap.size w w'
theorem SlAt.news {w : World} {ad : Addr} {xs : List Value} (h : SlAt w (some ad) xs) : ∀ j u, xs[j]? = some u → w.cell? (ad.add j) = some u := by
  rcases h with rfl | ⟨b, off, e, _, hc⟩
  · intro j u hu; simp at hu
  · cases e; intro j u hu; rw [addr_add]; exact hc j u hu

set_option maxHeartbeats 1000000 in
set_option maxRecDepth 100000 in
theorem cloneQ_c (a : Option Addr) (n c : Nat) (xs : List Value) (w : World) (hv : SlV a n c) (hs : SlAt w a xs) (hl : xs.length = n * 3) (h1 : ∀ u ∈ xs, u.oneCell' = true) (hn : n ≤ 4096) :
    Calls Try.prog 84 #[.slice a n c] w (Cloned 47 3 n xs w) := by
  have hnil := fun (w : World) (a : Option Addr) (n c n' c' : Nat) => Lib.run_eql_slice_nil (P := Try.prog) w 22 47 a n c n' c' Try.underlying22
  obtain ⟨_, _, hv3⟩ := hv; rename_i hv1 hv2; clear hv1 hv2
  rcases a with _ | ad
  · obtain ⟨g1, g2⟩ := hv3 rfl
    subst g1 g2
    have : xs = [] := List.eq_nil_of_length_eq_zero (by omega)
    subst this
    clear hl h1 hs hn hv3
    go_enter Try.func84, Try.ntmps84
    go_wp2
    go_ret
    exact ⟨_, _, rfl, World.ownsRow_nil _ _ _ _, Below.refl _ _⟩
  · obtain ⟨i0, hi, hz0, hz1, hz2⟩ := info_parts Try.info47
    have HV := Lib.hid hv3
    have HL := Lib.hid hl
    have H1 := Lib.hid h1
    clear hv3 hl h1
    have HS := Lib.hid (hs.below ((Below.refl _ w).alloc (Nat.le_refl _) (.cells #[] 47))).news
    clear hs
    go_enter Try.func84, Try.ntmps84
    go_wp2_with (at_builtin; refine wpList_append_own _ rfl _ _ 22 rfl w.heap.size 47 i0 (.agg #[.int .i64 0, .int .i64 0, .slice none 0 0]) 3 40 Try.underlying22 hi hz0 hz1 hz2 rfl (by decide) _ _ _ rfl (World.ownsRow_made _ _ _ (by omega) (by decide) rfl) ad n c xs rfl ?c1 ?c2 ?c3 ?c4 ?c5 ?c6 ?_)
    case c1 => exact HL.out
    case c2 => exact HS.out
    case c3 => exact H1.out
    case c4 => unfold maxLen; omega
    case c5 => omega
    case c6 => simp
    intro v' w1 hown hgrow _
    try rw [Nat.zero_add] at hown
    obtain ⟨a', c', rfl⟩ := own_slice hown
    have HW := Lib.hid hown
    clear hown
    go_wp2
    go_ret
    exact ⟨a', c', rfl, HW.out, ((Below.refl _ w).alloc (Nat.le_refl _) _).grown hgrow (by simp) (fun k e => by cases e; exact Nat.le_refl _)⟩

set_option maxHeartbeats 1000000 in
set_option maxRecDepth 100000 in
theorem cloneT_c (a : Option Addr) (n c : Nat) (xs : List Value) (w : World) (hv : SlV a n c) (hs : SlAt w a xs) (hl : xs.length = n * 3) (h1 : ∀ u ∈ xs, u.oneCell' = true) (hn : n ≤ 4096) :
    Calls Try.prog 85 #[.slice a n c] w (Cloned 44 3 n xs w) := by
  have hnil := fun (w : World) (a : Option Addr) (n c n' c' : Nat) => Lib.run_eql_slice_nil (P := Try.prog) w 23 44 a n c n' c' Try.underlying23
  obtain ⟨_, _, hv3⟩ := hv; rename_i hv1 hv2; clear hv1 hv2
  rcases a with _ | ad
  · obtain ⟨g1, g2⟩ := hv3 rfl
    subst g1 g2
    have : xs = [] := List.eq_nil_of_length_eq_zero (by omega)
    subst this
    clear hl h1 hs hn hv3
    go_enter Try.func85, Try.ntmps85
    go_wp2
    go_ret
    exact ⟨_, _, rfl, World.ownsRow_nil _ _ _ _, Below.refl _ _⟩
  · obtain ⟨i0, hi, hz0, hz1, hz2⟩ := info_parts Try.info44
    have HV := Lib.hid hv3
    have HL := Lib.hid hl
    have H1 := Lib.hid h1
    clear hv3 hl h1
    have HS := Lib.hid (hs.below ((Below.refl _ w).alloc (Nat.le_refl _) (.cells #[] 44))).news
    clear hs
    go_enter Try.func85, Try.ntmps85
    go_wp2_with (at_builtin; refine wpList_append_own _ rfl _ _ 23 rfl w.heap.size 44 i0 (.agg #[.int .i64 0, .int .i64 0, .int .i64 0]) 3 24 Try.underlying23 hi hz0 hz1 hz2 rfl (by decide) _ _ _ rfl (World.ownsRow_made _ _ _ (by omega) (by decide) rfl) ad n c xs rfl ?c1 ?c2 ?c3 ?c4 ?c5 ?c6 ?_)
    case c1 => exact HL.out
    case c2 => exact HS.out
    case c3 => exact H1.out
    case c4 => unfold maxLen; omega
    case c5 => omega
    case c6 => simp
    intro v' w1 hown hgrow _
    try rw [Nat.zero_add] at hown
    obtain ⟨a', c', rfl⟩ := own_slice hown
    have HW := Lib.hid hown
    clear hown
    go_wp2
    go_ret
    exact ⟨a', c', rfl, HW.out, ((Below.refl _ w).alloc (Nat.le_refl _) _).grown hgrow (by simp) (fun k e => by cases e; exact Nat.le_refl _)⟩

set_option maxHeartbeats 1000000 in
set_option maxRecDepth 100000 in
theorem cloneI_c (a : Option Addr) (n c : Nat) (xs : List Value) (w : World) (hv : SlV a n c) (hs : SlAt w a xs) (hl : xs.length = n * 1) (h1 : ∀ u ∈ xs, u.oneCell' = true) (hn : n ≤ 4096) :
    Calls Try.prog 86 #[.slice a n c] w (Cloned 3 1 n xs w) := by
  have hnil := fun (w : World) (a : Option Addr) (n c n' c' : Nat) => Lib.run_eql_slice_nil (P := Try.prog) w 45 3 a n c n' c' Try.underlying45
  obtain ⟨_, _, hv3⟩ := hv; rename_i hv1 hv2; clear hv1 hv2
  rcases a with _ | ad
  · obtain ⟨g1, g2⟩ := hv3 rfl
    subst g1 g2
    have : xs = [] := List.eq_nil_of_length_eq_zero (by omega)
    subst this
    clear hl h1 hs hn hv3
    go_enter Try.func86, Try.ntmps86
    go_wp2
    go_ret
    exact ⟨_, _, rfl, World.ownsRow_nil _ _ _ _, Below.refl _ _⟩
  · obtain ⟨i0, hi, hz0, hz1, hz2⟩ := info_parts Try.info3
    have HV := Lib.hid hv3
    have HL := Lib.hid hl
    have H1 := Lib.hid h1
    clear hv3 hl h1
    have HS := Lib.hid (hs.below ((Below.refl _ w).alloc (Nat.le_refl _) (.cells #[] 3))).news
    clear hs
    go_enter Try.func86, Try.ntmps86
    go_wp2_with (at_builtin; refine wpList_append_own _ rfl _ _ 45 rfl w.heap.size 3 i0 (.int .i64 0) 1 8 Try.underlying45 hi hz0 hz1 hz2 rfl (by decide) _ _ _ rfl (World.ownsRow_made _ _ _ (by omega) (by decide) rfl) ad n c xs rfl ?c1 ?c2 ?c3 ?c4 ?c5 ?c6 ?_)
    case c1 => exact HL.out
    case c2 => exact HS.out
    case c3 => exact H1.out
    case c4 => unfold maxLen; omega
    case c5 => omega
    case c6 => simp
    intro v' w1 hown hgrow _
    try rw [Nat.zero_add] at hown
    obtain ⟨a', c', rfl⟩ := own_slice hown
    have HW := Lib.hid hown
    clear hown
    go_wp2
    go_ret
    exact ⟨a', c', rfl, HW.out, ((Below.refl _ w).alloc (Nat.le_refl _) _).grown hgrow (by simp) (fun k e => by cases e; exact Nat.le_refl _)⟩
end Go.Proofs.Ytggikbcgijmhbaa
