/- WHAT IS PROVED: slices.Values, slices.AppendSeq, slices.Collect, slices.Sorted over a slice of ints. CONDITIONS: as the cells lie; at most 2^47 - 4096 bytes. -/
import Derived.Test.YtggikbcgijmhbaaD
import Derived.Test.YtggikbcgijmhbaaSh
import Derived.RangeFuncBound
import Derived.RangeFuncCalls
import Derived.Shelf.RegionOpen
import Derived.OwnWalkIn
import Derived.TacticsInMore
import Derived.LoopNIn
import Derived.LoopIn
import Derived.Lib.SlKeysI
import Derived.RangeFuncBox
import Derived.Maps.AppendAt
set_option linter.unusedSimpArgs false
set_option linter.unusedVariables false
namespace Go.Proofs.Ytggikbcgijmhbaa
open Go Go.RowKit Go.QrBits Go.QrMem Go.Sort
attribute [local go_sem] Oper.semAt_some
/-- What the iterator of slices.Values reads: its box, and the cells. -/
structure ValIn (p : Nat) (a : Option Addr) (c : Nat) (xs : List Int) (W : World) : Prop where
  b1 : W.cell? ⟨p, 0, none⟩ = some (.slice a xs.length c)
  at_ : SlAt W a (iV xs)
def valEnc (xs : List Int) (i : Nat) : Array Value := #[.int .i64 (xs[i]?.getD 0)]


set_option maxHeartbeats 2000000 in
set_option maxRecDepth 100000 in
theorem values1_c (p : Nat) (a : Option Addr) (c : Nat) (xs : List Int) (hl : xs.length * 8 ≤ 140737488351232) :
    Iter Try.prog 81 #[.pointer (some ⟨p, 0, none⟩)] (valEnc xs) 0 (ValIn p a c xs) xs.length (fun e => ∃ v, e = .returned v) := by
  intro l J W hJ hV hY h0
  obtain ⟨v1, _⟩ := hV 0 W h0
  refine callsIn_of_wp Try.func81 rfl trivial ?_
  simp only [Try.ntmps81, List.size_toArray, List.length_cons, List.length_nil, Nat.reduceAdd, Nat.reduceSub, Array.replicate_succ, Array.replicate_zero, List.push_toArray, List.append_toArray, List.nil_append, List.cons_append]
  have HJ := Lib.hid hJ
  have HV := Lib.hid hV
  have HY := Lib.hid hY
  have H0 := Lib.hid h0
  clear hJ hV hY h0
  gi_wp2
  gi_loopw [7] (fun v wr => ∃ i : Nat, i ≤ xs.length ∧ v = .int .i64 i ∧ J i wr ∧ W.heap.size ≤ wr.heap.size) (fun v _ => xs.length - (intOf v).toNat)
  case atStart => exact ⟨0, Nat.zero_le _, rfl, H0.out, Nat.le_refl _⟩
  case round =>
    obtain ⟨i, hi, rfl, hj, hsz⟩ := hrel
    by_cases hlt : i < xs.length
    · obtain ⟨u1, u2⟩ := HV.out i wr hj
      have hx : (iV xs)[i]? = some (.int .i64 (xs[i]?.getD 0)) := by simp [iV, List.getElem?_eq_getElem hlt]
      rcases u2 with u2 | ⟨b, off, rfl, hb, hc⟩
      · rw [u2] at hx; simp at hx
      have hcx := hc _ _ hx
      have HH := HY.out i wr hj hlt (by omega)
      have hJ2 := Lib.hid hj
      clear hc hx u1 hj
      simp only [valEnc] at HH
      generalize xs[i]?.getD 0 = x at *
      obtain ⟨fn, tmps, assign, body, hy, hR⟩ := HH
      gi_wp2
      refine ⟨rfl, hR.mono ?_⟩
      rintro e W3 ⟨rfl, hJ3, hk3⟩
      gi_wp2
      go_roundw
      case rel => exact ⟨i + 1, by omega, by simp, hJ3, Nat.le_trans hsz hk3.size⟩
      case measure => simp [intOf]; omega
    · obtain rfl : i = xs.length := by omega
      gi_wp2
      go_end0
      exact ⟨⟨_, rfl⟩, hj⟩
theorem values_c (a : Option Addr) (n c : Nat) (w : World) : Calls Try.prog 64 #[.slice a n c] w fun e w' =>
    e = .returned (.func (.func 81) #[] #[.pointer (some ⟨w.heap.size, 0, none⟩)]) ∧ w' = w.alloc (.cells #[.slice a n c] 45) := by
  have hmf : ∀ (fn : Fn) (first cap : Array Value) (w : World), (Instr.makeFunc fn first cap).run Try.prog w = .ok (.func fn first cap) w := fun _ _ _ _ => rfl
  go_enter Try.func64, Try.ntmps64
  go_wp2
  go_ret
  exact ⟨rfl, rfl⟩
theorem Try.info3 : (Try.prog.info? 3).map (fun i => (i.zero, i.size, i.bytes)) = some (some (.int .i64 0), 1, 8) := by kernel_rfl

theorem ownsRow_turned {S T base e size n : Nat} {v : Value} {xs : List Value} {W W' : World} (h : W.ownsRow base e size v n xs) (ht : Turned S T W W') (hb : T ≤ base) : W'.ownsRow base e size v n xs := by
  obtain ⟨h1, (h2 | ⟨g, cap, cur, h3, h4, h5, h6⟩)⟩ := h
  · exact ⟨h1, .inl h2⟩
  · exact ⟨h1, .inr ⟨g, cap, cur, h3, h4, ht.blk h5 (by omega), h6⟩⟩
theorem ownsRow_base {w : World} {base base' e size n : Nat} {v : Value} {xs : List Value} (h : w.ownsRow base e size v n xs) (hb : base' ≤ base) : w.ownsRow base' e size v n xs := by
  obtain ⟨h1, (h2 | ⟨g, cap, cur, h3, h4, h5⟩)⟩ := h
  · exact ⟨h1, .inl h2⟩
  · exact ⟨h1, .inr ⟨g, cap, cur, h3, by omega, h5⟩⟩
theorem Turned.grown {A B : Nat} {w W W' : World} {row : Option Nat} (h : Turned A B w W) (hg : W.grownBy W' row) (hr : ∀ k, row = some k → w.heap.size ≤ k) : Turned A B w W' :=
  ⟨hg.os.trans h.os, hg.tape.trans h.tape, hg.output.trans h.output, Nat.le_trans h.size hg.size, fun i hi ho => (hg.block i (Nat.lt_of_lt_of_le hi h.size) (fun e => by have := hr i e.symm; omega)).trans (h.block i hi ho)⟩
/-- The variable in block bo holds a slice of one's own with these numbers. -/
def OutI (bo base n : Nat) (xs : List Int) (W : World) : Prop := ∃ v : Value, W.heap[bo]? = some (.cells #[v] 45 (0, 0)) ∧ W.ownsRow base 3 1 v n (iV xs)
theorem ValIn.turned {p : Nat} {a : Option Addr} {c S T : Nat} {xs : List Int} {w W W' : World} (h : ValIn p a c xs w) (hw : w.heap.size ≤ S) (hb : Below w.heap.size w W) (ht : Turned S T W W') : ValIn p a c xs W' := by
  have hq : Below w.heap.size w W' := hb.trans (ht.below hb.size hw)
  exact ⟨(hq.cell (World.block_lt_of_cell? _ _ h.b1)).trans h.b1, h.at_.below hq⟩
theorem ownsRow_setCell_far {w : World} {base : Nat} {e : TypeId} {size : Nat} {v : Value} {n : Nat} {xs : List Value} (h : w.ownsRow base e size v n xs) {a : Addr} (ha : a.block < base) (u : Value) : (w.setCell a u).ownsRow base e size v n xs := ownsRow_setCell_below h ha u


set_option maxHeartbeats 4000000 in
set_option maxRecDepth 100000 in
theorem appendSeq_c (p : Nat) (a : Option Addr) (c : Nat) (xs : List Int) (w : World) (hl : xs.length * 8 ≤ 140737488351232) (hv : ValIn p a c xs w) :
    Calls Try.prog 99 #[.slice none 0 0, .func (.func 81) #[] #[.pointer (some ⟨p, 0, none⟩)]] w fun e w' => ∃ v, e = .returned v ∧ w'.ownsRow w.heap.size 3 1 v xs.length (iV xs) ∧ Below w.heap.size w w' := by
  refine (callsIn_wide (n := 0)).1 ?_
  refine callsIn_of_wp_marks Try.func99 rfl trivial ?_
  simp only [Try.ntmps99, List.size_toArray, List.length_cons, List.length_nil, Nat.reduceAdd, Nat.reduceSub, Array.replicate_succ, Array.replicate_zero, List.push_toArray, List.append_toArray, List.nil_append, List.cons_append]
  gi_wp2_with fail
  obtain ⟨w0, hw0⟩ : ∃ w0, w.alloc (.cells #[.slice none 0 0] 45) = w0 := ⟨_, rfl⟩
  have hz0 : w0.heap.size = w.heap.size + 1 := by rw [← hw0]; simp
  have hb0 : Below w.heap.size w w0 := by rw [← hw0]; exact b_alloc (Below.refl _ _)
  have hbx0 : w0.heap[w.heap.size]? = some (.cells #[.slice none 0 0] 45 (0, 0)) := by rw [← hw0]; exact heap_alloc_new w _
  rw [hw0]
  have HV := Lib.hid hv
  clear hw0 hv
  refine wp_range (gf := 81) (lb := #[.pointer (some ⟨p, 0, none⟩)]) (encs := valEnc xs) (m := 0) (k := xs.length) (V := ValIn p a c xs) (E := fun e => ∃ v, e = .returned v) rfl (enters_of Try.func81 (by kernel_rfl) rfl) (fun _ => rfl)
    (values1_c p a c xs hl)
    (fun i W => ValIn p a c xs W ∧ OutI w.heap.size (w0.heap.size + 2) i (xs.take i) W ∧ Turned w.heap.size (w.heap.size + 1) w0 W)
    ?hI (fun _ _ h => h.1) ⟨HV.out.turned (Nat.le_refl _) hb0 (Turned.refl w.heap.size (w.heap.size + 1) w0), ⟨_, hbx0, by simpa [iV] using World.ownsRow_nil _ _ _ _⟩, Turned.refl _ _ _⟩
    (fun i => { tmps := #[.slice none 0 0, .func (.func 81) #[] #[.pointer (some ⟨p, 0, none⟩)], .pointer (some ⟨w.heap.size, 0, none⟩), undef, .slice none 0 0, .int .i64 (xs[i]?.getD 0), .func (.func 81) #[] #[.pointer (some ⟨p, 0, none⟩)], .int .i64 (xs[i]?.getD 0), undef, undef, undef, undef, undef], defers := [] })
    ?assign ?body ?fin
  case hI =>
    rintro i W W' ⟨h1, ⟨v, h2, h2'⟩, h3⟩ htd
    have h4 : Turned w.heap.size (w.heap.size + 1) w0 W' := h3.trans_new htd (by omega)
    exact ⟨HV.out.turned (Nat.le_refl _) hb0 h4, ⟨v, htd.blk h2 (.inl (by omega)), ownsRow_turned h2' htd (by omega)⟩, h4⟩
  case assign =>
    intro l i W K hK
    simp only [valEnc]
    gi_wp2
    exact hK
  case body =>
    rintro l i W ⟨h1, ⟨v, hbx, hrow⟩, h3⟩ hik hm
    obtain ⟨i0, hi, hz0', hz1, hz2⟩ := info_parts Try.info3
    have hob : ∀ k, v.ownBlock = some k → w0.heap.size + 2 ≤ k ∧ k < W.heap.size := fun k hk => hrow.lt k hk
    have hvb : (some w.heap.size : Option Nat) ≠ v.ownBlock := fun e => by have := hob w.heap.size e.symm; omega
    have hcx : W.cell? ⟨w.heap.size, 0, none⟩ = some v := by simp [World.cell?, hbx]
    have hbW : w.heap.size < W.heap.size := (Array.getElem?_eq_some_iff.1 hbx).1
    have hts : xs.take (i + 1) = xs.take i ++ [xs[i]?.getD 0] := by
      rw [List.take_succ_eq_append_getElem hik]; simp [List.getElem?_eq_getElem hik]
    have H3 := Lib.hid h3
    have HB := Lib.hid hbx
    have HO := Lib.hid hob
    have HT := Lib.hid hts
    have HZ := Lib.hid hz0
    have hz0a : w0.heap.size ≥ w.heap.size + 1 := by omega
    clear h1 h3 hbx hob hts hz0 hbx0
    generalize xs[i]?.getD 0 = y at HT ⊢
    gi_wp2_with (gi_at_builtin; refine wpListIn_append_own _ rfl _ _ 45 rfl (w0.heap.size + 2) 3 i0 (.int .i64 0) 1 8 Try.underlying45 hi hz0' hz1 hz2 rfl (by decide) _ _ _ rfl (hrow.alloc _) ⟨W.heap.size, 0, none⟩ 1 1 [.int .i64 y] rfl rfl ?c1 ?c2 ?c3 ?c4 ?c5 ?_)
    case c1 => exact cell_one_new _ _ _
    case c2 => intro u hu; simp at hu; subst hu; rfl
    case c3 => unfold maxLen; omega
    case c4 => omega
    case c5 => simp only [World.size_alloc]; omega
    intro v' w2 hown' hgrow _
    obtain ⟨g', cap', rfl⟩ := ownsRow_succ hown'
    have hrow2 : w2.heap[w.heap.size]? = some (.cells #[v] 45 (0, 0)) := (hgrow.block w.heap.size (by simp only [World.size_alloc]; omega) hvb).trans ((Below.heap_alloc _ _ _ hbW).trans HB.out)
    have hc2 : w2.cell? ⟨w.heap.size, 0, none⟩ = some v := by simp [World.cell?, hrow2]
    have hf2 : w2.frozen? ⟨w.heap.size, 0, none⟩ = false := by simp [World.frozen?, hrow2]
    have HB2 := Lib.hid hrow2
    clear hrow2
    gi_wp2
    have h4 : Turned w.heap.size (w.heap.size + 1) w0 (w2.setCell ⟨w.heap.size, 0, none⟩ (.slice (some ⟨g', 0, none⟩) (i + 1) cap')) :=
      (Turned.grown (H3.out.alloc _) hgrow (fun k hk => by have := HO.out k hk; omega)).setCell _ (Nat.le_refl _) (by show w.heap.size < w.heap.size + 1; omega)
    refine ⟨⟨HV.out.turned (Nat.le_refl _) hb0 h4, ⟨.slice (some ⟨g', 0, none⟩) (i + 1) cap', ?_, ?_⟩, h4⟩, ?_⟩
    · have := heap_setCell_same w2 w.heap.size 0 #[v] 45 (.slice (some ⟨g', 0, none⟩) (i + 1) cap') HB2.out
      simpa using this
    · have e : iV (xs.take (i + 1)) = iV (xs.take i) ++ [.int .i64 y] := by rw [HT.out]; simp [iV]
      rw [e]
      exact ownsRow_setCell_below hown' (by show w.heap.size < w0.heap.size + 2; omega) _
    · exact (((Lies.refl _ _ W).alloc _ hm).grown hgrow (by simp only [World.size_alloc]; omega) (fun k hk => by have := HO.out k hk; omega)).setCell _ (.inl (by show w.heap.size < w0.heap.size; omega))
  case fin =>
    rintro e W ⟨u, rfl⟩ ⟨h1, ⟨v, hbx, hrow⟩, h3⟩ hD
    have hcx : W.cell? ⟨w.heap.size, 0, none⟩ = some v := by simp [World.cell?, hbx]
    rw [List.take_length] at hrow
    have htp : Turned w0.heap.size (w0.heap.size + 1) W (W.putObj w0.heap.size (.deferred none)) := (Turned.refl w0.heap.size (w0.heap.size + 1) W).putObj (.deferred none) (Nat.le_refl _) (by omega)
    have ho := ownsRow_base (base' := w.heap.size) (ownsRow_turned hrow htp (by omega)) (by omega)
    have hb : Below w.heap.size w (W.putObj w0.heap.size (.deferred none)) := (hb0.trans (h3.below (B := w.heap.size) (by omega) (by omega))).trans (htp.below (by have := h3.size; omega) (by omega))
    rename_i K0 hK0
    refine hK0 _ _ ?_
    have HD := Lib.hid hD
    have HO := Lib.hid ho
    have HBB := Lib.hid hb
    clear hbx hrow h3 hD ho hb h1 hz0 hbx0
    gi_wp2
    refine ⟨by simp, .inl ⟨_, _, rfl, run_takeDeferred HD.out, ?_⟩⟩
    exact ⟨v, by simp [results, Try.results99, go_sem], v, rfl, HO.out, HBB.out⟩
theorem collect_c (p : Nat) (a : Option Addr) (c : Nat) (xs : List Int) (w : World) (hl : xs.length * 8 ≤ 140737488351232) (hv : ValIn p a c xs w) :
    Calls Try.prog 79 #[.func (.func 81) #[] #[.pointer (some ⟨p, 0, none⟩)]] w fun e w' => ∃ v, e = .returned v ∧ w'.ownsRow w.heap.size 3 1 v xs.length (iV xs) ∧ Below w.heap.size w w' := by
  have hA := appendSeq_c p a c xs w hl hv
  go_enter Try.func79, Try.ntmps79
  go_wp2_with fail
  refine hA.mono ?_
  rintro e w1 ⟨v, rfl, h1, h2⟩
  have H1 := Lib.hid h1
  have H2 := Lib.hid h2
  clear h1 h2 hA
  go_wp2
  go_ret
  exact ⟨v, rfl, H1.out, H2.out⟩
/-- The numbers in order. -/
def sortL (xs : List Int) : List Int := xs.mergeSort fun x y => decide (x ≤ y)
theorem sorted_c (p : Nat) (a : Option Addr) (c : Nat) (xs : List Int) (w : World) (hl : xs.length * 8 ≤ 140737488351232) (hv : ValIn p a c xs w) :
    Calls Try.prog 63 #[.func (.func 81) #[] #[.pointer (some ⟨p, 0, none⟩)]] w fun e w' => ∃ v, e = .returned v ∧ w'.ownsRow w.heap.size 3 1 v xs.length (iV (sortL xs)) ∧ Below w.heap.size w w' := by
  have hA := collect_c p a c xs w hl hv
  go_enter Try.func63, Try.ntmps63
  go_wp2_with fail
  refine hA.mono ?_
  rintro e w1 ⟨v, rfl, hrow, h2⟩
  have H2 := Lib.hid h2
  clear h2 hA
  rcases hrow.2 with ⟨rfl, hz⟩ | ⟨gb, cap, cur, rfl, hbase, hgb, r1, r2, r3, r4⟩
  · have hx : xs = [] := List.eq_nil_of_length_eq_zero hz
    subst hx
    have HR := Lib.hid hrow
    clear hrow
    go_wp2_with fail
    refine (Try.slices_Sort_int_none none 0 w1).mono ?_
    rintro e w' ⟨rfl, rfl⟩
    go_wp2
    go_ret
    exact ⟨.slice none 0 0, rfl, by simpa [sortL, iV] using HR.out, H2.out⟩
  · have hH : Holds (Value.int .i64) w1 gb 0 xs.toArray := holds_of_block_i hgb (by simpa [iV] using r4)
    have hgl : gb < w1.heap.size := (Array.getElem?_eq_some_iff.1 hgb).1
    have hsz : xs.length < 4611686018427387904 := by omega
    have cS := Try.slices_Sort_int gb 0 cap xs w1 hH hgl hsz
    have HG := Lib.hid hgb
    have HR3 := Lib.hid r3
    clear hgb r3 r4 hrow hH hv
    go_wp2_with fail
    refine cS.mono ?_
    rintro e w' ⟨rfl, nn, os, rfl⟩
    go_wp2
    go_ret
    exact ⟨_, rfl, ownsRow_sorted_i (by simp [sortL]) hbase HG.out r1 r2 HR3.out, H2.out.grown (grownBy_sorted_i _) H2.out.size (fun j hj => by cases hj; exact hbase)⟩
end Go.Proofs.Ytggikbcgijmhbaa
