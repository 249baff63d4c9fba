/- WHAT IS PROVED: mem.Diff, for any two spaces: the differences in order, or the error. CONDITIONS: none. -/
import Derived.Test.YtdbcbmdekdfdoaaRe
import Derived.Test.YtdbcbmdekdfdoaaEq
import Derived.Test.YtdbcbmdekdfdoaaRi
import Derived.Deep.AppendLies
import Derived.OrdersHeld
namespace Go.Proofs.Ytdbcbmdekdfdoaa
open Go Go.RowKit Go.QrBits Go.QrMem
attribute [local go_sem] Oper.semAt_some
theorem Try.info89 : (Try.prog.info? 89).map (fun i => (i.zero, i.size, i.bytes)) = some (some (.agg #[.int .i64 0, .int .u8 0, .int .u8 0]), 3, 16) := by kernel_rfl
theorem Try.underlying78 : Try.prog.underlying 78 = some (.slice 89) := by kernel_rfl
/-- Does a byte differ? -/
def chg (A B : List Int) (i : Nat) : Bool := B[i]?.getD 0 != A[i]?.getD 0
/-- The places that differ, among the first k. -/
def dI (A B : List Int) : Nat → List Nat
  | 0 => []
  | k + 1 => dI A B k ++ if chg A B k then [k] else []
/-- The cells of the differences. -/
def dC (A B : List Int) (l : List Nat) : List Value := l.flatMap fun (i : Nat) => [.int .i64 (i : Int), .int .u8 (A[i]?.getD 0), .int .u8 (B[i]?.getD 0)]
theorem dC_len (A B : List Int) : ∀ l : List Nat, (dC A B l).length = l.length * 3
  | [] => rfl
  | i :: l => by have := dC_len A B l; simp only [dC, List.flatMap_cons, List.length_append, List.length_cons, List.length_nil] at this ⊢; omega
theorem dI_le (A B : List Int) : ∀ k, (dI A B k).length ≤ k
  | 0 => Nat.le_refl _
  | k + 1 => by have := dI_le A B k; simp only [dI, List.length_append]; split <;> simp <;> omega
/-- The variable in block bo holds a slice of one's own with the differences. -/
def OutC (bo base : Nat) (n : Nat) (xs : List Value) (W : World) : Prop := ∃ v : Value, W.heap[bo]? = some (.cells #[v] 78 (0, 0)) ∧ W.ownsRow base 89 3 v n xs
theorem OutC.turned {bo base S T n : Nat} {xs : List Value} {W W' : World} (h : OutC bo base n xs W) (ht : Turned S T W W') (hb : T ≤ base) (hbo : bo < S) : OutC bo base n xs W' := by
  obtain ⟨v, h1, h2⟩ := h
  exact ⟨v, ht.blk h1 (.inl hbo), ownsRow_turned h2 ht hb⟩
theorem SlAt.own3 {w : World} {base n c : Nat} {e : TypeId} {a : Option Addr} {xs : List Value} (h : w.ownsRow base e 3 (.slice a n c) n xs) : SlAt w a xs := by
  have hl := h.1
  rcases Nat.eq_zero_or_pos n with h0 | h0
  · left; exact List.eq_nil_of_length_eq_zero (by omega)
  · obtain ⟨b, cap, h1, _, hb⟩ := h.form h0
    cases h1
    right; refine ⟨b, 0, rfl, hb, fun j x hx => ?_⟩
    have hj := (List.getElem?_eq_some_iff.1 hx).1
    rw [Nat.zero_add, h.cellAt j (by omega)]; exact hx
theorem slV_own {w : World} {base n c size : Nat} {e : TypeId} {a : Option Addr} {xs : List Value} (h : w.ownsRow base e size (.slice a n c) n xs) : SlV a n c := by
  obtain ⟨_, (⟨h, h0⟩ | ⟨g, cap, cur, h, _, _, hn, hm, _⟩)⟩ := h
  · simp only [Value.slice.injEq] at h
    exact ⟨by omega, by unfold maxLen; omega, fun _ => ⟨h0, h.2.2⟩⟩
  · simp only [Value.slice.injEq] at h
    exact ⟨by rw [h.2.2]; exact hn, by rw [h.2.2]; exact hm, fun e => by rw [h.1] at e; cases e⟩
/-- What Diff hands back: a list of differences, and an error. -/
def DfPost (cs : List Value) (n : Nat) (er : Int) (w : World) (e : Ending) (w' : World) : Prop :=
  ∃ (a : Option Addr) (c : Nat), e = .returned (.tuple #[.slice a n c, .int .i64 er]) ∧ SlV a n c ∧ SlAt w' a cs ∧ Below w.heap.size w w'
theorem kN_full {P B : List Int} (hck : chk P B.length = true) : kN P B 0 0 B.length = B.length :=
  lead_uniq _ _ _ (Nat.le_refl _) (fun j hj => by
    have hl := chk_len4 hck
    have h3 : j / 64 < P.length := by omega
    simp only [good, Bool.and_eq_true, decide_eq_true_eq]
    refine ⟨⟨by omega, by omega⟩, ?_⟩
    rw [show (0 + (j : Int)).toNat / 64 = j / 64 by omega, List.getElem?_eq_getElem h3]
    show mayB _ 0 = true
    unfold mayB; simp [bits]; decide) (fun h => absurd h (Nat.lt_irrefl _))
theorem bodyC_end {bo S g' cap' n : Nat} {w W w2 : World} {o : Obj} {v : Value} {pn pt ps pq : Nat} {N t need : Int} {a : Option Addr} {c : Nat} {a2 : Option Addr} {c2 : Nat} {perm bytes : List Int} {xs : List Value}
    (h1 : VisIn pn pt ps pq N t need a c a2 c2 perm bytes W) (h3 : Turned bo (bo + 1) w W) (hob : ∀ k, v.ownBlock = some k → S + 3 ≤ k ∧ k < W.heap.size) (hb2 : w2.heap[bo]? = some (.cells #[v] 78 (0, 0)))
    (hown : w2.ownsRow (S + 3) 89 3 (.slice (some ⟨g', 0, none⟩) (n + 1) cap') (n + 1) xs) (hg : (W.alloc o).drew.grownBy w2 v.ownBlock) (hs : ∀ W, Turned bo (bo + 1) w W → SpIn W a c a2 c2 perm bytes)
    (hsz : S = w.heap.size + 4) (hbl : bo < w.heap.size) (hm : S + 2 + 1 ≤ W.heap.size) (hp : (pn < S ∧ pn ≠ bo) ∧ (pt < S ∧ pt ≠ bo) ∧ (ps < S ∧ ps ≠ bo) ∧ (pq < S ∧ pq ≠ bo)) :
    (VisIn pn pt ps pq N t need a c a2 c2 perm bytes (w2.setCell ⟨bo, 0, none⟩ (.slice (some ⟨g', 0, none⟩) (n + 1) cap')) ∧ OutC bo (S + 3) (n + 1) xs (w2.setCell ⟨bo, 0, none⟩ (.slice (some ⟨g', 0, none⟩) (n + 1) cap')) ∧
      Turned bo (bo + 1) w (w2.setCell ⟨bo, 0, none⟩ (.slice (some ⟨g', 0, none⟩) (n + 1) cap'))) ∧ Lies S (S + 2 + 1) W (w2.setCell ⟨bo, 0, none⟩ (.slice (some ⟨g', 0, none⟩) (n + 1) cap')) := by
  have hg' : (W.alloc o).grownBy w2 v.ownBlock := ⟨hg.os, hg.tape, hg.output, hg.size, hg.block⟩
  have h4 : Turned bo (bo + 1) w (w2.setCell ⟨bo, 0, none⟩ (.slice (some ⟨g', 0, none⟩) (n + 1) cap')) :=
    (Turned.grown (h3.alloc o) hg' (fun k hk => by have := hob k hk; omega)).setCell _ (Nat.le_refl _) (by show bo < bo + 1; omega)
  refine ⟨⟨h1.of_cells (fun k hk => ?_) (hs _ h4), ⟨.slice (some ⟨g', 0, none⟩) (n + 1) cap', ?_, ?_⟩, h4⟩, body_lies hob hg' hsz hbl hm⟩
  · have hk2 : k < S ∧ k ≠ bo := by rcases hk with rfl | rfl | rfl | rfl
                                    · exact hp.1
                                    · exact hp.2.1
                                    · exact hp.2.2.1
                                    · exact hp.2.2.2
    rw [Below.heap_setCell _ _ _ _ hk2.2, hg'.block k (by simp; omega) (fun e => by have := hob k e.symm; omega)]
    exact Below.heap_alloc _ _ _ (by omega)
  · have := heap_setCell_same w2 bo 0 #[v] 78 (.slice (some ⟨g', 0, none⟩) (n + 1) cap') hb2
    simpa using this
  · exact ownsRow_setCell_below hown (by show bo < S + 3; omega) _
set_option linter.unusedSimpArgs false in
set_option linter.unusedVariables false in
set_option maxHeartbeats 4000000 in
set_option maxRecDepth 100000 in
theorem diff_y (a : Option Addr) (c : Nat) (a2 : Option Addr) (c2 : Nat) (P B : List Int) (a' : Option Addr) (c' : Nat) (a2' : Option Addr) (c2' : Nat) (B' : List Int) (w : World) (hs : SpIn w a c a2 c2 P B) (hs' : SpIn w a' c' a2' c2' P B') (hck : chk P B.length = true) (hck' : chk P B'.length = true) (hBB : B.length = B'.length) :
    Calls Try.prog 39 #[.agg #[.slice a P.length c, .slice a2 B.length c2], .agg #[.slice a' P.length c', .slice a2' B'.length c2']] w (DfPost (dC B B' (dI B B' B.length)) (dI B B' B.length).length 0 w) := by
  refine (callsIn_wide (n := 0)).1 ?_
  refine callsIn_of_wp_marks Try.func39 rfl trivial ?_
  simp only [Try.ntmps39, List.size_toArray, List.length_cons, List.length_nil, Nat.reduceAdd, Nat.reduceSub, Array.replicate_succ, Array.replicate_zero, List.push_toArray, List.append_toArray, List.nil_append, List.cons_append]
  have HS := Lib.hid hs
  have HS' := Lib.hid hs'
  have HC := Lib.hid hck
  have HC' := Lib.hid hck'
  have HBB := Lib.hid hBB
  clear hBB
  clear hs hs' hck hck'
  have HK := Kw.start w
  gi_wp2_with fail
  replace HK := HK.box (vs := [.slice a P.length c, .slice a2 B.length c2]) (t := 25)
  replace HK := HK.box (vs := [.slice a' P.length c', .slice a2' B'.length c2']) (t := 25)
  simp only [World.size_alloc] at HK
  refine ⟨trivial, rfl, (callsIn_wide.2 (check_y _ _ _ _ _ _ _ (HS.out.below HK.base) HC.out)).mono ?_⟩
  rintro e w1 ⟨rfl, hq⟩
  replace HK := HK.below hq
  clear hq
  have b_0 := HK.get 0 0 rfl rfl
  have b_1 := HK.get 0 1 rfl rfl
  gi_wp2_with fail
  clear b_0 b_1
  refine ⟨trivial, rfl, (callsIn_wide.2 (check_y _ _ _ _ _ _ _ (HS'.out.below HK.base) HC'.out)).mono ?_⟩
  rintro e w2 ⟨rfl, hq⟩
  replace HK := HK.below hq
  clear hq
  have b_0 := HK.get 0 0 rfl rfl
  have a_0 := HK.get 1 0 rfl rfl
  gi_wp2_with fail
  clear b_0 a_0
  have hE : Calls Try.prog 53 #[.slice a P.length c, .slice a' P.length c'] w2 fun e w' => e = .returned (.bool true) ∧ Below w2.heap.size w2 w' := by
    have := slicesEqual_c a c a' c' P P w2 HS.out.v1 HS'.out.v1 (HS.out.below HK.base).s1 (HS'.out.below HK.base).s1
    simpa using this
  refine ⟨trivial, rfl, (callsIn_wide.2 hE).mono ?_⟩
  clear hE
  rintro e w3 ⟨rfl, hq⟩
  replace HK := HK.below hq
  clear hq
  have a_0 := HK.get 1 0 rfl rfl
  have a_1 := HK.get 1 1 rfl rfl
  have a_s := HK.lt 1 rfl
  have hl2 := HS.out.v2.max
  unfold maxLen at hl2
  gi_wp2_with fail
  clear a_0 a_1 a_s
  have hs2 := HK.lt 0 rfl
  replace HK := HK.box (vs := [.slice none 0 0]) (t := 78)
  refine ⟨trivial, rfl, (callsIn_wide.2 (visit_c _ _ _ _ _ _)).mono ?_⟩
  rintro e w4 ⟨rfl, hw4⟩
  gi_wp2_with fail
  rw [← hw4]
  obtain ⟨hvis, hsz, hb4⟩ := vis_boxes hw4 (HS.out.below HK.base)
  obtain ⟨w0, hw0⟩ : ∃ w0, w3.alloc (.cells #[.slice none 0 0] 78) = w0 := ⟨_, rfl⟩
  have hz0 : w0.heap.size = w3.heap.size + 1 := by rw [← hw0]; simp
  rw [hw0] at HK hvis hsz hb4
  have HKw := HK.below hb4
  have hs3 := HK.base.size
  have hbo4 := HKw.row 0 rfl
  have hb_ := HKw.row 1 rfl
  rw [hz0] at hvis hsz
  clear hw4
  have hspT : ∀ W, Turned w3.heap.size (w3.heap.size + 1) w0 W → SpIn W a c a2 c2 P B ∧ SpIn W a' c' a2' c2' P B' ∧ W.heap[w.heap.size + 1]? = some (.cells #[.slice a' P.length c', .slice a2' B'.length c2'] 25 (0, 0)) := fun W h => by
    have h1 : Below w.heap.size w W := HK.base.trans (h.below (B := w.heap.size) (by omega) (by omega))
    exact ⟨HS.out.below h1, HS'.out.below h1, h.blk (HK.row 1 rfl) (.inl (by show w.heap.size + 1 < w3.heap.size; omega))⟩
  have HT := Lib.hid hspT
  clear hspT
  have hkN : kN P B 0 0 B.length = B.length := kN_full HC.out
  refine wp_range (gf := 78) (lb := #[.pointer (some ⟨w3.heap.size + 1 + 2, 0, none⟩), .pointer (some ⟨w3.heap.size + 1 + 1, 0, none⟩), .pointer (some ⟨w3.heap.size + 1, 0, none⟩), .pointer (some ⟨w3.heap.size + 1 + 3, 0, none⟩)]) (encs := visEnc B 0) (m := 1)
    (k := kN P B 0 0 B.length) (V := VisIn (w3.heap.size + 1 + 2) (w3.heap.size + 1 + 1) (w3.heap.size + 1) (w3.heap.size + 1 + 3) B.length 0 0 a c a2 c2 P B) (E := visE P B 0 0 B.length) rfl (enters_of Try.func78 (by kernel_rfl) rfl) (fun _ => rfl)
    (visit1_c _ _ _ _ B.length 0 0 a c a2 c2 P B HC.out (chk_le HC.out).2 (by unfold I64; decide))
    (fun i W => VisIn (w3.heap.size + 1 + 2) (w3.heap.size + 1 + 1) (w3.heap.size + 1) (w3.heap.size + 1 + 3) B.length 0 0 a c a2 c2 P B W ∧ OutC w3.heap.size (w4.heap.size + 3) (dI B B' i).length (dC B B' (dI B B' i)) W ∧ Turned w3.heap.size (w3.heap.size + 1) w0 W)
    ?hI (fun _ _ h => h.1) ⟨hvis, ⟨_, hbo4, World.ownsRow_nil _ _ _ _⟩, Turned.of_below (hb4.mono (by omega))⟩
    (fun i => { tmps := #[Value.agg #[Value.slice a P.length c, Value.slice a2 B.length c2],
          Value.agg #[Value.slice a' P.length c', Value.slice a2' B'.length c2'],
          Value.pointer (some { block := w.heap.size, off := 0 }),
          Value.pointer (some { block := w.heap.size + 1, off := 0 }), Value.slice none 0 0, Value.int IntKind.i64 0,
          Value.pointer (some { block := w3.heap.size, off := 0 }), .int .i64 (i : Int), .int .u8 (B[i]?.getD 0),
          Value.agg #[Value.slice a P.length c, Value.slice a2 B.length c2], Value.int IntKind.i64 0, Value.bool false,
          Value.bool false, Value.agg #[Value.slice a' P.length c', Value.slice a2' B'.length c2'],
          Value.int IntKind.i64 0, Value.bool false, Value.bool false,
          Value.pointer (some { block := w.heap.size, off := 0 }), Value.slice a P.length c,
          Value.pointer (some { block := w.heap.size + 1, off := 0 }), Value.slice a' P.length c', Value.bool true,
          Value.bool false, Value.agg #[Value.slice a P.length c, Value.slice a2 B.length c2],
          Value.pointer (some { block := w.heap.size, off := 1 }), Value.slice a2 B.length c2,
          Value.int IntKind.i64 (B.length : Int),
          Value.func (Fn.func 78) #[]
            #[Value.pointer (some { block := w3.heap.size + 1 + 2, off := 0 }),
              Value.pointer (some { block := w3.heap.size + 1 + 1, off := 0 }),
              Value.pointer (some { block := w3.heap.size + 1, off := 0 }),
              Value.pointer (some { block := w3.heap.size + 1 + 3, off := 0 })],
          .int .i64 (i : Int), .int .u8 (B[i]?.getD 0), undef, undef, undef, undef, undef, undef, undef, undef, undef, undef, undef, undef, undef,
          undef, undef, undef, undef, undef, undef], defers := [] })
    ?assign ?body ?fin
  case hI =>
    rintro i W W' ⟨h1, h2, h3⟩ htd
    have h4 : Turned w3.heap.size (w3.heap.size + 1) w0 W' := h3.trans_new htd (by omega)
    exact ⟨h1.turned htd (by omega) (by omega) (by omega) (by omega) (HT.out _ h4).1, h2.turned htd (by omega) (by omega), h4⟩
  case assign =>
    intro l i W K hK
    simp only [visEnc]
    gi_wp2
    exact hK
  case body =>
    rintro l i W ⟨h1, ⟨v, hbx, hrow⟩, h3⟩ hik hm
    have hiB : i < B.length := by omega
    have hiB' : i < B'.length := by rw [← HBB.out]; exact hiB
    have hl4 := (chk_le HC.out).2
    obtain ⟨hq1, hq2, hq3⟩ := HT.out W h3
    obtain ⟨b', off', rfl, hbw, _⟩ := HS'.out.shape2 (m := i) hiB'
    obtain ⟨b2', off2', hEq, hbl', hbx'⟩ := hq2.shape2 (m := i) hiB'
    cases hEq
    have hbyte := hbx' i (B'[i]?.getD 0) (by simp [hiB'])
    obtain ⟨d0, d1, f0, f1, hlt⟩ := row2 hq3
    have hbl3 : w3.heap.size < W.heap.size := (Array.getElem?_eq_some_iff.1 hbx).1
    have k0 : (0 : Int) ≤ (i : Int) := Int.natCast_nonneg _
    have k1 : (i : Int) < (B'.length : Int) := by omega
    have H1 := Lib.hid h1
    have H3 := Lib.hid h3
    have HB := Lib.hid hbx
    have HR := Lib.hid hrow
    have HQ := Lib.hid hq2
    have HZ : Hid (w4.heap.size = w0.heap.size + 4) := Lib.hid (by omega)
    have hw03 : w0.heap.size ≥ w3.heap.size + 1 := by omega
    have hdl : (dI B B' i).length ≤ i := dI_le B B' i
    clear h1 h3 hbx hrow hq1 hq2 hq3 f0 f1 hkN hvis hsz hb4 hb_ hbo4 HKw HK hbx' hw0 hz0 hik
    by_cases hc : chg B B' i = true
    · have hc1 : (B'[i]?.getD 0 != B[i]?.getD 0) = true := hc
      have hdI : dI B B' (i + 1) = dI B B' i ++ [i] := by simp [dI, hc]
      have HD := Lib.hid hdI
      clear hdI hc
      have hdc : dC B B' (dI B B' (i + 1)) = dC B B' (dI B B' i) ++ [.int .i64 (i : Int), .int .u8 (B[i]?.getD 0), .int .u8 (B'[i]?.getD 0)] := by rw [HD.out]; simp [dC]
      generalize B'[i]?.getD 0 = y at hc1 hbyte hdc ⊢
      generalize B[i]?.getD 0 = x at hc1 hdc ⊢
      have HDC := Lib.hid hdc
      clear hdc
      have hi4 : i < 4096 := by omega
      clear hl4
      gi_wp2_with fail
      have HS0 : (fun W' : World => W'.cell? ⟨w.heap.size + 1, 1, none⟩ = some (.slice (some ⟨b', off', none⟩) B'.length c2') ∧ W'.cell? ⟨b', off' + i, none⟩ = some (.int .u8 y)) W.drew := ⟨d1, hbyte⟩
      refine wpIn_region_any (by kernel_rfl) (wpAny_in (noDefer_spec (by kernel_rfl)) (fun ⟨_, _, h⟩ => by cases h.1) _ _ _ _ (wpAny_of_held (S := fun W' : World => W'.cell? ⟨w.heap.size + 1, 1, none⟩ = some (.slice (some ⟨b', off', none⟩) B'.length c2') ∧ W'.cell? ⟨b', off' + i, none⟩ = some (.int .u8 y)) _ _ _ _ ?_))
      change wpAnyH _ _ _ _ _ _ _ _ (World.drew _)
      refine wpAnyH_take (i := 1) (oi := _) (v := .int .i64 (i : Int)) rfl (by kernel_rfl) (by kernel_rfl) (by kernel_rfl) (fun _ _ _ h => h) (Or.inl ⟨by rfl, ?_⟩) HS0 ?_
      · intro W' hW'
        go_simp
      simp only [Act.put, List.setIfInBounds_toArray, List.set_cons_zero, List.set_cons_succ]
      refine wpAnyH_take (i := 2) (oi := _) (v := .int .u8 x) rfl (by kernel_rfl) (by kernel_rfl) (by kernel_rfl) (fun _ _ _ h => h) (Or.inl ⟨by rfl, ?_⟩) HS0 ?_
      · intro W' hW'
        go_simp
      simp only [Act.put, List.setIfInBounds_toArray, List.set_cons_zero, List.set_cons_succ]
      refine wpAnyH_take (i := 3) (oi := _) (v := .pointer (some ⟨w.heap.size + 1, 1, none⟩)) rfl (by kernel_rfl) (by kernel_rfl) (by kernel_rfl) (fun _ _ _ h => h) (Or.inl ⟨by rfl, ?_⟩) HS0 ?_
      · intro W' hW'
        go_simp
      simp only [Act.put, List.setIfInBounds_toArray, List.set_cons_zero, List.set_cons_succ]
      refine wpAnyH_take (i := 5) (oi := _) (v := .int .i64 (i : Int)) rfl (by kernel_rfl) (by kernel_rfl) (by kernel_rfl) (fun _ _ _ h => h) (Or.inl ⟨by rfl, ?_⟩) HS0 ?_
      · intro W' hW'
        go_simp
      simp only [Act.put, List.setIfInBounds_toArray, List.set_cons_zero, List.set_cons_succ]
      refine wpAnyH_take (i := 4) (oi := _) (v := .slice (some ⟨b', off', none⟩) B'.length c2') rfl (by kernel_rfl) (by kernel_rfl) (by kernel_rfl) (fun _ _ _ h => h) (Or.inl ⟨by rfl, ?_⟩) HS0 ?_
      · intro W' hW'
        have h := hW'.1; go_simp
      simp only [Act.put, List.setIfInBounds_toArray, List.set_cons_zero, List.set_cons_succ]
      refine wpAnyH_take (i := 6) (oi := _) (v := .pointer (some ⟨b', off' + i, none⟩)) rfl (by kernel_rfl) (by kernel_rfl) (by kernel_rfl) (fun _ _ _ h => h) (Or.inl ⟨by rfl, ?_⟩) HS0 ?_
      · intro W' hW'
        go_simp
      simp only [Act.put, List.setIfInBounds_toArray, List.set_cons_zero, List.set_cons_succ]
      refine wpAnyH_take (i := 7) (oi := _) (v := .int .u8 y) rfl (by kernel_rfl) (by kernel_rfl) (by kernel_rfl) (fun _ _ _ h => h) (Or.inl ⟨by rfl, ?_⟩) HS0 ?_
      · intro W' hW'
        have h := hW'.2; go_simp
      simp only [Act.put, List.setIfInBounds_toArray, List.set_cons_zero, List.set_cons_succ]
      refine wpAnyH_take (i := 8) (oi := _) (v := .agg #[.int .i64 (i : Int), .int .u8 x, .int .u8 y]) rfl (by kernel_rfl) (by kernel_rfl) (by kernel_rfl) (fun _ _ _ h => h) (Or.inl ⟨by rfl, ?_⟩) HS0 ?_
      · intro W' hW'
        go_simp
      simp only [Act.put, List.setIfInBounds_toArray, List.set_cons_zero, List.set_cons_succ]
      have hob : ∀ k, v.ownBlock = some k → w4.heap.size + 3 ≤ k ∧ k < W.heap.size := fun k hk => HR.out.lt k hk
      have hnb : ∀ k, k < w4.heap.size → some k ≠ v.ownBlock := fun k hk e => by have := hob k e.symm; omega
      have hw34 : w3.heap.size < w4.heap.size := by have := HZ.out; omega
      have hnb2 : some b' ≠ v.ownBlock := hnb b' (by omega)
      have hne' : b' ≠ w3.heap.size := by omega
      obtain ⟨i0, hi, hz0', hz1, hz2⟩ := info_parts Try.info89
      have hrowW := (HR.out.alloc (.cells #[.int .i64 (i : Int), .int .u8 x, .int .u8 y] 89)).drew
      have hnew := World.news_of_block (w := (W.alloc (.cells #[.int .i64 (i : Int), .int .u8 x, .int .u8 y] 89)).drew) (heap_alloc_new W (.cells #[.int .i64 (i : Int), .int .u8 x, .int .u8 y] 89))
      have c1 : ((W.alloc (.cells #[.int .i64 (i : Int), .int .u8 x, .int .u8 y] 89)).drew).cell? ⟨w.heap.size + 1, 1, none⟩ = some (.slice (some ⟨b', off', none⟩) B'.length c2') := by simp [go_sem, d1, hlt]
      have c2x : ((W.alloc (.cells #[.int .i64 (i : Int), .int .u8 x, .int .u8 y] 89)).drew).cell? ⟨b', off' + i, none⟩ = some (.int .u8 y) := by simp [go_sem, hbyte, hbl']
      have hcx : W.cell? ⟨w3.heap.size, 0, none⟩ = some v := by simp [World.cell?, HB.out]
      refine wpAnyH_ready (rs := [0, 9]) (by kernel_rfl) (by simp) ?_
      refine AllReadyH.cons (o := _) rfl (fun K hK => ?_) (AllReadyH.cons (o := _) rfl (fun K hK => ?_) AllReadyH.nil)
      · go_simp
        refine hK.out _ _ HS0 (fun hHeld => ?_)
        clear hK K
        try simp only [Act.put, List.setIfInBounds_toArray, List.set_cons_zero, List.set_cons_succ]
        refine wpAnyH_ready (rs := [9]) (by kernel_rfl) (by simp) ?_
        refine AllReadyH.cons (o := _) rfl (fun K hK => ?_) AllReadyH.nil
        go_simp
        refine hK.out _ _ ⟨c1, c2x⟩ (fun hHeld => ?_)
        clear hK K hHeld
        refine wpAnyH_ready (rs := [10]) (by kernel_rfl) (by simp) ?_
        refine AllReadyH.cons (o := _) rfl (fun K hK => ?_) AllReadyH.nil
        refine step_append_lies _ (by rfl) _ _ 78 (by rfl) (w4.heap.size + 3) 89 i0 (.agg #[.int .i64 0, .int .u8 0, .int .u8 0]) 3 16 Try.underlying78 hi hz0' hz1 hz2 rfl (by decide) v (dI B B' i).length (dC B B' (dI B B' i)) (by rfl) hrowW ⟨W.heap.size, 0, none⟩ 1 1 [.int .i64 (i : Int), .int .u8 x, .int .u8 y] (by rfl) (by rfl) hnew (by intro u hu; simp only [List.mem_cons, List.not_mem_nil, or_false] at hu; rcases hu with rfl | rfl | rfl <;> rfl) (by omega) (by unfold maxLen; omega) (by omega) (by simp only [World.drew]; simp; omega) _ rfl ?_
        intro g cap w2 hown2 hgrow hat hlt2
        have c3 : w2.cell? ⟨w.heap.size + 1, 1, none⟩ = some (.slice (some ⟨b', off', none⟩) B'.length c2') := (hgrow.cell_far _ (by simp only [World.drew]; simp; omega) (hnb (w.heap.size + 1) (by omega))).trans c1
        have c4 : w2.cell? ⟨b', off' + i, none⟩ = some (.int .u8 y) := (hgrow.cell_far _ (by simp only [World.drew]; simp; omega) hnb2).trans c2x
        refine hK.out _ _ ⟨c3, c4⟩ (fun hHeld => ?_)
        clear hK K hHeld
        have hrow2 : w2.heap[w3.heap.size]? = some (.cells #[v] 78 (0, 0)) := (hgrow.block _ (by simp only [World.drew]; simp; omega) (hnb w3.heap.size (by omega))).trans ((Below.heap_alloc _ _ _ hbl3).trans HB.out)
        have e1 : w2.cell? ⟨w3.heap.size, 0, none⟩ = some v := by simp [World.cell?, hrow2]
        have e2 : w2.frozen? ⟨w3.heap.size, 0, none⟩ = false := by simp [World.frozen?, hrow2]
        refine wpAnyH_ready (rs := [11]) (by kernel_rfl) (by simp) ?_
        refine AllReadyH.cons (o := _) rfl (fun K hK => ?_) AllReadyH.nil
        go_simp
        refine hK.out _ _ ⟨by rw [World.cell?_setCell_far _ _ _ _ (by show w3.heap.size ≠ w.heap.size + 1; omega)]; exact c3, by rw [World.cell?_setCell_far _ _ _ _ (by show w3.heap.size ≠ b'; exact fun e => hne' e.symm)]; exact c4⟩ (fun hHeld => ?_)
        clear hK K hHeld
        refine wpAnyH_done (by kernel_rfl) ?_ _
        have HX := bodyC_end H1.out H3.out hob hrow2 hown2 hgrow (fun W h => (HT.out W h).1) HZ.out (by omega) hm (by have := HZ.out; omega)
        have hlen : (dI B B' (i + 1)).length = (dI B B' i).length + 1 := by rw [HD.out]; simp
        have hcs : dC B B' (dI B B' (i + 1)) = dC B B' (dI B B' i) ++ [.int .i64 (i : Int), .int .u8 x, .int .u8 y] := HDC.out
        refine ⟨rfl, ?_, HX.2⟩
        show _ ∧ OutC _ _ (dI B B' (i + 1)).length (dC B B' (dI B B' (i + 1))) _ ∧ _
        rw [hlen, hcs]
        exact HX.1
      · go_simp
        refine hK.out _ _ ⟨c1, c2x⟩ (fun hHeld => ?_)
        clear hK K hHeld
        have hcx2 : ((W.alloc (.cells #[.int .i64 (i : Int), .int .u8 x, .int .u8 y] 89)).drew).cell? ⟨w3.heap.size, 0, none⟩ = some v := by simp [go_sem, hcx, hbl3]
        try simp only [Act.put, List.setIfInBounds_toArray, List.set_cons_zero, List.set_cons_succ]
        refine wpAnyH_ready (rs := [0]) (by kernel_rfl) (by simp) ?_
        refine AllReadyH.cons (o := _) rfl (fun K hK => ?_) AllReadyH.nil
        go_simp
        refine hK.out _ _ ⟨c1, c2x⟩ (fun hHeld => ?_)
        clear hK K hHeld
        try simp only [Act.put, List.setIfInBounds_toArray, List.set_cons_zero, List.set_cons_succ]
        refine wpAnyH_ready (rs := [10]) (by kernel_rfl) (by simp) ?_
        refine AllReadyH.cons (o := _) rfl (fun K hK => ?_) AllReadyH.nil
        refine step_append_lies _ (by rfl) _ _ 78 (by rfl) (w4.heap.size + 3) 89 i0 (.agg #[.int .i64 0, .int .u8 0, .int .u8 0]) 3 16 Try.underlying78 hi hz0' hz1 hz2 rfl (by decide) v (dI B B' i).length (dC B B' (dI B B' i)) (by rfl) hrowW ⟨W.heap.size, 0, none⟩ 1 1 [.int .i64 (i : Int), .int .u8 x, .int .u8 y] (by rfl) (by rfl) hnew (by intro u hu; simp only [List.mem_cons, List.not_mem_nil, or_false] at hu; rcases hu with rfl | rfl | rfl <;> rfl) (by omega) (by unfold maxLen; omega) (by omega) (by simp only [World.drew]; simp; omega) _ rfl ?_
        intro g cap w2 hown2 hgrow hat hlt2
        have c3 : w2.cell? ⟨w.heap.size + 1, 1, none⟩ = some (.slice (some ⟨b', off', none⟩) B'.length c2') := (hgrow.cell_far _ (by simp only [World.drew]; simp; omega) (hnb (w.heap.size + 1) (by omega))).trans c1
        have c4 : w2.cell? ⟨b', off' + i, none⟩ = some (.int .u8 y) := (hgrow.cell_far _ (by simp only [World.drew]; simp; omega) hnb2).trans c2x
        refine hK.out _ _ ⟨c3, c4⟩ (fun hHeld => ?_)
        clear hK K hHeld
        have hrow2 : w2.heap[w3.heap.size]? = some (.cells #[v] 78 (0, 0)) := (hgrow.block _ (by simp only [World.drew]; simp; omega) (hnb w3.heap.size (by omega))).trans ((Below.heap_alloc _ _ _ hbl3).trans HB.out)
        have e1 : w2.cell? ⟨w3.heap.size, 0, none⟩ = some v := by simp [World.cell?, hrow2]
        have e2 : w2.frozen? ⟨w3.heap.size, 0, none⟩ = false := by simp [World.frozen?, hrow2]
        refine wpAnyH_ready (rs := [11]) (by kernel_rfl) (by simp) ?_
        refine AllReadyH.cons (o := _) rfl (fun K hK => ?_) AllReadyH.nil
        go_simp
        refine hK.out _ _ ⟨by rw [World.cell?_setCell_far _ _ _ _ (by show w3.heap.size ≠ w.heap.size + 1; omega)]; exact c3, by rw [World.cell?_setCell_far _ _ _ _ (by show w3.heap.size ≠ b'; exact fun e => hne' e.symm)]; exact c4⟩ (fun hHeld => ?_)
        clear hK K hHeld
        refine wpAnyH_done (by kernel_rfl) ?_ _
        have HX := bodyC_end H1.out H3.out hob hrow2 hown2 hgrow (fun W h => (HT.out W h).1) HZ.out (by omega) hm (by have := HZ.out; omega)
        have hlen : (dI B B' (i + 1)).length = (dI B B' i).length + 1 := by rw [HD.out]; simp
        have hcs : dC B B' (dI B B' (i + 1)) = dC B B' (dI B B' i) ++ [.int .i64 (i : Int), .int .u8 x, .int .u8 y] := HDC.out
        refine ⟨rfl, ?_, HX.2⟩
        show _ ∧ OutC _ _ (dI B B' (i + 1)).length (dC B B' (dI B B' (i + 1))) _ ∧ _
        rw [hlen, hcs]
        exact HX.1
    · have hc1 : (B'[i]?.getD 0 != B[i]?.getD 0) = false := by simpa [chg] using hc
      have hdI : dI B B' (i + 1) = dI B B' i := by simp [dI, hc]
      have HD := Lib.hid hdI
      clear hdI hc
      generalize B'[i]?.getD 0 = y at hc1 hbyte ⊢
      generalize B[i]?.getD 0 = x at hc1 ⊢
      clear hl4
      gi_wp2
      refine ⟨⟨H1.out, ?_, H3.out⟩, Lies.refl _ _ _⟩
      rw [HD.out]
      exact ⟨v, HB.out, HR.out⟩
  case fin =>
    rintro e W hE ⟨h1, h2, h3⟩ hD
    rcases hE with ⟨hk, v, rfl⟩ | ⟨hk, rfl⟩
    · rename_i K0 hK0
      have hw4 : w0.heap.size ≤ w4.heap.size := by omega
      obtain ⟨u, hu1, hu2⟩ := h2
      obtain ⟨ao, co, rfl⟩ := own_slice hu2
      have hcu : W.cell? ⟨w3.heap.size, 0, none⟩ = some (.slice ao (dI B B' (kN P B 0 0 B.length)).length co) := by simp [World.cell?, hu1]
      refine hK0 _ _ ?_
      have HU := Lib.hid hu1
      have HU2 := Lib.hid hu2
      have H1 := Lib.hid h1
      have H3 := Lib.hid h3
      have HD := Lib.hid hD
      have HN := Lib.hid hkN
      clear hu1 hu2 h1 h3 hD hk hkN hvis hsz hb4 hb_ hbo4 HKw hw0 hz0
      have HK0 := Lib.hid HK
      clear HK
      gi_wp2
      refine ⟨by simp, .inl ⟨_, _, rfl, run_takeDeferred HD.out, ?_⟩⟩
      refine ⟨.tuple #[.slice ao (dI B B' (kN P B 0 0 B.length)).length co, .int .i64 0], by simp [results, Try.results39, go_sem], ?_⟩
      have htp : Turned w4.heap.size (w4.heap.size + 1) W (W.putObj w4.heap.size (.deferred none)) := (Turned.refl w4.heap.size (w4.heap.size + 1) W).putObj (.deferred none) (Nat.le_refl _) (by omega)
      have ho := ownsRow_turned HU2.out htp (by omega)
      have hb : Below w.heap.size w (W.putObj w4.heap.size (.deferred none)) := HK0.out.base.trans (((H3.out.below (B := w.heap.size) (by omega) (by omega)).trans (htp.below (by have := H3.out.size; omega) (by have := HK0.out.base.size; omega))))
      exact ⟨ao, co, by rw [HN.out], by have := slV_own ho; rwa [HN.out] at this, by have := SlAt.own3 ho; rwa [HN.out] at this, hb⟩
    · exact absurd hkN (Nat.ne_of_lt hk)
set_option linter.unusedSimpArgs false in
set_option linter.unusedVariables false in
set_option maxHeartbeats 4000000 in
set_option maxRecDepth 100000 in
theorem diff_n (a : Option Addr) (c : Nat) (a2 : Option Addr) (c2 : Nat) (P B : List Int) (a' : Option Addr) (c' : Nat) (a2' : Option Addr) (c2' : Nat) (P' B' : List Int) (w : World) (hs : SpIn w a c a2 c2 P B) (hs' : SpIn w a' c' a2' c2' P' B') (hck : chk P B.length = false) :
    Calls Try.prog 39 #[.agg #[.slice a P.length c, .slice a2 B.length c2], .agg #[.slice a' P'.length c', .slice a2' B'.length c2']] w (DfPost [] 0 30 w) := by
  have HS := Lib.hid hs
  have HS' := Lib.hid hs'
  have HC := Lib.hid hck
  clear hs hs' hck
  refine (callsIn_wide (n := 0)).1 ?_
  refine callsIn_of_wp_marks Try.func39 rfl trivial ?_
  simp only [Try.ntmps39, List.size_toArray, List.length_cons, List.length_nil, Nat.reduceAdd, Nat.reduceSub, Array.replicate_succ, Array.replicate_zero, List.push_toArray, List.append_toArray, List.nil_append, List.cons_append]
  have HK := Kw.start w
  gi_wp2_with fail
  replace HK := HK.box (vs := [.slice a P.length c, .slice a2 B.length c2]) (t := 25)
  replace HK := HK.box (vs := [.slice a' P'.length c', .slice a2' B'.length c2']) (t := 25)
  simp only [World.size_alloc] at HK
  refine ⟨trivial, rfl, (callsIn_wide.2 (check_n _ _ _ _ _ _ _ (HS.out.below HK.base) HC.out)).mono ?_⟩
  rintro e w1 ⟨rfl, hq⟩
  replace HK := HK.below hq
  clear hq
  have hK := HK.base
  clear HK
  gi_wp2
  refine ⟨trivial, ?_⟩
  gi_wp2
  exact ⟨.tuple #[.slice none 0 0, .int .i64 30], by simp [results, Try.results39, go_sem], none, 0, rfl, ⟨Nat.le_refl _, by unfold maxLen; omega, fun _ => ⟨rfl, rfl⟩⟩, .inl rfl, hK⟩
set_option linter.unusedSimpArgs false in
set_option linter.unusedVariables false in
set_option maxHeartbeats 4000000 in
set_option maxRecDepth 100000 in
theorem diff_n2 (a : Option Addr) (c : Nat) (a2 : Option Addr) (c2 : Nat) (P B : List Int) (a' : Option Addr) (c' : Nat) (a2' : Option Addr) (c2' : Nat) (P' B' : List Int) (w : World) (hs : SpIn w a c a2 c2 P B) (hs' : SpIn w a' c' a2' c2' P' B') (hck : chk P B.length = true) (hck' : chk P' B'.length = false) :
    Calls Try.prog 39 #[.agg #[.slice a P.length c, .slice a2 B.length c2], .agg #[.slice a' P'.length c', .slice a2' B'.length c2']] w (DfPost [] 0 30 w) := by
  have HS := Lib.hid hs
  have HS' := Lib.hid hs'
  have HC := Lib.hid hck
  clear hs hs' hck
  have HC' := Lib.hid hck'
  clear hck'
  refine (callsIn_wide (n := 0)).1 ?_
  refine callsIn_of_wp_marks Try.func39 rfl trivial ?_
  simp only [Try.ntmps39, List.size_toArray, List.length_cons, List.length_nil, Nat.reduceAdd, Nat.reduceSub, Array.replicate_succ, Array.replicate_zero, List.push_toArray, List.append_toArray, List.nil_append, List.cons_append]
  have HK := Kw.start w
  gi_wp2_with fail
  replace HK := HK.box (vs := [.slice a P.length c, .slice a2 B.length c2]) (t := 25)
  replace HK := HK.box (vs := [.slice a' P'.length c', .slice a2' B'.length c2']) (t := 25)
  simp only [World.size_alloc] at HK
  refine ⟨trivial, rfl, (callsIn_wide.2 (check_y _ _ _ _ _ _ _ (HS.out.below HK.base) HC.out)).mono ?_⟩
  rintro e w1 ⟨rfl, hq⟩
  replace HK := HK.below hq
  clear hq
  have b_0 := HK.get 0 0 rfl rfl
  have b_1 := HK.get 0 1 rfl rfl
  gi_wp2_with fail
  clear b_0 b_1
  refine ⟨trivial, rfl, (callsIn_wide.2 (check_n _ _ _ _ _ _ _ (HS'.out.below HK.base) HC'.out)).mono ?_⟩
  rintro e w2 ⟨rfl, hq⟩
  replace HK := HK.below hq
  clear hq
  have hK := HK.base
  clear HK
  gi_wp2
  exact ⟨.tuple #[.slice none 0 0, .int .i64 30], by simp [results, Try.results39, go_sem], none, 0, rfl, ⟨Nat.le_refl _, by unfold maxLen; omega, fun _ => ⟨rfl, rfl⟩⟩, .inl rfl, hK⟩
set_option linter.unusedSimpArgs false in
set_option linter.unusedVariables false in
set_option maxHeartbeats 4000000 in
set_option maxRecDepth 100000 in
theorem diff_p (a : Option Addr) (c : Nat) (a2 : Option Addr) (c2 : Nat) (P B : List Int) (a' : Option Addr) (c' : Nat) (a2' : Option Addr) (c2' : Nat) (P' B' : List Int) (w : World) (hs : SpIn w a c a2 c2 P B) (hs' : SpIn w a' c' a2' c2' P' B') (hck : chk P B.length = true) (hck' : chk P' B'.length = true) (hne : P ≠ P') :
    Calls Try.prog 39 #[.agg #[.slice a P.length c, .slice a2 B.length c2], .agg #[.slice a' P'.length c', .slice a2' B'.length c2']] w (DfPost [] 0 1 w) := by
  have HS := Lib.hid hs
  have HS' := Lib.hid hs'
  have HC := Lib.hid hck
  clear hs hs' hck
  have HC' := Lib.hid hck'
  clear hck'
  have HN := Lib.hid hne
  clear hne
  refine (callsIn_wide (n := 0)).1 ?_
  refine callsIn_of_wp_marks Try.func39 rfl trivial ?_
  simp only [Try.ntmps39, List.size_toArray, List.length_cons, List.length_nil, Nat.reduceAdd, Nat.reduceSub, Array.replicate_succ, Array.replicate_zero, List.push_toArray, List.append_toArray, List.nil_append, List.cons_append]
  have HK := Kw.start w
  gi_wp2_with fail
  replace HK := HK.box (vs := [.slice a P.length c, .slice a2 B.length c2]) (t := 25)
  replace HK := HK.box (vs := [.slice a' P'.length c', .slice a2' B'.length c2']) (t := 25)
  simp only [World.size_alloc] at HK
  refine ⟨trivial, rfl, (callsIn_wide.2 (check_y _ _ _ _ _ _ _ (HS.out.below HK.base) HC.out)).mono ?_⟩
  rintro e w1 ⟨rfl, hq⟩
  replace HK := HK.below hq
  clear hq
  have b_0 := HK.get 0 0 rfl rfl
  have b_1 := HK.get 0 1 rfl rfl
  gi_wp2_with fail
  clear b_0 b_1
  refine ⟨trivial, rfl, (callsIn_wide.2 (check_y _ _ _ _ _ _ _ (HS'.out.below HK.base) HC'.out)).mono ?_⟩
  rintro e w2 ⟨rfl, hq⟩
  replace HK := HK.below hq
  clear hq
  have b_0 := HK.get 0 0 rfl rfl
  have a_0 := HK.get 1 0 rfl rfl
  gi_wp2_with fail
  clear b_0 a_0
  have hE : Calls Try.prog 53 #[.slice a P.length c, .slice a' P'.length c'] w2 fun e w' => e = .returned (.bool false) ∧ Below w2.heap.size w2 w' := by
    have := slicesEqual_c a c a' c' P P' w2 HS.out.v1 HS'.out.v1 (HS.out.below HK.base).s1 (HS'.out.below HK.base).s1
    rwa [decide_eq_false HN.out] at this
  refine ⟨trivial, rfl, (callsIn_wide.2 hE).mono ?_⟩
  clear hE
  rintro e w3 ⟨rfl, hq⟩
  replace HK := HK.below hq
  clear hq
  have hK := HK.base
  clear HK
  gi_wp2
  exact ⟨.tuple #[.slice none 0 0, .int .i64 1], by simp [results, Try.results39, go_sem], none, 0, rfl, ⟨Nat.le_refl _, by unfold maxLen; omega, fun _ => ⟨rfl, rfl⟩⟩, .inl rfl, hK⟩
end Go.Proofs.Ytdbcbmdekdfdoaa
