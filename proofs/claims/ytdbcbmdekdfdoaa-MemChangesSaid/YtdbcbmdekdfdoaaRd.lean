/- WHAT IS PROVED: mem.read: the bytes of an access ahead of its fault, and this fault. CONDITIONS: a valid space; at most 4096 bytes. -/
import Derived.Test.YtdbcbmdekdfdoaaFa
import Derived.Maps.AppendAt
namespace Go.Proofs.Ytdbcbmdekdfdoaa
open Go Go.RowKit Go.QrBits Go.QrMem
attribute [local go_sem] Oper.semAt_some

/-- The bytes from an address on. -/
def rd (bytes : List Int) (t : Int) (i : Nat) : List Int := (List.range i).map fun (j : Nat) => bytes[(t + (j : Int)).toNat]?.getD 0
theorem rd_len (bytes : List Int) (t : Int) (i : Nat) : (rd bytes t i).length = i := by simp [rd]
theorem rd_succ (bytes : List Int) (t : Int) (i : Nat) : rd bytes t (i + 1) = rd bytes t i ++ [bytes[(t + (i : Int)).toNat]?.getD 0] := by simp [rd, List.range_succ]
/-- The variable in block bo holds a slice of one's own with the bytes. -/
def OutIs (bo base : Nat) (xs : List Int) (W : World) : Prop := ∃ v : Value, W.heap[bo]? = some (.cells #[v] 23 (0, 0)) ∧ W.ownsRow base 5 1 v xs.length (bV xs)

theorem ownsRow_turned {S T base e size n : Nat} {v : Value} {xs : List Value} {W W' : World} (h : W.ownsRow base e size v n xs) (ht : Turned S T W W') (hb : T ≤ base) : W'.ownsRow base e size v n xs := by
  obtain ⟨h1, (h2 | ⟨g, cap, cur, h3, h4, h5, h6⟩)⟩ := h
  · exact ⟨h1, .inl h2⟩
  · exact ⟨h1, .inr ⟨g, cap, cur, h3, h4, ht.blk h5 (by omega), h6⟩⟩
theorem OutIs.turned {bo base S T : Nat} {xs : List Int} {W W' : World} (h : OutIs bo base xs W) (ht : Turned S T W W') (hb : T ≤ base) (hbo : bo < S) : OutIs bo base xs W' := by
  obtain ⟨v, h1, h2⟩ := h
  exact ⟨v, ht.blk h1 (.inl hbo), ownsRow_turned h2 ht hb⟩
theorem VisIn.turned {S T pn pt ps pq : Nat} {n t need : Int} {a : Option Addr} {c : Nat} {a2 : Option Addr} {c2 : Nat} {perm bytes : List Int} {W W' : World} (h : VisIn pn pt ps pq n t need a c a2 c2 perm bytes W) (ht : Turned S T W W')
    (h1 : pn < S) (h2 : pt < S) (h3 : ps < S) (h4 : pq < S) (hs : SpIn W' a c a2 c2 perm bytes) : VisIn pn pt ps pq n t need a c a2 c2 perm bytes W' := by
  obtain ⟨v1, v2, v3, v4, v5, _⟩ := h
  exact ⟨by rw [ht.cell (World.block_lt_of_cell? _ _ v1) (.inl h1)]; exact v1, by rw [ht.cell (World.block_lt_of_cell? _ _ v2) (.inl h2)]; exact v2, by rw [ht.cell (World.block_lt_of_cell? _ _ v3) (.inl h3)]; exact v3,
    by rw [ht.cell (World.block_lt_of_cell? _ _ v4) (.inl h3)]; exact v4, by rw [ht.cell (World.block_lt_of_cell? _ _ v5) (.inl h4)]; exact v5, hs⟩
/-- What a store into another block leaves of it. -/
theorem VisIn.of_cells {pn pt ps pq : Nat} {n t need : Int} {a : Option Addr} {c : Nat} {a2 : Option Addr} {c2 : Nat} {perm bytes : List Int} {W W' : World} (h : VisIn pn pt ps pq n t need a c a2 c2 perm bytes W)
    (hk : ∀ k, (k = pn ∨ k = pt ∨ k = ps ∨ k = pq) → W'.heap[k]? = W.heap[k]?) (hs : SpIn W' a c a2 c2 perm bytes) : VisIn pn pt ps pq n t need a c a2 c2 perm bytes W' := by
  obtain ⟨v1, v2, v3, v4, v5, _⟩ := h
  have hc : ∀ k o, (k = pn ∨ k = pt ∨ k = ps ∨ k = pq) → W'.cell? ⟨k, o, none⟩ = W.cell? ⟨k, o, none⟩ := fun k o h => World.cell?_of_block (w := W) (a := ⟨k, o, none⟩) (hk k h)
  exact ⟨by rw [hc _ _ (by simp)]; exact v1, by rw [hc _ _ (by simp)]; exact v2, by rw [hc _ _ (by simp)]; exact v3, by rw [hc _ _ (by simp)]; exact v4, by rw [hc _ _ (by simp)]; exact v5, hs⟩
/-- The four boxes of visit. -/
theorem vis_boxes {w w1 : World} {a : Option Addr} {c : Nat} {a2 : Option Addr} {c2 : Nat} {perm bytes : List Int} {t n need : Int} (h : w1 = (((w.alloc (.cells #[.slice a perm.length c, .slice a2 bytes.length c2] 25)).alloc (.cells #[.int .i64 t] 2)).alloc (.cells #[.int .i64 n] 3)).alloc (.cells #[.int .i64 need] 3)) (hs : SpIn w a c a2 c2 perm bytes) :
    VisIn (w.heap.size + 2) (w.heap.size + 1) w.heap.size (w.heap.size + 3) n t need a c a2 c2 perm bytes w1 ∧ w1.heap.size = w.heap.size + 4 ∧ Below w.heap.size w w1 := by
  have hb : Below w.heap.size w w1 := by rw [h]; exact b_alloc (b_alloc (b_alloc (b_alloc (Below.refl _ _))))
  subst h
  exact ⟨⟨by simp [go_sem], by simp [go_sem], by simp [go_sem], by simp [go_sem], by simp [go_sem], hs.below hb⟩, by simp, hb⟩

theorem Turned.grown {A B : Nat} {w W W' : World} {row : Option Nat} (h : Turned A B w W) (hg : W.grownBy W' row) (hr : ∀ k, row = some k → w.heap.size ≤ k) : Turned A B w W' :=
  ⟨hg.os.trans h.os, hg.tape.trans h.tape, hg.output.trans h.output, Nat.le_trans h.size hg.size, fun i hi ho => (hg.block i (Nat.lt_of_lt_of_le hi h.size) (fun e => by have := hr i e.symm; omega)).trans (h.block i hi ho)⟩
theorem body_end {bo i S g' cap' : Nat} {w W w2 : World} {o : Obj} {v : Value} {y : Int} {pn pt ps pq : Nat} {n t need : Int} {a : Option Addr} {c : Nat} {a2 : Option Addr} {c2 : Nat} {perm bytes xs ys : List Int}
    (h1 : VisIn pn pt ps pq n t need a c a2 c2 perm bytes W) (h3 : Turned bo (bo + 1) w W) (hob : ∀ k, v.ownBlock = some k → S + 3 ≤ k ∧ k < W.heap.size) (hb2 : w2.heap[bo]? = some (.cells #[v] 23 (0, 0)))
    (hown : w2.ownsRow (S + 3) 5 1 (.slice (some ⟨g', 0, none⟩) (i + 1) cap') (i + 1) (bV xs ++ [.int .u8 y])) (hg : (W.alloc o).grownBy w2 v.ownBlock) (hs : ∀ W, Turned bo (bo + 1) w W → SpIn W a c a2 c2 perm bytes)
    (hr : ys = xs ++ [y]) (hsz : S = w.heap.size + 4) (hbl : bo < w.heap.size) (hm : S + 2 + 1 ≤ W.heap.size) (hp : (pn < S ∧ pn ≠ bo) ∧ (pt < S ∧ pt ≠ bo) ∧ (ps < S ∧ ps ≠ bo) ∧ (pq < S ∧ pq ≠ bo)) (hy : ys.length = i + 1) :
    VisIn pn pt ps pq n t need a c a2 c2 perm bytes (w2.setCell ⟨bo, 0, none⟩ (.slice (some ⟨g', 0, none⟩) (i + 1) cap')) ∧ OutIs bo (S + 3) ys (w2.setCell ⟨bo, 0, none⟩ (.slice (some ⟨g', 0, none⟩) (i + 1) cap')) ∧
      Turned bo (bo + 1) w (w2.setCell ⟨bo, 0, none⟩ (.slice (some ⟨g', 0, none⟩) (i + 1) cap')) := by
  have h4 : Turned bo (bo + 1) w (w2.setCell ⟨bo, 0, none⟩ (.slice (some ⟨g', 0, none⟩) (i + 1) cap')) :=
    (Turned.grown (h3.alloc o) hg (fun k hk => by have := hob k hk; omega)).setCell _ (Nat.le_refl _) (by show bo < bo + 1; omega)
  refine ⟨h1.of_cells (fun k hk => ?_) (hs _ h4), ⟨.slice (some ⟨g', 0, none⟩) (i + 1) cap', ?_, ?_⟩, h4⟩
  · have hk2 : k < S ∧ k ≠ bo := by rcases hk with rfl | rfl | rfl | rfl
                                    · exact hp.1
                                    · exact hp.2.1
                                    · exact hp.2.2.1
                                    · exact hp.2.2.2
    rw [Below.heap_setCell _ _ _ _ hk2.2, hg.block k (by simp; omega) (fun e => by have := hob k e.symm; omega)]
    exact Below.heap_alloc _ _ _ (by omega)
  · have := heap_setCell_same w2 bo 0 #[v] 23 (.slice (some ⟨g', 0, none⟩) (i + 1) cap') hb2
    simpa using this
  · have e : bV ys = bV xs ++ [.int .u8 y] := by rw [hr]; simp [bV]
    rw [e, hy]
    exact ownsRow_setCell_below hown (by show bo < S + 3; omega) _
theorem body_lies {bo S : Nat} {w W w2 : World} {o : Obj} {v u : Value} (hob : ∀ k, v.ownBlock = some k → S + 3 ≤ k ∧ k < W.heap.size) (hg : (W.alloc o).grownBy w2 v.ownBlock) (hsz : S = w.heap.size + 4) (hbl : bo < w.heap.size) (hm : S + 2 + 1 ≤ W.heap.size) :
    Lies S (S + 2 + 1) W (w2.setCell ⟨bo, 0, none⟩ u) :=
  (((Lies.refl _ _ W).alloc o hm).grown hg (by simp; omega) (fun k hk => by have := hob k hk; omega)).setCell _ (.inl (by show bo < S; omega))

set_option maxHeartbeats 4000000 in
set_option maxRecDepth 100000 in
theorem read1_c (ps pt pn pq bo : Nat) (n : Nat) (t need : Int) (a : Option Addr) (c : Nat) (a2 : Option Addr) (c2 : Nat) (perm bytes : List Int) (w0 w : World) (hck : chk perm bytes.length = true) (hn : n ≤ 4096) (ht : I64 t)
    (hv : VisIn pn pt ps pq n t need a c a2 c2 perm bytes w) (hsp : SpIn w0 a c a2 c2 perm bytes) (hb0 : Below w0.heap.size w0 w) (hbo0 : w0.heap.size ≤ bo) (hbo : w.heap[bo]? = some (.cells #[.slice none 0 0] 23 (0, 0))) :
    Calls Try.prog 71 #[.pointer (some ⟨ps, 0, none⟩), .pointer (some ⟨pt, 0, none⟩), .pointer (some ⟨pn, 0, none⟩), .pointer (some ⟨pq, 0, none⟩), .pointer (some ⟨bo, 0, none⟩)] w fun e w' =>
      visE perm bytes t need n e ∧ OutIs bo w.heap.size (rd bytes t (kN perm bytes t need n)) w' ∧ Turned bo (bo + 1) w w' := by
  obtain ⟨v1, v2, v3, v4, v5, vs⟩ := hv
  have hbl : bo < w.heap.size := (Array.getElem?_eq_some_iff.1 hbo).1
  refine (callsIn_wide (n := 0)).1 ?_
  refine callsIn_of_wp_marks Try.func71 rfl trivial ?_
  simp only [Try.ntmps71, List.size_toArray, List.length_cons, List.length_nil, Nat.reduceAdd, Nat.reduceSub, Array.replicate_succ, Array.replicate_zero, List.push_toArray, List.append_toArray, List.nil_append, List.cons_append]
  gi_wp2_with fail
  refine ⟨trivial, rfl, ?_⟩
  refine (callsIn_wide.2 (visit_c _ _ _ _ _ _)).mono ?_
  rintro e w1 ⟨rfl, hw1⟩
  gi_wp2_with fail
  rw [← hw1]
  obtain ⟨hvis, hsz, hb1⟩ := vis_boxes hw1 vs
  have hbo1 : w1.heap[bo]? = some (.cells #[.slice none 0 0] 23 (0, 0)) := (hb1.block bo hbl).trans hbo
  have hspT : ∀ W, Turned bo (bo + 1) w W → SpIn W a c a2 c2 perm bytes := fun W h => hsp.below (hb0.trans (h.below (Nat.le_trans hbo0 (Nat.le_of_lt hbl)) hbo0))
  have HS := Lib.hid hspT
  have HC := Lib.hid hck
  clear hw1 v1 v2 v3 v4 v5 vs hspT hb0 hsp hbo
  refine wp_range (gf := 78) (lb := #[.pointer (some ⟨w.heap.size + 2, 0, none⟩), .pointer (some ⟨w.heap.size + 1, 0, none⟩), .pointer (some ⟨w.heap.size, 0, none⟩), .pointer (some ⟨w.heap.size + 3, 0, none⟩)]) (encs := visEnc bytes t) (m := 1)
    (k := kN perm bytes t need n) (V := VisIn (w.heap.size + 2) (w.heap.size + 1) w.heap.size (w.heap.size + 3) n t need a c a2 c2 perm bytes) (E := visE perm bytes t need n) rfl (enters_of Try.func78 (by kernel_rfl) rfl) (fun _ => rfl)
    (visit1_c _ _ _ _ n t need a c a2 c2 perm bytes hck hn ht)
    (fun i W => VisIn (w.heap.size + 2) (w.heap.size + 1) w.heap.size (w.heap.size + 3) n t need a c a2 c2 perm bytes W ∧ OutIs bo (w1.heap.size + 3) (rd bytes t i) W ∧ Turned bo (bo + 1) w W)
    ?hI (fun _ _ h => h.1) ⟨hvis, ⟨_, hbo1, World.ownsRow_nil _ _ _ _⟩, Turned.of_below hb1⟩
    (fun i => { tmps := #[.pointer (some ⟨ps, 0, none⟩), .pointer (some ⟨pt, 0, none⟩), .pointer (some ⟨pn, 0, none⟩), .pointer (some ⟨pq, 0, none⟩), .pointer (some ⟨bo, 0, none⟩), undef, .int .u8 (bytes[(t + (i : Int)).toNat]?.getD 0), .agg #[.slice a perm.length c, .slice a2 bytes.length c2], .int .i64 t, .int .i64 n, .int .i64 need,
      .func (.func 78) #[] #[.pointer (some ⟨w.heap.size + 2, 0, none⟩), .pointer (some ⟨w.heap.size + 1, 0, none⟩), .pointer (some ⟨w.heap.size, 0, none⟩), .pointer (some ⟨w.heap.size + 3, 0, none⟩)], .int .i64 (t + (i : Int)), .int .u8 (bytes[(t + (i : Int)).toNat]?.getD 0), undef, undef, undef, undef], defers := [] })
    ?assign ?body ?fin
  case hI =>
    rintro i W W' ⟨h1, h2, h3⟩ htd
    have h4 : Turned bo (bo + 1) w W' := h3.trans_new htd (by omega)
    exact ⟨h1.turned htd (by omega) (by omega) (by omega) (by omega) (HS.out _ h4), h2.turned htd (by omega) (by omega), h4⟩
  case assign =>
    intro l i W K hK
    simp only [visEnc]
    gi_wp2
    exact hK
  case body =>
    rintro l i W ⟨h1, ⟨v, hbx, hrow⟩, h3⟩ hik hm
    rw [rd_len] at hrow
    obtain ⟨i0, hi, hz0, hz1, hz2⟩ := info_parts Try.info5
    have hkn : kN perm bytes t need n ≤ n := lead_le _ n
    have hob : ∀ k, v.ownBlock = some k → w1.heap.size + 3 ≤ k ∧ k < W.heap.size := fun k hk => hrow.lt k hk
    have hvb : (some bo : Option Nat) ≠ v.ownBlock := fun e => by have := hob bo e.symm; omega
    have hcx : W.cell? ⟨bo, 0, none⟩ = some v := by simp [World.cell?, hbx]
    have hbW : bo < W.heap.size := (Array.getElem?_eq_some_iff.1 hbx).1
    have H1 := Lib.hid h1
    have H3 := Lib.hid h3
    have HB := Lib.hid hbx
    have HO := Lib.hid hob
    have hrs := rd_succ bytes t i
    generalize bytes[(t + (i : Int)).toNat]?.getD 0 = y at hrs ⊢
    have HR := Lib.hid hrs
    clear h1 h3 hbx hrs hob
    have HZ := Lib.hid hsz
    have hsz2 : w1.heap.size ≥ w.heap.size + 4 := by omega
    clear hsz hbo1
    gi_wp2_with (gi_at_builtin; refine wpListIn_append_own _ rfl _ _ 23 rfl (w1.heap.size + 3) 5 i0 (.int .u8 0) 1 1 Try.underlying23 hi hz0 hz1 hz2 rfl (by decide) _ _ _ rfl (hrow.alloc _) ⟨W.heap.size, 0, none⟩ 1 1 [.int .u8 y] rfl rfl ?c1 ?c2 ?c3 ?c4 ?c5 ?_)
    case c1 => exact cell_one_new _ _ _
    case c2 => intro u hu; simp at hu; subst hu; rfl
    case c3 => unfold maxLen; omega
    case c4 => omega
    case c5 => simp only [World.size_alloc]; omega
    intro v' w2 hown' hgrow _
    obtain ⟨g', cap', rfl⟩ := ownsRow_succ hown'
    have hrow2 : w2.heap[bo]? = some (.cells #[v] 23 (0, 0)) := (hgrow.block bo (by simp only [World.size_alloc]; omega) hvb).trans ((Below.heap_alloc _ _ _ hbW).trans HB.out)
    have hc2 : w2.cell? ⟨bo, 0, none⟩ = some v := by simp [World.cell?, hrow2]
    have hf2 : w2.frozen? ⟨bo, 0, none⟩ = false := by simp [World.frozen?, hrow2]
    have HB2 := Lib.hid hrow2
    clear hrow2
    gi_wp2
    exact ⟨body_end H1.out H3.out HO.out HB2.out hown' hgrow HS.out HR.out HZ.out hbl hm (by have := HZ.out; omega) (rd_len _ _ _), body_lies HO.out hgrow HZ.out hbl hm⟩
  case fin =>
    rintro e W hE ⟨h1, h2, h3⟩ hD
    have ho : OutIs bo w.heap.size (rd bytes t (kN perm bytes t need n)) (W.putObj w1.heap.size (.deferred none)) := by
      obtain ⟨v, k1, k2⟩ := h2.turned ((Turned.refl w1.heap.size (w1.heap.size + 1) W).putObj (.deferred none) (Nat.le_refl _) (by omega)) (by omega) (by omega)
      exact ⟨v, k1, ownsRow_base k2 (by omega)⟩
    have ht3 : Turned bo (bo + 1) w (W.putObj w1.heap.size (.deferred none)) := h3.trans_new ((Turned.refl w1.heap.size (w1.heap.size + 1) W).putObj (.deferred none) (Nat.le_refl _) (by omega)) (by omega)
    rcases hE with ⟨hk, v, rfl⟩ | ⟨hk, rfl⟩
    · refine ⟨by simp, .inl ⟨_, _, rfl, run_takeDeferred hD, ?_⟩⟩
      exact ⟨.tuple #[], results_none rfl _ _ _, .inl ⟨hk, _, rfl⟩, ho, ht3⟩
    · refine ⟨by simp, .inl ⟨_, _, rfl, run_takeDeferred hD, ?_⟩⟩
      exact ⟨.inr ⟨hk, rfl⟩, ho, ht3⟩
end Go.Proofs.Ytdbcbmdekdfdoaa
