/- WHAT IS PROVED: the closure of mem.write: the bytes ahead of the fault are stored. CONDITIONS: a valid space; at most 4096 bytes. -/
import Derived.Test.YtdbcbmdekdfdoaaAc
import Derived.Test.YtdbcbmdekdfdoaaRi
namespace Go.Proofs.Ytdbcbmdekdfdoaa
open Go Go.RowKit Go.QrBits Go.QrMem
attribute [local go_sem] Oper.semAt_some reg_cell reg_frozen reg_setCell reg_lt reg_lt_add reg_drew reg_of_drew

/-- The bytes with the first i of others from an address on. -/
def wrB (bytes : List Int) (t : Int) (bs : List Int) : Nat → List Int
  | 0 => bytes
  | i + 1 => (wrB bytes t bs i).set (t + (i : Int)).toNat (bs[i]?.getD 0)
theorem wrB_len (bytes : List Int) (t : Int) (bs : List Int) : ∀ i, (wrB bytes t bs i).length = bytes.length
  | 0 => rfl
  | i + 1 => by rw [wrB, List.length_set, wrB_len bytes t bs i]

theorem w_end {g base i S cg : Nat} {p : Regrown} {w W : World} {y : Int} {pn pt ps pq : Nat} {n t need : Int} {a : Option Addr} {c : Nat} {a2 : Option Addr} {c2 : Nat} {perm bytes bs : List Int}
    (h1 : VisIn pn pt ps pq n t need a c a2 c2 perm bytes W) (h2 : W.ownsRow base 5 1 (.slice (some ⟨g, 0, none⟩) bytes.length cg) bytes.length (bV (wrB bytes t bs i))) (h3 : Turned g (g + 1) w W)
    (hs : ∀ W, Turned g (g + 1) w W → SpIn W a c a2 c2 perm bytes) (hy : bs[i]?.getD 0 = y) (hsz : S = w.heap.size + 4) (hgw : g < w.heap.size) (hm : S + 2 + 1 ≤ W.heap.size) {qs qt qb qq qo : Nat} (_hne : qs ≠ g ∧ qt ≠ g ∧ qb ≠ g ∧ qq ≠ g ∧ qo ≠ g)
    (hp : (pn < S ∧ pn ≠ g) ∧ (pt < S ∧ pt ≠ g) ∧ (ps < S ∧ ps ≠ g) ∧ (pq < S ∧ pq ≠ g)) :
    (VisIn pn pt ps pq n t need a c a2 c2 perm bytes (reg (W.setCell ⟨g, (t + (i : Int)).toNat, none⟩ (.int .u8 y)) p) ∧
      (reg (W.setCell ⟨g, (t + (i : Int)).toNat, none⟩ (.int .u8 y)) p).ownsRow base 5 1 (.slice (some ⟨g, 0, none⟩) bytes.length cg) bytes.length (bV (wrB bytes t bs (i + 1))) ∧
      Turned g (g + 1) w (reg (W.setCell ⟨g, (t + (i : Int)).toNat, none⟩ (.int .u8 y)) p)) ∧ Lies S (S + 2 + 1) W (reg (W.setCell ⟨g, (t + (i : Int)).toNat, none⟩ (.int .u8 y)) p) := by
  have hq := below_reg (W.setCell ⟨g, (t + (i : Int)).toNat, none⟩ (.int .u8 y)) p
  have hz : (W.setCell ⟨g, (t + (i : Int)).toNat, none⟩ (.int .u8 y)).heap.size = W.heap.size := by simp
  have h4 : Turned g (g + 1) w (reg (W.setCell ⟨g, (t + (i : Int)).toNat, none⟩ (.int .u8 y)) p) :=
    (h3.setCell _ (Nat.le_refl _) (by show g < g + 1; omega)).trans (Turned.of_below hq)
  refine ⟨⟨h1.of_cells (fun k hk => ?_) (hs _ h4), ?_, h4⟩, ?_⟩
  · have hk2 : k < S ∧ k ≠ g := by rcases hk with rfl | rfl | rfl | rfl
                                   · exact hp.1
                                   · exact hp.2.1
                                   · exact hp.2.2.1
                                   · exact hp.2.2.2
    rw [hq.block k (by omega), Below.heap_setCell _ _ _ _ hk2.2]
  · have e : bV (wrB bytes t bs (i + 1)) = (bV (wrB bytes t bs i)).set (t + (i : Int)).toNat (.int .u8 y) := by simp [bV, wrB, List.map_set, hy]
    rw [e]
    exact ownsRow_below (h2.stored _ _).1 hq
  · exact ((Lies.refl _ _ W).setCell _ (.inl (by show g < S; omega))).below hq (by omega)

set_option maxHeartbeats 4000000 in
set_option maxRecDepth 100000 in
theorem write1_c (ps pt pb pq po g base : Nat) (t need : Int) (a : Option Addr) (c : Nat) (a2 : Option Addr) (c2 : Nat) (ab : Option Addr) (cb : Nat) (ag : Option Addr) (cg : Nat) (vp : Value) (perm bytes bs : List Int) (w0 w : World) (hck : chk perm bytes.length = true) (hn : bs.length ≤ 4096) (ht : I64 t)
    (c1 : w.cell? ⟨ps, 0, none⟩ = some (.slice a perm.length c)) (c1' : w.cell? ⟨ps, 1, none⟩ = some (.slice a2 bytes.length c2)) (c3 : w.cell? ⟨pt, 0, none⟩ = some (.int .i64 t)) (c4 : w.cell? ⟨pb, 0, none⟩ = some (.slice ab bs.length cb)) (c5 : w.cell? ⟨pq, 0, none⟩ = some (.int .i64 need))
    (c6 : w.cell? ⟨po, 0, none⟩ = some vp) (c7 : w.cell? ⟨po, 1, none⟩ = some (.slice ag bytes.length cg)) (hrow : w.ownsRow base 5 1 (.slice ag bytes.length cg) bytes.length (bV bytes)) (hg : ∀ x, ag = some x → x = ⟨g, 0, none⟩)
    (hsp : SpIn w0 a c a2 c2 perm bytes) (hsb : SlAt w0 ab (bV bs)) (hb0 : Below w0.heap.size w0 w) (hg0 : w0.heap.size ≤ g) (hgw' : ag = none ∨ g < w.heap.size) (hne : ps ≠ g ∧ pt ≠ g ∧ pb ≠ g ∧ pq ≠ g ∧ po ≠ g) :
    Calls Try.prog 77 #[.pointer (some ⟨ps, 0, none⟩), .pointer (some ⟨pt, 0, none⟩), .pointer (some ⟨pb, 0, none⟩), .pointer (some ⟨pq, 0, none⟩), .pointer (some ⟨po, 0, none⟩)] w fun e w' =>
      visE perm bytes t need bs.length e ∧ w'.ownsRow base 5 1 (.slice ag bytes.length cg) bytes.length (bV (wrB bytes t bs (kN perm bytes t need bs.length))) ∧ Turned g (g + 1) w w' := by
  have b1 := World.block_lt_of_cell? _ _ c1
  have b3 := World.block_lt_of_cell? _ _ c3
  have b4 := World.block_lt_of_cell? _ _ c4
  have b5 := World.block_lt_of_cell? _ _ c5
  have b6 := World.block_lt_of_cell? _ _ c6
  refine (callsIn_wide (n := 0)).1 ?_
  refine callsIn_of_wp_marks Try.func77 rfl trivial ?_
  simp only [Try.ntmps77, List.size_toArray, List.length_cons, List.length_nil, Nat.reduceAdd, Nat.reduceSub, Array.replicate_succ, Array.replicate_zero, List.push_toArray, List.append_toArray, List.nil_append, List.cons_append]
  gi_wp2_with fail
  refine ⟨trivial, rfl, ?_⟩
  refine (callsIn_wide.2 (visit_c _ _ _ _ _ _)).mono ?_
  rintro e w1 ⟨rfl, hw1⟩
  gi_wp2_with fail
  rw [← hw1]
  have vs : SpIn w a c a2 c2 perm bytes := hsp.below hb0
  obtain ⟨hvis, hsz, hb1⟩ := vis_boxes hw1 vs
  have hspT : ∀ W, Turned g (g + 1) w W → SpIn W a c a2 c2 perm bytes := fun W h => hsp.below (hb0.trans (h.below hb0.size hg0))
  have hsbT : ∀ W, Turned g (g + 1) w W → SlAt W ab (bV bs) := fun W h => hsb.below (hb0.trans (h.below hb0.size hg0))
  have HS := Lib.hid hspT
  have HSB := Lib.hid hsbT
  have HC := Lib.hid hck
  clear vs hspT hsbT hb0 hsp hsb
  refine wp_range (gf := 78) (lb := #[.pointer (some ⟨w.heap.size + 2, 0, none⟩), .pointer (some ⟨w.heap.size + 1, 0, none⟩), .pointer (some ⟨w.heap.size, 0, none⟩), .pointer (some ⟨w.heap.size + 3, 0, none⟩)]) (encs := visEnc bytes t) (m := 1)
    (k := kN perm bytes t need bs.length) (V := VisIn (w.heap.size + 2) (w.heap.size + 1) w.heap.size (w.heap.size + 3) bs.length t need a c a2 c2 perm bytes) (E := visE perm bytes t need bs.length) rfl (enters_of Try.func78 (by kernel_rfl) rfl) (fun _ => rfl)
    (visit1_c _ _ _ _ bs.length t need a c a2 c2 perm bytes hck hn ht)
    (fun i W => VisIn (w.heap.size + 2) (w.heap.size + 1) w.heap.size (w.heap.size + 3) bs.length t need a c a2 c2 perm bytes W ∧ W.ownsRow base 5 1 (.slice ag bytes.length cg) bytes.length (bV (wrB bytes t bs i)) ∧ Turned g (g + 1) w W)
    ?hI (fun _ _ h => h.1) ⟨hvis, ownsRow_below hrow hb1, Turned.of_below hb1⟩
    (fun i => { tmps := #[.pointer (some ⟨ps, 0, none⟩), .pointer (some ⟨pt, 0, none⟩), .pointer (some ⟨pb, 0, none⟩), .pointer (some ⟨pq, 0, none⟩), .pointer (some ⟨po, 0, none⟩), .int .i64 (t + (i : Int)), .agg #[.slice a perm.length c, .slice a2 bytes.length c2], .int .i64 t, .slice ab bs.length cb, .int .i64 bs.length, .int .i64 need,
      .func (.func 78) #[] #[.pointer (some ⟨w.heap.size + 2, 0, none⟩), .pointer (some ⟨w.heap.size + 1, 0, none⟩), .pointer (some ⟨w.heap.size, 0, none⟩), .pointer (some ⟨w.heap.size + 3, 0, none⟩)], .int .i64 (t + (i : Int)), .int .u8 (bytes[(t + (i : Int)).toNat]?.getD 0), undef, undef, undef, undef, undef, undef, undef, undef, undef, undef], defers := [] })
    ?assign ?body ?fin
  case hI =>
    rintro i W W' ⟨h1, h2, h3⟩ htd
    have h4 : Turned g (g + 1) w W' := h3.trans_new htd (by omega)
    refine ⟨h1.turned htd (by omega) (by omega) (by omega) (by omega) (HS.out _ h4), ?_, h4⟩
    obtain ⟨k1, (k2 | ⟨g2, cap, cur, k3, k4, k5, k6⟩)⟩ := h2
    · exact ⟨k1, .inl k2⟩
    · simp only [Value.slice.injEq] at k3
      have e2 := hg _ k3.1
      cases e2
      have hgw : g < w.heap.size := by rcases hgw' with h | h
                                       · rw [h] at k3; simp at k3
                                       · exact h
      exact ⟨k1, .inr ⟨g, cap, cur, by simp [k3], k4, htd.blk k5 (.inl (by omega)), k6⟩⟩
  case assign =>
    intro l i W K hK
    simp only [visEnc]
    gi_wp2
    exact hK
  case body =>
    rintro l i W ⟨h1, h2, h3⟩ hik hm
    have hkn : kN perm bytes t need bs.length ≤ bs.length := lead_le _ _
    obtain ⟨x0, x1, _⟩ := good_out (lead_all (fun i => good perm bytes need (t + i)) bs.length i hik)
    have hxn : (t + (i : Int)).toNat < bytes.length := by omega
    obtain ⟨g', hg', _, _⟩ := own_open h2 (show 0 < bytes.length by omega)
    have e2 := hg _ hg'
    cases e2
    subst hg'
    have hgw : g < w.heap.size := by rcases hgw' with h | h
                                     · cases h
                                     · exact h
    clear hg hgw'
    have hbs : SlAt W ab (bV bs) := HSB.out _ h3
    obtain ⟨bb, ob, hab, hbb, hbc⟩ : ∃ bb ob : Nat, ab = some ⟨bb, ob, none⟩ ∧ bb < W.heap.size ∧ W.cell? ⟨bb, ob + i, none⟩ = some (.int .u8 (bs[i]?.getD 0)) := by
      rcases hbs with h | ⟨bb, ob, h, h4, h5⟩
      · have : bs = [] := by simpa [bV] using h
        subst this; simp only [List.length_nil] at hkn hik; omega
      · refine ⟨bb, ob, h, h4, h5 i _ (bV_get ?_)⟩
        have : i < bs.length := by omega
        simp [this]
    subst hab
    have d3 := (h3.cell (p := ⟨pt, 0, none⟩) b3 (by show pt < g ∨ g + 1 ≤ pt; omega)).trans c3
    have d4 := (h3.cell (p := ⟨pb, 0, none⟩) b4 (by show pb < g ∨ g + 1 ≤ pb; omega)).trans c4
    have d7 := (h3.cell (p := ⟨po, 1, none⟩) b6 (by show po < g ∨ g + 1 ≤ po; omega)).trans c7
    have bz := h3.size
    have b3' : pt < W.heap.size := by omega
    have b4' : pb < W.heap.size := by omega
    have b6' : po < W.heap.size := by omega
    have dg : W.cell? ⟨g, (t + (i : Int)).toNat, none⟩ = some (.int .u8 ((wrB bytes t bs i).getD (t + (i : Int)).toNat 0)) := by
      rw [h2.cellAt _ (by omega)]
      exact bV_get (by rw [List.getD_eq_getElem?_getD]; have : (t + (i : Int)).toNat < (wrB bytes t bs i).length := by rw [wrB_len]; exact hxn
                       simp [this])
    have df := h2.frozenAt (t + (i : Int)).toNat
    have htl : -9223372036854775808 ≤ t := ht.1
    have htu : t ≤ 9223372036854775807 := ht.2
    have hlen := (chk_le HC.out).2
    generalize hy : bs[i]?.getD 0 = y at hbc
    have HY := Lib.hid hy
    clear hy
    generalize (wrB bytes t bs i).getD (t + (i : Int)).toNat 0 = z at dg
    have H1 := Lib.hid h1
    have H2 := Lib.hid h2
    have H3 := Lib.hid h3
    have HZ := Lib.hid hsz
    clear h1 h2 h3 hsz c1 c1' c3 c4 c5 c6 c7 hw1 hbs hrow
    have hib : (i : Int) < (bs.length : Int) := by omega
    have hi0 : (0 : Int) ≤ (i : Int) := Int.natCast_nonneg _
    have hww : IntKind.i64.wrap (t + (i : Int) - t) = (i : Int) := by rw [show t + (i : Int) - t = (i : Int) by omega]; exact IntWalk.i64_in _ (by omega)
    gi_wp2_with fail
    refine wpIn_quiet_tail 10 (fun ⟨_, _, h, _⟩ => by cases h) (by kernel_rfl) (by kernel_rfl) (by kernel_rfl) ?_
    simp only [List.take_succ_cons, List.take_zero, List.drop_succ_cons, List.drop_zero]
    repeat (quiet_step (fail))
    refine wpQuiet_nil ?_
    intro _ hw'; obtain ⟨p, rfl⟩ := hw'
    clear hww
    go_wp2
    exact w_end H1.out H2.out H3.out HS.out HY.out HZ.out hgw hm hne (by have := HZ.out; omega)
  case fin =>
    rintro e W hE ⟨h1, h2, h3⟩ hD
    have htp : Turned w1.heap.size (w1.heap.size + 1) W (W.putObj w1.heap.size (.deferred none)) := (Turned.refl w1.heap.size (w1.heap.size + 1) W).putObj (.deferred none) (Nat.le_refl _) (by omega)
    have ho : (W.putObj w1.heap.size (.deferred none)).ownsRow base 5 1 (.slice ag bytes.length cg) bytes.length (bV (wrB bytes t bs (kN perm bytes t need bs.length))) := by
      obtain ⟨k1, (k2 | ⟨g2, cap, cur, k3, k4, k5, k6⟩)⟩ := h2
      · exact ⟨k1, .inl k2⟩
      · simp only [Value.slice.injEq] at k3
        have e2 := hg _ k3.1
        cases e2
        have hgw : g < w.heap.size := by rcases hgw' with h | h
                                         · rw [h] at k3; simp at k3
                                         · exact h
        exact ⟨k1, .inr ⟨g, cap, cur, by simp [k3], k4, htp.blk k5 (.inl (by omega)), k6⟩⟩
    have ht3 : Turned g (g + 1) w (W.putObj w1.heap.size (.deferred none)) := h3.trans_new htp (by omega)
    rcases hE with ⟨hk, v, rfl⟩ | ⟨hk, rfl⟩
    · refine ⟨by simp, .inl ⟨_, _, rfl, run_takeDeferred hD, ?_⟩⟩
      exact ⟨.tuple #[], results_none rfl _ _ _, .inl ⟨hk, _, rfl⟩, ho, ht3⟩
    · refine ⟨by simp, .inl ⟨_, _, rfl, run_takeDeferred hD, ?_⟩⟩
      exact ⟨.inr ⟨hk, rfl⟩, ho, ht3⟩

set_option maxRecDepth 100000 in
theorem fault_write (ps pt pb pq po g base : Nat) (t need : Int) (a : Option Addr) (c : Nat) (a2 : Option Addr) (c2 : Nat) (ab : Option Addr) (cb : Nat) (ag : Option Addr) (cg : Nat) (vp : Value) (perm bytes bs : List Int) (w0 w : World) (hck : chk perm bytes.length = true) (hn : bs.length ≤ 4096) (ht : I64 t)
    (c1 : w.cell? ⟨ps, 0, none⟩ = some (.slice a perm.length c)) (c1' : w.cell? ⟨ps, 1, none⟩ = some (.slice a2 bytes.length c2)) (c3 : w.cell? ⟨pt, 0, none⟩ = some (.int .i64 t)) (c4 : w.cell? ⟨pb, 0, none⟩ = some (.slice ab bs.length cb)) (c5 : w.cell? ⟨pq, 0, none⟩ = some (.int .i64 need))
    (c6 : w.cell? ⟨po, 0, none⟩ = some vp) (c7 : w.cell? ⟨po, 1, none⟩ = some (.slice ag bytes.length cg)) (hrow : w.ownsRow base 5 1 (.slice ag bytes.length cg) bytes.length (bV bytes)) (hg : ∀ x, ag = some x → x = ⟨g, 0, none⟩)
    (hsp : SpIn w0 a c a2 c2 perm bytes) (hsb : SlAt w0 ab (bV bs)) (hb0 : Below w0.heap.size w0 w) (hg0 : w0.heap.size ≤ g) (hgw' : (ag = none ∧ g = w.heap.size + 1) ∨ g < w.heap.size) (hne : ps ≠ g ∧ pt ≠ g ∧ pb ≠ g ∧ pq ≠ g ∧ po ≠ g) :
    Calls Try.prog 70 #[.func (.func 77) #[] #[.pointer (some ⟨ps, 0, none⟩), .pointer (some ⟨pt, 0, none⟩), .pointer (some ⟨pb, 0, none⟩), .pointer (some ⟨pq, 0, none⟩), .pointer (some ⟨po, 0, none⟩)]] w fun e w' =>
      e = .returned (.agg #[.int .i64 (fK perm bytes t need bs.length), .int .i64 (fX perm bytes t need bs.length)]) ∧ w'.ownsRow base 5 1 (.slice ag bytes.length cg) bytes.length (bV (wrB bytes t bs (kN perm bytes t need bs.length))) ∧ Turned g (g + 1) w w' := by
  have hq : Below w.heap.size w (w.alloc (.cells #[.int .i64 0, .int .i64 0] 34)) := b_alloc (Below.refl _ _)
  have cc : ∀ (b o : Nat) (v : Value), w.cell? ⟨b, o, none⟩ = some v → (w.alloc (.cells #[.int .i64 0, .int .i64 0] 34)).cell? ⟨b, o, none⟩ = some v := fun b o v h => by
    have := World.block_lt_of_cell? _ _ h
    rw [below_cell hq _ _ this]; exact h
  have hgs : g ≠ w.heap.size := by omega
  have hrd := write1_c ps pt pb pq po g base t need a c a2 c2 ab cb ag cg vp perm bytes bs w0 (w.alloc (.cells #[.int .i64 0, .int .i64 0] 34)) hck hn ht (cc _ _ _ c1) (cc _ _ _ c1') (cc _ _ _ c3) (cc _ _ _ c4) (cc _ _ _ c5) (cc _ _ _ c6) (cc _ _ _ c7)
    (ownsRow_below hrow hq) hg hsp hsb (hb0.trans (hq.mono hb0.size)) hg0 (hgw'.imp (fun h => h.1) (fun h => by simp; omega)) hne
  have hef : ∀ args w, (callFunc 77 args).run Try.prog w = .ok (.enter 77 args) w := enters_of Try.func77 (by kernel_rfl) rfl
  have hrw : ∀ w', Turned g (g + 1) (w.alloc (.cells #[.int .i64 0, .int .i64 0] 34)) w' → w'.heap[w.heap.size]? = some (.cells #[.int .i64 0, .int .i64 0] 34 (0, 0)) := fun w' h => h.blk (heap_alloc_new w _) (by omega)
  have hfin : ∀ (w1 : World) (x y : Int), w1.ownsRow base 5 1 (.slice ag bytes.length cg) bytes.length (bV (wrB bytes t bs (kN perm bytes t need bs.length))) → Turned g (g + 1) (w.alloc (.cells #[.int .i64 0, .int .i64 0] 34)) w1 →
      ((w1.setCell ⟨w.heap.size, 0, none⟩ (.int .i64 x)).setCell ⟨w.heap.size, 1, none⟩ (.int .i64 y)).ownsRow base 5 1 (.slice ag bytes.length cg) bytes.length (bV (wrB bytes t bs (kN perm bytes t need bs.length))) ∧ Turned g (g + 1) w ((w1.setCell ⟨w.heap.size, 0, none⟩ (.int .i64 x)).setCell ⟨w.heap.size, 1, none⟩ (.int .i64 y)) := by
    intro w1 x y h1 h2
    have h3 : Turned w.heap.size (w.heap.size + 1) w1 ((w1.setCell ⟨w.heap.size, 0, none⟩ (.int .i64 x)).setCell ⟨w.heap.size, 1, none⟩ (.int .i64 y)) :=
      ((Turned.refl _ _ w1).setCell _ (by show w.heap.size ≤ w.heap.size; omega) (by show w.heap.size < w.heap.size + 1; omega)).setCell _ (by show w.heap.size ≤ w.heap.size; omega) (by show w.heap.size < w.heap.size + 1; omega)
    refine ⟨?_, ((Turned.of_below hq).trans h2).trans_new h3 (Nat.le_refl _)⟩
    obtain ⟨k1, (k2 | ⟨g2, cap, cur, k3, k4, k5, k6⟩)⟩ := h1
    · exact ⟨k1, .inl k2⟩
    · simp only [Value.slice.injEq] at k3
      have e2 := hg _ k3.1
      cases e2
      exact ⟨k1, .inr ⟨g, cap, cur, by simp [k3], k4, h3.blk k5 (by omega), k6⟩⟩
  by_cases hk : kN perm bytes t need bs.length < bs.length
  · have e1 : fK perm bytes t need bs.length = kd bytes need (t + kN perm bytes t need bs.length) := by unfold fK; rw [if_pos hk]
    have e2 : fX perm bytes t need bs.length = t + kN perm bytes t need bs.length := by unfold fX; rw [if_pos hk]
    rw [e1, e2]
    refine (faultOf_d 77 _ (kd bytes need (t + kN perm bytes t need bs.length)) (t + kN perm bytes t need bs.length) w (fun w1 => w1.ownsRow base 5 1 (.slice ag bytes.length cg) bytes.length (bV (wrB bytes t bs (kN perm bytes t need bs.length))) ∧ Turned g (g + 1) (w.alloc (.cells #[.int .i64 0, .int .i64 0] 34)) w1) hef
      (hrd.mono (R' := fun e w' => e = died (kd bytes need (t + kN perm bytes t need bs.length)) (t + kN perm bytes t need bs.length) ∧ (w'.ownsRow base 5 1 (.slice ag bytes.length cg) bytes.length (bV (wrB bytes t bs (kN perm bytes t need bs.length))) ∧ Turned g (g + 1) (w.alloc (.cells #[.int .i64 0, .int .i64 0] 34)) w') ∧ w'.heap[w.heap.size]? = some (.cells #[.int .i64 0, .int .i64 0] 34 (0, 0))) ?_)).mono ?_
    · rintro e w1 ⟨(⟨h, _⟩ | ⟨_, rfl⟩), ho, htd⟩
      · omega
      · exact ⟨rfl, ⟨ho, htd⟩, hrw _ htd⟩
    · rintro e w2 ⟨rfl, w1, ⟨h1, h2⟩, rfl⟩
      exact ⟨rfl, hfin w1 _ _ h1 h2⟩
  · have e1 : fK perm bytes t need bs.length = 0 := by unfold fK; rw [if_neg hk]
    have e2 : fX perm bytes t need bs.length = 0 := by unfold fX; rw [if_neg hk]
    rw [e1, e2]
    refine (faultOf_r 77 _ w (fun w1 => w1.ownsRow base 5 1 (.slice ag bytes.length cg) bytes.length (bV (wrB bytes t bs (kN perm bytes t need bs.length))) ∧ Turned g (g + 1) (w.alloc (.cells #[.int .i64 0, .int .i64 0] 34)) w1) hef
      (hrd.mono (R' := fun e w' => (∃ v, e = .returned v) ∧ (w'.ownsRow base 5 1 (.slice ag bytes.length cg) bytes.length (bV (wrB bytes t bs (kN perm bytes t need bs.length))) ∧ Turned g (g + 1) (w.alloc (.cells #[.int .i64 0, .int .i64 0] 34)) w') ∧ w'.heap[w.heap.size]? = some (.cells #[.int .i64 0, .int .i64 0] 34 (0, 0))) ?_)).mono ?_
    · rintro e w1 ⟨(⟨_, h⟩ | ⟨h, _⟩), ho, htd⟩
      · exact ⟨h, ⟨ho, htd⟩, hrw _ htd⟩
      · omega
    · rintro e w2 ⟨rfl, w1, ⟨h1, h2⟩, rfl⟩
      exact ⟨rfl, hfin w1 _ _ h1 h2⟩
end Go.Proofs.Ytdbcbmdekdfdoaa
