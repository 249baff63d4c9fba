/- WHAT IS PROVED: append of a slice that came in, nil or not, as a law for the walk; the reference's Copy and With of layer 3. CONDITIONS: the slices' cells hold the lists; at most 4096 of them. -/
import Derived.Test.YtdbcbmdekdfdoaaR3
import Derived.Test.YtdbcbmdekdfdoaaSo
import Derived.Laws.AppendOwnNone
namespace Go.Proofs.Ytdbcbmdekdfdoaa
open Go Go.RowKit Go.QrBits Go.QrMem

theorem wpList_append_sl {P : Program} {w : World} {ops : Array Oper} {rest : List Oper} {o : Oper} {a : Act} {Q : Exit → Act → World → Prop} (hgd : o.guard = none) (s x : Operand) (t : TypeId)
    (ho : o.op = .call { callee := .builtin .append, args := #[s, x], argTypes := #[t, t] })
    (base : Nat) (e : TypeId) (i : TypeInfo) (z : Value) (bytes : Nat) (ht : P.underlying t = some (.slice e)) (hi : P.info? e = some i) (hz : i.zero = some z)
    (hsize : i.size = 1) (hby : i.bytes = bytes) (hzs : z.cells.size = 1)
    (v : Value) (n : Nat) (xs : List Value) (hs : a.eval s = v) (hown : w.ownsRow base e 1 v n xs)
    (ad : Option Addr) (m c : Nat) (news : List Value) (hx : a.eval x = .slice ad m c) (hl : news.length = m) (hv : SlV ad m c) (hat : SlAt w ad news) (h1 : ∀ u ∈ news, u.oneCell' = true)
    (h63 : n + m ≤ maxLen) (hbytes : (n + m) * bytes ≤ 140737488355328) (hbase : base ≤ w.heap.size)
    (h : ∀ v' w', w'.ownsRow base e 1 v' (n + m) (xs ++ news) → w.grownBy w' v.ownBlock → wpList P ops Q rest (a.put o.dst v') w') : wpList P ops Q (o :: rest) a w := by
  cases ad with
  | none =>
    obtain ⟨h2, h3⟩ := hv.2.2 rfl
    subst h2 h3
    have hn : news = [] := List.eq_nil_of_length_eq_zero hl
    subst hn
    exact wpList_append_own_none hgd s x t ho base e i 1 ht hi v n xs hs hown hx (h v w (by simpa using hown) (World.grownBy.refl w _))
  | some ad =>
    exact wpList_append_own w hgd s x t ho base e i z 1 bytes ht hi hz hsize hby hzs (by decide) v n xs hs hown ad m c news hx (by simp [hl]) hat.news h1 h63 hbytes hbase fun v' w' h2 h3 _ => h v' w' h2 h3

theorem Kw.put3 {f1 f2 : Nat × List Value × TypeId} {b j : Nat} {vs : List Value} {t : TypeId} {v : Value} {w0 w : World} (h : Kw ((b, vs, t) :: f1 :: f2 :: []) w0 w) (hb : w0.heap.size ≤ b) (h1 : f1.1 ≠ b) (h2 : f2.1 ≠ b) :
    Kw ((b, vs.set j v, t) :: f1 :: f2 :: []) w0 (w.setCell ⟨b, j, none⟩ v) :=
  h.put hb (fun f hf => by
    simp only [List.mem_cons, List.not_mem_nil, or_false] at hf
    rcases hf with rfl | rfl
    · exact h1
    · exact h2)
theorem below_grown0 {W w' : World} (hg : W.grownBy w' (Value.ownBlock (.slice none 0 0))) : Below W.heap.size W w' :=
  (Below.refl _ _).grown hg (Nat.le_refl _) (fun k e => by cases e)

set_option maxHeartbeats 4000000 in
set_option maxRecDepth 100000 in
theorem copy_c (a : Option Addr) (c : Nat) (a2 : Option Addr) (c2 : Nat) (P B : List Int) (w : World) (hs : SpIn w a c a2 c2 P B) (hn : P.length ≤ 4096) (hn2 : B.length ≤ 4096) :
    Calls Try.prog 51 #[.agg #[.slice a P.length c, .slice a2 B.length c2]] w (ClonedSp P B w) := by
  obtain ⟨i0, hi, hz0, hz1, hz2⟩ := info_parts Try.info3
  obtain ⟨i1, hi1, hy0, hy1, hy2⟩ := info_parts Try.info5
  have HS := Lib.hid hs
  clear hs
  have HK := ((Kw.start w).box (vs := [.slice a P.length c, .slice a2 B.length c2]) (t := 25)).box (vs := [.slice none 0 0, .slice none 0 0]) (t := 25)
  replace HK := HK.box (vs := [.slice none 0 0, .slice none 0 0]) (t := 25)
  simp only [World.size_alloc] at HK
  go_enter Try.func51, Try.ntmps51
  go_wp2_with (first
    | (at_builtin
       refine wpList_append_sl rfl (.tmp 5) (.tmp 7) 22 rfl (w.heap.size + 3) 3 i0 _ 8 Try.underlying22 hi hz0 hz1 hz2 rfl (.slice none 0 0) 0 [] rfl (World.ownsRow_nil _ _ _ _) a P.length c (iV P) rfl (iV_len P) HS.out.v1 (HS.out.below HK.base).s1 (iV_one P) (by unfold maxLen; omega) (by omega) (by simp) ?_
       intro v1 w1 ho1 hg1
       simp only [Nat.zero_add, List.nil_append] at ho1
       obtain ⟨b1, d1, hv1⟩ := own_slice ho1
       subst hv1
       replace HK := HK.below (below_grown0 hg1)
       clear hg1
       have x_0 := HK.get 0 0 rfl rfl
       have x_1 := HK.get 0 1 rfl rfl
       have x_f0 := HK.fz 0 0 rfl
       have x_f1 := HK.fz 0 1 rfl
       have x_s := HK.lt 0 rfl
       have p_0 := HK.get 2 0 rfl rfl
       have p_1 := HK.get 2 1 rfl rfl
       have p_s := HK.lt 2 rfl
       replace HK := Kw.put3 HK (j := 0) (v := .slice b1 P.length d1) (by omega) (by dsimp only; omega) (by dsimp only; omega)
       simp only [List.set_cons_zero] at HK
       have ho1h := Lib.hid (ownsRow_setCell_below (a := ⟨w.heap.size + 2, 0, none⟩) ho1 (by show w.heap.size + 2 < _; omega) (.slice b1 P.length d1))
       clear ho1)
    | (at_builtin
       refine wpList_append_sl rfl (.tmp 11) (.tmp 13) 23 rfl (w.heap.size + 3) 5 i1 _ 1 Try.underlying23 hi1 hy0 hy1 hy2 rfl (.slice none 0 0) 0 [] rfl (World.ownsRow_nil _ _ _ _) a2 B.length c2 (bV B) rfl (bV_len B) HS.out.v2 (HS.out.below HK.base).s2 (bV_one B) (by unfold maxLen; omega) (by omega) (by have := HK.lt 0 rfl; omega) ?_
       intro v2 w2 ho2 hg2
       simp only [Nat.zero_add, List.nil_append] at ho2
       obtain ⟨b2, d2, hv2⟩ := own_slice ho2
       subst hv2
       have ho1k := Lib.hid (ownsRow_below ho1h.out (below_grown0 hg2))
       replace HK := HK.below (below_grown0 hg2)
       clear hg2 x_0 x_1 x_f0 x_f1 x_s p_0 p_1 p_s
       have x_0 := HK.get 0 0 rfl rfl
       have x_1 := HK.get 0 1 rfl rfl
       have x_f0 := HK.fz 0 0 rfl
       have x_f1 := HK.fz 0 1 rfl
       have x_s := HK.lt 0 rfl
       have r_0 := HK.get 1 0 rfl rfl
       have r_1 := HK.get 1 1 rfl rfl
       have r_f0 := HK.fz 1 0 rfl
       have r_f1 := HK.fz 1 1 rfl
       have r_s := HK.lt 1 rfl
       have ho2h := Lib.hid ho2
       clear ho2))
  have HK3 := Kw.put3 HK (j := 1) (v := .slice b2 B.length d2) (by omega) (by dsimp only; omega) (by dsimp only; omega)
  obtain ⟨g1, g2⟩ := put2 (.slice b1 P.length d1) (.slice b2 B.length d2) (HK3.get 1 0 rfl rfl) (HK3.get 1 1 rfl rfl)
  refine bodyPost_ret (v := .agg #[.slice b1 P.length d1, .slice b2 B.length d2]) (by simp [results, Try.results51, go_sem, g1, g2]) rfl ?_
  refine ⟨_, rfl, ⟨b1, d1, b2, d2, rfl, ?_, ?_⟩, ?_⟩
  · exact ownsRow_base (ownsRow_setCell_below (ownsRow_setCell_below (ownsRow_setCell_below ho1k.out (by show w.heap.size + 1 + 1 < _; omega) _) (by show w.heap.size + 1 < _; omega) _) (by show w.heap.size + 1 < _; omega) _) (by omega)
  · exact ownsRow_base (ownsRow_setCell_below (ownsRow_setCell_below (ownsRow_setCell_below ho2h.out (by show w.heap.size + 1 + 1 < _; omega) _) (by show w.heap.size + 1 < _; omega) _) (by show w.heap.size + 1 < _; omega) _) (by omega)
  · exact (HK3.base.setCell (by show _ ≤ w.heap.size + 1; omega) _).setCell (by show _ ≤ w.heap.size + 1; omega) _
end Go.Proofs.Ytdbcbmdekdfdoaa
