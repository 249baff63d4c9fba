/- WHAT IS PROVED: how the laws' arguments of layer 5 are read (states, numbers), and that they read the same behind a call that changes nothing below the heap's end. CONDITIONS: none. -/
import Derived.Test.YtggikbcgijmhbaaJ
import Derived.Test.YtggikbcgijmhbaaRows
import Derived.Test.YtggikbcgijmhbaaChecked
import Derived.WalkKit
import Derived.ProofKit
import Derived.OpenShut
import Derived.Deep.DeepHandedRow
import Derived.Deep.Slices
import Derived.Deep.Strs
import Derived.Lib.LaidTab
import Derived.Lib.SmallJoins
import Derived.ChangeSame
import Derived.Carry
namespace Go.Proofs.Ytggikbcgijmhbaa
open Go Go.ChangeShapes Go.WideShapes Go.ChangeAt Go.RowKit Go.Joins Go.QrBits Go.QrMem

theorem own9 : ownKnob Try.prog.godebug = none := by kernel_rfl
theorem laid9 : laidOutB Try.prog = true := by kernel_rfl
theorem bytes8 : Try.prog.bytesOf 3 = 8 := by kernel_rfl
theorem cell_lt {w : World} {b o : Nat} {x : Value} (h : w.cell? ⟨b, o, none⟩ = some x) : b < w.heap.size := by
  rcases Nat.lt_or_ge b w.heap.size with h1 | h1
  · exact h1
  · simp [World.cell?, Array.getElem?_eq_none h1] at h
theorem cells25 : Try.prog.cellsOf 25 = 3 := by kernel_rfl
theorem cells47 : Try.prog.cellsOf 47 = 3 := by kernel_rfl
theorem cells44 : Try.prog.cellsOf 44 = 3 := by kernel_rfl
theorem cells3 : Try.prog.cellsOf 3 = 1 := by kernel_rfl
theorem cells45 : Try.prog.cellsOf 45 = 1 := by kernel_rfl
section
variable {H : Type} {enc : TypeId × Value → H} {W : World}
theorem weights_mem {P : Program} {e : TypeId} {d : DataW H} {n : Nat} : ∀ {l : List (DataW H)}, d ∈ l → n ∈ d.weights P e → n ∈ DataW.weightsAll P e l
  | [], h, _ => by cases h
  | x :: l, h, hn => by
    unfold DataW.weightsAll
    rcases List.mem_cons.1 h with rfl | h
    · exact List.mem_append_left _ hn
    · exact List.mem_append_right _ (weights_mem h hn)
/-- A slice of structs of three fields of one cell. -/
theorem open_tri {P : Program} {t e : TypeId} {f0 f1 f2 : Field} {base fuel : Nat} {held : Bool} {v : Value} {x : DataW H × List MemPlace} (ht : P.underlying t = some (.slice e)) (he : P.underlying e = some (.struct #[f0, f1, f2])) (ce : P.cellsOf e = 3)
    (o0 : f0.offset = 0) (o1 : f1.offset = 1) (o2 : f2.offset = 2) (c0 : P.cellsOf f0.type = 1) (c1 : P.cellsOf f1.type = 1) (c2 : P.cellsOf f2.type = 1)
    (h : DataW.trod enc P W base (fun _ => true) held fuel t [v] = some x) :
    ∃ (a : Option Addr) (len cap n : Nat) (q : Nat → (Value × Value × Value) × ((DataW H × List MemPlace) × (DataW H × List MemPlace) × (DataW H × List MemPlace))), v = .slice a len cap ∧ SlV a len cap ∧
      (len = 0 ∨ ∃ b off : Nat, a = some ⟨b, off, none⟩ ∧ b < W.heap.size ∧ ∀ i, i < len → W.cell? ⟨b, off + i * 3, none⟩ = some (q i).1.1 ∧ W.cell? ⟨b, off + i * 3 + 1, none⟩ = some (q i).1.2.1 ∧ W.cell? ⟨b, off + i * 3 + 2, none⟩ = some (q i).1.2.2) ∧
      (0 < len → ∃ rest, x.1 = .slice ((List.range len).map fun i => .agg [(q i).2.1.1, (q i).2.2.1.1, (q i).2.2.2.1]) rest) ∧
      ∀ i, i < len → DataW.trod enc P W base (fun _ => true) held n f0.type [(q i).1.1] = some (q i).2.1 ∧ DataW.trod enc P W base (fun _ => true) held n f1.type [(q i).1.2.1] = some (q i).2.2.1 ∧ DataW.trod enc P W base (fun _ => true) held n f2.type [(q i).1.2.2] = some (q i).2.2.2 := by
  rcases Go.Deep.open_slice ht h with ⟨h0, hx⟩ | ⟨a, len, cap, m, n, D, Pl, hcs, hb, hl, hm, hmm, hx1, hx⟩
  · simp at h0
    exact ⟨none, 0, 0, 0, fun _ => ((.bool true, .bool true, .bool true), (x, x, x)), h0, ⟨Nat.le_refl _, Nat.zero_le _, fun _ => ⟨rfl, rfl⟩⟩, .inl rfl, fun h => absurd h (Nat.lt_irrefl _), fun i hi => absurd hi (Nat.not_lt_zero i)⟩
  simp only [if_true] at hmm
  subst hmm
  simp at hcs
  subst hcs
  have each : ∀ i, i < len → ∃ q : (Value × Value × Value) × ((DataW H × List MemPlace) × (DataW H × List MemPlace) × (DataW H × List MemPlace)), W.cell? (a.add (i * 3)) = some q.1.1 ∧ W.cell? (a.add (i * 3 + 1)) = some q.1.2.1 ∧ W.cell? (a.add (i * 3 + 2)) = some q.1.2.2 ∧
      DataW.trod enc P W base (fun _ => true) held (n - 1) f0.type [q.1.1] = some q.2.1 ∧ DataW.trod enc P W base (fun _ => true) held (n - 1) f1.type [q.1.2.1] = some q.2.2.1 ∧ DataW.trod enc P W base (fun _ => true) held (n - 1) f2.type [q.1.2.2] = some q.2.2.2 ∧ D i = .agg [q.2.1.1, q.2.2.1.1, q.2.2.2.1] := by
    intro i hi
    obtain ⟨cs', h1, h2⟩ := hx i (by omega)
    rw [ce] at h1
    obtain ⟨_, hlen, hcell⟩ := World.cells?_some h1
    obtain ⟨xs, k, hk, hxy, _, hxl, hf⟩ := DataW.trod_struct he h2
    have hk' : k = n - 1 := by omega
    subst hk'
    match xs, hxl, cs', hlen with
    | [y0, y1, y2], _, [v0, v1, v2], _ =>
      have g0 := hf 0 f0 rfl
      have g1 := hf 1 f1 rfl
      have g2 := hf 2 f2 rfl
      simp [o0, o1, o2, c0, c1, c2] at g0 g1 g2
      have e0 := hcell 0 (by omega)
      have e1 := hcell 1 (by omega)
      have e2 := hcell 2 (by omega)
      rw [Go.Deep.add_add] at e0 e1 e2
      simp only [Prod.mk.injEq] at hxy
      exact ⟨((v0, v1, v2), (y0, y1, y2)), by simpa using e0, by simpa using e1, by simpa using e2, g0, g1, g2, by simpa using hxy.1⟩
  obtain ⟨q, hq⟩ := Go.Deep.choose_lt each
  refine ⟨some a, len, m, n - 1, q, rfl, ⟨hl, hm, fun h => by cases h⟩, ?_, fun _ => ⟨(List.range (m - len)).map fun j => D (len + j), ?_⟩, fun i hi => ⟨(hq i hi).2.2.2.1, (hq i hi).2.2.2.2.1, (hq i hi).2.2.2.2.2.1⟩⟩
  · by_cases h0 : len = 0
    · exact .inl h0
    right
    obtain ⟨ab, ao, spot⟩ := a
    have hspot : spot = none := by simpa [Addr.add] using World.cell?_spot (hq 0 (by omega)).1
    subst hspot
    have hc := (hq 0 (by omega)).1
    simp only [Addr.add_lit] at hc hq
    exact ⟨ab, ao, rfl, cell_lt hc, fun i hi => ⟨(hq i hi).1, (hq i hi).2.1, (hq i hi).2.2.1⟩⟩
  · rw [hx1]
    simp only []
    rw [List.map_congr_left (fun i hi => (hq i (List.mem_range.1 hi)).2.2.2.2.2.2)]
/-- A slice of numbers, and its weight. -/
theorem open_row {base fuel : Nat} {held : Bool} {v : Value} {x : DataW H × List MemPlace}
    (h : DataW.trod enc Try.prog W base (fun _ => true) held fuel 45 [v] = some x) :
    ∃ (a : Option Addr) (cap : Nat) (xs : List Int), v = .slice a xs.length cap ∧ SlV a xs.length cap ∧ SlAt W a (iV xs) ∧ ((x.1.weights Try.prog 45).all (· ≤ reachBytes) = true → xs.length * 8 ≤ 140737488351232) := by
  rcases open_ints Try.underlying45 Try.underlying3 cells3 h with ⟨hcs, hx⟩ | ⟨a, len, cap, zs, hcs, _, hl, hm, hz, hx, hcell, hwz⟩
  · simp at hcs
    exact ⟨none, 0, [], hcs, ⟨Nat.le_refl _, Nat.zero_le _, fun _ => ⟨rfl, rfl⟩⟩, .inl rfl, fun _ => by simp⟩
  · simp at hcs
    simp only [if_true] at hz
    have hlen : (zs.take len).length = len := by simp; omega
    refine ⟨some a, cap, zs.take len, by rw [hlen]; exact hcs, ⟨by rw [hlen]; exact hl, hm, fun e => by cases e⟩, ?_, ?_⟩
    · by_cases h0 : len = 0
      · left; simp [h0, iV]
      · right
        obtain ⟨ab, ao, spot⟩ := a
        have hspot : spot = none := by simpa [Addr.add] using World.cell?_spot (hcell 0 (by omega))
        subst hspot
        have hc0 := hcell 0 (by omega)
        rw [Addr.add_lit] at hc0
        refine ⟨ab, ao, rfl, cell_lt hc0, fun j y hy => ?_⟩
        unfold iV at hy
        rw [List.getElem?_map] at hy
        by_cases hj : j < len
        · rw [List.getElem?_take_of_lt hj] at hy
          have hcj := hcell j (by omega)
          rw [Addr.add_lit] at hcj
          rw [hcj]
          cases hzj : zs[j]? with
          | none => rw [hzj] at hy; simp at hy
          | some z => rw [hzj] at hy; simp at hy; rw [← hy]; simp [List.getD, hzj]
        · rw [List.getElem?_eq_none (by omega)] at hy; simp at hy
    · intro hw
      rw [hx] at hw
      simp only [DataW.weights, Try.underlying45, List.all_cons, Bool.and_eq_true, bytes8, reachBytes, lits, List.length_map] at hw
      have := of_decide_eq_true hw.1
      simp only [List.length_take, List.length_drop] at this ⊢
      omega
/-- What an integer's value is. -/
def iOf : Value → Int
  | .int _ n => n
  | _ => 0
set_option maxRecDepth 100000 in
/-- A state. -/
theorem open_sc {base : Nat} {held : Bool} {v : Value} {d : DataW H} {p : List MemPlace} (hv : Value.okWide Try.prog W .any base 25 v) (h : DataW.Trod enc Try.prog W 0 (fun _ => true) held 25 v d p) (hL : (d.weights Try.prog 25).all (· ≤ reachBytes) = true) :
    ∃ (a : Option Addr) (c : Nat) (a2 : Option Addr) (c2 : Nat) (qs : List Qu) (ts : List Th) (q : Int), v = .agg #[.slice a qs.length c, .slice a2 ts.length c2, .int .i64 q] ∧ ScIn W a c a2 c2 qs ts := by
  obtain ⟨v0, v1, v2, y0, y1, y2, m, rfl, rfl, rfl, hy0, hy1, hy2⟩ := open_agg3 Try.underlying25 (by kernel_rfl) cells25 hv h
  obtain ⟨a, n, c, k, z, rfl, hv1, hz, hd, ht⟩ := open_tri Try.underlying22 Try.underlying47 cells47 rfl rfl rfl cells3 cells3 cells45 hy0
  obtain ⟨a2, n2, c2, k2, z2, rfl, hv2, hz2, _, ht2⟩ := open_tri Try.underlying23 Try.underlying44 cells44 rfl rfl rfl cells3 cells3 cells3 hy1
  obtain ⟨q, e2, rfl, _⟩ := DataW.trod_int Try.underlying3 hy2
  simp at e2
  subst e2
  have hrow : ∀ i, i < n → ∃ r : List Int × Option Addr × Nat, (z i).1.2.2 = .slice r.2.1 r.1.length r.2.2 ∧ SlV r.2.1 r.1.length r.2.2 ∧ SlAt W r.2.1 (iV r.1) ∧ r.1.length * 8 ≤ 140737488351232 := by
    intro i hi
    obtain ⟨ar, cr, xs, g1, g2, g3, g4⟩ := open_row (ht i hi).2.2
    refine ⟨(xs, ar, cr), g1, g2, g3, g4 ?_⟩
    obtain ⟨rest, hd⟩ := hd (by omega)
    rw [List.all_eq_true] at hL ⊢
    intro w hw
    refine hL w ?_
    rw [show (DataW.agg [y0.1, y1.1, (DataW.lit (.int .i64 q), ([] : List MemPlace)).1]).weights Try.prog 25 = DataW.weightsEach Try.prog [22, 23, 3] [y0.1, y1.1, .lit (.int .i64 q)] by simp only [DataW.weights, Try.underlying25]; rfl]
    simp only [DataW.weightsEach]
    refine List.mem_append_left _ ?_
    rw [hd]
    simp only [DataW.weights, Try.underlying22]
    refine List.mem_cons_of_mem _ (List.mem_append_left _ ?_)
    refine weights_mem (List.mem_map.2 ⟨i, List.mem_range.2 hi, rfl⟩) ?_
    rw [show (DataW.agg [(z i).2.1.1, (z i).2.2.1.1, (z i).2.2.2.1]).weights Try.prog 47 = DataW.weightsEach Try.prog [3, 3, 45] [(z i).2.1.1, (z i).2.2.1.1, (z i).2.2.2.1] by simp only [DataW.weights, Try.underlying47]; rfl]
    simp only [DataW.weightsEach]
    exact List.mem_append_right _ (List.mem_append_right _ (List.mem_append_left _ hw))
  obtain ⟨r, hr⟩ := Go.Deep.choose_lt hrow
  have i0 : ∀ i, i < n → (z i).1.1 = .int .i64 (iOf (z i).1.1) ∧ (z i).1.2.1 = .int .i64 (iOf (z i).1.2.1) := by
    intro i hi
    obtain ⟨h0, h1, _⟩ := ht i hi
    obtain ⟨x, e, _, _⟩ := DataW.trod_int Try.underlying3 h0
    obtain ⟨y, e', _, _⟩ := DataW.trod_int Try.underlying3 h1
    simp at e e'
    rw [e, e']; exact ⟨rfl, rfl⟩
  have i1 : ∀ i, i < n2 → (z2 i).1.1 = .int .i64 (iOf (z2 i).1.1) ∧ (z2 i).1.2.1 = .int .i64 (iOf (z2 i).1.2.1) ∧ (z2 i).1.2.2 = .int .i64 (iOf (z2 i).1.2.2) := by
    intro i hi
    obtain ⟨h0, h1, h2⟩ := ht2 i hi
    obtain ⟨x, e, _, _⟩ := DataW.trod_int Try.underlying3 h0
    obtain ⟨y, e', _, _⟩ := DataW.trod_int Try.underlying3 h1
    obtain ⟨y', e'', _, _⟩ := DataW.trod_int Try.underlying3 h2
    simp at e e' e''
    rw [e, e', e'']; exact ⟨rfl, rfl, rfl⟩
  have key : ∀ {α : Type} (m : Nat) (f : Nat → α) (k : Nat) (x : α), ((List.range m).map f)[k]? = some x → k < m ∧ x = f k := by
    intro α m f k x hx
    rw [List.getElem?_map] at hx
    rcases Nat.lt_or_ge k m with hk | hk
    · rw [List.getElem?_range hk] at hx; simp at hx; exact ⟨hk, hx.symm⟩
    · rw [List.getElem?_eq_none (by simpa using hk)] at hx; simp at hx
  refine ⟨a, c, a2, c2, (List.range n).map fun i => ⟨iOf (z i).1.1, iOf (z i).1.2.1, (r i).1⟩, (List.range n2).map fun i => ⟨iOf (z2 i).1.1, iOf (z2 i).1.2.1, iOf (z2 i).1.2.2⟩, q, by simp, ⟨by simpa using hv1, by simpa using hv2, ?_, ?_, ?_⟩⟩
  · rcases hz with rfl | ⟨b, off, e, hb, hc⟩
    · exact .inl rfl
    · refine .inr ⟨b, off, e, hb, fun k x hx => ?_⟩
      obtain ⟨hk, rfl⟩ := key _ _ _ _ hx
      obtain ⟨g0, g1, g2⟩ := hc k hk
      obtain ⟨e1, e2, e3, _⟩ := hr k hk
      rw [(i0 k hk).1] at g0
      rw [(i0 k hk).2] at g1
      rw [e1] at g2
      exact ⟨g0, g1, _, _, g2, e2, e3⟩
  · rcases hz2 with rfl | ⟨b, off, e, hb, hc⟩
    · exact .inl rfl
    · refine .inr ⟨b, off, e, hb, fun j x hx => ?_⟩
      have hj : j < n2 * 3 := by
        have := (List.getElem?_eq_some_iff.1 hx).1
        rw [tV_len] at this; simpa using this
      have hk : j / 3 < n2 := by omega
      obtain ⟨g0, g1, g2⟩ := hc (j / 3) hk
      obtain ⟨e0, e1, e2⟩ := i1 (j / 3) hk
      rw [e0] at g0
      rw [e1] at g1
      rw [e2] at g2
      have hg : ((List.range n2).map fun i => (⟨iOf (z2 i).1.1, iOf (z2 i).1.2.1, iOf (z2 i).1.2.2⟩ : Th))[j / 3]? = some ⟨iOf (z2 (j / 3)).1.1, iOf (z2 (j / 3)).1.2.1, iOf (z2 (j / 3)).1.2.2⟩ := by
        rw [List.getElem?_map, List.getElem?_range hk]; rfl
      obtain ⟨t0, t1, t2⟩ := tV_get _ _ _ hg
      have h3 : j % 3 = 0 ∨ j % 3 = 1 ∨ j % 3 = 2 := by omega
      rcases h3 with h3 | h3 | h3
      · have ej : j = j / 3 * 3 := by omega
        rw [← ej] at t0; rw [hx] at t0; rw [ej, g0]; exact t0.symm
      · have ej : j = j / 3 * 3 + 1 := by omega
        rw [← ej] at t1; rw [hx] at t1; rw [ej, ← Nat.add_assoc, g1]; exact t1.symm
      · have ej : j = j / 3 * 3 + 2 := by omega
        rw [← ej] at t2; rw [hx] at t2; rw [ej, ← Nat.add_assoc, g2]; exact t2.symm
  · intro k u hu
    obtain ⟨hk, rfl⟩ := key _ _ _ _ hu
    exact (hr k hk).2.2.2
/-- The arguments read as they did. -/
theorem carryAll {W' : World} (hb : Below W.heap.size W W') : ∀ {ts : List TypeId} {vs : List Value} {ds : List (DataW H)} {ps : List MemPlace}, (∀ t ∈ ts, Try.prog.readableRec t = true ∧ t < Try.prog.types.size) →
    DataW.TrodAll enc Try.prog W 0 (fun _ => true) true ts vs ds ps → DataW.TrodAll enc Try.prog W' 0 (fun b => decide (b < W.heap.size)) true ts vs ds ps
  | [], vs, ds, ps, _, h => by
    obtain ⟨rfl, rfl, rfl⟩ := trodAll_nil h
    exact trodAll_mk0
  | t :: ts, vs, ds, ps, hr, h => by
    have hlt := h.lt
    obtain ⟨v, vs1, d, ds1, a, b, rfl, rfl, rfl, h1, h2⟩ := trodAll_cons h
    exact trodAll_cons_mk (Below.trod laid9 (hr t (List.mem_cons_self ..)).1 (hr t (List.mem_cons_self ..)).2 h1 hb (fun x hx => hlt x (List.mem_append_left _ hx))) (carryAll hb (fun t ht => hr t (List.mem_cons_of_mem _ ht)) h2)
end
end Go.Proofs.Ytggikbcgijmhbaa
