/- WHAT IS PROVED: how the laws' arguments of layer 3 are read (spaces, parts, words, pairs, slices of bytes), and that they read the same behind a call that changes nothing below the heap's end. CONDITIONS: none. -/
import Derived.Test.YtdbcbmdekdfdoaaSe
import Derived.Test.YtdbcbmdekdfdoaaBd
import Derived.Test.YtdbcbmdekdfdoaaRows
import Derived.Test.YtdbcbmdekdfdoaaChecked
import Derived.WalkKit
import Derived.ProofKit
import Derived.OpenShut
import Derived.Deep.DeepHandedRow
import Derived.Lib.LaidTab
import Derived.Lib.SmallJoins
import Derived.ChangeSame
import Derived.Carry
namespace Go.Proofs.Ytdbcbmdekdfdoaa
open Go Go.ChangeShapes Go.WideShapes Go.ChangeAt Go.RowKit Go.Joins Go.QrBits Go.QrMem

theorem own9 : ownKnob Try.prog.godebug = none := by kernel_rfl
theorem laid9 : laidOutB Try.prog = true := by kernel_rfl
theorem wf_I64 {v : Int} (h : (Lit.int .i64 v).wf = true) : I64 v := by
  simp only [Lit.wf, IntKind.min, IntKind.max, IntKind.signed, IntKind.bits, Bool.and_eq_true, decide_eq_true_eq] at h
  unfold I64
  simp at h
  omega
theorem wf_u8 {v : Int} (h : (Lit.int .u8 v).wf = true) : 0 ≤ v ∧ v ≤ 255 := by
  simp only [Lit.wf, IntKind.min, IntKind.max, IntKind.signed, IntKind.bits, Bool.and_eq_true] at h
  simp at h
  omega
theorem cell_lt {w : World} {b o : Nat} {x : Value} (h : w.cell? ⟨b, o, none⟩ = some x) : b < w.heap.size := by
  rcases Nat.lt_or_ge b w.heap.size with h1 | h1
  · exact h1
  · simp [World.cell?, Array.getElem?_eq_none h1] at h
theorem cells25 : Try.prog.cellsOf 25 = 2 := by kernel_rfl
theorem cells44 : Try.prog.cellsOf 44 = 3 := by kernel_rfl
theorem cells66 : Try.prog.cellsOf 66 = 4 := by kernel_rfl
theorem cells64 : Try.prog.cellsOf 64 = 2 := by kernel_rfl
theorem cells3 : Try.prog.cellsOf 3 = 1 := by kernel_rfl
theorem cells2 : Try.prog.cellsOf 2 = 1 := by kernel_rfl
theorem cells4 : Try.prog.cellsOf 4 = 1 := by kernel_rfl
theorem cells5 : Try.prog.cellsOf 5 = 1 := by kernel_rfl
section
variable {H : Type} {enc : TypeId × Value → H} {W : World}
/-- A slice of numbers. -/
theorem open_row {P : Program} {t e : TypeId} {k : IntKind} {base fuel : Nat} {held : Bool} {v : Value} {x : DataW H × List MemPlace} (ht : P.underlying t = some (.slice e)) (he : P.underlying e = some (.int k)) (hc : P.cellsOf e = 1)
    (h : DataW.trod enc P W base (fun _ => true) held fuel t [v] = some x) :
    ∃ (a : Option Addr) (cap : Nat) (xs : List Int), v = .slice a xs.length cap ∧ SlV a xs.length cap ∧ SlAt W a (xs.map (Value.int k)) ∧ ∀ n ∈ xs, (Lit.int k n).wf = true := by
  rcases open_ints ht he hc h with ⟨hcs, hx⟩ | ⟨a, len, cap, zs, hcs, _, hl, hm, hz, hx, hcell, hwz⟩
  · simp at hcs
    exact ⟨none, 0, [], hcs, ⟨Nat.le_refl _, Nat.zero_le _, fun _ => ⟨rfl, rfl⟩⟩, .inl rfl, fun n h => by cases h⟩
  · simp at hcs
    simp only [if_true] at hz
    have hlen : (zs.take len).length = len := by simp; omega
    refine ⟨some a, cap, zs.take len, by rw [hlen]; exact hcs, ⟨by rw [hlen]; exact hl, hm, fun e => by cases e⟩, ?_, fun n hn => hwz n (List.mem_of_mem_take hn)⟩
    by_cases h0 : len = 0
    · left; simp [h0]
    · right
      obtain ⟨ab, ao, spot⟩ := a
      have hspot : spot = none := by simpa [Addr.add] using World.cell?_spot (hcell 0 (by omega))
      subst hspot
      have hc0 := hcell 0 (by omega)
      rw [Addr.add_lit] at hc0
      refine ⟨ab, ao, rfl, cell_lt hc0, fun j y hy => ?_⟩
      rw [List.getElem?_map] at hy
      by_cases hj : j < len
      · rw [List.getElem?_take_of_lt hj] at hy
        have hcj := hcell j (by omega)
        rw [Addr.add_lit] at hcj
        rw [hcj]
        cases hzj : zs[j]? with
        | none => rw [hzj] at hy; simp at hy
        | some z => rw [hzj] at hy; simp at hy; rw [← hy]; simp [List.getD, hzj]
      · rw [List.getElem?_eq_none (by omega)] at hy; simp at hy
set_option maxRecDepth 100000 in
theorem open_sp {base : Nat} {held : Bool} {v : Value} {d : DataW H} {p : List MemPlace} (hv : Value.okWide Try.prog W .any base 25 v) (h : DataW.Trod enc Try.prog W 0 (fun _ => true) held 25 v d p) :
    ∃ (a : Option Addr) (c : Nat) (a2 : Option Addr) (c2 : Nat) (perm bytes : List Int), v = .agg #[.slice a perm.length c, .slice a2 bytes.length c2] ∧ SpIn W a c a2 c2 perm bytes ∧ okB bytes := by
  obtain ⟨c0, c1, y0, y1, m, rfl, rfl, rfl, hy0, hy1⟩ := open_agg2 Try.underlying25 (by kernel_rfl) cells25 hv h
  obtain ⟨a, c, perm, rfl, v1, s1, _⟩ := open_row Try.underlying22 Try.underlying3 cells3 hy0
  obtain ⟨a2, c2, bytes, rfl, v2, s2, w2⟩ := open_row Try.underlying23 Try.underlying5 cells5 hy1
  exact ⟨a, c, a2, c2, perm, bytes, rfl, ⟨v1, v2, s1, s2⟩, fun n hn => wf_u8 (w2 n hn)⟩
set_option maxRecDepth 100000 in
theorem open_part {base : Nat} {sp : Nat → Bool} {held : Bool} {v : Value} {d : DataW H} {p : List MemPlace} (hv : Value.okWide Try.prog W .any base 44 v) (h : DataW.Trod enc Try.prog W 0 sp held 44 v d p) :
    ∃ t n q : Int, v = .agg #[.int .i64 t, .int .i64 n, .int .i64 q] ∧ I64 t ∧ I64 n ∧ I64 q := by
  obtain ⟨c0, c1, c2, y0, y1, y2, m, rfl, rfl, rfl, hy0, hy1, hy2⟩ := open_agg3 Try.underlying44 (by kernel_rfl) cells44 hv h
  obtain ⟨a, e0, rfl, wa⟩ := DataW.trod_int Try.underlying2 hy0
  obtain ⟨b, e1, rfl, wb⟩ := DataW.trod_int Try.underlying3 hy1
  obtain ⟨c, e2, rfl, wc⟩ := DataW.trod_int Try.underlying3 hy2
  simp at e0 e1 e2
  subst e0 e1 e2
  exact ⟨a, b, c, rfl, wf_I64 wa, wf_I64 wb, wf_I64 wc⟩
set_option maxRecDepth 100000 in
theorem open_word {base : Nat} {sp : Nat → Bool} {held : Bool} {v : Value} {d : DataW H} {p : List MemPlace} (hv : Value.okWide Try.prog W .any base 66 v) (h : DataW.Trod enc Try.prog W 0 sp held 66 v d p) :
    ∃ (t s : Int) (g : Bool) (x : Int), v = .agg #[.int .i64 t, .int .i64 s, .bool g, .int .i64 x] ∧ I64 t ∧ I64 s ∧ I64 x := by
  obtain ⟨cs, rfl, hsz⟩ := okWide_struct Try.underlying66 hv
  rw [cells66] at hsz
  obtain ⟨c0, c1, c2, c3, rfl⟩ : ∃ c0 c1 c2 c3, cs = #[c0, c1, c2, c3] := by
    obtain ⟨l⟩ := cs
    match l, hsz with
    | [c0, c1, c2, c3], _ => exact ⟨c0, c1, c2, c3, rfl⟩
  obtain ⟨fuel, hf⟩ := h
  obtain ⟨y0, y1, y2, n, hx, _, h0, h1, h2⟩ := Go.Deep.trod_struct3 Try.underlying66 hf
  simp [Value.cells, cells2, cells64] at h0 h1 h2
  obtain ⟨z0, z1, m, hx1, _, h10, h11⟩ := trod_struct2 Try.underlying64 h1
  simp [cells3, cells4] at h10 h11
  obtain ⟨a, e0, rfl, wa⟩ := DataW.trod_int Try.underlying2 h0
  obtain ⟨b, e1, rfl, wb⟩ := DataW.trod_int Try.underlying3 h10
  obtain ⟨g, e2, rfl⟩ := DataW.trod_bool Try.underlying4 h11
  obtain ⟨x, e3, rfl, wx⟩ := DataW.trod_int Try.underlying2 h2
  simp at e0 e1 e2 e3
  subst e0 e1 e2 e3
  exact ⟨a, b, g, x, rfl, wf_I64 wa, wf_I64 wb, wf_I64 wx⟩
/-- A slice of bytes. -/
theorem open_bytes {held : Bool} {v : Value} {d : DataW H} {p : List MemPlace} (hv : ∃ a l c, v = .slice a l c) (h : DataW.Trod enc Try.prog W 0 (fun _ => true) held 23 v d p) :
    ∃ (a : Option Addr) (c : Nat) (xs : List Int), v = .slice a xs.length c ∧ SlV a xs.length c ∧ SlAt W a (bV xs) ∧ okB xs := by
  obtain ⟨a, l, c, rfl⟩ := hv
  obtain ⟨fuel, hf⟩ := h
  obtain ⟨a', c', xs, e, v1, s1, w1⟩ := open_row Try.underlying23 Try.underlying5 cells5 hf
  exact ⟨a', c', xs, e, v1, s1, fun n hn => wf_u8 (w1 n hn)⟩
/-- The arguments read as they did. -/
theorem carryAll {W' : World} (hb : Below W.heap.size W W') : ∀ {ts : List TypeId} {vs : List Value} {ds : List (DataW H)} {ps : List MemPlace}, (∀ t ∈ ts, Try.prog.readableRec t = true ∧ t < Try.prog.types.size) →
    DataW.TrodAll enc Try.prog W 0 (fun _ => true) true ts vs ds ps → DataW.TrodAll enc Try.prog W' 0 (fun b => decide (b < W.heap.size)) true ts vs ds ps
  | [], vs, ds, ps, _, h => by
    obtain ⟨rfl, rfl, rfl⟩ := trodAll_nil h
    exact trodAll_mk0
  | t :: ts, vs, ds, ps, hr, h => by
    have hlt := h.lt
    obtain ⟨v, vs1, d, ds1, a, b, rfl, rfl, rfl, h1, h2⟩ := trodAll_cons h
    exact trodAll_cons_mk (Below.trod laid9 (hr t (List.mem_cons_self ..)).1 (hr t (List.mem_cons_self ..)).2 h1 hb (fun x hx => hlt x (List.mem_append_left _ hx))) (carryAll hb (fun t ht => hr t (List.mem_cons_of_mem _ ht)) h2)
end
end Go.Proofs.Ytdbcbmdekdfdoaa
