/- WHAT IS PROVED: the region that makes one variable of type api.Int, at this program. CONDITIONS: those of 'wp_own'. -/
import Derived.Test.YtfgmfkiknogdeaaDoorA
import Derived.Test.YtfgmfkiknogdeaaDoorQa
namespace Go.Proofs.YtfgmfkiknogdeaaDoor
open Go Go.RowKit Go.QrBits
attribute [local go_sem] reg_cell reg_frozen reg_setCell reg_lt reg_lt_add reg_drew reg_of_drew

theorem eval_put_same {a : Act} {d : Tmp} {v : Value} (h : d < a.tmps.size) : (a.put (some d) v).eval (.tmp d) = v := by
  simp [Act.put, Act.eval, Array.getD, h]
theorem alloc23 {w : World} {d : Tmp} {o : Oper} (ho : o.op = .alloc 23) (hd : o.dst = some d) {Q : Exit → Act → World → Prop} (a : Act) (p : Regrown) (K : Act → World → Prop)
    (h : K (a.put (some d) (ptrOf w p)) ((reg w p).alloc (.cells #[.int .i64 0, .bool false] 23))) : o.wp Tryd.prog a (reg w p) K Q := by
  unfold Oper.wp execOp
  simp only [ho]
  go_simp
  exact h
theorem store23 {w : World} {d x : Tmp} {s : Int} {g : Bool} {N : Nat} {o : Oper} (ho : o.op = .store 23 (.tmp d) (.tmp x)) (hd : o.dst = none) (hdx : d ≠ x) (hN : d < N) {Q : Exit → Act → World → Prop} (a : Act) (p1 p2 : Regrown) (K : Act → World → Prop)
    (ha : a.tmps.size = N) (hv : a.eval (.tmp x) = .agg #[.int .i64 s, .bool g])
    (h : K (a.put (some d) (ptrOf w p1)) (reg ((reg w p1).alloc (.cells #[.int .i64 s, .bool g] 23)) p2)) : o.wp Tryd.prog (a.put (some d) (ptrOf w p1)) (reg ((reg w p1).alloc (.cells #[.int .i64 0, .bool false] 23)) p2) K Q := by
  have e1 : (a.put (some d) (ptrOf w p1)).eval (.tmp d) = .pointer (some ⟨(reg w p1).heap.size, 0, none⟩) := eval_put_same (by rw [ha]; exact hN)
  have e2 : (a.put (some d) (ptrOf w p1)).eval (.tmp x) = .agg #[.int .i64 s, .bool g] := by
    rw [← hv]; exact Act.eval_put (fun d' hd' e => by cases hd'; cases e; exact hdx rfl)
  unfold Oper.wp execOp
  simp only [ho, e1, e2]
  generalize a.put (some d) (ptrOf w p1) = a2 at *
  clear hv ha e1 e2
  go_simp
  exact h
theorem wp_own23 {id n ia is : Nat} {w : World} {d x : Tmp} {l : List Oper} {oa os : Oper} {s : Int} {g : Bool} {Q : Exit → Act → World → Prop} {a : Act} {N : Nat} (hN : a.tmps.size = N) (hd : d < N) (hdx : d ≠ x) (hB : ownB .any l.toArray n ia is d x = true)
    (hia : l[ia]? = some oa) (his : l[is]? = some os) (h1 : oa.op = .alloc 23) (h2 : oa.dst = some d) (h3 : oa.guard = none) (h4 : os.op = .store 23 (.tmp d) (.tmp x)) (h5 : os.dst = none) (h6 : os.guard = none)
    (h : wpX Tryd.prog l.toArray (fun w' => ∃ p, w' = reg w p) ia is (fun a' => a'.eval (.tmp x) = .agg #[.int .i64 s, .bool g] ∧ ∀ p1 p2, wpList Tryd.prog l.toArray Q (l.drop n) (a'.put (some d) (ptrOf w p1)) (reg ((reg w p1).alloc (.cells #[.int .i64 s, .bool g] 23)) p2)) 0 (l.take n) a) :
    (Code.region id l.toArray true).wp Tryd.prog Q a w :=
  wp_own hN (by kernel_rfl) hB hia his h3 h6 (fun a p K hK => alloc23 h1 h2 a p K hK) (fun a p1 p2 K ha hv hK => store23 h4 h5 hdx hd a p1 p2 K ha hv hK) h
end Go.Proofs.YtfgmfkiknogdeaaDoor
