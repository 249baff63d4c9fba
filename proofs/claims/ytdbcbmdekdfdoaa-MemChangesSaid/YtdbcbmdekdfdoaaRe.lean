/- WHAT IS PROVED: mem.read, for every access to a valid space: its bytes ahead of the fault, and this fault. CONDITIONS: at most 4096 bytes. -/
import Derived.Test.YtdbcbmdekdfdoaaRd
namespace Go.Proofs.Ytdbcbmdekdfdoaa
open Go Go.RowKit Go.QrBits Go.QrMem

/-- The fault of an access. -/
def fK (perm bytes : List Int) (t need : Int) (n : Nat) : Int := if kN perm bytes t need n < n then kd bytes need (t + kN perm bytes t need n) else 0
def fX (perm bytes : List Int) (t need : Int) (n : Nat) : Int := if kN perm bytes t need n < n then t + kN perm bytes t need n else 0

set_option maxRecDepth 100000 in
theorem fault_read (ps pt pn pq bo : Nat) (n : Nat) (t need : Int) (a : Option Addr) (c : Nat) (a2 : Option Addr) (c2 : Nat) (perm bytes : List Int) (w0 w : World) (hck : chk perm bytes.length = true) (hn : n ≤ 4096) (ht : I64 t)
    (hv : VisIn pn pt ps pq n t need a c a2 c2 perm bytes w) (hsp : SpIn w0 a c a2 c2 perm bytes) (hb0 : Below w0.heap.size w0 w) (hbo0 : w0.heap.size ≤ bo) (hbo : w.heap[bo]? = some (.cells #[.slice none 0 0] 23 (0, 0))) :
    Calls Try.prog 70 #[.func (.func 71) #[] #[.pointer (some ⟨ps, 0, none⟩), .pointer (some ⟨pt, 0, none⟩), .pointer (some ⟨pn, 0, none⟩), .pointer (some ⟨pq, 0, none⟩), .pointer (some ⟨bo, 0, none⟩)]] w fun e w' =>
      e = .returned (.agg #[.int .i64 (fK perm bytes t need n), .int .i64 (fX perm bytes t need n)]) ∧ OutIs bo (w.heap.size + 1) (rd bytes t (kN perm bytes t need n)) w' ∧ Turned bo (bo + 1) w w' := by
  have hbl : bo < w.heap.size := (Array.getElem?_eq_some_iff.1 hbo).1
  have hq : Below w.heap.size w (w.alloc (.cells #[.int .i64 0, .int .i64 0] 34)) := b_alloc (Below.refl _ _)
  have hv2 : VisIn pn pt ps pq n t need a c a2 c2 perm bytes (w.alloc (.cells #[.int .i64 0, .int .i64 0] 34)) := by
    have h1 := World.block_lt_of_cell? _ _ hv.n1
    have h2 := World.block_lt_of_cell? _ _ hv.t1
    have h3 := World.block_lt_of_cell? _ _ hv.s1
    have h4 := World.block_lt_of_cell? _ _ hv.q1
    exact hv.turned (S := w.heap.size) (T := w.heap.size) (Turned.of_below hq) h1 h2 h3 h4 (hv.sp.below hq)
  have hrd := read1_c ps pt pn pq bo n t need a c a2 c2 perm bytes w0 (w.alloc (.cells #[.int .i64 0, .int .i64 0] 34)) hck hn ht hv2 hsp (hb0.trans (hq.mono hb0.size)) hbo0 ((hq.block bo hbl).trans hbo)
  have hef : ∀ args w, (callFunc 71 args).run Try.prog w = .ok (.enter 71 args) w := enters_of Try.func71 (by kernel_rfl) rfl
  have hrow : ∀ w', Turned bo (bo + 1) (w.alloc (.cells #[.int .i64 0, .int .i64 0] 34)) w' → w'.heap[w.heap.size]? = some (.cells #[.int .i64 0, .int .i64 0] 34 (0, 0)) := fun w' h => h.blk (heap_alloc_new w _) (.inr (by omega))
  have hfin : ∀ (w1 : World) (x y : Int), OutIs bo (w.heap.size + 1) (rd bytes t (kN perm bytes t need n)) w1 → Turned bo (bo + 1) (w.alloc (.cells #[.int .i64 0, .int .i64 0] 34)) w1 →
      OutIs bo (w.heap.size + 1) (rd bytes t (kN perm bytes t need n)) ((w1.setCell ⟨w.heap.size, 0, none⟩ (.int .i64 x)).setCell ⟨w.heap.size, 1, none⟩ (.int .i64 y)) ∧ Turned bo (bo + 1) w ((w1.setCell ⟨w.heap.size, 0, none⟩ (.int .i64 x)).setCell ⟨w.heap.size, 1, none⟩ (.int .i64 y)) := by
    intro w1 x y h1 h2
    have h3 : Turned w.heap.size (w.heap.size + 1) w1 ((w1.setCell ⟨w.heap.size, 0, none⟩ (.int .i64 x)).setCell ⟨w.heap.size, 1, none⟩ (.int .i64 y)) :=
      ((Turned.refl _ _ w1).setCell _ (by show w.heap.size ≤ w.heap.size; omega) (by show w.heap.size < w.heap.size + 1; omega)).setCell _ (by show w.heap.size ≤ w.heap.size; omega) (by show w.heap.size < w.heap.size + 1; omega)
    exact ⟨h1.turned h3 (Nat.le_refl _) hbl, ((Turned.of_below hq).trans h2).trans_new h3 (Nat.le_refl _)⟩
  by_cases hk : kN perm bytes t need n < n
  · have e1 : fK perm bytes t need n = kd bytes need (t + kN perm bytes t need n) := by unfold fK; rw [if_pos hk]
    have e2 : fX perm bytes t need n = t + kN perm bytes t need n := by unfold fX; rw [if_pos hk]
    rw [e1, e2]
    refine (faultOf_d 71 _ (kd bytes need (t + kN perm bytes t need n)) (t + kN perm bytes t need n) w (fun w1 => OutIs bo (w.heap.size + 1) (rd bytes t (kN perm bytes t need n)) w1 ∧ Turned bo (bo + 1) (w.alloc (.cells #[.int .i64 0, .int .i64 0] 34)) w1) hef (hrd.mono (R' := fun e w' => e = died (kd bytes need (t + kN perm bytes t need n)) (t + kN perm bytes t need n) ∧ (OutIs bo (w.heap.size + 1) (rd bytes t (kN perm bytes t need n)) w' ∧ Turned bo (bo + 1) (w.alloc (.cells #[.int .i64 0, .int .i64 0] 34)) w') ∧ w'.heap[w.heap.size]? = some (.cells #[.int .i64 0, .int .i64 0] 34 (0, 0))) ?_)).mono ?_
    · rintro e w1 ⟨(⟨h, _⟩ | ⟨_, rfl⟩), ho, htd⟩
      · omega
      · exact ⟨rfl, ⟨by simpa using ho, htd⟩, hrow _ htd⟩
    · rintro e w2 ⟨rfl, w1, ⟨h1, h2⟩, rfl⟩
      exact ⟨rfl, hfin w1 _ _ h1 h2⟩
  · have e1 : fK perm bytes t need n = 0 := by unfold fK; rw [if_neg hk]
    have e2 : fX perm bytes t need n = 0 := by unfold fX; rw [if_neg hk]
    rw [e1, e2]
    refine (faultOf_r 71 _ w (fun w1 => OutIs bo (w.heap.size + 1) (rd bytes t (kN perm bytes t need n)) w1 ∧ Turned bo (bo + 1) (w.alloc (.cells #[.int .i64 0, .int .i64 0] 34)) w1) hef (hrd.mono (R' := fun e w' => (∃ v, e = .returned v) ∧ (OutIs bo (w.heap.size + 1) (rd bytes t (kN perm bytes t need n)) w' ∧ Turned bo (bo + 1) (w.alloc (.cells #[.int .i64 0, .int .i64 0] 34)) w') ∧ w'.heap[w.heap.size]? = some (.cells #[.int .i64 0, .int .i64 0] 34 (0, 0))) ?_)).mono ?_
    · rintro e w1 ⟨(⟨_, h⟩ | ⟨h, _⟩), ho, htd⟩
      · exact ⟨h, ⟨by simpa using ho, htd⟩, hrow _ htd⟩
      · omega
    · rintro e w2 ⟨rfl, w1, ⟨h1, h2⟩, rfl⟩
      exact ⟨rfl, hfin w1 _ _ h1 h2⟩

/-- What read hands back: the bytes, in a slice of one's own, and the fault. -/
def ReadPost (xs : List Int) (k x : Int) (w : World) (e : Ending) (w' : World) : Prop :=
  ∃ (a : Option Addr) (c : Nat), e = .returned (.tuple #[.slice a xs.length c, .agg #[.int .i64 k, .int .i64 x]]) ∧ w'.ownsRow w.heap.size 5 1 (.slice a xs.length c) xs.length (bV xs) ∧ Below w.heap.size w w'

/-- The boxes of read. -/
theorem read_boxes {w : World} {a : Option Addr} {c : Nat} {a2 : Option Addr} {c2 : Nat} {perm bytes : List Int} {t n need : Int} (hs : SpIn w a c a2 c2 perm bytes) :
    VisIn (w.heap.size + 1 + 1) (w.heap.size + 1) w.heap.size (w.heap.size + 1 + 1 + 1) n t need a c a2 c2 perm bytes ((((((w.alloc (.cells #[.slice a perm.length c, .slice a2 bytes.length c2] 25)).alloc (.cells #[.int .i64 t] 2)).alloc (.cells #[.int .i64 n] 3)).alloc (.cells #[.int .i64 need] 3)).alloc (.cells #[.int .i64 0, .int .i64 0] 34)).alloc (.cells #[.slice none 0 0] 23)) ∧
    Below w.heap.size w ((((((w.alloc (.cells #[.slice a perm.length c, .slice a2 bytes.length c2] 25)).alloc (.cells #[.int .i64 t] 2)).alloc (.cells #[.int .i64 n] 3)).alloc (.cells #[.int .i64 need] 3)).alloc (.cells #[.int .i64 0, .int .i64 0] 34)).alloc (.cells #[.slice none 0 0] 23)) ∧
    ((((((w.alloc (.cells #[.slice a perm.length c, .slice a2 bytes.length c2] 25)).alloc (.cells #[.int .i64 t] 2)).alloc (.cells #[.int .i64 n] 3)).alloc (.cells #[.int .i64 need] 3)).alloc (.cells #[.int .i64 0, .int .i64 0] 34)).alloc (.cells #[.slice none 0 0] 23)).heap[w.heap.size + 1 + 1 + 1 + 1 + 1]? = some (.cells #[.slice none 0 0] 23 (0, 0)) ∧
    ((((((w.alloc (.cells #[.slice a perm.length c, .slice a2 bytes.length c2] 25)).alloc (.cells #[.int .i64 t] 2)).alloc (.cells #[.int .i64 n] 3)).alloc (.cells #[.int .i64 need] 3)).alloc (.cells #[.int .i64 0, .int .i64 0] 34)).alloc (.cells #[.slice none 0 0] 23)).heap[w.heap.size + 1 + 1 + 1 + 1]? = some (.cells #[.int .i64 0, .int .i64 0] 34 (0, 0)) := by
  have hb : Below w.heap.size w ((((((w.alloc (.cells #[.slice a perm.length c, .slice a2 bytes.length c2] 25)).alloc (.cells #[.int .i64 t] 2)).alloc (.cells #[.int .i64 n] 3)).alloc (.cells #[.int .i64 need] 3)).alloc (.cells #[.int .i64 0, .int .i64 0] 34)).alloc (.cells #[.slice none 0 0] 23)) := b_alloc (b_alloc (b_alloc (b_alloc (b_alloc (b_alloc (Below.refl _ _))))))
  refine ⟨⟨by simp [go_sem], by simp [go_sem], by simp [go_sem], by simp [go_sem], by simp [go_sem], hs.below hb⟩, hb, ?_, ?_⟩
  · have := heap_alloc_new (((((w.alloc (.cells #[.slice a perm.length c, .slice a2 bytes.length c2] 25)).alloc (.cells #[.int .i64 t] 2)).alloc (.cells #[.int .i64 n] 3)).alloc (.cells #[.int .i64 need] 3)).alloc (.cells #[.int .i64 0, .int .i64 0] 34)) (.cells #[.slice none 0 0] 23)
    simpa using this
  · rw [Below.heap_alloc _ _ _ (by simp)]
    have := heap_alloc_new ((((w.alloc (.cells #[.slice a perm.length c, .slice a2 bytes.length c2] 25)).alloc (.cells #[.int .i64 t] 2)).alloc (.cells #[.int .i64 n] 3)).alloc (.cells #[.int .i64 need] 3)) (.cells #[.int .i64 0, .int .i64 0] 34)
    simpa using this

set_option maxHeartbeats 4000000 in
set_option maxRecDepth 100000 in
theorem read_c (n : Nat) (t need : Int) (a : Option Addr) (c : Nat) (a2 : Option Addr) (c2 : Nat) (perm bytes : List Int) (w : World) (hck : chk perm bytes.length = true) (hn : n ≤ 4096) (ht : I64 t) (hs : SpIn w a c a2 c2 perm bytes) :
    Calls Try.prog 56 #[.agg #[.slice a perm.length c, .slice a2 bytes.length c2], .int .i64 t, .int .i64 (n : Int), .int .i64 need] w (ReadPost (rd bytes t (kN perm bytes t need n)) (fK perm bytes t need n) (fX perm bytes t need n) w) := by
  have hmf : ∀ (fn : Fn) (first cap : Array Value) (w : World), (Instr.makeFunc fn first cap).run Try.prog w = .ok (.func fn first cap) w := fun _ _ _ _ => rfl
  have HC := Lib.hid hck
  have HS := Lib.hid hs
  have HT := Lib.hid ht
  clear hck hs ht
  go_enter Try.func56, Try.ntmps56
  go_wp2_with fail
  obtain ⟨k1, k2, k3, k4⟩ := read_boxes (n := n) (t := t) (need := need) HS.out
  refine (fault_read w.heap.size (w.heap.size + 1) (w.heap.size + 1 + 1) (w.heap.size + 1 + 1 + 1) (w.heap.size + 1 + 1 + 1 + 1 + 1) n t need a c a2 c2 perm bytes w _ HC.out hn HT.out k1 HS.out k2 (by omega) k3).mono ?_
  rintro e w2 ⟨rfl, ⟨v, ho1, ho2⟩, htd⟩
  obtain ⟨av, cv, rfl⟩ := own_slice ho2
  obtain ⟨c0, c1, f0, f1, hlt⟩ := row2 (htd.blk k4 (.inl (by omega)))
  have hco : w2.cell? ⟨w.heap.size + 1 + 1 + 1 + 1 + 1, 0, none⟩ = some (.slice av (rd bytes t (kN perm bytes t need n)).length cv) := by simp [World.cell?, ho1]
  have hlo : w.heap.size + 1 + 1 + 1 + 1 + 1 < w2.heap.size := (Array.getElem?_eq_some_iff.1 ho1).1
  have HO := Lib.hid ho1
  have K2 := Lib.hid k2
  have hq2 : Below w.heap.size w w2 := k2.trans (htd.below (by simp; omega) (by omega))
  have ho3 := ownsRow_base (base' := w.heap.size + 1 + 1 + 1 + 1 + 1) ho2 (by simp)
  clear k1 k2 k3 k4 ho1 ho2 htd
  go_wp2
  go_region
  go_wp2
  obtain ⟨g1, g2⟩ := put2 (.int .i64 (fK perm bytes t need n)) (.int .i64 (fX perm bytes t need n)) c0 c1
  refine bodyPost_ret (v := .tuple #[.slice av (rd bytes t (kN perm bytes t need n)).length cv, .agg #[.int .i64 (fK perm bytes t need n), .int .i64 (fX perm bytes t need n)]]) (by simp [results, Try.results56, go_sem, g1, g2, hlt]) rfl ⟨av, cv, rfl, ?_, ?_⟩
  · exact ownsRow_base ((ownsRow_setCell_below (ownsRow_setCell_below ho3 (by show w.heap.size + 1 + 1 + 1 + 1 < _; omega) _) (by show w.heap.size + 1 + 1 + 1 + 1 < _; omega) _).alloc _) (by omega)
  · exact (((hq2.setCell (by show _ ≤ w.heap.size + 1 + 1 + 1 + 1; omega) _).setCell (by show _ ≤ w.heap.size + 1 + 1 + 1 + 1; omega) _).alloc (by simp; omega) _).drew
end Go.Proofs.Ytdbcbmdekdfdoaa
