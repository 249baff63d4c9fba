/- WHAT IS PROVED: a region whose order is drawn, which makes ONE variable of its own and stores a value into it, and whose other operations but a forced tail only read or call functions that leave old memory alone, may be walked once, in the order of the text (over any program). CONDITIONS: Bools of the region, by the kernel; what the making and the store do. -/
import Derived.Test.YtdbcbmdekdfdoaaQr
namespace Go.QrBits
open Go Go.Sort Go.RowKit
section
variable {P : Program} {ops ops2 : Array Oper} {md : Region.Mode} {C : World → Prop}

/-- One value, in every world of the class; what a call lays is laid behind the world in which the call began. -/
def yieldsR (P : Program) (w : World) (v : Value) : Result Next → Prop
  | .ok (.value u) w' => w' = w ∧ u = v
  | .ok .skip w' => w' = w ∧ v = undef
  | .ok (.enter f args) w' => w' = w ∧ Calls P f args w (fun e w'' => e = .returned v ∧ Below w.heap.size w w'')
  | _ => False
def quietR (P : Program) (o : Oper) (a : Act) (C : World → Prop) (next : Act → Prop) : Prop := ∃ v, (∀ w, C w → yieldsR P w v ((execOp a.eval o).run P w)) ∧ next (a.put o.dst v)
def opR (P : Program) (ops : Array Oper) (C : World → Prop) (o : Oper) (K : Act → Prop) (a : Act) : Prop :=
  if Region.wanted o (yielded ops a.tmps) then quietR P o a C K else K (a.put o.dst undef)
theorem opR_mono {o : Oper} {a : Act} {K K' : Act → Prop} (h : ∀ a, K a → K' a) (hh : opR P ops C o K a) : opR P ops C o K' a := by
  unfold opR at *
  split at hh
  · rename_i hw; rw [if_pos hw]; obtain ⟨v, h1, h2⟩ := hh; exact ⟨v, h1, h _ h2⟩
  · rename_i hw; rw [if_neg hw]; exact h _ hh

/-- Two operations, number ia and number is, are left out. -/
def opX (P : Program) (ops : Array Oper) (C : World → Prop) (ia is : Nat) (i : Nat) (o : Oper) (K : Act → Prop) (a : Act) : Prop := if i = ia ∨ i = is then K a else opR P ops C o K a
def wpX (P : Program) (ops : Array Oper) (C : World → Prop) (ia is : Nat) (Q : Act → Prop) : Nat → List Oper → Act → Prop
  | _, [], a => Q a
  | k, o :: rest, a => opX P ops C ia is k o (wpX P ops C ia is Q (k + 1) rest) a
variable {ia is : Nat}
theorem wpX_nil {Q : Act → Prop} {a : Act} {k : Nat} (h : Q a) : wpX P ops C ia is Q k [] a := h
theorem wpX_out {Q : Act → Prop} {a : Act} {o : Oper} {rest : List Oper} {k : Nat} (hk : k = ia ∨ k = is) (h : wpX P ops C ia is Q (k + 1) rest a) : wpX P ops C ia is Q k (o :: rest) a := by
  unfold wpX opX; rw [if_pos hk]; exact h
theorem wpX_step {Q : Act → Prop} {a : Act} {o : Oper} {rest : List Oper} {k : Nat} (hk : ¬ (k = ia ∨ k = is))
    (h : ∀ K : Act → Prop, (∀ a, wpX P ops C ia is Q (k + 1) rest a → K a) → if Region.wanted o (yielded ops a.tmps) then quietR P o a C K else K (a.put o.dst undef)) : wpX P ops C ia is Q k (o :: rest) a := by
  unfold wpX opX; rw [if_neg hk]; exact h _ (fun _ h => h)
theorem opX_mono {i : Nat} {o : Oper} {a : Act} {K K' : Act → Prop} (h : ∀ a, K a → K' a) (hh : opX P ops C ia is i o K a) : opX P ops C ia is i o K' a := by
  unfold opX at *; split at hh
  · rename_i hc; rw [if_pos hc]; exact h _ hh
  · rename_i hc; rw [if_neg hc]; exact opR_mono h hh

/-- Every order: of the operations that may come up. -/
def anyX (P : Program) (md : Region.Mode) (ops : Array Oper) (C : World → Prop) (ia is n : Nat) (L : Array Bool → Act → Prop) : Nat → Array Bool → Act → Prop
  | 0, listed, a => L listed a
  | f + 1, listed, a => Region.ready md ops listed ≠ [] ∧ ∀ i ∈ Region.ready md ops listed, i < n ∧ ∃ o, ops[i]? = some o ∧ opX P ops C ia is i o (anyX P md ops C ia is n L f (listed.setIfInBounds i true)) a

/-- What an operation yields in this state. -/
def Gives (P : Program) (ops : Array Oper) (C : World → Prop) (o : Oper) (v : Value) (a : Act) : Prop :=
  (Region.wanted o (yielded ops a.tmps) = true ∧ ∀ w, C w → yieldsR P w v ((execOp a.eval o).run P w)) ∨ (Region.wanted o (yielded ops a.tmps) = false ∧ v = undef)
theorem Gives.op {o : Oper} {v : Value} {a : Act} {K : Act → Prop} (hy : Gives P ops C o v a) (h : K (a.put o.dst v)) : opR P ops C o K a := by
  unfold opR
  rcases hy with ⟨hw, hv⟩ | ⟨hw, rfl⟩
  · rw [if_pos hw]; exact ⟨v, hv, h⟩
  · rw [if_neg (by rw [hw]; decide)]; exact h
theorem gives_of_op {o : Oper} {a : Act} {K : Act → Prop} (h : opR P ops C o K a) : ∃ v, Gives P ops C o v a ∧ K (a.put o.dst v) := by
  unfold opR at h
  split at h
  · rename_i hw; obtain ⟨v, h1, h2⟩ := h; exact ⟨v, .inl ⟨hw, h1⟩, h2⟩
  · rename_i hw; exact ⟨undef, .inr ⟨by simpa using hw, rfl⟩, h⟩
theorem Gives.same {o : Oper} {v : Value} {a a' : Act} (hy : Gives P ops C o v a) (he : execOp a'.eval o = execOp a.eval o) (hw : Region.wanted o (yielded ops a'.tmps) = Region.wanted o (yielded ops a.tmps)) : Gives P ops C o v a' := by
  unfold Gives at *; rw [he, hw]; exact hy
/-- Two operations that are apart. -/
theorem op_apart {oi oj : Oper} {v : Value} (hap : oi.apart ops oj = true) (hsi : ∀ cs b, oi.op ≠ .select cs b) (hsj : ∀ cs b, oj.op ≠ .select cs b) {K : Act → Prop} {a : Act}
    (hy : Gives P ops C oi v a) (h : opR P ops C oj K (a.put oi.dst v)) : opR P ops C oj (fun a' => Gives P ops C oi v a' ∧ K (a'.put oi.dst v)) a := by
  obtain ⟨h1, h2, h3⟩ := Oper.apart_spec hap
  obtain ⟨u, hu, hK⟩ := gives_of_op h
  have hu' : Gives P ops C oj u a := by
    refine hu.same ?_ ?_
    · rw [execOp_put oj hsj a oi.dst v h1]
    · rw [wanted_put oj a oi.dst v h1]
  refine hu'.op ⟨hy.same (execOp_put oi hsi a oj.dst u h3) (wanted_put oi a oj.dst u h3), ?_⟩
  rw [← Act.put_comm a v u h2]; exact hK


def GivesX (P : Program) (ops : Array Oper) (C : World → Prop) (ia is i : Nat) (o : Oper) (v : Value) (a : Act) : Prop := (i = ia ∨ i = is) ∨ Gives P ops C o v a
def putX (ia is i : Nat) (o : Oper) (v : Value) (a : Act) : Act := if i = ia ∨ i = is then a else a.put o.dst v
theorem GivesX.op {i : Nat} {o : Oper} {v : Value} {a : Act} {K : Act → Prop} (hy : GivesX P ops C ia is i o v a) (h : K (putX ia is i o v a)) : opX P ops C ia is i o K a := by
  unfold opX; unfold putX at h; split
  · rename_i hc; rwa [if_pos hc] at h
  · rename_i hc; rw [if_neg hc] at h
    rcases hy with hy | hy
    · exact absurd hy hc
    · exact hy.op h
theorem givesX_of_op {i : Nat} {o : Oper} {a : Act} {K : Act → Prop} (h : opX P ops C ia is i o K a) : ∃ v, GivesX P ops C ia is i o v a ∧ K (putX ia is i o v a) := by
  unfold opX at h; split at h
  · rename_i hc; exact ⟨undef, .inl hc, by unfold putX; rwa [if_pos hc]⟩
  · rename_i hc; obtain ⟨v, h1, h2⟩ := gives_of_op h; exact ⟨v, .inr h1, by unfold putX; rwa [if_neg hc]⟩
theorem opX_apart {i j : Nat} {oi oj : Oper} {v : Value} (hap : oi.apart ops oj = true) (hsi : ∀ cs b, oi.op ≠ .select cs b) (hsj : ∀ cs b, oj.op ≠ .select cs b) {K : Act → Prop} {a : Act}
    (hy : GivesX P ops C ia is i oi v a) (h : opX P ops C ia is j oj K (putX ia is i oi v a)) : opX P ops C ia is j oj (fun a' => GivesX P ops C ia is i oi v a' ∧ K (putX ia is i oi v a')) a := by
  by_cases hi : i = ia ∨ i = is
  · have e : ∀ a', putX ia is i oi v a' = a' := fun a' => by unfold putX; rw [if_pos hi]
    rw [e] at h
    exact opX_mono (fun a' hK => ⟨.inl hi, by rw [e]; exact hK⟩) h
  · have e : ∀ a', putX ia is i oi v a' = a'.put oi.dst v := fun a' => by unfold putX; rw [if_neg hi]
    have hy' : Gives P ops C oi v a := hy.resolve_left hi
    rw [e] at h
    unfold opX at h ⊢
    split at h
    · rename_i hj; rw [if_pos hj]; exact ⟨hy, by rw [e]; exact h⟩
    · rename_i hj; rw [if_neg hj]
      exact opR_mono (fun a' hK => ⟨.inr hK.1, by rw [e]; exact hK.2⟩) (op_apart hap hsi hsj hy' h)

theorem anyX_first {n i : Nat} {oi : Oper} {v : Value} {L : Array Bool → Act → Prop} (hi : ops[i]? = some oi) (hsel : ∀ (j : Nat) (o : Oper) cs b, ops[j]? = some o → o.op ≠ .select cs b)
    (hs : Region.sinkB md ops n = true) (hc : Region.chainB md ops n = true) (hn : n < ops.size) (hin : i < n) (hdone : ∀ listed a, L listed a → ∀ j ∈ Region.ready md ops listed, n ≤ j) :
    ∀ (f : Nat) (listed : Array Bool) (a : Act), HeadInv md ops n listed →
      (∀ j oj, ops[j]? = some oj → j ≠ i → listed.getD j true = false → (∀ e ∈ oj.after, Region.binds md e = true → e.on ≠ i) → oi.apart ops oj = true) →
      i ∈ Region.ready md ops listed → GivesX P ops C ia is i oi v a →
      anyX P md ops C ia is n L f (listed.setIfInBounds i true) (putX ia is i oi v a) → anyX P md ops C ia is n L (f + 1) listed a := by
  intro f
  induction f with
  | zero =>
    intro listed a inv _ hr hy H
    have hun := (mem_ready.1 hr).1
    refine ⟨fun h => (by rw [h] at hr; cases hr), fun j hj => ?_⟩
    have hjn : j < n := Nat.lt_of_not_le fun h => tail_waits hs hc hn inv _ i rfl hin hun j h hj
    by_cases hji : j = i
    · subst hji; exact ⟨hjn, oi, hi, hy.op H⟩
    · exact absurd (hdone _ _ H j (ready_mono hj hji)) (by omega)
  | succ f ih =>
    intro listed a inv hfree hr hy H
    have hun := (mem_ready.1 hr).1
    refine ⟨fun h => (by rw [h] at hr; cases hr), fun j hj => ?_⟩
    have hjn : j < n := Nat.lt_of_not_le fun h => tail_waits hs hc hn inv _ i rfl hin hun j h hj
    by_cases hji : j = i
    · subst hji; exact ⟨hjn, oi, hi, hy.op H⟩
    · obtain ⟨_, oj, hoj, h1⟩ := H.2 j (ready_mono hj hji)
      obtain ⟨hjun, oj', hoj', hall⟩ := mem_ready.1 hj
      obtain rfl : oj' = oj := Option.some.inj (hoj'.symm.trans hoj)
      have hnot : ∀ e ∈ oj'.after, Region.binds md e = true → e.on ≠ i := fun e he hb heq => by
        have := hall e he hb
        rw [heq, getD_both hun] at this; cases this
      have h2 := opX_apart (i := i) (j := j) (hfree j oj' hoj hji hjun hnot) (fun cs b => hsel i oi cs b hi) (fun cs b => hsel j oj' cs b hoj) hy h1
      refine ⟨hjn, oj', hoj, opX_mono (fun a' h3 => ih (listed.setIfInBounds j true) a' (inv.set hj hjn) (fun k ok hk hki hu hno => ?_) (ready_mono hr (Ne.symm hji)) h3.1 ?_) h2⟩
      · refine hfree k ok hk hki ?_ hno
        by_cases hjk : j = k
        · subst hjk; exact hjun
        · rwa [getD_set_ne true hjk] at hu
      · rw [Array.setIfInBounds_comm _ _ hji]; exact h3.2

/-- The lexical order, and that two operations have come up at its end. -/
def lexR (md : Region.Mode) (ops : Array Oper) (g ia is : Nat) : Nat → Nat → Array Bool → Bool
  | 0, k, listed => Region.seqB md ops g k listed && (listed.getD ia false && listed.getD is false)
  | f + 1, k, listed => (Region.ready md ops listed).contains k && Region.free md ops listed k && lexR md ops g ia is f (k + 1) (listed.setIfInBounds k true)

theorem anyX_lex {n g : Nat} {Lq : Act → Prop} (hsel : Region.noSelect ops = true) (hs : Region.sinkB md ops n = true) (hc : Region.chainB md ops n = true) (hn : n < ops.size) :
    ∀ (l : List Oper) (k : Nat) (listed : Array Bool) (a : Act), (∀ j, j < l.length → l[j]? = ops[k + j]?) → k + l.length = n → HeadInv md ops n listed →
    lexR md ops g ia is l.length k listed = true → wpX P ops C ia is Lq k l a →
    anyX P md ops C ia is n (fun listed' a' => (Region.seqB md ops g n listed' = true ∧ listed'.getD ia false = true ∧ listed'.getD is false = true) ∧ Lq a') l.length listed a
  | [], k, listed, a, _, hk, _, hB, h => by
    obtain rfl : k = n := by simpa using hk
    simp only [List.length_nil, lexR, Bool.and_eq_true] at hB
    exact ⟨hB, h⟩
  | o :: l, k, listed, a, hl, hk, inv, hB, h => by
    have h0 : ops[k]? = some o := by simpa using (hl 0 (by simp)).symm
    simp only [List.length_cons, lexR, Bool.and_eq_true] at hB
    obtain ⟨⟨hr, hf⟩, hB'⟩ := hB
    simp only [List.length_cons] at hk
    have hr' : k ∈ Region.ready md ops listed := by simpa using hr
    obtain ⟨v, hy, hK⟩ := givesX_of_op h
    exact anyX_first h0 (Region.noSelect_spec hsel) hs hc hn (by omega) (fun listed' a' hL => seqB_ready hL.1.1) l.length listed a inv (Region.free_spec h0 hf) hr' hy
      (anyX_lex hsel hs hc hn l (k + 1) _ _ (fun j hj => by have := hl (j + 1) (by simp; omega); simpa [Nat.add_assoc, Nat.add_comm 1 j] using this) (by omega) (inv.set hr' (by omega)) hB' hK)

/-- An operation that yields, met by the machine. -/
theorem wp_of_gives {o : Oper} {a : Act} {v : Value} {x : World} {K : Act → World → Prop} {Q' : Exit → Act → World → Prop} (hC : C x) (hy : Gives P ops C o v a)
    (h : ∀ x', x' = x ∨ Below x.heap.size x x' → K (a.put o.dst v) x') : (if Region.wanted o (yielded ops a.tmps) then o.wp P a x K Q' ∨ (o.asks P a x ∧ LetsOut Q') else K (a.put o.dst undef) x) := by
  rcases hy with ⟨hw, hv⟩ | ⟨hw, rfl⟩
  · rw [if_pos hw]; left
    have h3 := hv x hC
    unfold Oper.wp
    generalize (execOp a.eval o).run P x = r at *
    cases r with
    | ok n w' =>
      cases n <;> simp only [yieldsR] at h3 <;> simp only [Oper.upon]
      case value u => obtain ⟨e1, e2⟩ := h3; rw [e1, e2]; exact h _ (.inl rfl)
      case skip => obtain ⟨e1, e2⟩ := h3; rw [e1, ← e2]; exact h _ (.inl rfl)
      case enter f args =>
        obtain ⟨e1, hc⟩ := h3
        rw [e1]
        exact hc.mono fun e w'' ⟨he, hb⟩ => by subst he; exact h _ (.inr hb)
    | halt e w' => simp only [yieldsR] at h3
  · rw [if_neg (by rw [hw]; decide)]; exact h _ (.inl rfl)

/-- The Bools of a region that makes one variable (operation ia, slot d) and stores slot x into it (operation is). -/
def ownB (md : Region.Mode) (ops : Array Oper) (n ia is : Nat) (d x : Tmp) : Bool :=
  Region.noSelect ops && decide (n < ops.size) && Region.sinkB md ops n && Region.chainB md ops n && lexR md ops (ops.size - n) ia is n 0 (Array.replicate ops.size false) &&
  (decide (ia ≠ is) && decide (d ≠ x) && Region.waitsFor md ops is ia) &&
  (List.range ops.size).all fun i => decide (i = ia) || decide (i = is) || match ops[i]? with
    | none => true
    | some o => (decide (n ≤ i) || (!(o.looksAt ops).contains d && o.dst != some d)) && (o.dst != some x || Region.waitsFor md ops is i)

theorem getD_own {listed : Array Bool} {i : Nat} (h : listed.getD i true = false) : (listed.setIfInBounds i true).getD i false = true := by
  have hlt : i < listed.size := by
    rcases Nat.lt_or_ge i listed.size with h' | h'
    · exact h'
    · simp [Array.getElem?_eq_none h'] at h
  simp [hlt]

/-- From a state in which slot x has been written, an end is reached at which it holds the same. -/
theorem anyX_reach {n : Nat} {x : Tmp} {L : Array Bool → Act → Prop} : ∀ (f : Nat) (listed : Array Bool) (a : Act), (∀ i o, ops[i]? = some o → i ≠ ia → i ≠ is → o.dst = some x → listed.getD i false = true) →
    anyX P md ops C ia is n L f listed a → ∃ listed' a', L listed' a' ∧ a'.eval (.tmp x) = a.eval (.tmp x)
  | 0, listed, a, _, h => ⟨listed, a, h, rfl⟩
  | f + 1, listed, a, hx, h => by
    obtain ⟨i, hi⟩ := List.exists_mem_of_ne_nil _ h.1
    obtain ⟨_, o, ho, hX⟩ := h.2 i hi
    obtain ⟨v, _, hK⟩ := givesX_of_op hX
    have hun := (mem_ready.1 hi).1
    obtain ⟨l', a', hL, he⟩ := anyX_reach f _ _ (fun j oj hj h1 h2 h3 => getD_set_true (hx j oj hj h1 h2 h3)) hK
    refine ⟨l', a', hL, he.trans ?_⟩
    unfold putX
    split
    · rfl
    · rename_i hne
      refine Act.eval_put fun d hd e => ?_
      cases e
      have := hx i o ho (fun e => hne (.inl e)) (fun e => hne (.inr e)) hd
      rw [getD_both hun] at this; cases this

section
variable {id n : Nat} {w : World} {d x : Tmp} {oa os : Oper} {O0 O1 : Obj} {v : Value} {Q : Exit → Act → World → Prop} {g : Nat} {tl : List Oper}

/-- The address of the variable, and the worlds behind its making and behind the store. -/
def ptrOf (w : World) (p1 : Regrown) : Value := .pointer (some ⟨(reg w p1).heap.size, 0, none⟩)
theorem in_class (w : World) (p1 p2 : Regrown) (o : Obj) : ∃ p, reg ((reg w p1).alloc o) p2 = reg w p := regrown (b_reg (b_alloc (b_reg (Below.refl _ _))))

theorem size_put (a : Act) (dst : Option Tmp) (v : Value) : (a.put dst v).tmps.size = a.tmps.size := by unfold Act.put; split <;> simp
theorem own_sim {N : Nat} (hsel : Region.noSelect ops = true) (hne : ia ≠ is) (hwait : Region.waitsFor md ops is ia = true)
    (hall : ∀ i o, ops[i]? = some o → i ≠ ia → i ≠ is → (n ≤ i ∨ (d ∉ o.looksAt ops ∧ o.dst ≠ some d)) ∧ (o.dst = some x → Region.waitsFor md ops is i = true))
    (hia : ops[ia]? = some oa) (his : ops[is]? = some os) (hga : oa.guard = none) (hgs : os.guard = none)
    (halloc : ∀ (a : Act) (p : Regrown) (K : Act → World → Prop), K (a.put (some d) (ptrOf w p)) ((reg w p).alloc O0) → oa.wp P a (reg w p) K Q)
    (hstore : ∀ (a : Act) (p1 p2 : Regrown) (K : Act → World → Prop), a.tmps.size = N → a.eval (.tmp x) = v → K (a.put (some d) (ptrOf w p1)) (reg ((reg w p1).alloc O1) p2) → os.wp P (a.put (some d) (ptrOf w p1)) (reg ((reg w p1).alloc O0) p2) K Q)
    (hseq : ∀ (listed : Array Bool) (a : Act) (w' : World), Region.seqB md ops g n listed = true → wpList P ops Q tl a w' → wpAny P md ops Q g listed a w') :
    ∀ (f : Nat) (listed : Array Bool) (a : Act), a.tmps.size = N →
      anyX P md ops (fun w' => ∃ p, w' = reg w p) ia is n (fun listed' a' => (Region.seqB md ops g n listed' = true ∧ listed'.getD ia false = true ∧ listed'.getD is false = true) ∧
        (a'.eval (.tmp x) = v ∧ ∀ p1 p2, wpList P ops Q tl (a'.put (some d) (ptrOf w p1)) (reg ((reg w p1).alloc O1) p2))) f listed a →
      (listed.getD ia false = false → listed.getD is false = false → ∀ p, wpAny P md ops Q (f + g) listed a (reg w p)) ∧
      (listed.getD ia false = true → listed.getD is false = false → ∀ p1 p2, wpAny P md ops Q (f + g) listed (a.put (some d) (ptrOf w p1)) (reg ((reg w p1).alloc O0) p2)) ∧
      (listed.getD ia false = true → listed.getD is false = true → ∀ p1 p2, wpAny P md ops Q (f + g) listed (a.put (some d) (ptrOf w p1)) (reg ((reg w p1).alloc O1) p2)) := by
  intro f
  induction f with
  | zero =>
    intro listed a _ h
    obtain ⟨⟨h1, h2, h3⟩, _, h4⟩ := h
    rw [Nat.zero_add]
    exact ⟨fun e => (by rw [e] at h2; cases h2), fun _ e => (by rw [e] at h3; cases h3), fun _ _ p1 p2 => hseq _ _ _ h1 (h4 p1 p2)⟩
  | succ f ih =>
    intro listed a hN h
    have hready := h.1
    have key : ∀ i ∈ Region.ready md ops listed, i ≠ ia → i ≠ is → ∀ o, ops[i]? = some o → ∃ v', Gives P ops (fun w' => ∃ p, w' = reg w p) o v' a ∧ d ∉ o.looksAt ops ∧ o.dst ≠ some d ∧
        (fun a'' => (listed.getD ia false = false → listed.getD is false = false → ∀ p, wpAny P md ops Q (f + g) (listed.setIfInBounds i true) a'' (reg w p)) ∧
          (listed.getD ia false = true → listed.getD is false = false → ∀ p1 p2, wpAny P md ops Q (f + g) (listed.setIfInBounds i true) (a''.put (some d) (ptrOf w p1)) (reg ((reg w p1).alloc O0) p2)) ∧
          (listed.getD ia false = true → listed.getD is false = true → ∀ p1 p2, wpAny P md ops Q (f + g) (listed.setIfInBounds i true) (a''.put (some d) (ptrOf w p1)) (reg ((reg w p1).alloc O1) p2))) (a.put o.dst v') := by
      intro i hi hia' his' o ho
      obtain ⟨hin, o', ho', hX⟩ := h.2 i hi
      obtain rfl : o' = o := Option.some.inj (ho'.symm.trans ho)
      obtain ⟨v', hy, hK⟩ := givesX_of_op hX
      have hcond : ¬ (i = ia ∨ i = is) := fun e => e.elim hia' his'
      have hy := hy.resolve_left hcond
      unfold putX at hK; rw [if_neg hcond] at hK
      have h3 := (hall i o' ho hia' his').1.resolve_left (by omega)
      have e1 : (listed.setIfInBounds i true).getD ia false = listed.getD ia false := getD_set_ne false hia'
      have e2 : (listed.setIfInBounds i true).getD is false = listed.getD is false := getD_set_ne false his'
      have H := ih _ _ (by rw [size_put]; exact hN) hK
      rw [e1, e2] at H
      exact ⟨v', hy, h3.1, h3.2, H⟩
    rw [show f + 1 + g = (f + g) + 1 by omega]
    refine ⟨fun h1 h2 p => ⟨fun e => absurd e hready, fun i hi => ?_⟩, fun h1 h2 p1 p2 => ⟨fun e => absurd e hready, fun i hi => ?_⟩, fun h1 h2 p1 p2 => ⟨fun e => absurd e hready, fun i hi => ?_⟩⟩
    · have hun := (mem_ready.1 hi).1
      by_cases e1 : i = ia
      · subst e1
        obtain ⟨hin, o', ho', hX⟩ := h.2 i hi
        obtain ⟨v', hy, hK⟩ := givesX_of_op hX
        unfold putX at hK; rw [if_pos (.inl rfl)] at hK
        unfold wpOp; simp only [hia]
        rw [if_pos (by unfold Region.wanted; rw [hga])]
        refine .inl (halloc a p _ ?_)
        obtain ⟨q, hq⟩ : ∃ q, (reg w p).alloc O0 = reg ((reg w p).alloc O0) q := regrown (Below.refl _ _)
        rw [hq]
        refine (ih _ _ hN hK).2.1 (getD_own hun) ?_ p q
        rw [getD_set_ne false hne]; exact h2
      by_cases e2 : i = is
      · exfalso
        subst e2
        obtain ⟨oj, hoj, e, he, hb, hon⟩ := Region.waitsFor_spec hwait
        obtain ⟨_, o2, ho2, hal⟩ := mem_ready.1 hi
        obtain rfl : o2 = oj := Option.some.inj (ho2.symm.trans hoj)
        have := hal e he hb
        rw [hon, h1] at this; cases this
      obtain ⟨_, o, ho, _⟩ := h.2 i hi
      obtain ⟨v', hy, _, _, hK⟩ := key i hi e1 e2 o ho
      unfold wpOp; simp only [ho]
      refine wp_of_gives ⟨p, rfl⟩ hy fun x' hx' => ?_
      obtain ⟨q, rfl⟩ : ∃ q, x' = reg w q := by
        rcases hx' with rfl | hb
        · exact ⟨p, rfl⟩
        · exact regrown2 hb
      exact hK.1 h1 h2 q
    · have hun := (mem_ready.1 hi).1
      by_cases e1 : i = ia
      · exfalso; subst e1; rw [getD_both hun] at h1; cases h1
      by_cases e2 : i = is
      · subst e2
        obtain ⟨hin, o', ho', hX⟩ := h.2 i hi
        obtain ⟨v', hy, hK⟩ := givesX_of_op hX
        unfold putX at hK; rw [if_pos (.inr rfl)] at hK
        unfold wpOp; simp only [his]
        rw [if_pos (by unfold Region.wanted; rw [hgs])]
        have hev : a.eval (.tmp x) = v := by
          obtain ⟨_, _, hal⟩ := mem_ready.1 hi
          obtain ⟨l', a', hL, he⟩ := anyX_reach (x := x) f _ _ (fun j oj hj g1 g2 g3 => by
            obtain ⟨o2, ho2, e, he, hb, hon⟩ := Region.waitsFor_spec ((hall j oj hj g1 g2).2 g3)
            obtain ⟨_, o3, ho3, hal⟩ := mem_ready.1 hi
            obtain rfl : o3 = o2 := Option.some.inj (ho3.symm.trans ho2)
            have := hal e he hb
            rw [hon] at this
            exact getD_set_true this) hK
          rw [← he]; exact hL.2.1
        refine .inl (hstore a p1 p2 _ hN hev ?_)
        refine (ih _ _ hN hK).2.2 ?_ (getD_own hun) p1 p2
        rw [getD_set_ne false (Ne.symm hne)]; exact h1
      obtain ⟨_, o, ho, _⟩ := h.2 i hi
      obtain ⟨v', hy, hd1, hd2, hK⟩ := key i hi e1 e2 o ho
      have hy' : Gives P ops (fun w' => ∃ p, w' = reg w p) o v' (a.put (some d) (ptrOf w p1)) :=
        hy.same (execOp_put o (fun cs b => Region.noSelect_spec hsel i o cs b ho) a (some d) _ (fun d' hd => by cases hd; exact hd1)) (wanted_put o a (some d) _ (fun d' hd => by cases hd; exact hd1))
      unfold wpOp; simp only [ho]
      refine wp_of_gives (in_class w p1 p2 O0) hy' fun x' hx' => ?_
      rw [← Act.put_comm a v' (ptrOf w p1) (fun d' hd e => hd2 (hd.trans e.symm))]
      obtain ⟨q, rfl⟩ : ∃ q, x' = reg ((reg w p1).alloc O0) q := by
        rcases hx' with rfl | hb
        · exact ⟨p2, rfl⟩
        · exact regrown2 hb
      exact hK.2.1 h1 h2 p1 q
    · have hun := (mem_ready.1 hi).1
      by_cases e1 : i = ia
      · exfalso; subst e1; rw [getD_both hun] at h1; cases h1
      by_cases e2 : i = is
      · exfalso; subst e2; rw [getD_both hun] at h2; cases h2
      obtain ⟨_, o, ho, _⟩ := h.2 i hi
      obtain ⟨v', hy, hd1, hd2, hK⟩ := key i hi e1 e2 o ho
      have hy' : Gives P ops (fun w' => ∃ p, w' = reg w p) o v' (a.put (some d) (ptrOf w p1)) :=
        hy.same (execOp_put o (fun cs b => Region.noSelect_spec hsel i o cs b ho) a (some d) _ (fun d' hd => by cases hd; exact hd1)) (wanted_put o a (some d) _ (fun d' hd => by cases hd; exact hd1))
      unfold wpOp; simp only [ho]
      refine wp_of_gives (in_class w p1 p2 O1) hy' fun x' hx' => ?_
      rw [← Act.put_comm a v' (ptrOf w p1) (fun d' hd e => hd2 (hd.trans e.symm))]
      obtain ⟨q, rfl⟩ : ∃ q, x' = reg ((reg w p1).alloc O1) q := by
        rcases hx' with rfl | hb
        · exact ⟨p2, rfl⟩
        · exact regrown2 hb
      exact hK.2.2 h1 h2 p1 q

/-- **THE REGION, WALKED ONCE**: operations ia (the making of the variable in slot d) and is (the store of slot x into it) are left out of the walk; behind it the variable lies at the end of some world that has grown, and holds what slot x holds. -/
theorem wp_region_own {id n ia is : Nat} {w : World} {d x : Tmp} {l : List Oper} {oa os : Oper} {O0 O1 : Obj} {v : Value} {Q : Exit → Act → World → Prop} {a : Act} {N : Nat} (p0 : Regrown) (hN : a.tmps.size = N) (hm : P.follows .mixedOrders = true) (hB : ownB .any l.toArray n ia is d x = true)
    (hia : l[ia]? = some oa) (his : l[is]? = some os) (hga : oa.guard = none) (hgs : os.guard = none)
    (halloc : ∀ (a : Act) (p : Regrown) (K : Act → World → Prop), K (a.put (some d) (ptrOf w p)) ((reg w p).alloc O0) → oa.wp P a (reg w p) K Q)
    (hstore : ∀ (a : Act) (p1 p2 : Regrown) (K : Act → World → Prop), a.tmps.size = N → a.eval (.tmp x) = v → K (a.put (some d) (ptrOf w p1)) (reg ((reg w p1).alloc O1) p2) → os.wp P (a.put (some d) (ptrOf w p1)) (reg ((reg w p1).alloc O0) p2) K Q)
    (h : wpX P l.toArray (fun w' => ∃ p, w' = reg w p) ia is (fun a' => a'.eval (.tmp x) = v ∧ ∀ p1 p2, wpList P l.toArray Q (l.drop n) (a'.put (some d) (ptrOf w p1)) (reg ((reg w p1).alloc O1) p2)) 0 (l.take n) a) :
    (Code.region id l.toArray true).wp P Q a (reg w p0) := by
  simp only [ownB, Bool.and_eq_true, decide_eq_true_eq, ne_eq, decide_not, Bool.not_eq_true', decide_eq_false_iff_not] at hB
  obtain ⟨⟨⟨⟨⟨⟨hsel, hn⟩, hs⟩, hc⟩, hlex⟩, ⟨hne, _⟩, hwait⟩, hall⟩ := hB
  have hn' : n < l.length := by simpa using hn
  have htl : (l.take n).length = n := by simp; omega
  have hdl : (l.drop n).length = l.toArray.size - n := by simp
  have inv0 : HeadInv .any l.toArray n (Array.replicate l.toArray.size false) :=
    ⟨by simp, fun j oj _ hl => (by rw [getD_replicate_false] at hl; cases hl), fun t _ ht => getD_in (by simpa using ht) (getD_replicate_false _ _)⟩
  have H := anyX_lex (C := fun w' => ∃ p, w' = reg w p) (md := .any) (g := l.toArray.size - n) hsel hs hc hn (l.take n) 0 _ a (fun j hj => by
    have hj' : j < n := by rw [htl] at hj; exact hj
    simp [hj']) (by simpa using htl) inv0 (by rw [htl]; exact hlex) h
  refine wp_region_any hm ?_
  have := (own_sim (md := .any) (ops := l.toArray) (g := l.toArray.size - n) (tl := l.drop n) (n := n) (Q := Q) hsel hne hwait (fun i o ho h1 h2 => ?_) (by simpa using hia) (by simpa using his) hga hgs halloc hstore
    (fun listed a' w' hq hw => ?_) _ _ _ hN H).1 (getD_replicate_false _ _) (getD_replicate_false _ _) ⟨p0.d + 1, p0.os⟩
  · rw [htl, show n + (l.toArray.size - n) = l.toArray.size by omega] at this
    exact this
  · have hi : i < l.toArray.size := (Array.getElem?_eq_some_iff.1 ho).1
    have h3 := List.all_eq_true.1 hall i (List.mem_range.2 hi)
    rw [ho] at h3
    simp only [Bool.or_eq_true, Bool.and_eq_true, decide_eq_true_eq, Bool.not_eq_true', bne_iff_ne, ne_eq] at h3
    rcases h3 with (h3 | h3) | h3
    · exact absurd h3 h1
    · exact absurd h3 h2
    · refine ⟨h3.1.imp (fun h4 => h4) (fun h4 => ⟨by simpa using h4.1, h4.2⟩), fun e => h3.2.resolve_left (fun h4 => h4 e)⟩
  · have := wpAny_of_seq (md := .any) (Q' := Q) (l.drop n) n listed a' w' (fun j => by simp [List.getElem?_drop]) (by rw [hdl]; exact hq) hw
    rwa [hdl] at this
end
theorem reg_self (w : World) : reg w ⟨w.drawn, #[]⟩ = w := by show grow _ _ = _; rw [grow_empty]; rfl
theorem wp_own {id n ia is : Nat} {w : World} {d x : Tmp} {l : List Oper} {oa os : Oper} {O0 O1 : Obj} {v : Value} {Q : Exit → Act → World → Prop} {a : Act} {N : Nat} (hN : a.tmps.size = N) (hm : P.follows .mixedOrders = true) (hB : ownB .any l.toArray n ia is d x = true)
    (hia : l[ia]? = some oa) (his : l[is]? = some os) (hga : oa.guard = none) (hgs : os.guard = none)
    (halloc : ∀ (a : Act) (p : Regrown) (K : Act → World → Prop), K (a.put (some d) (ptrOf w p)) ((reg w p).alloc O0) → oa.wp P a (reg w p) K Q)
    (hstore : ∀ (a : Act) (p1 p2 : Regrown) (K : Act → World → Prop), a.tmps.size = N → a.eval (.tmp x) = v → K (a.put (some d) (ptrOf w p1)) (reg ((reg w p1).alloc O1) p2) → os.wp P (a.put (some d) (ptrOf w p1)) (reg ((reg w p1).alloc O0) p2) K Q)
    (h : wpX P l.toArray (fun w' => ∃ p, w' = reg w p) ia is (fun a' => a'.eval (.tmp x) = v ∧ ∀ p1 p2, wpList P l.toArray Q (l.drop n) (a'.put (some d) (ptrOf w p1)) (reg ((reg w p1).alloc O1) p2)) 0 (l.take n) a) :
    (Code.region id l.toArray true).wp P Q a w := by
  have := wp_region_own (id := id) ⟨w.drawn, #[]⟩ hN hm hB hia his hga hgs halloc hstore h
  rwa [reg_self] at this
end
end Go.QrBits
