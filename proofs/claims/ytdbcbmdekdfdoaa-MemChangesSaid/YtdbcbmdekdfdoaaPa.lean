/- WHAT IS PROVED: mem.pageAt: the page of an address, or the panic with the fault, for every space, address and permission. CONDITIONS: the slices' cells hold the lists. -/
import Derived.Test.YtdbcbmdekdfdoaaSe
namespace Go.Proofs.Ytdbcbmdekdfdoaa
open Go Go.RowKit Go.QrBits Go.QrMem

/-- A load of a whole array out of a row of a block. -/
theorem run_loadVar_at {P : Program} (w : World) (b o ty : Nat) (vs : List Value) (d : TypeDesc) (hc : ∀ (j : Nat) (v : Value), vs[j]? = some v → w.cell? ⟨b, o + j, none⟩ = some v)
    (hu : P.underlying ty = some d) (hd : (match d with | .struct _ | .array _ _ => true | _ => false) = true) (hi : (P.info? ty).map (·.size) = some vs.length) :
    (loadVar ty ⟨b, o, none⟩).run P w = .ok (.agg vs.toArray) w := by
  have hl : (loadCells ⟨b, o, none⟩ vs.length).run P w = .ok vs.toArray w :=
    run_loadCells_list (P := P) w ⟨b, o, none⟩ vs (fun j v hv => by
      have hadd : (⟨b, o, none⟩ : Addr).add j = ⟨b, o + j, none⟩ := by unfold Addr.add; simp
      rw [hadd]; exact hc j v hv)
  cases hq : P.info? ty with
  | none => simp [hq] at hi
  | some i =>
    have hs : i.size = vs.length := by simpa [hq] using hi
    have hagg : (isAgg ty).run P w = .ok true w := by
      unfold isAgg
      rw [Sem.run_bind, run_underlying hu w]
      cases d <;> simp_all
    simp [loadVar, Sem.run_bind, hagg, sizeOf, typeInfo, hq, hs, hl]
theorem wpList_load_at {P : Program} {ops : Array Oper} {rest : List Oper} {o : Oper} {a : Act} {w : World} {Q : Exit → Act → World → Prop} (hgd : o.guard = none) (ty : TypeId) (x : Operand) (ho : o.op = .load ty x)
    (b f : Nat) (hx : a.eval x = .pointer (some ⟨b, f, none⟩)) (vs : List Value) (d : TypeDesc) (hc : ∀ (j : Nat) (v : Value), vs[j]? = some v → w.cell? ⟨b, f + j, none⟩ = some v)
    (hu : P.underlying ty = some d) (hd : (match d with | .struct _ | .array _ _ => true | _ => false) = true) (hi : (P.info? ty).map (·.size) = some vs.length)
    (h : wpList P ops Q rest (a.put o.dst (.agg vs.toArray)) w) : wpList P ops Q (o :: rest) a w :=
  wpList_plain hgd fun _ hK => by
    unfold Oper.wp execOp
    simp only [ho, hx, Instr.loadAt, Instr.sureAddr, Sem.run_bind, Sem.run_pure, Result.andThen_ok, run_loadVar_at w b f ty vs d hc hu hd hi]
    exact hK _ _ h

/-- A panic with a fault. -/
abbrev died (k t : Int) : Ending := .panicked [{ v := .iface 34 (.agg #[.int .i64 k, .int .i64 t]), recovered := false }]

set_option maxHeartbeats 1000000 in
set_option maxRecDepth 100000 in
theorem pageAt_out (a : Option Addr) (n c : Nat) (a2 : Option Addr) (n2 c2 : Nat) (t need : Int) (w : World) (h : t < 0 ∨ n2 ≤ t) (_hn2 : n2 ≤ 4096) :
    Calls Try.prog 79 #[.agg #[.slice a n c, .slice a2 n2 c2], .int .i64 t, .int .i64 need] w fun e w' => e = died 1 t ∧ Below w.heap.size w w' := by
  by_cases h0 : t < 0
  · clear h
    go_enter Try.func79, Try.ntmps79
    go_wp2
    exact ⟨rfl, rfl, by go_grown⟩
  · have h1 : (n2 : Int) ≤ t := by omega
    clear h
    go_enter Try.func79, Try.ntmps79
    go_wp2
    exact ⟨rfl, rfl, by go_grown⟩

/-- May the page be accessed? -/
def mayB (q need : Int) : Bool := bits .and .i64 q need == need
/-- The bytes of a page. -/
def pg (bytes : List Int) (p : Nat) : List Int := (bytes.drop (p * 64)).take 64

set_option maxHeartbeats 2000000 in
set_option maxRecDepth 100000 in
theorem pageAt_n (a : Option Addr) (c : Nat) (a2 : Option Addr) (c2 : Nat) (perm bytes : List Int) (m p : Nat) (q need : Int) (w : World) (hs : SpIn w a c a2 c2 perm bytes) (hm : m < bytes.length) (hn2 : bytes.length ≤ 4096) (hp : m / 64 = p) (hq : perm[p]? = some q) (hmay : mayB q need = false) :
    Calls Try.prog 79 #[.agg #[.slice a perm.length c, .slice a2 bytes.length c2], .int .i64 (m : Int), .int .i64 need] w fun e w' => e = died (kO need) m ∧ Below w.heap.size w w' := by
  obtain ⟨b, off, rfl⟩ := hs.shape hq
  have hpl := (List.getElem?_eq_some_iff.1 hq).1
  have hcell := hs.cell hq
  have hb : b < w.heap.size := by rcases hs.s1 with h | ⟨b', off', ha, hb, _⟩
                                  · have : perm = [] := by simpa [iV] using h
                                    subst this; simp at hq
                                  · cases ha; exact hb
  have HD : ((m : Int) / 64) = (p : Int) := by omega
  have hmay' : (bits .and .i64 q need != need) = true := by simpa [mayB] using hmay
  have m0 : (0 : Int) ≤ (m : Int) := Int.natCast_nonneg _
  have m1 : (m : Int) < (bytes.length : Int) := by omega
  have p0 : (0 : Int) ≤ (p : Int) := Int.natCast_nonneg _
  have p1 : (p : Int) < (perm.length : Int) := by omega
  have HQ := Lib.hid hq
  have HP := Lib.hid hp
  have HS := Lib.hid hs
  clear hq hp hs hmay
  go_enter Try.func79, Try.ntmps79
  go_wp2_with (go_at_call 91; refine (kindOf_c _ _).mono ?_; rintro e w' ⟨rfl, rfl⟩)
  exact ⟨rfl, rfl, by go_grown⟩

theorem pg_len {perm bytes : List Int} {p : Nat} (hc : chk perm bytes.length = true) (hp : p < perm.length) : (pg bytes p).length = 64 := by
  have := chk_len4 hc
  simp only [pg, List.length_take, List.length_drop]; omega
theorem pg_get {bytes : List Int} {p j : Nat} (h : j < 64) : (pg bytes p)[j]? = bytes[p * 64 + j]? := by
  simp [pg, h, List.getElem?_drop]
theorem SpIn.shape2 {w : World} {a : Option Addr} {c : Nat} {a2 : Option Addr} {c2 m : Nat} {perm bytes : List Int} (h : SpIn w a c a2 c2 perm bytes) (hm : m < bytes.length) : ∃ b off : Nat, a2 = some ⟨b, off, none⟩ ∧ b < w.heap.size ∧ ∀ (j : Nat) (x : Int), bytes[j]? = some x → w.cell? ⟨b, off + j, none⟩ = some (.int .u8 x) := by
  rcases h.s2 with h | ⟨b, off, ha, hb, hc⟩
  · have : bytes = [] := by simpa [bV] using h
    subst this; simp at hm
  · exact ⟨b, off, ha, hb, fun j x hx => hc j _ (bV_get hx)⟩
theorem below_setRow {B : Nat} {a w : World} {g : Nat} (h : Below B a w) (hg : B ≤ g) (cs : Array Value) : Below B a (w.setRow g cs) :=
  h.trans ⟨rfl, rfl, rfl, by simp, fun k hk => setRow_other w g k cs (by omega)⟩
theorem Try.info122 : (Try.prog.info? 122).map (·.size) = some 64 := by kernel_rfl
theorem pg_cells {w : World} {b off p : Nat} {bytes : List Int} (h : ∀ (j : Nat) (x : Int), bytes[j]? = some x → w.cell? ⟨b, off + j, none⟩ = some (.int .u8 x)) (hl : (pg bytes p).length = 64) :
    ∀ (j : Nat) (v : Value), (bV (pg bytes p))[j]? = some v → w.cell? ⟨b, off + p * 64 + j, none⟩ = some v := by
  intro j v hv
  have hj : j < 64 := by have := (List.getElem?_eq_some_iff.1 hv).1; rw [bV_len, hl] at this; exact this
  simp only [bV, List.getElem?_map, Option.map_eq_some_iff] at hv
  obtain ⟨x, hx, rfl⟩ := hv
  rw [pg_get hj] at hx
  have := h _ _ hx
  rwa [← Nat.add_assoc] at this

set_option maxHeartbeats 4000000 in
set_option maxRecDepth 100000 in
theorem pageAt_y (a : Option Addr) (c : Nat) (a2 : Option Addr) (c2 : Nat) (perm bytes : List Int) (m p : Nat) (q need : Int) (w : World) (hs : SpIn w a c a2 c2 perm bytes) (hck : chk perm bytes.length = true) (hm : m < bytes.length) (hp : m / 64 = p) (hq : perm[p]? = some q) (hmay : mayB q need = true) :
    Calls Try.prog 79 #[.agg #[.slice a perm.length c, .slice a2 bytes.length c2], .int .i64 (m : Int), .int .i64 need] w fun e w' => e = .returned (.agg (bV (pg bytes p)).toArray) ∧ Below w.heap.size w w' := by
  obtain ⟨b, off, rfl⟩ := hs.shape hq
  obtain ⟨b2, off2, rfl, hb2, hcs⟩ := hs.shape2 hm
  have hpl := (List.getElem?_eq_some_iff.1 hq).1
  have hn2 := (chk_le hck).2
  have hcap : bytes.length ≤ c2 := hs.v2.1
  have hmx : c2 ≤ 9223372036854775807 := hs.v2.2.1
  have hcell := hs.cell hq
  have hb : b < w.heap.size := by rcases hs.s1 with h | ⟨b', off', ha, hb, _⟩
                                  · have : perm = [] := by simpa [iV] using h
                                    subst this; simp at hq
                                  · cases ha; exact hb
  have HD : ((m : Int) / 64) = (p : Int) := by omega
  have hmay' : (bits .and .i64 q need != need) = false := by simpa [mayB] using hmay
  have m0 : (0 : Int) ≤ (m : Int) := Int.natCast_nonneg _
  have m1 : (m : Int) < (bytes.length : Int) := by omega
  have p0 : (0 : Int) ≤ (p : Int) := Int.natCast_nonneg _
  have p1 : (p : Int) < (perm.length : Int) := by omega
  have p2 : (p : Int) * 64 + 64 ≤ (bytes.length : Int) := by have := chk_len4 hck; omega
  have p3 : (p : Int) * 64 + 64 ≤ (c2 : Int) := by omega
  have HL := Lib.hid (pg_len hck hpl)
  have HP := Lib.hid (pg_cells (w := w) hcs (pg_len hck hpl))
  clear hq hp hs hmay hck hcs
  go_enter Try.func79, Try.ntmps79
  have hat : ∀ (w : World) (b o c : Nat), (Instr.arrayAt 122 (.slice (some ⟨b, o, none⟩) 64 c)).run Try.prog w = .ok (.pointer (some ⟨b, o, none⟩)) w := fun w b o c => by
    simp [Instr.arrayAt, Sem.run_bind, run_underlying Try.underlying122 w, Result.andThen]
  go_wp2_with (first
    | (refine wpList_load_at rfl 122 (.tmp 45) rfl b2 (off2 + p * 64) rfl (bV (pg bytes p)) _ ?hc Try.underlying122 rfl ?hi ?_)
    | (refine wpList_store_row rfl 122 (.tmp 6) (.tmp 46) rfl (w.heap.size + 1) (bV (pg bytes p)).toArray rfl rfl _ _ (heap_alloc2_new _ _ _) ?hi2 ?ho ?h1 ?_))
  case hc => intro j v hv; rw [below_cell (b_alloc (b_alloc (Below.refl _ _))) _ _ hb2]; exact HP.out j v hv
  case hi => rw [bV_len, HL.out]; exact Try.info122
  case hi2 => simp only [List.size_toArray]; rw [bV_len, HL.out]; exact Try.info122
  case ho => simp only [List.size_toArray]; rw [bV_len, HL.out]; rfl
  case h1 => rw [Array.all_eq_true_iff_forall_mem]; intro x hx; exact bV_one _ x (by simpa using hx)
  refine bodyPost_ret (results_cell_row rfl _ _ (w.heap.size + 1) 122 (bV (pg bytes p)).toArray (0, 0) _ rfl (setRow_heap _ _ _ _ _ _ (heap_alloc2_new _ _ _)) Try.underlying122 rfl ?_) rfl ⟨rfl, below_setRow (b_alloc (b_alloc (Below.refl _ _))) (by omega) _⟩
  simp only [List.size_toArray]; rw [bV_len, HL.out]; exact Try.info122
end Go.Proofs.Ytdbcbmdekdfdoaa
