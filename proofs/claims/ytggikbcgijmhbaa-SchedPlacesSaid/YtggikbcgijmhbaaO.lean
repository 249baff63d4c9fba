/- WHAT IS PROVED: change: an operation on a copy; its panic is recovered. CONDITIONS: a contract of the operation. -/
import Derived.Test.YtggikbcgijmhbaaN
import Derived.Recover
import Derived.Laws.Pointers
set_option linter.unusedSimpArgs false
set_option linter.unusedVariables false
namespace Go.Proofs.Ytggikbcgijmhbaa
open Go Go.RowKit Go.QrBits Go.QrMem
theorem row3 {w : World} {b : Nat} {x y z : Value} {t : TypeId} (h : w.heap[b]? = some (.cells #[x, y, z] t (0, 0))) : w.cell? ⟨b, 0, none⟩ = some x ∧ w.cell? ⟨b, 1, none⟩ = some y ∧ w.cell? ⟨b, 2, none⟩ = some z ∧ w.frozen? ⟨b, 0, none⟩ = false ∧ w.frozen? ⟨b, 1, none⟩ = false ∧ w.frozen? ⟨b, 2, none⟩ = false ∧ b < w.heap.size :=
  ⟨by simp [World.cell?, h], by simp [World.cell?, h], by simp [World.cell?, h], by simp [World.frozen?, h], by simp [World.frozen?, h], by simp [World.frozen?, h], (Array.getElem?_eq_some_iff.1 h).1⟩
/-- A state's struct and an error, stored where a call's results lie. -/
def putSE (w : World) (b : Nat) (x y z : Value) (b' : Nat) (u : Value) : World := (((w.setCell ⟨b, 0, none⟩ x).setCell ⟨b, 1, none⟩ y).setCell ⟨b, 2, none⟩ z).setCell ⟨b', 0, none⟩ u
theorem putSE_cells {w : World} {b b' : Nat} {o0 o1 o2 o3 x y z u : Value} {t t' : TypeId} (h : w.heap[b]? = some (.cells #[o0, o1, o2] t (0, 0))) (h' : w.heap[b']? = some (.cells #[o3] t' (0, 0))) (hne : b ≠ b') :
    (putSE w b x y z b' u).heap[b]? = some (.cells #[x, y, z] t (0, 0)) ∧ (putSE w b x y z b' u).heap[b']? = some (.cells #[u] t' (0, 0)) ∧ ∀ k, k ≠ b → k ≠ b' → (putSE w b x y z b' u).heap[k]? = w.heap[k]? := by
  have e1 := heap_setCell_same w b 0 _ t x h
  have e2 := heap_setCell_same _ b 1 _ t y e1
  have e3 := heap_setCell_same _ b 2 _ t z e2
  have e4 := heap_setCell_same (((w.setCell ⟨b, 0, none⟩ x).setCell ⟨b, 1, none⟩ y).setCell ⟨b, 2, none⟩ z) b' 0 #[o3] t' u
    ((Below.heap_setCell _ _ _ _ (fun e => hne e.symm)).trans ((Below.heap_setCell _ _ _ _ (fun e => hne e.symm)).trans ((Below.heap_setCell _ _ _ _ (fun e => hne e.symm)).trans h')))
  refine ⟨(Below.heap_setCell _ _ _ _ hne).trans (by simpa using e3), by simpa [putSE] using e4, fun k h1 h2 => ?_⟩
  exact (Below.heap_setCell _ _ _ _ h2).trans ((Below.heap_setCell _ _ _ _ h1).trans ((Below.heap_setCell _ _ _ _ h1).trans (Below.heap_setCell _ _ _ _ h1)))
theorem putSE_misc (w : World) (b : Nat) (x y z : Value) (b' : Nat) (u : Value) : (putSE w b x y z b' u).os = w.os ∧ (putSE w b x y z b' u).tape = w.tape ∧ (putSE w b x y z b' u).output = w.output ∧ (putSE w b x y z b' u).heap.size = w.heap.size :=
  ⟨rfl, rfl, rfl, by simp [putSE, World.setCell]⟩
/-- The zero state. -/
def zSt : Value := .agg #[.slice none 0 0, .slice none 0 0, .int .i64 0]
set_option maxHeartbeats 2000000 in
set_option maxRecDepth 100000 in
theorem change_n (a : Option Addr) (c : Nat) (a2 : Option Addr) (c2 : Nat) (qs : List Qu) (ts : List Th) (q : Int) (F : Nat) (caps : Array Value) (w : World) (hs : ScIn w a c a2 c2 qs ts) (hck : chkB qs ts q = false) :
    Calls Try.prog 49 #[.agg #[.slice a qs.length c, .slice a2 ts.length c2, .int .i64 q], .func (.func F) #[] caps] w fun y w' => y = .returned (.tuple #[zSt, .int .i64 50]) ∧ Below w.heap.size w w' := by
  have HS := Lib.hid hs
  have HC := Lib.hid hck
  clear hs hck
  have HK := ((Kw.start w).box (vs := [.slice a qs.length c, .slice a2 ts.length c2, .int .i64 q]) (t := 25)).box (vs := [.slice none 0 0, .slice none 0 0, .int .i64 0]) (t := 25)
  replace HK := HK.box (vs := [.int .i64 0]) (t := 28)
  simp only [World.size_alloc] at HK
  go_enter_defers Try.func49, Try.ntmps49
  go_wp2_with fail
  have hC := fun w hs => check_c a c a2 c2 qs ts q w hs
  rw [HC.out, show okE false = 50 from rfl] at hC
  refine (hC _ (HS.out.below HK.base)).mono ?_
  rintro e w' ⟨rfl, hq⟩
  replace HK := HK.below hq
  clear hq hC
  have h4 := HK.row 1 rfl
  have h5 := HK.row 0 rfl
  obtain ⟨r0, r1, r2, s0, s1, s2, _⟩ := row3 h4
  obtain ⟨r3, s3, _⟩ := cell0 h5
  obtain ⟨g4, g5, gk⟩ := putSE_cells (x := .slice none 0 0) (y := .slice none 0 0) (z := .int .i64 0) (u := .int .i64 50) h4 h5 (by omega)
  obtain ⟨m1, m2, m3, m4⟩ := putSE_misc w' (w.heap.size + 1) (.slice none 0 0) (.slice none 0 0) (.int .i64 0) (w.heap.size + 1 + 1) (.int .i64 50)
  have HB : Hid (Below w.heap.size w (putSE w' (w.heap.size + 1) (.slice none 0 0) (.slice none 0 0) (.int .i64 0) (w.heap.size + 1 + 1) (.int .i64 50))) := Lib.hid (HK.base.trans ⟨m1, m2, m3, by omega, fun k hk => gk k (by omega) (by omega)⟩)
  obtain ⟨t0, t1, t2, _⟩ := row3 g4
  obtain ⟨t3, _⟩ := cell0 g5
  clear g4 g5 gk m1 m2 m3 m4 h4 h5 HK HS HC
  unfold putSE at HB t0 t1 t2 t3
  go_wp2
  exact ⟨.tuple #[zSt, .int .i64 50], by simp [results, Try.results49, go_sem, zSt, t0, t1, t2, t3], rfl, HB.out⟩
theorem Try.ta73 (er : Int) (w : World) : (Instr.typeAssert (.iface 98 (.int .i64 er)) 20 98 false).run Try.prog w = .ok (.int .i64 er) w := by kernel_rfl
set_option maxHeartbeats 1000000 in
set_option maxRecDepth 100000 in
theorem catch_p (b b' : Nat) (er : Int) (o0 o1 o2 o3 : Value) (w : World) (h : w.heap[b]? = some (.cells #[o0, o1, o2] 25 (0, 0))) (h' : w.heap[b']? = some (.cells #[o3] 28 (0, 0))) :
    CallsD Try.prog 73 #[.pointer (some ⟨b, 0, none⟩), .pointer (some ⟨b', 0, none⟩)] (.panicking [{ v := .iface 98 (.int .i64 er), recovered := false }]) w fun e u' w' =>
      e = .returned (.tuple #[]) ∧ u' = .panicking [{ v := .iface 98 (.int .i64 er), recovered := true }] ∧ ∃ n, w' = putSE (w.drewN n) b (.slice none 0 0) (.slice none 0 0) (.int .i64 0) b' (.int .i64 er) := by
  obtain ⟨r0, r1, r2, s0, s1, s2, hl⟩ := row3 h
  obtain ⟨r3, s3, hl'⟩ := cell0 h'
  have hne : b ≠ b' := fun e => by rw [e, h'] at h; simp at h
  have hne' : b' ≠ b := fun e => hne e.symm
  clear h h'
  refine callsD_of_wpS Try.func73 rfl fun c₀ cs hu => ?_
  apply wpS_seq
  apply wpS_region
  simp [wpOpsS, go_sem, recoverD, hu, Try.ntmps73, Exit.thenS]
  refine wpS_of_wp ?_
  have hlit : (#[Value.pointer (some ⟨b, 0, none⟩), Value.pointer (some ⟨b', 0, none⟩)] ++ ((Array.replicate 7 undef).setIfInBounds 1 (Value.iface 98 (Value.int IntKind.i64 er))).setIfInBounds 0 (Value.iface 98 (Value.int IntKind.i64 er)) : Array Value) =
    #[Value.pointer (some ⟨b, 0, none⟩), Value.pointer (some ⟨b', 0, none⟩), Value.iface 98 (Value.int IntKind.i64 er), Value.iface 98 (Value.int IntKind.i64 er), undef, undef, undef, undef, undef] := by rfl
  rw [hlit]
  clear hlit
  have hta := fun w => Try.ta73 er w
  go_wp2
  refine wp_region_any (by kernel_rfl) ?_
  change wpAny _ _ _ _ _ _ _ (World.drew _)
  refine wpAny_take (i := 0) (v := .agg #[.slice none 0 0, .slice none 0 0, .int .i64 0]) rfl (by kernel_rfl) (by kernel_rfl) (by kernel_rfl) (fun _ _ _ h => h) (Or.inl ⟨by rfl, ?_⟩) ?_
  · intro w; go_simp; try with_reducible rfl
  simp only [Act.put, List.setIfInBounds_toArray, List.set_cons_zero, List.set_cons_succ]
  refine wpAny_take (i := 1) (v := .iface 98 (.int .i64 er)) rfl (by kernel_rfl) (by kernel_rfl) (by kernel_rfl) (fun _ _ _ h => h) (Or.inl ⟨by rfl, ?_⟩) ?_
  · intro w; go_simp; try with_reducible rfl
  simp only [Act.put, List.setIfInBounds_toArray, List.set_cons_zero, List.set_cons_succ]
  refine wpAny_take (i := 2) (v := .int .i64 er) rfl (by kernel_rfl) (by kernel_rfl) (by kernel_rfl) (fun _ _ _ h => h) (Or.inl ⟨by rfl, ?_⟩) ?_
  · intro w; go_simp; try with_reducible rfl
  simp only [Act.put, List.setIfInBounds_toArray, List.set_cons_zero, List.set_cons_succ]
  refine wpAny_ready (rs := [3]) (by kernel_rfl) (by simp) ?_
  refine AllReady.cons (o := _) rfl (fun K hK => ?_) AllReady.nil
  go_simp
  refine hK _ _ ?_
  clear hK K
  try simp only [Act.put, List.setIfInBounds_toArray, List.set_cons_zero, List.set_cons_succ]
  refine wpAny_ready (rs := [4]) (by kernel_rfl) (by simp) ?_
  refine AllReady.cons (o := _) rfl (fun K hK => ?_) AllReady.nil
  go_simp
  refine hK _ _ ?_
  clear hK K
  try simp only [Act.put, List.setIfInBounds_toArray, List.set_cons_zero, List.set_cons_succ]
  refine wpAny_done (by kernel_rfl) ?_ _
  simp +zetaDelta [bodyPostS, results, Try.results73]
  exact ⟨1, rfl⟩
set_option maxHeartbeats 1000000 in
set_option maxRecDepth 100000 in
theorem catch_r (p p' : Value) (w : World) : CallsD Try.prog 73 #[p, p'] .returning w fun e u' w' => e = .returned (.tuple #[]) ∧ u' = .returning ∧ w' = w := by
  refine callsD_of_wpS Try.func73 rfl fun c₀ cs hu => ?_
  apply wpS_seq
  apply wpS_region
  simp [wpOpsS, go_sem, recoverD, hu, Try.ntmps73, Exit.thenS]
  refine wpS_of_wp ?_
  have hlit : (#[p, p'] ++ ((Array.replicate 7 undef).setIfInBounds 1 Value.nilIface).setIfInBounds 0 Value.nilIface : Array Value) =
    #[p, p', Value.nilIface, Value.nilIface, undef, undef, undef, undef, undef] := by rfl
  rw [hlit]
  clear hlit
  go_wp2
  cases c₀
  simp_all [bodyPostS, results, Try.results73]
theorem nodup_len {xs : List Int} {m : Nat} (h : xs.Nodup) (hr : ∀ r ∈ xs, ∃ k : Nat, r = k ∧ k < m) : xs.length ≤ m := by
  have := h.length_le_of_subset (l₂ := (List.range m).map Int.ofNat) (fun r hr' => by
    obtain ⟨k, h1, h2⟩ := hr r hr'
    exact List.mem_map.2 ⟨k, List.mem_range.2 h2, h1.symm⟩)
  simpa using this
theorem short16 {x : Option Nat} {s : St} (h : OkX x s) : Short s 16 := by
  intro k u hu
  refine Nat.le_trans (nodup_len (h.nd k u hu) (m := s.ts.length) (fun r hr => ?_)) h.m2
  obtain ⟨j, h1, _, t, h2, _⟩ := h.rd k u hu r hr
  exact ⟨j, h1, (List.getElem?_eq_some_iff.1 h2).1⟩
theorem short_of_ok {x : Option Nat} {s : St} (h : OkX x s) : Short s 4000 := fun k u hu => Nat.le_trans (short16 h k u hu) (by omega)
/-- What an operation may change: the variable x, the struct, the processors, the threads. -/
structure OpFr (x b0 bc : Nat) (at_ : Option Addr) (w w' : World) : Prop where
  os : w'.os = w.os
  tape : w'.tape = w.tape
  output : w'.output = w.output
  size : w.heap.size ≤ w'.heap.size
  blk : ∀ k, k < w.heap.size → k ≠ x → k ≠ b0 → k ≠ bc → (∀ a : Addr, at_ = some a → k ≠ a.block) → w'.heap[k]? = w.heap[k]?
/-- What a call changes that writes to the variable x alone. -/
structure Fx (x : Nat) (w w' : World) : Prop where
  os : w'.os = w.os
  tape : w'.tape = w.tape
  output : w'.output = w.output
  size : w.heap.size ≤ w'.heap.size
  blk : ∀ k, k < w.heap.size → k ≠ x → w'.heap[k]? = w.heap[k]?
/-- The board, as a value. -/
def bdV (b0 e : Nat) : Value := .agg #[.pointer (some ⟨b0, 0, none⟩), .func (.func 88) #[] #[.pointer (some ⟨e + 2, 0, none⟩), .pointer (some ⟨e, 0, none⟩)], .func (.func 92) #[] #[.pointer (some ⟨e + 4, 0, none⟩), .pointer (some ⟨e, 0, none⟩)], .func (.func 94) #[] #[.pointer (some ⟨e + 4, 0, none⟩), .pointer (some ⟨e, 0, none⟩)],
  .func (.func 96) #[] #[.pointer (some ⟨e + 3, 0, none⟩), .pointer (some ⟨e + 2, 0, none⟩), .pointer (some ⟨e, 0, none⟩)], .func (.func 97) #[] #[.pointer (some ⟨e + 3, 0, none⟩), .pointer (some ⟨e, 0, none⟩), .pointer (some ⟨e + 5, 0, none⟩)]]
theorem Own.keptOp {x B b0 bc cc ct : Nat} {at_ : Option Addr} {rs : List (Option Addr × Nat)} {s : St} {w w' : World} (h : Own B b0 bc cc at_ ct rs s w) (hf : OpFr x b0 bc at_ w w') {b : Nat} {cur : Array Value} {t : TypeId} (hb : w.heap[b]? = some (.cells cur t (0, 0))) (ht : t ≠ 47 ∧ t ≠ 44) (hx : b ≠ x) (h0 : b ≠ b0) : w'.heap[b]? = some (.cells cur t (0, 0)) := by
  obtain ⟨c1, h1, _⟩ := h.bcRow
  refine (hf.blk b (Array.getElem?_eq_some_iff.1 hb).1 hx h0 (fun e => ?_) (fun a ha e => ?_)).trans hb
  · rw [e, h1] at hb; simp at hb; exact ht.1 hb.2.symm
  · obtain ⟨c2, _, h2, _⟩ := h.btRow a ha
    rw [e, h2] at hb; simp at hb; exact ht.2 hb.2.symm
theorem ownsRow_same {w w' : World} {base e size n : Nat} {v : Value} {xs : List Value} (h : w.ownsRow base e size v n xs) (hs : ∀ (k : Nat) (cur : Array Value), w.heap[k]? = some (Obj.cells cur e (0, 0)) → w'.heap[k]? = w.heap[k]?) : w'.ownsRow base e size v n xs := by
  obtain ⟨h1, (h2 | ⟨g, cap, cur, h3, h4, h5, h6⟩)⟩ := h
  · exact ⟨h1, .inl h2⟩
  · exact ⟨h1, .inr ⟨g, cap, cur, h3, h4, (hs g cur h5).trans h5, h6⟩⟩
theorem Own.same {B b0 bc cc ct : Nat} {at_ : Option Addr} {rs : List (Option Addr × Nat)} {s : St} {w w' : World} (h : Own B b0 bc cc at_ ct rs s w) (hs : ∀ (k : Nat) (cur : Array Value) (t : TypeId), w.heap[k]? = some (Obj.cells cur t (0, 0)) → (k = b0 ∨ t = 47 ∨ t = 44 ∨ t = 3) → w'.heap[k]? = w.heap[k]?) : Own B b0 bc cc at_ ct rs s w' := by
  refine ⟨(hs _ _ _ h.nxt (.inl rfl)).trans h.nxt, h.b0B, ownsRow_same h.cp (fun k cur hk => hs k cur _ hk (by simp)), ownsRow_same h.th (fun k cur hk => hs k cur _ hk (by simp)), h.rl, fun k u r h1 h2 => ?_⟩
  obtain ⟨g1, g2 | ⟨b, off, cur, g2, g3, g4⟩⟩ := h.rd k u r h1 h2
  · exact ⟨g1, .inl g2⟩
  · have e := hs b cur 3 g3 (by simp)
    exact ⟨g1, .inr ⟨b, off, cur, g2, e.trans g3, fun j x hx => (World.cell?_of_block (w := w) (a := ⟨b, off + j, none⟩) e).trans (g4 j x hx)⟩⟩
/-- What an operation leaves. -/
def OpRes (B x b0 bc : Nat) (at_ : Option Addr) (s : St) (R : World → Prop) (w : World) (y : Ending) (w' : World) : Prop :=
  y = .returned (.tuple #[]) ∧ (∃ bc' cc' at' ct' rs', Own B b0 bc' cc' at' ct' rs' s w') ∧ OpFr x b0 bc at_ w w' ∧ R w'
def OpDies (x b0 bc : Nat) (at_ : Option Addr) (er : Int) (w : World) (y : Ending) (w' : World) : Prop :=
  y = .panicked [{ v := .iface 98 (.int .i64 er), recovered := false }] ∧ OpFr x b0 bc at_ w w'
/-- What change hands back: the new state. -/
def ChRes (x : Nat) (s : St) (R : World → Prop) (w : World) (y : Ending) (w' : World) : Prop :=
  ∃ (g d : Nat) (b : Option Addr) (d2 : Nat), y = .returned (.tuple #[.agg #[.slice (some ⟨g, 0, none⟩) s.qs.length d, .slice b s.ts.length d2, .int .i64 s.q], .int .i64 0]) ∧ (∃ (B b0 : Nat) (rs : List (Option Addr × Nat)), w.heap.size ≤ B ∧ Own B b0 g d b d2 rs s w') ∧ Fx x w w' ∧ R w'
def Stable (w : World) (R : World → Prop) : Prop := ∀ W W' : World, (∀ k, k < w.heap.size → W'.heap[k]? = W.heap[k]?) → R W → R W'
set_option maxHeartbeats 4000000 in
set_option maxRecDepth 100000 in
theorem change_y (a : Option Addr) (c : Nat) (a2 : Option Addr) (c2 : Nat) (qs : List Qu) (ts : List Th) (q : Int) (F : Nat) (caps : Array Value) (x : Nat) (s' : St) (R : World → Prop) (w : World) (hs : ScIn w a c a2 c2 qs ts) (hck : chkB qs ts q = true) (hR : Stable w R) (hx : x < w.heap.size)
    (hF : ∀ args w, (callFunc F args).run Try.prog w = .ok (.enter F args) w)
    (hop : ∀ (b0 e bc cc : Nat) (at_ : Option Addr) (ct : Nat) (rs : List (Option Addr × Nat)) (W : World), w.heap.size + 3 ≤ b0 → Below w.heap.size w W → Own (w.heap.size + 3) b0 bc cc at_ ct rs ⟨qs, ts, q⟩ W → Env b0 e W →
      Calls Try.prog F (#[bdV b0 e] ++ caps) W (OpRes (w.heap.size + 3) x b0 bc at_ s' R W)) :
    Calls Try.prog 49 #[.agg #[.slice a qs.length c, .slice a2 ts.length c2, .int .i64 q], .func (.func F) #[] caps] w (ChRes x s' R w) := by
  have HS := Lib.hid hs
  have HC := Lib.hid hck
  have HOP := Lib.hid hop
  have hok := ok_of_chk hck
  have hn1 : 1 ≤ qs.length := hok.n1
  have hn4 : qs.length ≤ 4 := hok.n2
  have hm16 : ts.length ≤ 16 := hok.m2
  have HSH : Hid (∀ (k : Nat) (u : Qu), qs[k]? = some u → u.ready.length ≤ 4000) := Lib.hid (short_of_ok hok)
  clear hs hck hop hok
  have HK := ((Kw.start w).box (vs := [.slice a qs.length c, .slice a2 ts.length c2, .int .i64 q]) (t := 25)).box (vs := [.slice none 0 0, .slice none 0 0, .int .i64 0]) (t := 25)
  replace HK := HK.box (vs := [.int .i64 0]) (t := 28)
  simp only [World.size_alloc] at HK
  have hmf : ∀ (fn : Fn) (first cap : Array Value) (w : World), (Instr.makeFunc fn first cap).run Try.prog w = .ok (.func fn first cap) w := fun _ _ _ _ => rfl
  go_enter_defers Try.func49, Try.ntmps49
  go_wp2_with fail
  have hC := fun w hs => check_c a c a2 c2 qs ts q w hs
  rw [HC.out, show okE true = 0 from rfl] at hC
  refine (hC _ (HS.out.below HK.base)).mono ?_
  rintro e w1 ⟨rfl, hq⟩
  replace HK := HK.below hq
  clear hq hC
  have p_0 := HK.get 2 0 rfl rfl
  have p_1 := HK.get 2 1 rfl rfl
  have p_2 := HK.get 2 2 rfl rfl
  go_wp2_with fail
  refine (copied_c a c a2 c2 qs ts q _ (HS.out.below HK.base) ⟨hn1, hn4⟩ hm16 HSH.out).mono ?_
  rintro e w2 ⟨g, d, b, d2, rs, rfl, ho1, ho2, hrl, hrd, hq⟩
  have hsz2 := HK.lt 0 rfl
  replace HK := HK.below hq
  have HO1 := Lib.hid (ownsRow_base (base' := w.heap.size + 3) ho1 (by omega))
  have HO2 := Lib.hid (ownsRow_base (base' := w.heap.size + 3) ho2 (by omega))
  have hsz3 := HK.lt 0 rfl
  have HRL := Lib.hid hrl
  have HRD := Lib.hid (fun k u r h1 h2 => (hrd k u r h1 h2).mono (B' := w.heap.size + 3) (by omega))
  clear hq p_0 p_1 p_2 ho1 ho2 hrl hrd hsz2
  go_wp2_with fail
  have hst : Below w2.heap.size w2 (w2.alloc (.cells #[.slice (some ⟨g, 0, none⟩) qs.length d, .slice b ts.length d2, .int .i64 q] 25)) := b_alloc (Below.refl _ _)
  have HK3 := HK.below hst
  have HOwn : Hid (Own (w.heap.size + 3) w2.heap.size g d b d2 rs ⟨qs, ts, q⟩ (w2.alloc (.cells #[.slice (some ⟨g, 0, none⟩) qs.length d, .slice b ts.length d2, .int .i64 q] 25))) :=
    Lib.hid ⟨heap_alloc_new w2 _, by omega, ownsRow_below HO1.out hst, ownsRow_below HO2.out hst, HRL.out, fun k u r h1 h2 => (HRD.out k u r h1 h2).below hst⟩
  clear hst HK HO1 HO2 HRL HRD
  generalize (w2.alloc (.cells #[.slice (some ⟨g, 0, none⟩) qs.length d, .slice b ts.length d2, .int .i64 q] 25)) = w3 at *
  have hb02 : w.heap.size + 3 ≤ w2.heap.size := by omega
  generalize w2.heap.size = b0 at *
  refine (movesOf_c b0 w3).mono ?_
  rintro e w4 ⟨rfl, hE, hq⟩
  have HK4 := HK3.below hq
  have HO4 := Lib.hid (HOwn.out.below hq)
  have HE := Lib.hid hE
  clear hq hE HK3 HOwn
  generalize w3.heap.size = ev at *
  unfold mvV
  go_wp2_with fail
  refine (HOP.out b0 ev g d b d2 rs w4 (by omega) HK4.base HO4.out HE.out).mono ?_
  rintro e w5 ⟨rfl, ⟨bc', cc', at', ct', rs', hO5⟩, hfr, hR5⟩
  have h4 := HO4.out.keptOp hfr (HK4.row 1 rfl) (by decide) (by omega) (by omega)
  have h5 := HO4.out.keptOp hfr (HK4.row 0 rfl) (by decide) (by omega) (by omega)
  obtain ⟨r0, r1, r2, s0, s1, s2, _⟩ := row3 h4
  obtain ⟨r3, s3, _⟩ := cell0 h5
  obtain ⟨n0, n1, n2, _⟩ := row3 hO5.nxt
  obtain ⟨g4, g5, gk⟩ := putSE_cells (x := .slice (some ⟨bc', 0, none⟩) s'.qs.length cc') (y := .slice at' s'.ts.length ct') (z := .int .i64 s'.q) (u := .int .i64 0) h4 h5 (by omega)
  obtain ⟨m1, m2, m3, m4⟩ := putSE_misc w5 (w.heap.size + 1) (.slice (some ⟨bc', 0, none⟩) s'.qs.length cc') (.slice at' s'.ts.length ct') (.int .i64 s'.q) (w.heap.size + 1 + 1) (.int .i64 0)
  have hO6 := hO5.same (w' := putSE w5 (w.heap.size + 1) (.slice (some ⟨bc', 0, none⟩) s'.qs.length cc') (.slice at' s'.ts.length ct') (.int .i64 s'.q) (w.heap.size + 1 + 1) (.int .i64 0)) (fun k cur t hk ht => gk k (fun e => by
      rw [e, h4] at hk
      rcases ht with ht | rfl | rfl | rfl
      · omega
      all_goals simp at hk) (fun e => by
      rw [e, h5] at hk
      rcases ht with ht | rfl | rfl | rfl
      · omega
      all_goals simp at hk))
  have hbase := HK4.base
  have hob := HO4.out.bcRow
  have hot := HO4.out.btRow
  have HF : Hid (Fx x w (putSE w5 (w.heap.size + 1) (.slice (some ⟨bc', 0, none⟩) s'.qs.length cc') (.slice at' s'.ts.length ct') (.int .i64 s'.q) (w.heap.size + 1 + 1) (.int .i64 0))) :=
    Lib.hid ⟨(m1.trans hfr.os).trans hbase.os, (m2.trans hfr.tape).trans hbase.tape, (m3.trans hfr.output).trans hbase.output, by rw [m4]; exact Nat.le_trans hbase.size hfr.size, fun k hk hkx => by
      have hkw4 : k < w4.heap.size := Nat.lt_of_lt_of_le hk hbase.size
      refine ((gk k (by omega) (by omega)).trans (hfr.blk k hkw4 hkx (by omega) (fun e => ?_) (fun a ha e => ?_))).trans (hbase.block k hk)
      · obtain ⟨_, _, hB⟩ := hob; omega
      · obtain ⟨_, _, _, hB⟩ := hot a ha; omega⟩
  have HRR : Hid (R (putSE w5 (w.heap.size + 1) (.slice (some ⟨bc', 0, none⟩) s'.qs.length cc') (.slice at' s'.ts.length ct') (.int .i64 s'.q) (w.heap.size + 1 + 1) (.int .i64 0))) := Lib.hid (hR _ _ (fun k hk => gk k (by omega) (by omega)) hR5)
  have HSC := Lib.hid hO6
  obtain ⟨t0, t1, t2, _⟩ := row3 g4
  obtain ⟨t3, _⟩ := cell0 g5
  clear g4 g5 gk m1 m2 m3 m4 h4 h5 hO5 hO6 hfr hR5 HK4 HO4 HE HOP HS HC HSH hbase hob hot
  unfold putSE at HF HRR HSC t0 t1 t2 t3
  go_wp2
  refine leaves_cons (f := 73) (args := #[.pointer (some ⟨w.heap.size + 1, 0, none⟩), .pointer (some ⟨w.heap.size + 1 + 1, 0, none⟩)]) (by simp) (by simp [go_sem]) ?_
  refine (catch_r _ _ _).mono ?_
  rintro e u' w'' ⟨rfl, rfl, rfl⟩
  exact ⟨.tuple #[.agg #[.slice (some ⟨bc', 0, none⟩) s'.qs.length cc', .slice at' s'.ts.length ct', .int .i64 s'.q], .int .i64 0], by simp [results, Try.results49, go_sem, t0, t1, t2, t3], bc', cc', at', ct', rfl, ⟨w.heap.size + 3, b0, rs', by omega, HSC.out⟩, HF.out, HRR.out⟩
set_option maxHeartbeats 4000000 in
set_option maxRecDepth 100000 in
theorem change_p (a : Option Addr) (c : Nat) (a2 : Option Addr) (c2 : Nat) (qs : List Qu) (ts : List Th) (q : Int) (F : Nat) (caps : Array Value) (x : Nat) (er : Int) (w : World) (hs : ScIn w a c a2 c2 qs ts) (hck : chkB qs ts q = true) (hx : x < w.heap.size)
    (hF : ∀ args w, (callFunc F args).run Try.prog w = .ok (.enter F args) w)
    (hop : ∀ (b0 e bc cc : Nat) (at_ : Option Addr) (ct : Nat) (rs : List (Option Addr × Nat)) (W : World), w.heap.size + 3 ≤ b0 → Below w.heap.size w W → Own (w.heap.size + 3) b0 bc cc at_ ct rs ⟨qs, ts, q⟩ W → Env b0 e W →
      Calls Try.prog F (#[bdV b0 e] ++ caps) W (OpDies x b0 bc at_ er W)) :
    Calls Try.prog 49 #[.agg #[.slice a qs.length c, .slice a2 ts.length c2, .int .i64 q], .func (.func F) #[] caps] w fun y w' => y = .returned (.tuple #[zSt, .int .i64 er]) ∧ Fx x w w' := by
  have HS := Lib.hid hs
  have HC := Lib.hid hck
  have HOP := Lib.hid hop
  have hok := ok_of_chk hck
  have hn1 : 1 ≤ qs.length := hok.n1
  have hn4 : qs.length ≤ 4 := hok.n2
  have hm16 : ts.length ≤ 16 := hok.m2
  have HSH : Hid (∀ (k : Nat) (u : Qu), qs[k]? = some u → u.ready.length ≤ 4000) := Lib.hid (short_of_ok hok)
  clear hs hck hop hok
  have HK := ((Kw.start w).box (vs := [.slice a qs.length c, .slice a2 ts.length c2, .int .i64 q]) (t := 25)).box (vs := [.slice none 0 0, .slice none 0 0, .int .i64 0]) (t := 25)
  replace HK := HK.box (vs := [.int .i64 0]) (t := 28)
  simp only [World.size_alloc] at HK
  have hmf : ∀ (fn : Fn) (first cap : Array Value) (w : World), (Instr.makeFunc fn first cap).run Try.prog w = .ok (.func fn first cap) w := fun _ _ _ _ => rfl
  go_enter_defers Try.func49, Try.ntmps49
  go_wp2_with fail
  have hC := fun w hs => check_c a c a2 c2 qs ts q w hs
  rw [HC.out, show okE true = 0 from rfl] at hC
  refine (hC _ (HS.out.below HK.base)).mono ?_
  rintro e w1 ⟨rfl, hq⟩
  replace HK := HK.below hq
  clear hq hC
  have p_0 := HK.get 2 0 rfl rfl
  have p_1 := HK.get 2 1 rfl rfl
  have p_2 := HK.get 2 2 rfl rfl
  go_wp2_with fail
  refine (copied_c a c a2 c2 qs ts q _ (HS.out.below HK.base) ⟨hn1, hn4⟩ hm16 HSH.out).mono ?_
  rintro e w2 ⟨g, d, b, d2, rs, rfl, ho1, ho2, hrl, hrd, hq⟩
  have hsz2 := HK.lt 0 rfl
  replace HK := HK.below hq
  have HO1 := Lib.hid (ownsRow_base (base' := w.heap.size + 3) ho1 (by omega))
  have HO2 := Lib.hid (ownsRow_base (base' := w.heap.size + 3) ho2 (by omega))
  have hsz3 := HK.lt 0 rfl
  have HRL := Lib.hid hrl
  have HRD := Lib.hid (fun k u r h1 h2 => (hrd k u r h1 h2).mono (B' := w.heap.size + 3) (by omega))
  clear hq p_0 p_1 p_2 ho1 ho2 hrl hrd hsz2
  go_wp2_with fail
  have hst : Below w2.heap.size w2 (w2.alloc (.cells #[.slice (some ⟨g, 0, none⟩) qs.length d, .slice b ts.length d2, .int .i64 q] 25)) := b_alloc (Below.refl _ _)
  have HK3 := HK.below hst
  have HOwn : Hid (Own (w.heap.size + 3) w2.heap.size g d b d2 rs ⟨qs, ts, q⟩ (w2.alloc (.cells #[.slice (some ⟨g, 0, none⟩) qs.length d, .slice b ts.length d2, .int .i64 q] 25))) :=
    Lib.hid ⟨heap_alloc_new w2 _, by omega, ownsRow_below HO1.out hst, ownsRow_below HO2.out hst, HRL.out, fun k u r h1 h2 => (HRD.out k u r h1 h2).below hst⟩
  clear hst HK HO1 HO2 HRL HRD
  generalize (w2.alloc (.cells #[.slice (some ⟨g, 0, none⟩) qs.length d, .slice b ts.length d2, .int .i64 q] 25)) = w3 at *
  have hb02 : w.heap.size + 3 ≤ w2.heap.size := by omega
  generalize w2.heap.size = b0 at *
  refine (movesOf_c b0 w3).mono ?_
  rintro e w4 ⟨rfl, hE, hq⟩
  have HK4 := HK3.below hq
  have HO4 := Lib.hid (HOwn.out.below hq)
  have HE := Lib.hid hE
  clear hq hE HK3 HOwn
  generalize w3.heap.size = ev at *
  unfold mvV
  go_wp2_with fail
  refine (HOP.out b0 ev g d b d2 rs w4 (by omega) HK4.base HO4.out HE.out).mono ?_
  rintro e w5 ⟨rfl, hfr⟩
  have h4 := HO4.out.keptOp hfr (HK4.row 1 rfl) (by decide) (by omega) (by omega)
  have h5 := HO4.out.keptOp hfr (HK4.row 0 rfl) (by decide) (by omega) (by omega)
  have hbase := HK4.base
  have hob := HO4.out.bcRow
  have hot := HO4.out.btRow
  have HH4 := Lib.hid h4
  have HH5 := Lib.hid h5
  have HFR := Lib.hid hfr
  clear h4 h5 hfr
  refine leaves_cons (f := 73) (args := #[.pointer (some ⟨w.heap.size + 1, 0, none⟩), .pointer (some ⟨w.heap.size + 1 + 1, 0, none⟩)]) (by simp) (by simp [go_sem]) ?_
  refine (catch_p _ _ er _ _ _ _ _ HH4.out HH5.out).mono ?_
  rintro e u' w'' ⟨rfl, rfl, n, rfl⟩
  have hd : Below w5.heap.size w5 (w5.drewN n) := below_of_drewN n
  have h4 := (hd.block _ (Array.getElem?_eq_some_iff.1 HH4.out).1).trans HH4.out
  have h5 := (hd.block _ (Array.getElem?_eq_some_iff.1 HH5.out).1).trans HH5.out
  obtain ⟨g4, g5, gk⟩ := putSE_cells (x := .slice none 0 0) (y := .slice none 0 0) (z := .int .i64 0) (u := .int .i64 er) h4 h5 (by omega)
  obtain ⟨m1, m2, m3, m4⟩ := putSE_misc (w5.drewN n) (w.heap.size + 1) (.slice none 0 0) (.slice none 0 0) (.int .i64 0) (w.heap.size + 1 + 1) (.int .i64 er)
  obtain ⟨t0, t1, t2, _⟩ := row3 g4
  obtain ⟨t3, _⟩ := cell0 g5
  refine ⟨.tuple #[zSt, .int .i64 er], by simp [results, Try.results49, go_sem, zSt, t0, t1, t2, t3], rfl, ?_⟩
  have hfr := HFR.out
  refine ⟨((m1.trans hd.os).trans hfr.os).trans hbase.os, ((m2.trans hd.tape).trans hfr.tape).trans hbase.tape, ((m3.trans hd.output).trans hfr.output).trans hbase.output, by rw [m4]; exact Nat.le_trans (Nat.le_trans hbase.size hfr.size) hd.size, fun k hk hkx => ?_⟩
  have hkw4 : k < w4.heap.size := Nat.lt_of_lt_of_le hk hbase.size
  have hkw5 : k < w5.heap.size := Nat.lt_of_lt_of_le hkw4 hfr.size
  refine ((gk k (by omega) (by omega)).trans ((hd.block k hkw5).trans (hfr.blk k hkw4 hkx (by omega) (fun e => ?_) (fun a ha e => ?_)))).trans (hbase.block k hk)
  · obtain ⟨_, _, hB⟩ := hob; omega
  · obtain ⟨_, _, _, hB⟩ := hot a ha; omega
end Go.Proofs.Ytggikbcgijmhbaa
