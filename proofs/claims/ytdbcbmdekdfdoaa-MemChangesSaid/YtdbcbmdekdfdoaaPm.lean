/- WHAT IS PROVED: mem.permitting, mem.Protect, mem.Seal, for every space and all numbers. CONDITIONS: the slices' cells hold the lists. -/
import Derived.Test.YtdbcbmdekdfdoaaNw
namespace Go.Proofs.Ytdbcbmdekdfdoaa
open Go Go.RowKit Go.QrBits

theorem own_open {w : World} {base e n c : Nat} {a : Option Addr} {xs : List Value} (h : w.ownsRow base e 1 (.slice a n c) n xs) (hn : 0 < n) : ∃ g, a = some ⟨g, 0, none⟩ ∧ base ≤ g ∧ g < w.heap.size := by
  obtain ⟨_, (⟨h1, rfl⟩ | ⟨g, cap, cur, h1, h2, h3, _⟩)⟩ := h
  · omega
  · cases h1; exact ⟨g, rfl, h2, (Array.getElem?_eq_some_iff.1 h3).1⟩

/-- What clone leaves, the permissions' block named. -/
def Cloned1 (k : Nat) (perm bytes : List Int) (w : World) (en : Ending) (w' : World) : Prop :=
  ∃ (g c : Nat) (a2 : Option Addr) (c2 : Nat), en = .returned (.agg #[.slice (some ⟨g, 0, none⟩) perm.length c, .slice a2 bytes.length c2]) ∧
    w'.ownsRow w.heap.size 3 1 (.slice (some ⟨g, 0, none⟩) perm.length c) perm.length (iV perm) ∧ w'.ownsRow w.heap.size 5 1 (.slice a2 bytes.length c2) bytes.length (bV bytes) ∧
    Below w.heap.size w w' ∧ w.heap.size ≤ g ∧ g < w'.heap.size ∧ w'.cell? ⟨g, k, none⟩ = some (.int .i64 (perm.getD k 0)) ∧ w'.frozen? ⟨g, k, none⟩ = false
theorem clone_1 (a : Option Addr) (c : Nat) (a2 : Option Addr) (c2 : Nat) (perm bytes : List Int) (k : Nat) (w : World) (hv : SlV a perm.length c) (hv2 : SlV a2 bytes.length c2) (hs : SlAt w a (iV perm)) (hs2 : SlAt w a2 (bV bytes)) (hn : perm.length ≤ 4096) (hn2 : bytes.length ≤ 4096) (hk : k < perm.length) :
    Calls Try.prog 69 #[.agg #[.slice a perm.length c, .slice a2 bytes.length c2]] w (Cloned1 k perm bytes w) := by
  refine (clone_c a c a2 c2 perm bytes w hv hv2 hs hs2 hn hn2).mono ?_
  rintro e w2 ⟨v, rfl, ⟨a, c, a2, c2, rfl, ho1, ho2⟩, hb⟩
  obtain ⟨g, rfl, h1, h2⟩ := own_open ho1 (by omega)
  refine ⟨g, c, a2, c2, rfl, ho1, ho2, hb, h1, h2, ?_, ho1.frozenAt k⟩
  rw [ho1.cellAt k (by omega)]
  simp [iV, hk]

theorem set_ne (w : World) {b g : Nat} (o k : Nat) (v : Value) (h : b ≠ g) : (w.setCell ⟨g, k, none⟩ v).cell? ⟨b, o, none⟩ = w.cell? ⟨b, o, none⟩ :=
  World.cell?_of_block (w := w) (a := ⟨b, o, none⟩) (Below.heap_setCell _ _ _ _ h)
/-- The result's box behind a call. -/
theorem box_kept {w w2 : World} {A : Obj} (hb : Below ((w.alloc A).alloc (.cells #[.slice none 0 0, .slice none 0 0] 25)).heap.size ((w.alloc A).alloc (.cells #[.slice none 0 0, .slice none 0 0] 25)) w2) :
    w.heap.size + 1 < w2.heap.size ∧ w2.cell? ⟨w.heap.size + 1, 0, none⟩ = some (.slice none 0 0) ∧ w2.cell? ⟨w.heap.size + 1, 1, none⟩ = some (.slice none 0 0) ∧ w2.frozen? ⟨w.heap.size + 1, 0, none⟩ = false ∧ w2.frozen? ⟨w.heap.size + 1, 1, none⟩ = false := by
  have h2 := hb.block (w.heap.size + 1) (by simp)
  rw [heap_alloc2_new] at h2
  refine ⟨(Array.getElem?_eq_some_iff.1 h2).1, ?_, ?_, ?_, ?_⟩
  · simp [World.cell?, h2]
  · simp [World.cell?, h2]
  · simp [World.frozen?, h2]
  · simp [World.frozen?, h2]

theorem rows_apart {w : World} {base base' g n c n2 c2 : Nat} {e e2 : TypeId} {a2 : Option Addr} {xs ys : List Value} (h : w.ownsRow base e 1 (.slice (some ⟨g, 0, none⟩) n c) n xs) (h2 : w.ownsRow base' e2 1 (.slice a2 n2 c2) n2 ys) (he : e ≠ e2) : (Value.slice a2 n2 c2).ownBlock ≠ some g := by
  obtain ⟨_, (⟨h1, _⟩ | ⟨g1, cap, cur, h1, _, h3, _⟩)⟩ := h
  · cases h1
  · cases h1
    obtain ⟨_, (⟨k1, _⟩ | ⟨g2, cap2, cur2, k1, _, k3, _⟩)⟩ := h2
    · cases k1; simp [Value.ownBlock]
    · cases k1
      intro e
      simp only [Value.ownBlock, Option.some.injEq] at e
      subst e
      rw [h3] at k3; cases k3; exact he rfl
theorem perm_end {w W w2 : World} {g k c : Nat} {a2 : Option Addr} {c2 : Nat} {p : Int} {perm bytes : List Int} (hb : Below W.heap.size W w2) (ho1 : w2.ownsRow W.heap.size 3 1 (.slice (some ⟨g, 0, none⟩) perm.length c) perm.length (iV perm))
    (ho2 : w2.ownsRow W.heap.size 5 1 (.slice a2 bytes.length c2) bytes.length (bV bytes)) (hg1 : W.heap.size ≤ g) (hz : W.heap.size = w.heap.size + 2) (h0 : Below w.heap.size w W) :
    ClonedSp (perm.set k p) bytes w (.returned (.agg #[.slice (some ⟨g, 0, none⟩) perm.length c, .slice a2 bytes.length c2])) ((((w2.setCell ⟨g, k, none⟩ (.int .i64 p)).setCell ⟨w.heap.size + 1, 0, none⟩ (.slice (some ⟨g, 0, none⟩) perm.length c)).setCell ⟨w.heap.size + 1, 1, none⟩ (.slice a2 bytes.length c2)).alloc (.cells #[.slice (some ⟨g, 0, none⟩) perm.length c, .slice a2 bytes.length c2] 25)) := by
  have hz2 := hb.size
  refine ⟨_, rfl, ⟨some ⟨g, 0, none⟩, c, a2, c2, by rw [List.length_set], ?_, ?_⟩, ?_⟩
  · rw [List.length_set]
    have h := (ho1.stored k (.int .i64 p)).1
    have e : iV (perm.set k p) = (iV perm).set k (.int .i64 p) := by simp [iV, List.map_set]
    rw [e]
    exact ownsRow_base ((ownsRow_setCell_below (ownsRow_setCell_below h (by show w.heap.size + 1 < _; omega) _) (by show w.heap.size + 1 < _; omega) _).alloc _) (by omega)
  · have h := ho2.kept (w' := w2.setCell ⟨g, k, none⟩ (.int .i64 p)) (row := some g) (ho1.stored k (.int .i64 p)).2 (.inr (rows_apart ho1 ho2 (by decide)))
    exact ownsRow_base ((ownsRow_setCell_below (ownsRow_setCell_below h (by show w.heap.size + 1 < _; omega) _) (by show w.heap.size + 1 < _; omega) _).alloc _) (by omega)
  · exact ((((Below.tail h0 hb).setCell (by show _ ≤ g; omega) _).setCell (by show _ ≤ w.heap.size + 1; omega) _).setCell (by show _ ≤ w.heap.size + 1; omega) _).alloc (by simp; omega) _

set_option maxHeartbeats 4000000 in
set_option maxRecDepth 100000 in
theorem permitting_c (a : Option Addr) (c : Nat) (a2 : Option Addr) (c2 : Nat) (perm bytes : List Int) (k : Nat) (p : Int) (w : World) (hv : SlV a perm.length c) (hv2 : SlV a2 bytes.length c2) (hs : SlAt w a (iV perm)) (hs2 : SlAt w a2 (bV bytes)) (hn : perm.length ≤ 4096) (hn2 : bytes.length ≤ 4096) (hk : k < perm.length) :
    Calls Try.prog 49 #[.agg #[.slice a perm.length c, .slice a2 bytes.length c2], .int .i64 (k : Int), .int .i64 p] w (ClonedSp (perm.set k p) bytes w) := by
  have HV := Lib.hid hv
  have HV2 := Lib.hid hv2
  have HS := Lib.hid hs
  have HS2 := Lib.hid hs2
  clear hv hv2 hs hs2
  have k0 : (0 : Int) ≤ (k : Int) := Int.natCast_nonneg _
  have k1 : (k : Int) < (perm.length : Int) := by omega
  go_enter Try.func49, Try.ntmps49
  go_wp2_with fail
  refine (clone_1 _ _ _ _ _ _ k _ HV.out HV2.out (HS.out.below (by repeat (first | exact Below.refl _ _ | apply b_alloc))) (HS2.out.below (by repeat (first | exact Below.refl _ _ | apply b_alloc))) hn hn2 hk).mono ?_
  rintro e w2 ⟨g, c, a2, c2, rfl, ho1, ho2, hb, hg1, hg2, hgc, hgf⟩
  obtain ⟨hz2, e1, e2, f1, f2⟩ := box_kept hb
  have hne : w.heap.size + 1 ≠ g := by simp at hg1; omega
  have E1 := (set_ne w2 0 k (.int .i64 p) hne).trans e1
  have E2 := (set_ne w2 1 k (.int .i64 p) hne).trans e2
  go_wp2
  obtain ⟨g1, g2⟩ := put2 (.slice (some ⟨g, 0, none⟩) perm.length c) (.slice a2 bytes.length c2) E1 E2
  have hz3 : w.heap.size + 1 < ((w2.setCell ⟨g, k, none⟩ (.int .i64 p)).setCell ⟨w.heap.size + 1, 0, none⟩ (.slice (some ⟨g, 0, none⟩) perm.length c)).heap.size := by simp; omega
  refine bodyPost_ret (v := .agg #[.slice (some ⟨g, 0, none⟩) perm.length c, .slice a2 bytes.length c2]) (by simp [results, Try.results49, go_sem, g1, g2, hz2]) rfl ?_
  exact perm_end hb ho1 ho2 hg1 (by simp) (b_alloc (b_alloc (Below.refl _ _)))

end Go.Proofs.Ytdbcbmdekdfdoaa
