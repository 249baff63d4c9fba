/- WHAT IS PROVED: the closure that writes decimal digits appends all of them, and bits.text returns the text of a number. CONDITIONS: the number has at most 64 bits. -/
import Derived.Test.YtfgmfkiknogdeaaDoorC
import Derived.Laws.BytesString
import Derived.OneCell
import Derived.Laws.EntriesVeiled
import Derived.Maps.AppendAt
namespace Go.Proofs.YtfgmfkiknogdeaaDoor
open Go Go.RowKit Go.QrBits

/-- The decimal digits of a number. -/
def decL (n : Nat) : List Int := (if n < 10 then [] else decL (n / 10)) ++ [48 + (n : Int) % 10]
termination_by n
decreasing_by omega

theorem info5 : (Tryd.prog.info? 5).map (fun i => (i.zero, i.size, i.bytes)) = some (some (.int .u8 0), 1, 1) := by kernel_rfl

def bV (xs : List Int) : List Value := xs.map (Value.int .u8)


theorem decL_lt {n : Nat} (h : (n : Int) < 10) : decL n = [48 + (n : Int) % 10] := by rw [decL, if_pos (by omega)]; rfl
theorem decL_ge {n : Nat} (h : ¬ (n : Int) < 10) : decL n = decL (n / 10) ++ [48 + (n : Int) % 10] := by rw [decL, if_neg (by omega)]

theorem decL_len : ∀ (k n : Nat), n < 10 ^ k → (decL n).length ≤ k + 1
  | 0, n, h => by rw [decL_lt (by omega)]; simp
  | k + 1, n, h => by
    by_cases h9 : (n : Int) < 10
    · rw [decL_lt h9]; simp
    · rw [decL_ge h9]
      have := decL_len k (n / 10) (by rw [Nat.pow_succ] at h; omega)
      simp; omega

/-- What the closure leaves: the slice in its cell has grown by 'ys'. -/
structure DigPost (B bo bf : Nat) (w : World) (xs : List Int) (w' : World) : Prop where
  below : ∀ k, k < B → k ≠ bo → w'.heap[k]? = w.heap[k]?
  size : w.heap.size ≤ w'.heap.size
  os : w'.os = w.os
  tape : w'.tape = w.tape
  output : w'.output = w.output
  frz : w'.frozen? ⟨bo, 0, none⟩ = false
  cf : w'.cell? ⟨bf, 0, none⟩ = w.cell? ⟨bf, 0, none⟩
  own : ∃ v', w'.cell? ⟨bo, 0, none⟩ = some v' ∧ v'.ownBlock ≠ some bf ∧ w'.ownsRow B 5 1 v' xs.length (bV xs)

theorem own_form {w : World} {B e n : Nat} {v : Value} {xs : List Value} (h : w.ownsRow B e 1 v (n + 1) xs) : ∃ g cap, v = .slice (some ⟨g, 0, none⟩) (n + 1) cap ∧ B ≤ g := by
  obtain ⟨_, (⟨_, h0⟩ | ⟨g, cap, cur, rfl, hg, _⟩)⟩ := h
  · omega
  · exact ⟨g, cap, rfl, hg⟩
theorem loc_ne {w : World} {v v' : Value} {bf : Nat} (hbf : bf < w.heap.size) (hvf : v.ownBlock ≠ some bf) (h : v'.ownBlock = v.ownBlock ∨ v'.ownBlock = some (w.heap.size + 1)) : v'.ownBlock ≠ some bf := by
  rcases h with h | h
  · rw [h]; exact hvf
  · rw [h]; intro e; have := Option.some.inj e; omega
theorem grown_facts {B bo bf : Nat} {w w1 : World} {v : Value} {n : Nat} {xs : List Value} {o : Obj} (hown : w.ownsRow B 5 1 v n xs) (hbo : bo < B) (hbf : bf < w.heap.size) (hvf : v.ownBlock ≠ some bf) (hB : B ≤ w.heap.size)
    (hc : w.cell? ⟨bo, 0, none⟩ = some v) (hf : w.frozen? ⟨bo, 0, none⟩ = false) (hg : (w.alloc o).grownBy w1 v.ownBlock) :
    (∀ k, k < B → w1.heap[k]? = w.heap[k]?) ∧ w1.cell? ⟨bo, 0, none⟩ = some v ∧ w1.frozen? ⟨bo, 0, none⟩ = false ∧ w1.cell? ⟨bf, 0, none⟩ = w.cell? ⟨bf, 0, none⟩ := by
  have h1 : ∀ k, k < B → w1.heap[k]? = w.heap[k]? := fun k hk => by
    rw [hg.block k (by simp; omega) (fun e => by have := (hown.lt k e.symm).1; omega)]
    exact Below.heap_alloc _ _ _ (by omega)
  exact ⟨h1, by rw [World.cell?_of_block (w := w) (a := ⟨bo, 0, none⟩) (h1 bo hbo)]; exact hc, by rw [World.frozen?_of_block (w := w) (a := ⟨bo, 0, none⟩) (h1 bo hbo)]; exact hf, World.cell?_of_block (w := w) (a := ⟨bf, 0, none⟩) (by rw [hg.block bf (by simp; omega) (fun e => hvf e.symm)]; exact Below.heap_alloc _ _ _ hbf)⟩

theorem DigPost.trans {B bo bf : Nat} {w w1 w2 : World} {xs ys : List Int} (h : DigPost B bo bf w xs w1) (k : DigPost B bo bf w1 ys w2) : DigPost B bo bf w ys w2 :=
  ⟨fun i hi hne => (k.below i hi hne).trans (h.below i hi hne), Nat.le_trans h.size k.size, k.os.trans h.os, k.tape.trans h.tape, k.output.trans h.output, k.frz, k.cf.trans h.cf, k.own⟩

theorem dig_close {B bo bf : Nat} {w w1 : World} {v v' : Value} {d : Int} {xs : List Int} {o : Obj} (hbo : bo < B) (hne : bf ≠ bo)
    (hblk : ∀ k, k < B → w1.heap[k]? = w.heap[k]?) (hcb : w1.cell? ⟨bo, 0, none⟩ = some v) (hfb : w1.frozen? ⟨bo, 0, none⟩ = false) (hcf : w1.cell? ⟨bf, 0, none⟩ = w.cell? ⟨bf, 0, none⟩)
    (hg : (w.alloc o).grownBy w1 v.ownBlock) (hv : v'.ownBlock ≠ some bf) (hown1 : w1.ownsRow B 5 1 v' (xs.length + 1) (bV xs ++ [.int .u8 d])) : DigPost B bo bf w (xs ++ [d]) (w1.setCell ⟨bo, 0, none⟩ v') where
  below := fun k hk hkn => by rw [Below.heap_setCell _ _ _ _ hkn]; exact hblk k hk
  size := by have := hg.size; rw [World.size_alloc] at this; rw [World.size_setCell]; omega
  os := hg.os
  tape := hg.tape
  output := hg.output
  frz := by rw [World.frozen?_setCell]; exact hfb
  cf := by rw [← hcf]; exact World.cell?_of_block (w := w1) (a := ⟨bf, 0, none⟩) (Below.heap_setCell _ _ _ _ hne)
  own := ⟨v', World.cell?_setCell_same _ _ _ hcb, hv, by
    have := ownsRow_setCell_below hown1 (a := ⟨bo, 0, none⟩) hbo v'
    have e : bV (xs ++ [d]) = bV xs ++ [.int .u8 d] := by simp [bV]
    rw [e, List.length_append]; exact this⟩

set_option maxHeartbeats 1000000 in
set_option maxRecDepth 100000 in
/-- One digit is appended. -/
theorem dig_one (B bo bf : Nat) (n : Nat) (w : World) (v : Value) (xs : List Int) (h9 : (n : Int) < 10) (hbo : bo < B) (hbf : bf < w.heap.size) (hne : bf ≠ bo) (hB : B ≤ w.heap.size) (hvf : v.ownBlock ≠ some bf)
    (hc : w.cell? ⟨bo, 0, none⟩ = some v) (hf : w.frozen? ⟨bo, 0, none⟩ = false)
    (hown : w.ownsRow B 5 1 v xs.length (bV xs)) (hl : xs.length ≤ 1000) :
    Calls Tryd.prog 101 #[.int .u64 n, .pointer (some ⟨bf, 0, none⟩), .pointer (some ⟨bo, 0, none⟩)] w fun e w' => e = .returned (.tuple #[]) ∧ DigPost B bo bf w (xs ++ decL n) w' := by
  obtain ⟨i0, hi, hz0, hz1, hz2⟩ := info_parts info5
  have HD := Lib.hid (decL_lt h9)
  have b0 : 0 ≤ 48 + (n : Int) % 10 ∧ 48 + (n : Int) % 10 ≤ 255 := by omega
  go_enter Tryd.func101, Tryd.ntmps101
  go_wp2_with (at_builtin; refine wpList_append_own_at _ rfl _ _ 48 rfl B 5 i0 (.int .u8 0) 1 1 Tryd.underlying48 hi hz0 hz1 hz2 rfl (by decide) _ _ _ rfl (hown.alloc _) ⟨w.heap.size, 0, none⟩ 1 1 [.int .u8 (48 + (n : Int) % 10)] rfl rfl ?c1 ?c2 ?c3 ?c4 ?c5 ?_)
  case c1 => exact cell_one_new _ _ _
  case c2 => intro u hu; simp at hu; subst hu; rfl
  case c3 => unfold maxLen; omega
  case c4 => omega
  case c5 => simp; omega
  intro v' w1 hown1 hgrow _ hloc
  obtain ⟨g, cap, rfl, hg⟩ := own_form hown1
  obtain ⟨hblk, hcb, hfb, hcf⟩ := grown_facts hown hbo hbf hvf hB hc hf hgrow
  have HL := Lib.hid (loc_ne hbf hvf hloc); clear hloc
  have HB := Lib.hid hblk; have HF := Lib.hid hcf; clear hblk hcf
  go_wp2
  go_returns
  exact ⟨rfl, by rw [HD.out]; exact dig_close hbo hne HB.out hcb hfb HF.out hgrow HL.out hown1⟩

set_option maxHeartbeats 1000000 in
set_option maxRecDepth 100000 in
/-- THE CLOSURE: all the digits are appended. -/
theorem dig_c (B bo bf : Nat) (hbo : bo < B) (hne : bf ≠ bo) (k : Nat) : ∀ (n : Nat) (w : World) (v : Value) (xs : List Int), n < 10 ^ k → k ≤ 20 → B ≤ w.heap.size → bf < w.heap.size → v.ownBlock ≠ some bf →
    w.cell? ⟨bo, 0, none⟩ = some v → w.frozen? ⟨bo, 0, none⟩ = false → w.cell? ⟨bf, 0, none⟩ = some (.func (.func 101) #[] #[.pointer (some ⟨bf, 0, none⟩), .pointer (some ⟨bo, 0, none⟩)]) →
    w.ownsRow B 5 1 v xs.length (bV xs) → xs.length + k ≤ 900 → (n : Int) ≤ 18446744073709551615 →
    Calls Tryd.prog 101 #[.int .u64 n, .pointer (some ⟨bf, 0, none⟩), .pointer (some ⟨bo, 0, none⟩)] w fun e w' => e = .returned (.tuple #[]) ∧ DigPost B bo bf w (xs ++ decL n) w' := by
  induction k with
  | zero =>
    intro n w v xs hn _ hB hbf hvf hc hf _ hown hl _
    exact dig_one B bo bf n w v xs (by omega) hbo hbf hne hB hvf hc hf hown (by omega)
  | succ k ih =>
    intro n w v xs hn hk hB hbf hvf hc hf hcf hown hl hmax
    by_cases h9 : (n : Int) < 10
    · exact dig_one B bo bf n w v xs h9 hbo hbf hne hB hvf hc hf hown (by omega)
    obtain ⟨i0, hi, hz0, hz1, hz2⟩ := info_parts info5
    have HD := Lib.hid (decL_ge h9)
    have h10 : (10 : Int) ≤ n := by omega
    have hrec := ih (n / 10) w v xs (by rw [Nat.pow_succ] at hn; omega) (by omega) hB hbf hvf hc hf hcf hown (by omega) (by omega)
    have hlen := decL_len k (n / 10) (by rw [Nat.pow_succ] at hn; omega)
    have HR := Lib.hid hrec; clear hrec ih
    have HN := Lib.hid hn; have HM := Lib.hid hmax; clear hn hmax h9
    have b0 : 0 ≤ 48 + (n : Int) % 10 ∧ 48 + (n : Int) % 10 ≤ 255 := by omega
    go_enter Tryd.func101, Tryd.ntmps101
    go_wp2_with fail
    rw [show IntKind.u64.wrap ((n : Int) / 10) = ((n / 10 : Nat) : Int) from by have := HM.out; rw [IntKind.wrap_u64]; omega]
    refine HR.out.mono ?_
    rintro e w1 ⟨rfl, hd1⟩
    obtain ⟨v1, hc1, hvf1, hown1⟩ := hd1.own
    have hbf1 : bf < w1.heap.size := Nat.lt_of_lt_of_le hbf hd1.size
    have hf1 := hd1.frz
    have hs1 : B ≤ w1.heap.size := Nat.le_trans hB hd1.size
    have hlen1 : (xs ++ decL (n / 10)).length ≤ 1000 := by rw [List.length_append]; omega
    have HP := Lib.hid hd1; clear hd1 hc hf hcf hown HR
    generalize hys : xs ++ decL (n / 10) = ys at *
    have HY := Lib.hid hys; clear hys
    go_wp2_with (at_builtin; refine wpList_append_own_at _ rfl _ _ 48 rfl B 5 i0 (.int .u8 0) 1 1 Tryd.underlying48 hi hz0 hz1 hz2 rfl (by decide) _ _ _ rfl (hown1.alloc _) ⟨w1.heap.size, 0, none⟩ 1 1 [.int .u8 (48 + (n : Int) % 10)] rfl rfl ?c1 ?c2 ?c3 ?c4 ?c5 ?_)
    case c1 => exact cell_one_new _ _ _
    case c2 => intro u hu; simp at hu; subst hu; rfl
    case c3 => unfold maxLen; omega
    case c4 => omega
    case c5 => simp; omega
    intro v' w2 hown2 hgrow _ hloc
    obtain ⟨g, cap, rfl, hg⟩ := own_form hown2
    obtain ⟨hblk, hcb, hfb, hcf⟩ := grown_facts hown1 hbo hbf1 hvf1 hs1 hc1 hf1 hgrow
    have HL := Lib.hid (loc_ne hbf1 hvf1 hloc); clear hloc
    have HB := Lib.hid hblk; have HF := Lib.hid hcf; clear hblk hcf
    go_wp2
    go_returns
    exact ⟨rfl, by rw [HD.out, ← List.append_assoc, HY.out]; exact HP.out.trans (dig_close hbo hne HB.out hcb hfb HF.out hgrow HL.out hown2)⟩

/-- The bytes of a list of numbers, as a string. -/
def strOf (ns : List Int) : ByteArray := ns.foldl (fun r n => r.push (UInt8.ofNat n.toNat)) ByteArray.empty
/-- The text of a number. -/
def txL (neg : Bool) (n : Nat) : List Int := (if neg then [45] else []) ++ decL n

theorem run_own_string {w : World} {B g cap L : Nat} {xs : List Int} (h : w.ownsRow B 5 1 (.slice (some ⟨g, 0, none⟩) L cap) L (bV xs)) : (convert 48 9 (.slice (some ⟨g, 0, none⟩) L cap)).run Tryd.prog w = .ok (.string (strOf xs)) w := by
  have hlen : L = (bV xs).length := by have := h.1; omega
  rw [run_convert_bytes_string w 48 9 5 _ L cap Tryd.underlying48 Tryd.underlying5 Tryd.underlying9]
  refine run_bytesToString w _ L cap xs ?_
  rw [hlen]
  exact run_loadCells_list _ _ _ (h.cells rfl)

theorem own_shape {w : World} {B L : Nat} {v : Value} {xs : List Int} (h : w.ownsRow B 5 1 v L (bV xs)) (hx : xs ≠ []) : ∃ g cap, v = .slice (some ⟨g, 0, none⟩) L cap := by
  obtain ⟨h1, (⟨_, h0⟩ | ⟨g, cap, cur, rfl, _⟩)⟩ := h
  · exfalso; apply hx; subst h0; simpa [bV] using h1
  · exact ⟨g, cap, rfl⟩

theorem decL_ne (n : Nat) : decL n ≠ [] := by rw [decL]; simp

theorem dig_below {B bo bf : Nat} {w w1 : World} {xs : List Int} (h : DigPost B bo bf w xs w1) {k : Nat} (hk : k ≤ bo) (hB : k ≤ B) : Below k w w1 :=
  ⟨h.os, h.tape, h.output, h.size, fun i hi => h.below i (by omega) (by omega)⟩

set_option maxHeartbeats 1000000 in
set_option maxRecDepth 100000 in
theorem text_pos (n : Nat) (w : World) (hn : n < 10 ^ 20) (hm : (n : Int) ≤ 18446744073709551615) :
    Calls Tryd.prog 64 #[.agg #[.bool false, .int .u64 n]] w fun e w' => e = .returned (.string (strOf (decL n))) ∧ Below w.heap.size w w' := by
  have HD := Lib.hid (dig_c (w.heap.size + 1 + 1 + 1) (w.heap.size + 1) (w.heap.size + 1 + 1) (by omega) (by omega) 20 n)
  have HN := Lib.hid hn; have HM := Lib.hid hm; clear hn hm
  go_enter Tryd.func64, Tryd.ntmps64
  go_wp2_with fail
  refine (HD.out _ (.slice none 0 0) [] HN.out (by omega) (by simp) (by simp) (by simp [Value.ownBlock]) (by go_simp) (by go_simp) (by go_simp) (World.ownsRow_nil _ _ _ _) (by simp) HM.out).mono ?_
  rintro e w1 ⟨rfl, hp⟩
  obtain ⟨v', hc, _, hown⟩ := hp.own
  rw [List.nil_append] at hown
  obtain ⟨g, cap, rfl⟩ := own_shape hown (decL_ne n)
  have hrun := run_own_string hown
  have HB := Lib.hid (Below.trans ((((Below.refl _ w).alloc (Nat.le_refl _) _).alloc (by simp) _).alloc (by simp; omega) _) (dig_below hp (k := w.heap.size) (by omega) (by omega)))
  clear hp hown HD
  go_wp2
  go_ret
  exact ⟨rfl, HB.out⟩

theorem neg_facts {w w1 : World} {o1 o2 o3 : Obj} (hg : (((w.alloc o1).alloc o2).alloc o3).grownBy w1 (Value.slice none 0 0).ownBlock) : Below ((w.alloc o1).alloc o2).heap.size ((w.alloc o1).alloc o2) w1 :=
  ((Below.refl _ _).alloc (Nat.le_refl _) o3).grown hg (by simp) (fun k hk => by cases hk)

set_option maxHeartbeats 1000000 in
set_option maxRecDepth 100000 in
theorem text_neg (n : Nat) (w : World) (hn : n < 10 ^ 20) (hm : (n : Int) ≤ 18446744073709551615) :
    Calls Tryd.prog 64 #[.agg #[.bool true, .int .u64 n]] w fun e w' => e = .returned (.string (strOf (45 :: decL n))) ∧ Below w.heap.size w w' := by
  have HD := Lib.hid (fun bf h => dig_c (w.heap.size + 1 + 1) (w.heap.size + 1) bf (by omega) h 20 n)
  have HN := Lib.hid hn; have HM := Lib.hid hm; clear hn hm
  obtain ⟨i0, hi, hz0, hz1, hz2⟩ := info_parts info5
  go_enter Tryd.func64, Tryd.ntmps64
  go_wp2_with (at_builtin; refine wpList_append_own_at _ rfl _ _ 48 rfl (w.heap.size + 1 + 1) 5 i0 (.int .u8 0) 1 1 Tryd.underlying48 hi hz0 hz1 hz2 rfl (by decide) _ _ _ rfl (World.ownsRow_nil _ _ _ _) ⟨w.heap.size + 1 + 1, 0, none⟩ 1 1 [.int .u8 45] rfl rfl ?c1 ?c2 ?c3 ?c4 ?c5 ?_)
  case c1 => simpa using cell_one_new ((w.alloc (.cells #[.bool true, .int .u64 n] 101)).alloc (.cells #[.slice none 0 0] 48)) (.int .u8 45) 5
  case c2 => intro u hu; simp at hu; subst hu; rfl
  case c3 => unfold maxLen; omega
  case c4 => omega
  case c5 => simp
  intro v' w1 hown1 hgrow _ hloc
  obtain ⟨g, cap, rfl, hg⟩ := own_form hown1
  have hbel := neg_facts hgrow
  have hc1 : w1.cell? ⟨w.heap.size + 1, 0, none⟩ = some (.slice none 0 0) := by rw [hbel.cell (p := ⟨w.heap.size + 1, 0, none⟩) (by simp)]; simp
  have hc2 : w1.cell? ⟨w.heap.size, 1, none⟩ = some (.int .u64 n) := by rw [hbel.cell (p := ⟨w.heap.size, 1, none⟩) (by simp; omega)]; go_simp
  have hf1 : w1.frozen? ⟨w.heap.size + 1, 0, none⟩ = false := by rw [hbel.frozen (p := ⟨w.heap.size + 1, 0, none⟩) (by simp)]; go_simp
  have hs1 : w.heap.size + 1 + 1 ≤ w1.heap.size := by have := hbel.size; simpa using this
  have hgl : g < w1.heap.size := (hown1.lt g rfl).2
  have hs2 : w.heap.size < w1.heap.size := by omega
  have hs3 : w.heap.size + 1 < w1.heap.size := by omega
  have HB := Lib.hid hbel; have HO := Lib.hid hown1
  clear hbel hown1 hgrow hloc
  go_wp2_with fail
  refine (HD.out w1.heap.size (by omega) _ (.slice (some ⟨g, 0, none⟩) 1 cap) [45] HN.out (by omega) ?a1 ?a2 (by simp [Value.ownBlock]; omega) ?a4 ?a5 ?a6 ?a7 (by simp) HM.out).mono ?_
  case a1 => simp; omega
  case a2 => simp
  case a4 => go_simp
  case a5 => go_simp
  case a6 => go_simp
  case a7 => exact (ownsRow_setCell_below HO.out (a := ⟨w.heap.size + 1, 0, none⟩) (by simp) _).alloc _
  rintro e w2 ⟨rfl, hp⟩
  obtain ⟨v', hc, _, hown⟩ := hp.own
  obtain ⟨g2, cap2, rfl⟩ := own_shape hown (by simp)
  have hrun := run_own_string hown
  have HP := Lib.hid hp
  clear hp hown HD
  generalize ([45] ++ decL n).length = L at *
  go_wp2
  go_ret
  refine ⟨rfl, ?_⟩
  have h1 : Below w.heap.size w w1 := Below.tail (b_alloc (b_alloc (Below.refl _ w))) HB.out
  exact ((h1.setCell (by simp) _).alloc (by simp; omega) _).trans (dig_below HP.out (by omega) (by omega))

/-- 'text': the text of a number. -/
theorem text_c (neg : Bool) (n : Nat) (w : World) (hm : (n : Int) ≤ 18446744073709551615) :
    Calls Tryd.prog 64 #[.agg #[.bool neg, .int .u64 n]] w fun e w' => e = .returned (.string (strOf (txL neg n))) ∧ Below w.heap.size w w' := by
  have hn : n < 10 ^ 20 := by have : (10 : Nat) ^ 20 = 100000000000000000000 := by decide
                              omega
  cases neg
  · exact text_pos n w hn hm
  · exact text_neg n w hn hm
end Go.Proofs.YtfgmfkiknogdeaaDoor
