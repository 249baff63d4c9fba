/- WHAT IS PROVED: bits.Bytes and bits.FromBytes as functions on lists of bytes; each undoes the other. CONDITIONS: a valid size; a value is an int64; bytes are numbers from 0 to 255. -/
import Derived.Test.YtdbcbmdekdfdoaaBy
import Derived.Laws.BitsAllLaws
namespace Go.Proofs.Ytdbcbmdekdfdoaa
open Go Go.RowKit Go.QrBits

/-- The bytes of a number, least significant first. -/
def byL : Nat → Int → List Int
  | 0, _ => []
  | n + 1, v => v % 256 :: byL n (v / 256)
/-- The number of some bytes. -/
def fbS : List Int → Int
  | [] => 0
  | c :: l => c + 256 * fbS l
theorem byL_len : ∀ (n : Nat) (v : Int), (byL n v).length = n
  | 0, _ => rfl
  | n + 1, v => by simp [byL, byL_len n]
theorem byL_ok : ∀ (n : Nat) (v : Int), okB (byL n v)
  | 0, _ => fun _ h => by cases h
  | n + 1, v => fun c h => by
    rcases List.mem_cons.1 h with rfl | h
    · omega
    · exact byL_ok n _ c h
theorem mod_split (v : Int) {m : Int} (hm : 0 < m) : v % (256 * m) = v % 256 + 256 * (v / 256 % m) := by
  have h1 := Int.mul_ediv_add_emod v 256
  have h2 := Int.mul_ediv_add_emod (v / 256) m
  have h3 := Int.emod_nonneg (v / 256) (Int.ne_of_gt hm)
  have h4 := Int.emod_lt_of_pos (v / 256) hm
  have h5 : v = (v % 256 + 256 * (v / 256 % m)) + (256 * m) * (v / 256 / m) := by
    have : 256 * (m * (v / 256 / m) + v / 256 % m) + v % 256 = v := by rw [h2]; exact h1
    rw [Int.mul_add] at this
    rw [Int.mul_assoc]; omega
  have h6 : (v % 256 + 256 * (v / 256 % m)) < 256 * m := by omega
  have h7 : 0 ≤ v % 256 + 256 * (v / 256 % m) := by omega
  rw [h5, Int.add_mul_emod_self_left, Int.emod_eq_of_lt h7 h6, ← h5]
theorem fbS_byL : ∀ (n : Nat) (v : Int), fbS (byL n v) = v % 256 ^ n
  | 0, v => by simp [fbS, byL]
  | n + 1, v => by
    have hp : (0 : Int) < 256 ^ n := Int.pow_pos (by omega)
    rw [byL, fbS, fbS_byL n, Int.pow_succ, Int.mul_comm (256 ^ n), mod_split v hp]
theorem fbS_bd : ∀ {l : List Int}, okB l → 0 ≤ fbS l ∧ fbS l < 256 ^ l.length
  | [], _ => by simp [fbS]
  | c :: l, h => by
    have hc := h c List.mem_cons_self
    have ih := fbS_bd (l := l) (fun x hx => h x (List.mem_cons_of_mem _ hx))
    simp only [fbS, List.length_cons, Int.pow_succ]
    omega
theorem byL_fbS : ∀ {l : List Int} (x : Int), okB l → x % 256 ^ l.length = fbS l → byL l.length x = l
  | [], _, _, _ => rfl
  | c :: l, x, h, e => by
    have hc := h c List.mem_cons_self
    have hl : okB l := fun y hy => h y (List.mem_cons_of_mem _ hy)
    have hb := fbS_bd hl
    have hp : (0 : Int) < 256 ^ l.length := Int.pow_pos (by omega)
    rw [List.length_cons, Int.pow_succ, Int.mul_comm (256 ^ l.length), mod_split x hp, fbS] at e
    have e1 : x % 256 = c := by omega
    have e2 : x / 256 % 256 ^ l.length = fbS l := by omega
    rw [List.length_cons, byL, e1, byL_fbS (x / 256) hl e2]
/-- One byte more. -/
theorem or_next (k : Nat) (P : Int) (hP : (2 : Int) ^ k = P) {a t A c : Int} (ha : a % 18446744073709551616 = A) (ht : t % 18446744073709551616 = c * P) (h0 : 0 ≤ A) (h1 : A < P) (hc : 0 ≤ c) :
    bits .or .i64 a t % 18446744073709551616 = A + c * P := by
  have e := or_mod (k := 64) (by omega) a t
  have ea : rs 64 a = A.toNat := by unfold rs; exact congrArg Int.toNat ha
  have et : rs 64 t = (c * P).toNat := by unfold rs; exact congrArg Int.toNat ht
  have hPn : P = ((2 ^ k : Nat) : Int) := by rw [← hP]; push_cast; rfl
  have ec : (c * P).toNat = c.toNat * 2 ^ k := by
    have : c * P = ((c.toNat * 2 ^ k : Nat) : Int) := by rw [hPn]; push_cast; rw [Int.toNat_of_nonneg hc]
    rw [this]; rfl
  have hA : A.toNat < 2 ^ k := by
    have : (A.toNat : Int) < ((2 ^ k : Nat) : Int) := by rw [← hPn]; omega
    exact Int.ofNat_lt.1 this
  have hj := nat_join k (c.toNat * 2 ^ k) A.toNat (Nat.mul_mod_left _ _) hA
  have e' : bits .or .i64 a t % 18446744073709551616 = ((rs 64 a ||| rs 64 t : Nat) : Int) := e
  rw [e', ea, et, ec, Nat.or_comm, hj]
  push_cast
  rw [Int.toNat_of_nonneg h0, Int.toNat_of_nonneg hc, ← hP]; omega
theorem mod_in {x : Int} (h0 : 0 ≤ x) (h1 : x < 18446744073709551616) : x % 18446744073709551616 = x := Int.emod_eq_of_lt h0 h1
theorem wrap64_m (x : Int) : wrap64 x % 18446744073709551616 = x % 18446744073709551616 := wrap64_modk (k := 64) (by omega) x
theorem I64_eq' {a b : Int} (ha : I64 a) (hb : I64 b) (h : a % 18446744073709551616 = b % 18446744073709551616) : a = b := by unfold I64 at *; omega
theorem fb_1 (c0 : Int) (d0 : 0 ≤ c0 ∧ c0 ≤ 255) : bits .or .i64 0 c0 = wrap64 (fbS [c0]) := by
  have s0 := or_next 0 1 rfl (a := 0) (t := c0) (A := 0) (c := c0) rfl (by rw [Int.mul_one]; exact mod_in (by omega) (by omega)) (by omega) (by omega) (by omega)
  rw [Int.zero_add, Int.mul_one] at s0
  refine I64_eq' (bits_I64 _ _ _) (I64_wrap64 _) ?_
  rw [s0, wrap64_m]
  simp only [fbS]
  rw [mod_in (by omega) (by omega)]
  omega
theorem fb_2 (c0 c1 : Int) (d0 : 0 ≤ c0 ∧ c0 ≤ 255) (d1 : 0 ≤ c1 ∧ c1 ≤ 255) : bits .or .i64 (bits .or .i64 0 c0) (c1 * 256) = wrap64 (fbS [c0, c1]) := by
  have s0 := or_next 0 1 rfl (a := 0) (t := c0) (A := 0) (c := c0) rfl (by rw [Int.mul_one]; exact mod_in (by omega) (by omega)) (by omega) (by omega) (by omega)
  rw [Int.zero_add, Int.mul_one] at s0
  have s1 := or_next 8 256 (by simp) s0 (c := c1) (mod_in (by omega) (by omega)) (by omega) (by omega) (by omega)
  refine I64_eq' (bits_I64 _ _ _) (I64_wrap64 _) ?_
  rw [s1, wrap64_m]
  simp only [fbS]
  rw [mod_in (by omega) (by omega)]
  omega
theorem fb_4 (c0 c1 c2 c3 : Int) (d0 : 0 ≤ c0 ∧ c0 ≤ 255) (d1 : 0 ≤ c1 ∧ c1 ≤ 255) (d2 : 0 ≤ c2 ∧ c2 ≤ 255) (d3 : 0 ≤ c3 ∧ c3 ≤ 255) : bits .or .i64 (bits .or .i64 (bits .or .i64 (bits .or .i64 0 c0) (c1 * 256)) (c2 * 65536)) (c3 * 16777216) = wrap64 (fbS [c0, c1, c2, c3]) := by
  have s0 := or_next 0 1 rfl (a := 0) (t := c0) (A := 0) (c := c0) rfl (by rw [Int.mul_one]; exact mod_in (by omega) (by omega)) (by omega) (by omega) (by omega)
  rw [Int.zero_add, Int.mul_one] at s0
  have s1 := or_next 8 256 (by simp) s0 (c := c1) (mod_in (by omega) (by omega)) (by omega) (by omega) (by omega)
  have s2 := or_next 16 65536 (by simp) s1 (c := c2) (mod_in (by omega) (by omega)) (by omega) (by omega) (by omega)
  have s3 := or_next 24 16777216 (by simp) s2 (c := c3) (mod_in (by omega) (by omega)) (by omega) (by omega) (by omega)
  refine I64_eq' (bits_I64 _ _ _) (I64_wrap64 _) ?_
  rw [s3, wrap64_m]
  simp only [fbS]
  rw [mod_in (by omega) (by omega)]
  omega
theorem fb_8 (c0 c1 c2 c3 c4 c5 c6 c7 : Int) (d0 : 0 ≤ c0 ∧ c0 ≤ 255) (d1 : 0 ≤ c1 ∧ c1 ≤ 255) (d2 : 0 ≤ c2 ∧ c2 ≤ 255) (d3 : 0 ≤ c3 ∧ c3 ≤ 255) (d4 : 0 ≤ c4 ∧ c4 ≤ 255) (d5 : 0 ≤ c5 ∧ c5 ≤ 255) (d6 : 0 ≤ c6 ∧ c6 ≤ 255) (d7 : 0 ≤ c7 ∧ c7 ≤ 255) : bits .or .i64 (bits .or .i64 (bits .or .i64 (bits .or .i64 (bits .or .i64 (bits .or .i64 (bits .or .i64 (bits .or .i64 0 c0) (c1 * 256)) (c2 * 65536)) (c3 * 16777216)) (c4 * 4294967296)) (c5 * 1099511627776)) (c6 * 281474976710656)) (wrap64 (c7 * 72057594037927936)) = wrap64 (fbS [c0, c1, c2, c3, c4, c5, c6, c7]) := by
  have s0 := or_next 0 1 rfl (a := 0) (t := c0) (A := 0) (c := c0) rfl (by rw [Int.mul_one]; exact mod_in (by omega) (by omega)) (by omega) (by omega) (by omega)
  rw [Int.zero_add, Int.mul_one] at s0
  have s1 := or_next 8 256 (by simp) s0 (c := c1) (mod_in (by omega) (by omega)) (by omega) (by omega) (by omega)
  have s2 := or_next 16 65536 (by simp) s1 (c := c2) (mod_in (by omega) (by omega)) (by omega) (by omega) (by omega)
  have s3 := or_next 24 16777216 (by simp) s2 (c := c3) (mod_in (by omega) (by omega)) (by omega) (by omega) (by omega)
  have s4 := or_next 32 4294967296 (by simp) s3 (c := c4) (mod_in (by omega) (by omega)) (by omega) (by omega) (by omega)
  have s5 := or_next 40 1099511627776 (by simp) s4 (c := c5) (mod_in (by omega) (by omega)) (by omega) (by omega) (by omega)
  have s6 := or_next 48 281474976710656 (by simp) s5 (c := c6) (mod_in (by omega) (by omega)) (by omega) (by omega) (by omega)
  have s7 := or_next 56 72057594037927936 (by simp) s6 (c := c7) (by rw [wrap64_m]; exact mod_in (by omega) (by omega)) (by omega) (by omega) (by omega)
  refine I64_eq' (bits_I64 _ _ _) (I64_wrap64 _) ?_
  rw [s7, wrap64_m]
  simp only [fbS]
  rw [mod_in (by omega) (by omega)]
  omega
/-- A block that holds bytes. -/
structure BytesAt (w : World) (b : Nat) (cs : List Int) : Prop where
  lt : b < w.heap.size
  cell : ∀ (j : Nat) (c : Int), cs[j]? = some c → w.cell? ⟨b, j, none⟩ = some (.int .u8 c)
  ok : okB cs
theorem BytesAt.below {w w' : World} {b : Nat} {cs : List Int} (h : BytesAt w b cs) (hq : Below w.heap.size w w') : BytesAt w' b cs :=
  ⟨Nat.lt_of_lt_of_le h.lt hq.size, fun j c hj => by rw [below_cell hq _ _ h.lt]; exact h.cell j c hj, h.ok⟩
theorem BytesAt.own {w : World} {base B n : Nat} {cs : List Int} (h : w.ownsRow base 5 1 (.slice (some ⟨B, 0, none⟩) n n) n (bV cs)) (ok : okB cs) (hB : B < w.heap.size) : BytesAt w B cs :=
  ⟨hB, fun j c hj => by
    obtain ⟨hl, (⟨hc, _⟩ | ⟨g, cap, cur, hv, _, hw, hn, _, hsz, ht⟩)⟩ := h
    · cases hc
    · cases hv
      simp only [World.cell?, hw, Option.isSome_none, Bool.false_eq_true, if_false]
      have e : (bV cs)[j]? = some (.int .u8 c) := by simp [bV, hj]
      rw [← ht] at e
      have hj2 : j < n * 1 := by
        rcases Nat.lt_or_ge j (n * 1) with h | h
        · exact h
        · rw [List.getElem?_take, if_neg (by omega)] at e; cases e
      rw [List.getElem?_take, if_pos hj2] at e
      simpa using e, ok⟩
theorem size_cases {n : Nat} (h : vB n = true) : n = 1 ∨ n = 2 ∨ n = 4 ∨ n = 8 := by
  rcases vB_cases h with e | e | e | e <;> omega
theorem bytes_c (n : Nat) (g : Bool) (v : Int) (w : World) (h : vB n = true) : Calls Try.prog 63 #[.agg #[.int .i64 n, .bool g], .int .i64 v] w fun e w' => ∃ B : Nat, e = .returned (.tuple #[.slice (some ⟨B, 0, none⟩) n n, .int .i64 0]) ∧ w'.ownsRow w.heap.size 5 1 (.slice (some ⟨B, 0, none⟩) n n) n (bV (byL n v)) ∧ Below w.heap.size w w' := by
  rcases size_cases h with rfl | rfl | rfl | rfl
  · have e : byL 1 v = [v % 256] := by simp only [byL]; repeat (first | rfl | (refine List.cons_eq_cons.2 ⟨by omega, ?_⟩))
    rw [e]; exact bytes_1 g v w
  · have e : byL 2 v = [v % 256, v / 256 % 256] := by simp only [byL]; repeat (first | rfl | (refine List.cons_eq_cons.2 ⟨by omega, ?_⟩))
    rw [e]; exact bytes_2 g v w
  · have e : byL 4 v = [v % 256, v / 256 % 256, v / 65536 % 256, v / 16777216 % 256] := by simp only [byL]; repeat (first | rfl | (refine List.cons_eq_cons.2 ⟨by omega, ?_⟩))
    rw [e]; exact bytes_4 g v w
  · have e : byL 8 v = [v % 256, v / 256 % 256, v / 65536 % 256, v / 16777216 % 256, v / 4294967296 % 256, v / 1099511627776 % 256, v / 281474976710656 % 256, v / 72057594037927936 % 256] := by simp only [byL]; repeat (first | rfl | (refine List.cons_eq_cons.2 ⟨by omega, ?_⟩))
    rw [e]; exact bytes_8 g v w
theorem from_c (n : Nat) (g : Bool) (b cap : Nat) (cs : List Int) (w : World) (h : vB n = true) (hl : cs.length = n) (hb : BytesAt w b cs) :
    Calls Try.prog 62 #[.agg #[.int .i64 n, .bool g], .slice (some ⟨b, 0, none⟩) n cap] w fun e w' => e = .returned (.tuple #[.int .i64 (wr n g (wrap64 (fbS cs))), .int .i64 0]) ∧ Below w.heap.size w w' := by
  obtain ⟨hlt, hc, ok⟩ := hb
  rcases size_cases h with rfl | rfl | rfl | rfl
  · match cs, hl with
    | [c0], _ =>
      have d0 := ok c0 (by simp)
      rw [← fb_1 c0 d0]
      exact from_1 g b cap c0 w hlt (hc 0 c0 rfl) d0
  · match cs, hl with
    | [c0, c1], _ =>
      have d0 := ok c0 (by simp)
      have d1 := ok c1 (by simp)
      rw [← fb_2 c0 c1 d0 d1]
      exact from_2 g b cap c0 c1 w hlt (hc 0 c0 rfl) d0 (hc 1 c1 rfl) d1
  · match cs, hl with
    | [c0, c1, c2, c3], _ =>
      have d0 := ok c0 (by simp)
      have d1 := ok c1 (by simp)
      have d2 := ok c2 (by simp)
      have d3 := ok c3 (by simp)
      rw [← fb_4 c0 c1 c2 c3 d0 d1 d2 d3]
      exact from_4 g b cap c0 c1 c2 c3 w hlt (hc 0 c0 rfl) d0 (hc 1 c1 rfl) d1 (hc 2 c2 rfl) d2 (hc 3 c3 rfl) d3
  · match cs, hl with
    | [c0, c1, c2, c3, c4, c5, c6, c7], _ =>
      have d0 := ok c0 (by simp)
      have d1 := ok c1 (by simp)
      have d2 := ok c2 (by simp)
      have d3 := ok c3 (by simp)
      have d4 := ok c4 (by simp)
      have d5 := ok c5 (by simp)
      have d6 := ok c6 (by simp)
      have d7 := ok c7 (by simp)
      rw [← fb_8 c0 c1 c2 c3 c4 c5 c6 c7 d0 d1 d2 d3 d4 d5 d6 d7]
      exact from_8 g b cap c0 c1 c2 c3 c4 c5 c6 c7 w hlt (hc 0 c0 rfl) d0 (hc 1 c1 rfl) d1 (hc 2 c2 rfl) d2 (hc 3 c3 rfl) d3 (hc 4 c4 rfl) d4 (hc 5 c5 rfl) d5 (hc 6 c6 rfl) d6 (hc 7 c7 rfl) d7
/-- FromBytes of Bytes. -/
theorem back_1 {n : Nat} {g : Bool} (h : vB n = true) {v : Int} (hv : I64 v) : wr n g (wrap64 (fbS (byL n v))) = wr n g v := by
  refine wr_eq h (I64_wrap64 _) hv ?_
  rw [wrap64_modk (mk_le _), fbS_byL]
  rcases size_cases h with rfl | rfl | rfl | rfl
  · show v % 256 % 256 = v % 256; omega
  · show v % 65536 % 65536 = v % 65536; omega
  · show v % 4294967296 % 4294967296 = v % 4294967296; omega
  · show v % 18446744073709551616 % 18446744073709551616 = v % 18446744073709551616; omega
/-- Bytes of FromBytes. -/
theorem back_2 {n : Nat} {g : Bool} (h : vB n = true) {cs : List Int} (hl : cs.length = n) (ok : okB cs) : byL n (wr n g (wrap64 (fbS cs))) = cs := by
  have hb := fbS_bd ok
  have e : wr n g (wrap64 (fbS cs)) % 2 ^ mk n = fbS cs % 2 ^ mk n := by rw [wr_modk h (Nat.le_refl _), wrap64_modk (mk_le _)]
  have hm : (2 : Int) ^ mk n = 256 ^ n := by rcases size_cases h with rfl | rfl | rfl | rfl <;> rfl
  rw [hm] at e
  subst hl
  exact byL_fbS _ ok (by rw [e, Int.emod_eq_of_lt hb.1 hb.2])
end Go.Proofs.Ytdbcbmdekdfdoaa
