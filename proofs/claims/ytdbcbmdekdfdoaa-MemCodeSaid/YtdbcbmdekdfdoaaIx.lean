/- WHAT IS PROVED: bytes.IndexByte at byte 0, and how slices of bytes turn to strings. CONDITIONS: the slice's cells hold the list. -/
import Derived.Test.YtdbcbmdekdfdoaaEq
import Derived.Test.YtdbcbmdekdfdoaaRe
import Derived.Lib.BytesEntry
namespace Go.Proofs.Ytdbcbmdekdfdoaa
open Go Go.RowKit Go.QrBits Go.QrMem

/-- The first byte 0. -/
def zi : List Int → Int
  | [] => -1
  | x :: l => if x = 0 then 0 else if zi l = -1 then -1 else zi l + 1
theorem zi_lib : ∀ {b : List Int}, okB b → Lib.indexByte (Lib.bytesOf b) 0 = zi b
  | [], _ => rfl
  | x :: l, h => by
    have hx := h x (List.mem_cons_self ..)
    have ih := zi_lib (b := l) fun n hn => h n (List.mem_cons_of_mem _ hn)
    have e : (UInt8.ofNat x.toNat == 0) = decide (x = 0) := by
      by_cases h0 : x = 0
      · subst h0; rfl
      · rw [decide_eq_false h0]
        refine beq_eq_false_iff_ne.2 fun e => h0 ?_
        have := congrArg UInt8.toNat e
        simp only [UInt8.toNat_ofNat', UInt8.toNat_zero] at this
        omega
    show (if UInt8.ofNat x.toNat == 0 then (0 : Int) else if Lib.indexByte (Lib.bytesOf l) 0 == -1 then -1 else Lib.indexByte (Lib.bytesOf l) 0 + 1) = zi (x :: l)
    rw [e, ih, zi]
    by_cases h0 : x = 0
    · simp [h0]
    · by_cases h1 : zi l = -1 <;> simp [h0, h1]
theorem zi_cases : ∀ (b : List Int), (zi b = -1 ∧ ∀ x ∈ b, x ≠ 0) ∨ (∃ k : Nat, zi b = k ∧ k < b.length ∧ b[k]? = some 0 ∧ ∀ x ∈ b.take k, x ≠ 0)
  | [] => .inl ⟨rfl, fun _ h => by cases h⟩
  | x :: l => by
    by_cases h0 : x = 0
    · exact .inr ⟨0, by simp [zi, h0], by simp, by simp [h0], fun _ h => by simp at h⟩
    · rcases zi_cases l with ⟨h1, h2⟩ | ⟨k, h1, h2, h3, h4⟩
      · refine .inl ⟨by simp [zi, h0, h1], fun y hy => ?_⟩
        rcases List.mem_cons.1 hy with rfl | hy
        · exact h0
        · exact h2 y hy
      · refine .inr ⟨k + 1, ?_, by simpa using h2, by simpa using h3, fun y hy => ?_⟩
        · simp only [zi, h0, if_false, h1]; omega
        · rw [List.take_succ_cons] at hy
          rcases List.mem_cons.1 hy with rfl | hy
          · exact h0
          · exact h4 y hy
set_option maxHeartbeats 1000000 in
theorem ib_c (a : Option Addr) (c : Nat) (b : List Int) (w : World) (hv : SlV a b.length c) (hs : SlAt w a (bV b)) (hok : okB b) :
    Calls Try.prog 57 #[.slice a b.length c, .int .u8 0] w fun e w' => e = .returned (.int .i64 (zi b)) ∧ w' = w := by
  have hr : (Extern.BytealgIndexByte.indexByte #[.slice a b.length c, .int .u8 0]).run Try.prog w = .ok (.int .i64 (zi b)) w := by
    cases a with
    | none =>
      obtain ⟨h0, rfl⟩ := hv.2.2 rfl
      have hb : b = [] := List.eq_nil_of_length_eq_zero h0
      subst hb
      exact Lib.run_indexByteNil w 0 0 0
    | some a =>
      rcases hs with hs | ⟨g, off, ha, _, hc⟩
      · have hb : b = [] := by simpa [bV] using hs
        subst hb
        obtain ⟨ab, ao, spot⟩ := a
        have h1 := Lib.run_loadBytesX (P := Try.prog) w [] ⟨ab, ao, spot⟩ .empty (fun j x hx => by simp at hx)
        have h2 := Lib.run_indexByteNil (P := Try.prog) w 0 0 0
        change Sem.run Try.prog (do
          let b ← Extern.Bytes.bytesOf (.slice (some ⟨ab, ao, spot⟩) 0 c)
          let c ← Extern.Bytes.asByte (.int .u8 0)
          match (List.range b.size).find? fun i => b[i]! == c with
          | some i => pure (goInt i)
          | none => pure (goInt (-1))) w = _
        simp only [Extern.Bytes.bytesOf, Sem.run_bind]
        rw [show (0 : Nat) = ([] : List Int).length from rfl, h1]
        rfl
      · cases ha
        have := Lib.run_indexByteSlice (P := Try.prog) w g off b.length c b rfl (fun i hi => by
          rw [hc i (.int .u8 b[i]) (by simp [bV, hi])]; simp [List.getD, hi]) 0
        rw [this]
        rw [show ((0 : Int).toNat.toUInt8) = 0 from rfl, zi_lib hok]
  clear hv hs hok
  generalize zi b = z at *
  generalize b.length = n at *
  go_enter Try.func57, Try.ntmps57
  go_wp2
  rw [run_callFunc_extern Try.func72 (by kernel_rfl) (by kernel_rfl) (by kernel_rfl) (e := Extern.BytealgIndexByte.indexByte) (by kernel_rfl), hr]
  simp only [Result.andThen]
  rw [Oper.upon_value]
  go_wp2
  go_ret
  exact ⟨rfl, rfl⟩
theorem str_k {w : World} {a : Option Addr} {c k : Nat} {b : List Int} (hv : SlV a b.length c) (hs : SlAt w a (bV b)) (hok : okB b) (hk : k ≤ b.length) : (convert 23 9 (.slice a k c)).run Try.prog w = .ok (.string (strB (b.take k))) w := by
  have hl : (b.take k).length = k := by simp; omega
  have h1 : SlV a (b.take k).length c := ⟨by rw [hl]; exact Nat.le_trans hk hv.1, hv.2.1, fun e => by have := hv.2.2 e; rw [hl]; omega⟩
  have h2 : SlAt w a (bV (b.take k)) := by
    rcases hs with hs | ⟨g, off, ha, hlt, hc⟩
    · left
      have hb : b = [] := by simpa [bV] using hs
      subst hb; simp [bV]
    · right
      refine ⟨g, off, ha, hlt, fun j x hx => hc j x ?_⟩
      simp only [bV, List.map_take] at hx ⊢
      by_cases hj : j < k
      · rwa [List.getElem?_take_of_lt hj] at hx
      · rw [List.getElem?_eq_none (by simp; omega)] at hx; cases hx
  have := str_c h1 h2 (fun n hn => hok n (List.mem_of_mem_take hn))
  rwa [hl] at this
theorem strB_size (b : List Int) : (strB b).size = b.length := by simp [strB, ByteArray.size]
end Go.Proofs.Ytdbcbmdekdfdoaa
