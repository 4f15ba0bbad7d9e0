/- Numbers of 128 bits by their halves; what a call laid for itself. -/
import Derived.Test.YtkbmiajgmnfpfaaRA
import Derived.Laws.Bits64b
import Derived.Deep.DeepCutAuto
import Derived.Deep.Light
import Derived.Deep.RegionHeld3
import Derived.Deep.RegionWith
import Derived.Laws.Externs
namespace Go.Proofs.Ytkbmiajgmnfpfaa.NumK
open Go.RowKit

/-! ### numbers of 128 bits, by their halves -/
def hi64 (x : Int) : Int := x / 18446744073709551616
def lo64 (x : Int) : Int := x % 18446744073709551616
theorem w_eq (x : Int) : hi64 x * 18446744073709551616 + lo64 x = x := by unfold hi64 lo64; omega
theorem lo_bounds (x : Int) : 0 ≤ lo64 x ∧ lo64 x < 18446744073709551616 := by unfold lo64; omega
theorem w_unique (x h l : Int) (e : h * 18446744073709551616 + l = x) (h0 : 0 ≤ l) (h1 : l < 18446744073709551616) : hi64 x = h ∧ lo64 x = l := by unfold hi64 lo64; omega
def isWide (x : Int) : Bool := decide (-170141183460469231731687303715884105728 ≤ x) && decide (x < 170141183460469231731687303715884105728)
theorem isWide_iff (x : Int) : isWide x = true ↔ -170141183460469231731687303715884105728 ≤ x ∧ x < 170141183460469231731687303715884105728 := by simp [isWide]
theorem hi_bounds (x : Int) (h : isWide x = true) : -9223372036854775808 ≤ hi64 x ∧ hi64 x ≤ 9223372036854775807 := by
  rw [isWide_iff] at h; unfold hi64; omega

theorem wrap_u64_neg (n : Int) (h : -9223372036854775808 ≤ n) (c : n < 0) : IntKind.u64.wrap n = n + 18446744073709551616 := by rw [IntKind.wrap_u64]; omega
theorem ret_wv {x a b : Int} (h1 : a = hi64 x) (h2 : b = lo64 x) : Ending.returned (.agg #[.int .i64 a, .int .u64 b]) = .returned (.agg #[.int .i64 (hi64 (x)), .int .u64 (lo64 (x))]) := by rw [h1, h2]
theorem not_u64 (y : Int) (h0 : 0 ≤ y) (h1 : y < 18446744073709551616) : bits .xor .u64 IntKind.u64.max y = 18446744073709551615 - y := by
  obtain ⟨m, rfl⟩ := Int.eq_ofNat_of_zero_le h0
  have e1 : (BitVec.ofInt 64 IntKind.u64.max) = BitVec.allOnes 64 := by decide
  have e2 : (BitVec.ofInt 64 (m : Int)).toNat = m := by
    rw [BitVec.ofInt_natCast, BitVec.toNat_ofNat]; exact Nat.mod_eq_of_lt (by omega)
  show IntKind.u64.wrap ((BitVec.ofInt 64 IntKind.u64.max ^^^ BitVec.ofInt 64 (m : Int)).toNat : Int) = _
  rw [e1, BitVec.xor_comm, BitVec.xor_allOnes, BitVec.toNat_not, e2, IntKind.wrap_u64]
  omega
/-- The block that a call laid for its result stands as it was behind a callee that keeps what was there. -/
theorem own_cells {w w1 : World} {v0 v1 : Value} {t t2 : TypeId} {cs : Array Value} (h : Grew ((w.alloc (.cells #[v0, v1] t)).alloc (.cells cs t2)) w1) :
    w1.cell? ⟨w.heap.size, 0, none⟩ = some v0 ∧ w1.cell? ⟨w.heap.size, 1, none⟩ = some v1 ∧ w1.frozen? ⟨w.heap.size, 0, none⟩ = false ∧ w1.frozen? ⟨w.heap.size, 1, none⟩ = false ∧ w.heap.size < w1.heap.size := by
  have hs := h.size
  have hl : w.heap.size < ((w.alloc (.cells #[v0, v1] t)).alloc (.cells cs t2)).heap.size := by simp; omega
  exact ⟨(Below.cell h (p := ⟨w.heap.size, 0, none⟩) hl).trans (by simp), (Below.cell h (p := ⟨w.heap.size, 1, none⟩) hl).trans (by simp),
    (Below.frozen h (p := ⟨w.heap.size, 0, none⟩) hl).trans (by simp), (Below.frozen h (p := ⟨w.heap.size, 1, none⟩) hl).trans (by simp), by omega⟩
theorem own_grew {w w1 : World} {c1 c2 : Array Value} {t1 t2 : TypeId} (h : Grew ((w.alloc (.cells c1 t1)).alloc (.cells c2 t2)) w1) : Grew w w1 := grew_trans (grew_trans (grew_alloc _ _ _) (grew_alloc _ _ _)) h
theorem grew_set {w w1 : World} (h : Grew w w1) {p : Addr} (v : Value) (hp : w.heap.size ≤ p.block) : Grew w (w1.setCell p v) := Below.setCell h hp v
theorem times_arith (a b : Int) (ha : -9223372036854775808 ≤ a ∧ a ≤ 9223372036854775807) (hb : -9223372036854775808 ≤ b ∧ b ≤ 9223372036854775807) :
    a.natAbs * b.natAbs ≤ 85070591730234615865843651857942052864 ∧ ((a < 0 ↔ b < 0) → a * b = (a.natAbs * b.natAbs : Nat)) ∧ ((a < 0 ↔ ¬ b < 0) → a * b = -(a.natAbs * b.natAbs : Nat)) := by
  have hp : ((a * b).natAbs) = a.natAbs * b.natAbs := Int.natAbs_mul a b
  have hs : (a < 0 ↔ b < 0) → 0 ≤ a * b := fun h => by
    by_cases c : a < 0
    · exact Int.mul_nonneg_of_nonpos_of_nonpos (by omega) (by omega)
    · exact Int.mul_nonneg (by omega) (by omega)
  have hn : (a < 0 ↔ ¬ b < 0) → a * b ≤ 0 := fun h => by
    by_cases c : a < 0
    · exact Int.mul_nonpos_of_nonpos_of_nonneg (by omega) (by omega)
    · exact Int.mul_nonpos_of_nonneg_of_nonpos (by omega) (by omega)
  have hm : a.natAbs * b.natAbs ≤ 9223372036854775808 * 9223372036854775808 := Nat.mul_le_mul (by omega) (by omega)
  generalize a.natAbs * b.natAbs = P at *
  generalize a * b = p at *
  exact ⟨by omega, fun h => by have := hs h; omega, fun h => by have := hn h; omega⟩
def intV (x : Int) : Int := if isMoney x then x else 0
theorem intV_in {x : Int} (h : isMoney x = true) : intV x = x := by simp [intV, h]
theorem intV_out {x : Int} (h : isMoney x = false) : intV x = 0 := by simp [intV, h]
theorem ret_vb {a a' : Int} {b b' : Bool} (h1 : a = a') (h2 : b = b') : Ending.returned (.tuple #[.int .i64 a, .bool b]) = .returned (.tuple #[.int .i64 a', .bool b']) := by rw [h1, h2]
theorem grew_drew {w w1 : World} (h : Grew w w1) : Grew w w1.drew := ⟨h.os, h.tape, h.output, h.size, h.block⟩
theorem keep2 {w w1 w2 : World} {v0 v1 : Value} (g : Grew w1 w2) (h1 : w1.cell? ⟨w.heap.size, 0, none⟩ = some v0) (h2 : w1.cell? ⟨w.heap.size, 1, none⟩ = some v1) (h3 : w.heap.size < w1.heap.size) (h4 : Grew w w1) :
    w2.cell? ⟨w.heap.size, 0, none⟩ = some v0 ∧ w2.cell? ⟨w.heap.size, 1, none⟩ = some v1 ∧ w.heap.size < w2.heap.size ∧ Grew w w2 :=
  ⟨(grew_cell g (p := ⟨w.heap.size, 0, none⟩) h3).trans h1, (grew_cell g (p := ⟨w.heap.size, 1, none⟩) h3).trans h2, Nat.lt_of_lt_of_le h3 g.size, grew_trans h4 g⟩
theorem ret_wb {x a b : Int} {p q : Bool} (h1 : a = hi64 x) (h2 : b = lo64 x) (h3 : p = q) : Ending.returned (.tuple #[.agg #[.int .i64 a, .int .u64 b], .bool p]) = .returned (.tuple #[(.agg #[.int .i64 (hi64 (x)), .int .u64 (lo64 (x))]), .bool q]) := by rw [h1, h2, h3]
def wsV (x : Int) : Int := if isWide x then x else 0
end Go.Proofs.Ytkbmiajgmnfpfaa.NumK
namespace Go.Proofs.Ytkbmiajgmnfpfaa.NumK
open Go.RowKit

set_option maxHeartbeats 400000 in
theorem right_any (A : Option Addr) (n c : Nat) (zs : List Int) (w : World) (hz : Ints w A n zs) (hn : n ≤ 9223372036854775807) :
    Calls Try.prog 54 #[.slice A n c] w fun e w' => e = .returned (.bool (zs.all isMoney)) ∧ w = w' := by
  have HZ : Hid (Ints w A n zs) := hz
  clear hz
  go_enter Try.func54, Try.ntmps54
  go_wp2
  go_loop [7] (fun i => ∃ k : Nat, k ≤ n ∧ i = .int .i64 k ∧ Hid ((zs.take k).all isMoney = true)) (fun i => n - (intOf i).toNat)
  case atStart => exact ⟨0, Nat.zero_le _, rfl, by simp [Hid]⟩
  case round =>
    obtain ⟨k, hk, rfl, HK⟩ := hrel
    by_cases hlt : k < n
    · obtain ⟨b, o, rfl, _, hc⟩ := HZ.out.2 (by omega)
      have hcell := hc k hlt
      have hl := HZ.out.1
      have hs := all_take_succ zs k (by omega)
      have HS : Hid ((zs.take (k + 1)).all isMoney = isMoney (zs.getD k 0)) := by rw [hs, HK.out]; simp [Hid]
      clear hs hc hl
      generalize hy : zs.getD k 0 = y at *
      have HY : Hid (zs.getD k 0 = y) := hy
      clear hy
      by_cases h1 : y < -4611686018427387904
      · go_wp2
        go_ret
        exact ⟨ret_b (all_false zs k (by have := HZ.out.1; omega) y HY.out (by omega)), rfl⟩
      · by_cases h2 : 4611686018427387904 < y
        · go_wp2
          go_ret
          exact ⟨ret_b (all_false zs k (by have := HZ.out.1; omega) y HY.out (by omega)), rfl⟩
        · go_wp2
          go_round
          case rel => exact ⟨k + 1, by omega, by go_num, HS.out.trans ((isMoney_iff y).2 ⟨by omega, by omega⟩)⟩
          case measure => simp [intOf]; omega
    · have : k = n := by omega
      subst this
      go_wp2
      go_ret
      have h1 := HK.out
      rw [List.take_of_length_le (by have := HZ.out.1; omega)] at h1
      exact ⟨ret_b h1.symm, rfl⟩

end Go.Proofs.Ytkbmiajgmnfpfaa.NumK
namespace Go.Proofs.Ytkbmiajgmnfpfaa.NumK
open Go.RowKit

theorem money_any (n : Int) (w : World) :
    Calls Try.prog 68 #[.int .i64 n] w fun e w' => e = .returned (.tuple #[.int .i64 (capV n), .int .i64 (capE n)]) ∧ Grew w w' := by
  by_cases h : isMoney n = true
  · have hr : [n].all isMoney = true := by simp [h]
    have H := Lib.hid h
    have C := (right_any (some ⟨w.heap.size, 0, none⟩) 1 1 [n] _ (ints1 w n 3) (by omega))
    rw [hr] at C
    clear hr h
    go_enter Try.func68, Try.ntmps68
    go_wp2_with (go_at_call 54; refine C.mono ?_; rintro e w' ⟨rfl, rfl⟩)
    go_ret2
    exact ⟨ret2 (capV_in H.out).symm (capE_in H.out).symm, grew_alloc _ _ _⟩
  · simp only [Bool.not_eq_true] at h
    have hr : [n].all isMoney = false := by simp [h]
    have H := Lib.hid h
    have C := (right_any (some ⟨w.heap.size, 0, none⟩) 1 1 [n] _ (ints1 w n 3) (by omega))
    rw [hr] at C
    clear hr h
    go_enter Try.func68, Try.ntmps68
    go_wp2_with (go_at_call 54; refine C.mono ?_; rintro e w' ⟨rfl, rfl⟩)
    go_ret2
    exact ⟨ret2 (capV_out H.out).symm (capE_out H.out).symm, grew_alloc _ _ _⟩

/-! ### Sum -/
def up (zs : List Int) : Int := (zs.map (· / 2147483648)).sum
def lo (zs : List Int) : Int := (zs.map (· % 2147483648)).sum

theorem up_succ (zs : List Int) (k : Nat) (h : k < zs.length) : up (zs.take (k + 1)) = up (zs.take k) + zs.getD k 0 / 2147483648 := by
  unfold up
  rw [List.take_succ_eq_append_getElem h, List.map_append, List.sum_append]
  simp [List.getD, List.getElem?_eq_getElem h]
theorem lo_succ (zs : List Int) (k : Nat) (h : k < zs.length) : lo (zs.take (k + 1)) = lo (zs.take k) + zs.getD k 0 % 2147483648 := by
  unfold lo
  rw [List.take_succ_eq_append_getElem h, List.map_append, List.sum_append]
  simp [List.getD, List.getElem?_eq_getElem h]
theorem up_lo (zs : List Int) : up zs * 2147483648 + lo zs = zs.sum := by
  induction zs with
  | nil => rfl
  | cons z zs ih => simp only [up, lo, List.map_cons, List.sum_cons] at *; omega
theorem lo_bd (zs : List Int) : 0 ≤ lo zs ∧ lo zs ≤ zs.length * 2147483648 := by
  induction zs with
  | nil => simp [lo]
  | cons z zs ih => simp only [lo, List.map_cons, List.sum_cons, List.length_cons] at *; omega
theorem up_bd (zs : List Int) (h : zs.all isMoney = true) : -(zs.length * 2147483648) ≤ up zs ∧ up zs ≤ zs.length * 2147483648 := by
  induction zs with
  | nil => simp [up]
  | cons z zs ih =>
    simp only [List.all_cons, Bool.and_eq_true, isMoney_iff] at h
    have := ih h.2
    simp only [up, List.map_cons, List.sum_cons, List.length_cons] at *; omega

def sumV (zs : List Int) : Int := if zs.all isMoney then capV zs.sum else 0
def sumE (zs : List Int) : Int := if zs.all isMoney then capE zs.sum else 3
theorem sumV_in {zs : List Int} (h : zs.all isMoney = true) : sumV zs = capV zs.sum := by simp only [sumV, h, if_true]
theorem sumE_in {zs : List Int} (h : zs.all isMoney = true) : sumE zs = capE zs.sum := by simp only [sumE, h, if_true]
theorem sumV_out {zs : List Int} (h : zs.all isMoney = false) : sumV zs = 0 := by simp [sumV, h]
theorem sumE_out {zs : List Int} (h : zs.all isMoney = false) : sumE zs = 3 := by simp [sumE, h]

theorem sum_wrong (A : Option Addr) (n c : Nat) (zs : List Int) (w : World) (hz : Ints w A n zs) (hn : n ≤ 9223372036854775807) (h : zs.all isMoney = false) :
    Calls Try.prog 55 #[.slice A n c] w fun e w' => e = .returned (.tuple #[.int .i64 (sumV zs), .int .i64 (sumE zs)]) ∧ Grew w w' := by
  have C := right_any A n c zs w hz hn
  rw [h] at C
  have H := Lib.hid h
  clear h hz
  go_enter Try.func55, Try.ntmps55
  go_wp2_with (go_at_call 54; refine C.mono ?_; rintro e w' ⟨rfl, rfl⟩)
  go_ret2
  exact ⟨ret2 (sumV_out H.out).symm (sumE_out H.out).symm, grew_refl _⟩

set_option maxHeartbeats 1000000 in
theorem sum_right (A : Option Addr) (n c : Nat) (zs : List Int) (w : World) (hz : Ints w A n zs) (hn : n ≤ 1000000) (h : zs.all isMoney = true) :
    Calls Try.prog 55 #[.slice A n c] w fun e w' => e = .returned (.tuple #[.int .i64 (sumV zs), .int .i64 (sumE zs)]) ∧ Grew w w' := by
  have C := right_any A n c zs w hz (by omega)
  rw [h] at C
  have H := Lib.hid h
  have HZ : Hid (Ints w A n zs) := hz
  clear h hz
  go_enter Try.func55, Try.ntmps55
  go_wp2_with (go_at_call 54; refine C.mono ?_; rintro e w' ⟨rfl, rfl⟩)
  go_loop [4, 5, 13] (fun u l i => ∃ k : Nat, k ≤ n ∧ i = .int .i64 k ∧ u = .int .i64 (up (zs.take k)) ∧ l = .int .i64 (lo (zs.take k))) (fun _ _ i => n - (intOf i).toNat)
  case atStart => exact ⟨0, Nat.zero_le _, rfl, rfl, rfl⟩
  case round =>
    obtain ⟨k, hk, rfl, rfl, rfl⟩ := hrel
    have hlen := HZ.out.1
    have b1 := up_bd (zs.take k) (by rw [List.all_eq_true]; intro x hx; exact (List.all_eq_true.1 H.out) x (List.mem_of_mem_take hx))
    have b2 := lo_bd (zs.take k)
    have hlk : (zs.take k).length = k := by simp; omega
    rw [hlk] at b1 b2
    by_cases hlt : k < n
    · obtain ⟨b, o, rfl, _, hc⟩ := HZ.out.2 (by omega)
      have hcell := hc k hlt
      have hu := up_succ zs k (by omega)
      have hl := lo_succ zs k (by omega)
      have hm : isMoney (zs.getD k 0) = true := (List.all_eq_true.1 H.out) _ (by rw [List.getD_eq_getElem?_getD, List.getElem?_eq_getElem (by omega)]; exact List.getElem_mem _)
      rw [isMoney_iff] at hm
      obtain ⟨hm1, hm2⟩ := hm
      obtain ⟨b3, b4⟩ := b1
      obtain ⟨b5, b6⟩ := b2
      generalize zs.getD k 0 = y at *
      generalize up (zs.take k) = U at *
      generalize lo (zs.take k) = L at *
      have HU := Lib.hid hu
      have HL := Lib.hid hl
      have k31 := mask31 y
      clear hu hl hc hlen hlk
      go_wp2
      go_round
      case rel => exact ⟨k + 1, by omega, by go_num, by rw [HU.out], by rw [HL.out]⟩
      case measure => simp [intOf]; omega
    · have : k = n := by omega
      subst this
      have ht : zs.take k = zs := List.take_of_length_le (by omega)
      rw [ht] at b1 b2 ⊢
      have hs := up_lo zs
      have HS : Hid (zs.sum = (up zs + lo zs / 2147483648) * 2147483648 + lo zs % 2147483648) := by show zs.sum = _; omega
      clear hs ht hlk hlen hlt
      have e1 : sumV zs = capV zs.sum := sumV_in H.out
      have e2 : sumE zs = capE zs.sum := sumE_in H.out
      have E1 := Lib.hid e1
      have E2 := Lib.hid e2
      clear e1 e2
      generalize up zs = U at *
      generalize lo zs = L at *
      obtain ⟨b3, b4⟩ := b1
      obtain ⟨b5, b6⟩ := b2
      have m31 := mask31 L
      have q0 : 0 ≤ L / 2147483648 := by omega
      have q1 : L / 2147483648 ≤ 1000000 := by omega
      have r0 : 0 ≤ L % 2147483648 := by omega
      have r1 : L % 2147483648 < 2147483648 := by omega
      by_cases c1 : U + L / 2147483648 < -2147483648
      · have hf : isMoney zs.sum = false := by rw [← Bool.not_eq_true, isMoney_iff]; have := HS.out; omega
        have HF := Lib.hid hf
        clear hf
        go_wp2
        go_ret2
        exact ⟨ret2 (E1.out.trans (capV_out HF.out)).symm (E2.out.trans (capE_out HF.out)).symm, grew_refl _⟩
      · by_cases c2 : 2147483648 < U + L / 2147483648
        · have hf : isMoney zs.sum = false := by rw [← Bool.not_eq_true, isMoney_iff]; have := HS.out; omega
          have HF := Lib.hid hf
          clear hf
          go_wp2
          go_ret2
          exact ⟨ret2 (E1.out.trans (capV_out HF.out)).symm (E2.out.trans (capE_out HF.out)).symm, grew_refl _⟩
        · go_wp2_with (go_at_call 68; refine (money_any _ _).mono ?_; rintro e w' ⟨rfl, hg⟩)
          go_ret2
          have hs := HS.out
          exact ⟨ret2 (by rw [E1.out, hs]) (by rw [E2.out, hs]), hg⟩

theorem sum_any (A : Option Addr) (n c : Nat) (zs : List Int) (w : World) (hz : Ints w A n zs) (hn : n ≤ 1000000) :
    Calls Try.prog 55 #[.slice A n c] w fun e w' => e = .returned (.tuple #[.int .i64 (sumV zs), .int .i64 (sumE zs)]) ∧ Grew w w' := by
  by_cases h : zs.all isMoney = true
  · exact sum_right A n c zs w hz hn h
  · exact sum_wrong A n c zs w hz (by omega) (by simpa using h)

end Go.Proofs.Ytkbmiajgmnfpfaa.NumK
namespace Go.Proofs.Ytkbmiajgmnfpfaa.NumK
open Go.RowKit

theorem refRight_any (n : Int) (w : World) :
    Calls Try.prog 31 #[.int .i64 n] w fun e w' => e = .returned (.bool (isMoney n)) ∧ w = w' := by
  by_cases h1 : -4611686018427387904 ≤ n
  · by_cases h2 : n ≤ 4611686018427387904
    · have H := Lib.hid ((isMoney_iff n).2 ⟨h1, h2⟩)
      go_enter Try.func31, Try.ntmps31
      go_wp2
      go_ret
      exact ⟨ret_b H.out.symm, rfl⟩
    · have hf : isMoney n = false := by rw [← Bool.not_eq_true, isMoney_iff]; omega
      have H := Lib.hid hf
      clear hf
      go_enter Try.func31, Try.ntmps31
      go_wp2
      go_ret
      exact ⟨ret_b H.out.symm, rfl⟩
  · have hf : isMoney n = false := by rw [← Bool.not_eq_true, isMoney_iff]; omega
    have H := Lib.hid hf
    clear hf
    go_enter Try.func31, Try.ntmps31
    go_wp2
    go_ret
    exact ⟨ret_b H.out.symm, rfl⟩

theorem of_any (n : Int) (w : World) (h : -9223372036854775808 ≤ n ∧ n ≤ 9223372036854775807) :
    Calls Try.prog 56 #[.int .i64 n] w fun e w' => e = .returned (.agg #[.int .i64 (hi64 (n)), .int .u64 (lo64 (n))]) ∧ Grew w w' := by
  by_cases c : n < 0
  · have H1 : Hid ((-1 : Int) = hi64 n) := by show (-1 : Int) = _; unfold hi64; omega
    have H2 : Hid (IntKind.u64.wrap n = lo64 n) := by show _ = _; rw [IntKind.wrap_u64]; rfl
    go_enter Try.func56, Try.ntmps56
    go_wp2
    exact bodyPost_ret (v := .agg #[.int .i64 (-1), .int .u64 (IntKind.u64.wrap n)]) (by simp [results, Try.results56, go_sem]) rfl ⟨ret_wv H1.out H2.out, grew_alloc _ _ _⟩
  · have H1 : Hid ((0 : Int) = hi64 n) := by show (0 : Int) = _; unfold hi64; omega
    have H2 : Hid (n = lo64 n) := by show _ = _; unfold lo64; omega
    go_enter Try.func56, Try.ntmps56
    go_wp2
    exact bodyPost_ret (v := .agg #[.int .i64 0, .int .u64 n]) (by simp [results, Try.results56, go_sem]) rfl ⟨ret_wv H1.out H2.out, grew_alloc _ _ _⟩
end Go.Proofs.Ytkbmiajgmnfpfaa.NumK
namespace Go.Proofs.Ytkbmiajgmnfpfaa.NumK
open Go.RowKit

/-! ### Int: as money -/



set_option maxHeartbeats 1000000 in
theorem refInt_money (x : Int) (w : World) (h : isMoney x = true) :
    Calls Try.prog 58 #[(.agg #[.int .i64 (hi64 (x)), .int .u64 (lo64 (x))])] w fun e w' => e = .returned (.tuple #[.int .i64 (intV x), .bool (isMoney x)]) ∧ Grew w w' := by
  have hx := (isMoney_iff x).1 h
  have b1 := lo_bounds x
  have L : wrap64 (lo64 x) = x := by unfold wrap64 lo64; omega
  have C1 := fun w => of_any x w (by omega)
  have C2 := fun w => refRight_any x w
  rw [h] at C2
  have E1 := Lib.hid (intV_in h)
  have E2 := Lib.hid h
  clear h hx b1
  generalize hi64 x = hh at *
  generalize lo64 x = l at *
  go_enter Try.func58, Try.ntmps58
  go_wp2
  go_region_held3 (fun w' => w'.cell? ⟨w.heap.size, 0, none⟩ = some (.int .i64 hh) ∧ w'.cell? ⟨w.heap.size, 1, none⟩ = some (.int .u64 l) ∧ w.heap.size < w'.heap.size ∧ Grew w w')
    (first
      | (exact keep2 (by assumption) (by first | assumption | simp) (by first | assumption | simp) (by first | assumption | simp) (by first | assumption | exact grew_drew (grew_alloc _ _ _)))
      | (refine ⟨by simp, by simp, by simp, grew_drew (grew_alloc _ _ _)⟩))
    (first
      | (go_at_call 56; refine (C1 _).mono ?_; rintro e w1 ⟨rfl, hg1⟩)
      | (go_at_call 31; refine (C2 _).mono ?_; rintro e w2 ⟨rfl, rfl⟩))
  rename_i hS
  go_wp2
  go_ret2
  exact ⟨ret_vb E1.out.symm E2.out.symm, hS.2.2.2⟩

set_option maxHeartbeats 1000000 in
theorem refInt_far (x : Int) (w : World) (h : isMoney x = false) (hf : hi64 (wrap64 (lo64 x)) ≠ hi64 x) :
    Calls Try.prog 58 #[(.agg #[.int .i64 (hi64 (x)), .int .u64 (lo64 (x))])] w fun e w' => e = .returned (.tuple #[.int .i64 (intV x), .bool (isMoney x)]) ∧ Grew w w' := by
  have b1 := lo_bounds x
  have bn : -9223372036854775808 ≤ wrap64 (lo64 x) ∧ wrap64 (lo64 x) ≤ 9223372036854775807 := by unfold wrap64; omega
  have hl : lo64 (wrap64 (lo64 x)) = lo64 x := by unfold wrap64 lo64; omega
  have C1 := fun w => of_any (wrap64 (lo64 x)) w bn
  have E1 := Lib.hid (intV_out h)
  have E2 := Lib.hid h
  have d1 : (hi64 (wrap64 (lo64 x)) == hi64 x) = false := by simpa using hf
  have d2 : (hi64 (wrap64 (lo64 x)) != hi64 x) = true := by simpa using hf
  have d3 : decide (hi64 (wrap64 (lo64 x)) = hi64 x) = false := by simpa using hf
  rw [hl] at C1
  clear h b1 hl hf
  generalize hi64 (wrap64 (lo64 x)) = hn at *
  generalize hi64 x = hh at *
  generalize lo64 x = l at *
  go_enter Try.func58, Try.ntmps58
  go_wp2
  first
  | (go_region_with (first
      | (go_at_call 56; refine (C1 _).mono ?_; rintro e w1 ⟨rfl, hg1⟩; have kc := keep2 (v0 := .int .i64 hh) (v1 := .int .u64 l) hg1 (by simp) (by simp) (by simp) (grew_drew (grew_alloc _ _ _)); obtain ⟨k1, k2, k3, k4⟩ := kc)))
  | fail
  all_goals
    go_wp2
    go_ret2
    exact ⟨ret_vb E1.out.symm E2.out.symm, by assumption⟩

set_option maxHeartbeats 1000000 in
theorem refInt_near (x : Int) (w : World) (h : isMoney x = false) (L : wrap64 (lo64 x) = x) :
    Calls Try.prog 58 #[(.agg #[.int .i64 (hi64 (x)), .int .u64 (lo64 (x))])] w fun e w' => e = .returned (.tuple #[.int .i64 (intV x), .bool (isMoney x)]) ∧ Grew w w' := by
  have b1 := lo_bounds x
  have bn : -9223372036854775808 ≤ wrap64 (lo64 x) ∧ wrap64 (lo64 x) ≤ 9223372036854775807 := by unfold wrap64; omega
  rw [L] at bn
  have C1 := fun w => of_any x w bn
  have C2 := fun w => refRight_any x w
  rw [h] at C2
  have E1 := Lib.hid (intV_out h)
  have E2 := Lib.hid h
  clear h b1
  generalize hi64 x = hh at *
  generalize lo64 x = l at *
  go_enter Try.func58, Try.ntmps58
  go_wp2
  go_region_held3 (fun w' => w'.cell? ⟨w.heap.size, 0, none⟩ = some (.int .i64 hh) ∧ w'.cell? ⟨w.heap.size, 1, none⟩ = some (.int .u64 l) ∧ w.heap.size < w'.heap.size ∧ Grew w w')
    (first
      | (exact keep2 (by assumption) (by first | assumption | simp) (by first | assumption | simp) (by first | assumption | simp) (by first | assumption | exact grew_drew (grew_alloc _ _ _)))
      | (refine ⟨by simp, by simp, by simp, grew_drew (grew_alloc _ _ _)⟩))
    (first
      | (go_at_call 56; refine (C1 _).mono ?_; rintro e w1 ⟨rfl, hg1⟩)
      | (go_at_call 31; refine (C2 _).mono ?_; rintro e w2 ⟨rfl, rfl⟩))
  rename_i hS
  go_wp2
  go_ret2
  exact ⟨ret_vb E1.out.symm E2.out.symm, hS.2.2.2⟩

theorem refInt_any (x : Int) (w : World) :
    Calls Try.prog 58 #[(.agg #[.int .i64 (hi64 (x)), .int .u64 (lo64 (x))])] w fun e w' => e = .returned (.tuple #[.int .i64 (intV x), .bool (isMoney x)]) ∧ Grew w w' := by
  by_cases h : isMoney x = true
  · exact refInt_money x w h
  · simp only [Bool.not_eq_true] at h
    by_cases hf : hi64 (wrap64 (lo64 x)) = hi64 x
    · refine refInt_near x w h ?_
      have b1 := lo_bounds x
      have e1 := w_eq x
      have e2 := w_eq (wrap64 (lo64 x))
      have hl : lo64 (wrap64 (lo64 x)) = lo64 x := by unfold wrap64 lo64; omega
      rw [hf, hl] at e2
      omega
    · exact refInt_far x w h hf
end Go.Proofs.Ytkbmiajgmnfpfaa.NumK
namespace Go.Proofs.Ytkbmiajgmnfpfaa.NumK
open Go.RowKit

/-! ### a slice of wides -/
def wcells (x : Int) : List Value := [.int .i64 (hi64 x), .int .u64 (lo64 x)]
def Wides (w : World) (A : Option Addr) (n : Nat) (xs : List Int) : Prop :=
  xs.length = n ∧ (0 < n → ∃ b o, A = some ⟨b, o, none⟩ ∧ b < w.heap.size ∧ ∀ j, j < n → w.cell? ⟨b, o + j * 2, none⟩ = some (.int .i64 (hi64 (xs.getD j 0))) ∧ w.cell? ⟨b, o + j * 2 + 1, none⟩ = some (.int .u64 (lo64 (xs.getD j 0))))

theorem sum_take_succ (xs : List Int) (k : Nat) (h : k < xs.length) : (xs.take (k + 1)).sum = (xs.take k).sum + xs.getD k 0 := by
  rw [List.take_succ_eq_append_getElem h, List.sum_append]
  simp [List.getD, List.getElem?_eq_getElem h]

theorem wcells_len (xs : List Int) : (xs.flatMap wcells).length = xs.length * 2 := by
  induction xs with
  | nil => rfl
  | cons x xs ih => rw [List.flatMap_cons, List.length_append, ih]; simp [wcells]; omega
theorem wcells_at (xs : List Int) (j : Nat) (h : j < xs.length) : (xs.flatMap wcells)[j * 2]? = some (.int .i64 (hi64 (xs.getD j 0))) ∧ (xs.flatMap wcells)[j * 2 + 1]? = some (.int .u64 (lo64 (xs.getD j 0))) := by
  induction xs generalizing j with
  | nil => simp at h
  | cons x xs ih =>
    cases j with
    | zero => simp [wcells, List.flatMap_cons]
    | succ j =>
      have := ih j (by simpa using h)
      rw [List.flatMap_cons, show (j + 1) * 2 = j * 2 + 1 + 1 from by omega]
      simpa [wcells] using this

theorem wides_of_own {w : World} {base : Nat} {e : TypeId} {v : Value} {n : Nat} {xs : List Int} (h : w.ownsRow base e 2 v n (xs.flatMap wcells)) :
    ∃ A c, v = .slice A n c ∧ Wides w A n xs := by
  obtain ⟨hl, h⟩ := h
  rw [wcells_len] at hl
  have hl : xs.length = n := by omega
  rcases h with ⟨rfl, rfl⟩ | ⟨g, cap, cur, rfl, _, hh, _, _, _, ht⟩
  · exact ⟨none, 0, rfl, ⟨hl, fun h => absurd h (by omega)⟩⟩
  · refine ⟨some ⟨g, 0, none⟩, cap, rfl, ⟨hl, fun hn => ⟨g, 0, rfl, ?_, fun j hj => ?_⟩⟩⟩
    · rcases Nat.lt_or_ge g w.heap.size with h1 | h1
      · exact h1
      · rw [Array.getElem?_eq_none h1] at hh; cases hh
    · obtain ⟨w1, w2⟩ := wcells_at xs j (by omega)
      rw [cell_of_row w g (0 + j * 2) cur e (0, 0) hh, cell_of_row w g (0 + j * 2 + 1) cur e (0, 0) hh, Nat.zero_add]
      rw [← ht, List.getElem?_take, if_pos (by omega)] at w1 w2
      rw [Array.getElem?_toList] at w1 w2
      exact ⟨w1, w2⟩

theorem own_keep {w w2 : World} {base : Nat} {e : TypeId} {size : Nat} {v : Value} {n : Nat} {xs : List Value} (h : w.ownsRow base e size v n xs) (g : Grew w w2) : w2.ownsRow base e size v n xs := by
  obtain ⟨hl, h⟩ := h
  refine ⟨hl, ?_⟩
  rcases h with h | ⟨b, cap, cur, hv, hb, hh, r⟩
  · exact Or.inl h
  · refine Or.inr ⟨b, cap, cur, hv, hb, ?_, r⟩
    rw [g.block b ?_]
    · exact hh
    · rcases Nat.lt_or_ge b w.heap.size with h1 | h1
      · exact h1
      · rw [Array.getElem?_eq_none h1] at hh; cases hh

theorem info_wide : (Try.prog.info? 91).map (fun i => (i.zero, i.size, i.bytes)) = some (some (.agg #[.int .i64 0, .int .u64 0]), 2, 16) := by kernel_rfl

section
variable {w : World} {ops : Array Oper} {rest : List Oper} {o : Oper} {a : Act} {Q : Exit → Act → World → Prop}
theorem wpList_append_wide (hgd : o.guard = none) (s x : Operand)
    (ho : o.op = .call { callee := .builtin .append, args := #[s, x], argTypes := #[88, 88] })
    (base : Nat) (v : Value) (n : Nat) (xs : List Int) (hs : a.eval s = v) (hown : w.ownsRow base 91 2 v n (xs.flatMap wcells))
    (b c : Nat) (z : Int) (hx : a.eval x = .slice (some ⟨b, 0, none⟩) 1 c) (h0 : w.cell? ⟨b, 0, none⟩ = some (.int .i64 (hi64 z))) (h1 : w.cell? ⟨b, 1, none⟩ = some (.int .u64 (lo64 z)))
    (h63 : n + 1 ≤ 1000000) (hbase : base ≤ w.heap.size)
    (h : ∀ v' w', w'.ownsRow base 91 2 v' (n + 1) ((xs ++ [z]).flatMap wcells) → Below base w w' → wpList Try.prog ops Q rest (a.put o.dst v') w') : wpList Try.prog ops Q (o :: rest) a w := by
  obtain ⟨i, hi, hz0, hz1, hz2⟩ := info_parts info_wide
  refine wpList_append_own w hgd s x 88 ho base 91 i _ 2 16 Try.underlying88 hi hz0 hz1 hz2 rfl (by decide) v n _ hs hown ⟨b, 0, none⟩ 1 c (wcells z) hx
      rfl (fun j u hu => ?_) (fun u hu => ?_) (by unfold maxLen; omega) (by omega) hbase (fun v' w' ho' hg _ => ?_)
  · match j, hu with
    | 0, hu => simp [wcells] at hu; subst hu; simpa [Addr.add] using h0
    | 1, hu => simp [wcells] at hu; subst hu; simpa [Addr.add] using h1
    | j + 2, hu => simp [wcells] at hu
  · simp [wcells] at hu
    rcases hu with rfl | rfl <;> rfl
  · refine h v' w' (by rw [List.flatMap_append]; simpa using ho') ((Below.refl base w).grown hg hbase fun k hk => ?_)
    rcases hown.2 with ⟨rfl, _⟩ | ⟨g, cap, cur, rfl, hg', _⟩
    · simp [Value.ownBlock] at hk
    · simp [Value.ownBlock] at hk; omega
end

theorem take_map_succ (zs : List Int) (k : Nat) (h : k < zs.length) : zs.take k ++ [zs.getD k 0] = zs.take (k + 1) := by
  rw [List.take_succ_eq_append_getElem h]
  simp [List.getD, List.getElem?_eq_getElem h]

theorem sum_wide (zs : List Int) (hb : ∀ z ∈ zs, -9223372036854775808 ≤ z ∧ z ≤ 9223372036854775807) (hn : zs.length ≤ 1000000) : isWide zs.sum = true := by
  have key : ∀ l : List Int, (∀ z ∈ l, -9223372036854775808 ≤ z ∧ z ≤ 9223372036854775807) → -(l.length * 9223372036854775808) ≤ l.sum ∧ l.sum ≤ l.length * 9223372036854775808 := by
    intro l
    induction l with
    | nil => intro _; simp
    | cons z l ih =>
      intro h
      have h1 := h z (by simp)
      have h2 := ih fun y hy => h y (by simp [hy])
      simp only [List.sum_cons, List.length_cons]
      omega
  have := key zs hb
  rw [isWide_iff]
  omega

end Go.Proofs.Ytkbmiajgmnfpfaa.NumK
namespace Go.Proofs.Ytkbmiajgmnfpfaa.NumK
open Go.RowKit

theorem add64 (x y c : Int) (hx : 0 ≤ x) (hy : 0 ≤ y) (hc0 : 0 ≤ c) (hc : c ≤ 1) (w : World) : (callFunc 69 #[.int .u64 x, .int .u64 y, .int .u64 c]).run Try.prog w =
    .ok (.value (.tuple #[.int .u64 ((x + y + c) % 18446744073709551616), .int .u64 ((x + y + c) / 18446744073709551616)])) w := by
  rw [run_callFunc_extern Try.func69 (by kernel_rfl) (by kernel_rfl) (by kernel_rfl) (e := add64Entry) (by kernel_rfl), run_add64 x y c hx hy hc0 hc]
  rfl
theorem add64_0 (x y : Int) (hx : 0 ≤ x) (hy : 0 ≤ y) (w : World) : (callFunc 69 #[.int .u64 x, .int .u64 y, .int .u64 0]).run Try.prog w =
    .ok (.value (.tuple #[.int .u64 ((x + y) % 18446744073709551616), .int .u64 ((x + y) / 18446744073709551616)])) w := by
  simpa using add64 x y 0 hx hy (Int.le_refl 0) (by decide) w
theorem add64_named (x y c s d : Int) (hx : 0 ≤ x) (hy : 0 ≤ y) (hc0 : 0 ≤ c) (hc : c ≤ 1) (hs : s = (x + y + c) % 18446744073709551616) (hd : d = (x + y + c) / 18446744073709551616) (w : World) :
    (callFunc 69 #[.int .u64 x, .int .u64 y, .int .u64 c]).run Try.prog w = .ok (.value (.tuple #[.int .u64 s, .int .u64 d])) w := by
  rw [hs, hd]; exact add64 x y c hx hy hc0 hc w
end Go.Proofs.Ytkbmiajgmnfpfaa.NumK
namespace Go.Proofs.Ytkbmiajgmnfpfaa.NumK
open Go.RowKit

set_option maxRecDepth 100000 in
set_option maxHeartbeats 2000000 in
theorem refSum_any (A : Option Addr) (n c : Nat) (xs : List Int) (w : World) (hz : Wides w A n xs) (hw : ∀ x ∈ xs, isWide x = true) (hn : n ≤ 1000000) :
    Calls Try.prog 57 #[.slice A n c] w fun e w' => e = .returned (.tuple #[(.agg #[.int .i64 (hi64 (wsV xs.sum)), .int .u64 (lo64 (wsV xs.sum))]), .bool (isWide xs.sum)]) ∧ Grew w w' := by
  have HZ := Lib.hid hz
  have HW := Lib.hid hw
  clear hz hw
  go_enter Try.func57, Try.ntmps57
  go_wp2
  go_loop [4, 5, 6, 7] (fun t h l i => ∃ (k : Nat) (T H L : Int), k ≤ n ∧ i = .int .i64 k ∧ t = .int .i64 T ∧ h = .int .u64 H ∧ l = .int .u64 L ∧ Hid (T * 340282366920938463463374607431768211456 + H * 18446744073709551616 + L = (xs.take k).sum) ∧
      0 ≤ H ∧ H < 18446744073709551616 ∧ 0 ≤ L ∧ L < 18446744073709551616 ∧ -(k : Int) ≤ T ∧ T ≤ k) (fun _ _ _ i => n - (intOf i).toNat)
  case atStart => exact ⟨0, 0, 0, 0, Nat.zero_le _, rfl, rfl, rfl, rfl, rfl, by omega, by omega, by omega, by omega, by omega, by omega⟩
  case round =>
    obtain ⟨k, T, H, L, hk, rfl, rfl, rfl, rfl, HS, h0, h1, l0, l1, t0, t1⟩ := hrel
    by_cases hlt : k < n
    · obtain ⟨b, o, rfl, hb, hc⟩ := HZ.out.2 (by omega)
      obtain ⟨hc0, hc1⟩ := hc k hlt
      have hst := sum_take_succ xs k (by have := HZ.out.1; omega)
      have hwx : isWide (xs.getD k 0) = true := HW.out _ (by rw [List.getD_eq_getElem?_getD, List.getElem?_eq_getElem (by have := HZ.out.1; omega)]; exact List.getElem_mem _)
      generalize xs.getD k 0 = x at *
      have bx := lo_bounds x
      have bh := hi_bounds x hwx
      have ex := w_eq x
      obtain ⟨s1, hs1⟩ : ∃ s, s = (L + lo64 x + 0) % 18446744073709551616 := ⟨_, rfl⟩
      obtain ⟨d1, hd1⟩ : ∃ s, s = (L + lo64 x + 0) / 18446744073709551616 := ⟨_, rfl⟩
      have A1 := add64_named L (lo64 x) 0 s1 d1 (by omega) (by omega) (by omega) (by omega) hs1 hd1
      have ew : 0 ≤ IntKind.u64.wrap (hi64 x) ∧ IntKind.u64.wrap (hi64 x) < 18446744073709551616 ∧ (hi64 x < 0 → IntKind.u64.wrap (hi64 x) = hi64 x + 18446744073709551616) ∧ (0 ≤ hi64 x → IntKind.u64.wrap (hi64 x) = hi64 x) := by rw [IntKind.wrap_u64]; omega
      obtain ⟨s2, hs2⟩ : ∃ s, s = (H + IntKind.u64.wrap (hi64 x) + d1) % 18446744073709551616 := ⟨_, rfl⟩
      obtain ⟨d2, hd2⟩ : ∃ s, s = (H + IntKind.u64.wrap (hi64 x) + d1) / 18446744073709551616 := ⟨_, rfl⟩
      have A2 := add64_named H (IntKind.u64.wrap (hi64 x)) d1 s2 d2 (by omega) (by omega) (by omega) (by omega) hs2 hd2
      have f1 : 0 ≤ s1 ∧ s1 < 18446744073709551616 := by omega
      have f2 : 0 ≤ s2 ∧ s2 < 18446744073709551616 := by omega
      have f3 : 0 ≤ d2 ∧ d2 ≤ 1 := by omega
      have HN : Hid ((hi64 x < 0 → (T + d2 - 1) * 340282366920938463463374607431768211456 + s2 * 18446744073709551616 + s1 = (xs.take (k + 1)).sum) ∧ (0 ≤ hi64 x → (T + d2) * 340282366920938463463374607431768211456 + s2 * 18446744073709551616 + s1 = (xs.take (k + 1)).sum)) := by
        have := HS.out
        rw [hst]
        exact ⟨fun _ => by omega, fun _ => by omega⟩
      generalize eh : IntKind.u64.wrap (hi64 x) = hw at *
      clear hst hwx bx bh ex ew hs1 hd1 hs2 hd2 hc
      generalize hi64 x = hh at *
      generalize lo64 x = ll at *
      obtain ⟨f1, f2'⟩ := f1
      obtain ⟨f3', f4⟩ := f2
      obtain ⟨f5, f6⟩ := f3
      by_cases hs : hh < 0
      · go_wp2_with (first | simp only [A1] | simp only [A2])
        go_round
        case rel => exact ⟨k + 1, T + d2 - 1, s2, s1, by omega, by go_num, rfl, rfl, rfl, HN.out.1 hs, by omega, by omega, by omega, by omega, by omega, by omega⟩
        case measure => simp [intOf]; omega
      · go_wp2_with (first | simp only [A1] | simp only [A2])
        go_round
        case rel => exact ⟨k + 1, T + d2, s2, s1, by omega, by go_num, rfl, rfl, rfl, HN.out.2 (by omega), by omega, by omega, by omega, by omega, by omega, by omega⟩
        case measure => simp [intOf]; omega
    · have hkn : k = n := by omega
      subst hkn
      have ht : xs.take k = xs := List.take_of_length_le (by have := HZ.out.1; omega)
      have hS := HS.out
      rw [ht] at hS
      have hwr : wrap64 H = if H < 9223372036854775808 then H else H - 18446744073709551616 := by unfold wrap64; split <;> omega
      have hwid : isWide xs.sum = true ↔ (T = 0 ∧ H < 9223372036854775808) ∨ (T = -1 ∧ ¬ H < 9223372036854775808) := by rw [isWide_iff]; omega
      have hval : (T = 0 ∧ H < 9223372036854775808) ∨ (T = -1 ∧ ¬ H < 9223372036854775808) → wrap64 H = hi64 xs.sum ∧ L = lo64 xs.sum := fun h => by
        have := w_unique xs.sum (wrap64 H) L (by rw [hwr]; split <;> omega) l0 l1
        exact ⟨this.1.symm, this.2.symm⟩
      have hz0 : (0 : Int) = hi64 0 ∧ (0 : Int) = lo64 0 := by decide
      have HD := Lib.hid hwid
      have HV := Lib.hid hval
      have HZ0 := Lib.hid hz0
      have hg : (H < 9223372036854775808 → 0 ≤ wrap64 H) ∧ (¬ H < 9223372036854775808 → wrap64 H < 0) := by rw [hwr]; split <;> omega
      clear ht hS hwr hwid hval hz0 hlt t0 t1 h0 h1 l0 l1
      generalize eg : wrap64 H = g at *
      by_cases c1 : T = 0
      · subst c1
        by_cases c2 : H < 9223372036854775808
        · have Y := Lib.hid (HD.out.2 (Or.inl ⟨rfl, c2⟩))
          have V := Lib.hid (HV.out (Or.inl ⟨rfl, c2⟩))
          have hh := hg.1 c2
          clear hg c2
          go_wp2
          exact bodyPost_ret (v := .tuple #[.agg #[.int .i64 g, .int .u64 L], .bool true]) (by simp [results, Try.results57, go_sem]) rfl ⟨ret_wb (by rw [wsV, if_pos Y.out]; exact V.out.1) (by rw [wsV, if_pos Y.out]; exact V.out.2) Y.out.symm, grew_alloc _ _ _⟩
        · have Y : Hid (isWide xs.sum = false) := by show _ = _; rw [← Bool.not_eq_true, HD.out]; omega
          have hh := hg.2 c2
          clear hg c2
          go_wp2
          exact bodyPost_ret (v := .tuple #[.agg #[.int .i64 0, .int .u64 0], .bool false]) (by simp [results, Try.results57, go_sem]) rfl ⟨ret_wb (by rw [wsV, Y.out]; exact HZ0.out.1) (by rw [wsV, Y.out]; exact HZ0.out.2) Y.out.symm, grew_alloc _ _ _⟩
      · have d1 : (T == 0) = false := by simpa using c1
        by_cases c3 : T = -1
        · subst c3
          by_cases c2 : H < 9223372036854775808
          · have Y : Hid (isWide xs.sum = false) := by show _ = _; rw [← Bool.not_eq_true, HD.out]; omega
            have hh := hg.1 c2
            clear hg c2 c1
            go_wp2
            exact bodyPost_ret (v := .tuple #[.agg #[.int .i64 0, .int .u64 0], .bool false]) (by simp [results, Try.results57, go_sem]) rfl ⟨ret_wb (by rw [wsV, Y.out]; exact HZ0.out.1) (by rw [wsV, Y.out]; exact HZ0.out.2) Y.out.symm, grew_alloc _ _ _⟩
          · have Y := Lib.hid (HD.out.2 (Or.inr ⟨rfl, c2⟩))
            have V := Lib.hid (HV.out (Or.inr ⟨rfl, c2⟩))
            have hh := hg.2 c2
            clear hg c2 c1
            go_wp2
            exact bodyPost_ret (v := .tuple #[.agg #[.int .i64 g, .int .u64 L], .bool true]) (by simp [results, Try.results57, go_sem]) rfl ⟨ret_wb (by rw [wsV, if_pos Y.out]; exact V.out.1) (by rw [wsV, if_pos Y.out]; exact V.out.2) Y.out.symm, grew_alloc _ _ _⟩
        · have Y : Hid (isWide xs.sum = false) := by show _ = _; rw [← Bool.not_eq_true, HD.out]; omega
          have d2 : (T == -1) = false := by simpa using c3
          clear hg c1 c3
          go_wp2
          exact bodyPost_ret (v := .tuple #[.agg #[.int .i64 0, .int .u64 0], .bool false]) (by simp [results, Try.results57, go_sem]) rfl ⟨ret_wb (by rw [wsV, Y.out]; exact HZ0.out.1) (by rw [wsV, Y.out]; exact HZ0.out.2) Y.out.symm, grew_alloc _ _ _⟩
end Go.Proofs.Ytkbmiajgmnfpfaa.NumK
namespace Go.Proofs.Ytkbmiajgmnfpfaa.NumK
open Go.RowKit

set_option maxRecDepth 100000 in
set_option maxHeartbeats 2000000 in
theorem add_any (A : Option Addr) (n c : Nat) (zs : List Int) (w : World) (hz : Ints w A n zs) (hb : ∀ z ∈ zs, -9223372036854775808 ≤ z ∧ z ≤ 9223372036854775807) (hn : n ≤ 100000) :
    Calls Try.prog 32 #[.slice A n c] w fun e w' => e = .returned (.tuple #[.int .i64 (intV zs.sum), .bool (isMoney zs.sum)]) ∧ Grew w w' := by
  have HZ := Lib.hid hz
  have HB := Lib.hid hb
  clear hz hb
  go_enter Try.func32, Try.ntmps32
  go_wp2
  go_loopw [4, 5] (fun v i wr => ∃ k : Nat, k ≤ n ∧ i = .int .i64 k ∧ wr.ownsRow w.heap.size 91 2 v k ((zs.take k).flatMap wcells) ∧ Below w.heap.size w wr) (fun _ i _ => n - (intOf i).toNat)
  case atStart => exact ⟨0, Nat.zero_le _, rfl, by simpa using World.ownsRow_nil _ _ _ _, Below.refl _ _⟩
  case round =>
    obtain ⟨k, hk, rfl, hown, hbel⟩ := hrel
    by_cases hlt : k < n
    · obtain ⟨b0, o0, rfl, hb0, hc⟩ := HZ.out.2 (by omega)
      have hcell : wr.cell? ⟨b0, o0 + k, none⟩ = some (.int .i64 (zs.getD k 0)) := by
        rw [← hc k (by omega)]
        exact hbel.cell (p := ⟨b0, o0 + k, none⟩) hb0
      have hzb := HB.out (zs.getD k 0) (by rw [List.getD_eq_getElem?_getD, List.getElem?_eq_getElem (by have := HZ.out.1; omega)]; exact List.getElem_mem _)
      have HX := Lib.hid (take_map_succ zs k (by have := HZ.out.1; omega))
      have HO := Lib.hid hown
      have HBW := Lib.hid hbel
      clear hc hown hbel
      generalize zs.getD k 0 = y at *
      have C := fun w => of_any y w hzb
      obtain ⟨y1, y2⟩ := hzb
      go_wp2_with (first
        | (go_at_call 56; ((with_reducible refine (C _).mono ?_); rintro e w2 ⟨rfl, hg2⟩; have HG2 := Lib.hid hg2; clear hg2))
        | (at_builtin; refine wpList_append_wide rfl _ _ rfl w.heap.size _ k _ rfl ((own_keep HO.out HG2.out).alloc _) w2.heap.size 1 y rfl (by simp) (by simp) (by omega) (Nat.le_trans HBW.out.size (Nat.le_trans HG2.out.size (by simp))) ?_; intro v' w' hv hb'; have HV := Lib.hid hv; have HB' := Lib.hid hb'; clear hv hb'))
      go_roundw
      case rel =>
        refine ⟨k + 1, by omega, by go_num, ?_, ?_⟩
        · rw [← HX.out]; exact HV.out
        · exact ((HBW.out.trans (HG2.out.mono HBW.out.size)).alloc (Nat.le_trans HBW.out.size HG2.out.size) _).trans HB'.out
      case measure => simp [intOf]; omega
    · have hkn : k = n := by omega
      subst hkn
      have ht : zs.take k = zs := List.take_of_length_le (by have := HZ.out.1; omega)
      rw [ht] at hown
      obtain ⟨A3, c3, rfl, hW⟩ := wides_of_own hown
      have hs := sum_wide zs HB.out (by have := HZ.out.1; omega)
      have C := refSum_any A3 k c3 zs wr hW (fun x hx => by have := HB.out x hx; rw [isWide_iff]; omega) (by omega)
      rw [wsV, if_pos hs, hs] at C
      have D := fun w => refInt_any zs.sum w
      have HBW := Lib.hid hbel
      clear ht hown hW hs hbel hlt
      go_wp2_with (first
        | (go_at_call 57; ((with_reducible refine C.mono ?_); rintro e w2 ⟨rfl, hg2⟩; have HG2 := Lib.hid hg2; clear hg2))
        | (go_at_call 58; ((with_reducible refine (D _).mono ?_); rintro e w3 ⟨rfl, hg3⟩; have HG3 := Lib.hid hg3; clear hg3)))
      go_ret2
      exact ⟨rfl, Below.trans (HBW.out.trans (HG2.out.mono HBW.out.size)) (Below.mono (grew_trans (grew_alloc _ _ _) HG3.out) (Nat.le_trans HBW.out.size HG2.out.size))⟩
end Go.Proofs.Ytkbmiajgmnfpfaa.NumK
