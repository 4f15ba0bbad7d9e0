/- The contract of math/bits.Mul64. -/
import Derived.Test.YtodnllopokoicaaGreatRG1
import Derived.Lib.Mul64
import Derived.Laws.Bits64b
import Derived.Test.YtodnllopokoicaaGreatRG2
import Derived.Deep.QuietTactic
import Derived.BigQuiet
import Derived.Deep.DeepCutAuto
import Derived.Deep.Light
import Derived.Laws.Externs
import Derived.Laws.OwnMore
namespace Go.Proofs.YtodnllopokoicaaGreat.NumK
open Go.RowKit

theorem maskN (a : Nat) (ha : a < 18446744073709551616) : bits .and .u64 (a : Int) 4294967295 = ((a % 4294967296 : Nat) : Int) := by
  have h := bits_and_u64_nat a 4294967295 ha (by omega)
  have e : a &&& 4294967295 = a % 4294967296 := Nat.and_two_pow_sub_one_eq_mod a 32
  rw [e] at h
  exact h
theorem divN (a : Nat) : (a : Int) / 4294967296 = ((a / 4294967296 : Nat) : Int) := by omega
theorem mulN (a b : Nat) : (a : Int) * (b : Int) = ((a * b : Nat) : Int) := (Int.natCast_mul a b).symm
theorem addN (a b : Nat) : (a : Int) + (b : Int) = ((a + b : Nat) : Int) := (Int.natCast_add a b).symm
theorem wrapN (a : Nat) (ha : a < 18446744073709551616) : IntKind.u64.wrap (a : Int) = (a : Int) := by rw [IntKind.wrap_u64]; omega
theorem wrapM (a : Nat) : IntKind.u64.wrap (a : Int) = ((a % 18446744073709551616 : Nat) : Int) := by rw [IntKind.wrap_u64]; omega

set_option maxHeartbeats 1000000 in
theorem mul64_any (x y : Nat) (hx : x < 18446744073709551616) (hy : y < 18446744073709551616) (w : World) :
    Calls Tryz.prog 109 #[.int .u64 x, .int .u64 y] w fun e w' => e = .returned (.tuple #[.int .u64 ((x * y / 18446744073709551616 : Nat) : Int), .int .u64 ((x * y % 18446744073709551616 : Nat) : Int)]) ∧ w = w' := by
  obtain ⟨bd, bt, bw, hhi⟩ := Lib.mul64_hi x y hx hy
  have ba := Lib.half_mul_le (a := x / 4294967296) (b := y / 4294967296) (by omega) (by omega)
  have bb := Lib.half_mul_le (a := x / 4294967296) (b := y % 4294967296) (by omega) (by omega)
  have bc := Lib.half_mul_le (a := x % 4294967296) (b := y / 4294967296) (by omega) (by omega)
  have ba' : x / 4294967296 * (y / 4294967296) < 18446744073709551616 := by omega
  have bb' : x / 4294967296 * (y % 4294967296) < 18446744073709551616 := by omega
  have bc' : x % 4294967296 * (y / 4294967296) < 18446744073709551616 := by omega
  have bh1 : x / 4294967296 * (y / 4294967296) + (x / 4294967296 * (y % 4294967296) + x % 4294967296 * (y % 4294967296) / 4294967296) / 4294967296 < 18446744073709551616 := by omega
  have bh : x / 4294967296 * (y / 4294967296) + (x / 4294967296 * (y % 4294967296) + x % 4294967296 * (y % 4294967296) / 4294967296) / 4294967296 + ((x / 4294967296 * (y % 4294967296) + x % 4294967296 * (y % 4294967296) / 4294967296) % 4294967296 + x % 4294967296 * (y / 4294967296)) / 4294967296 < 18446744073709551616 := by omega
  go_enter Tryz.func109, Tryz.ntmps109
  go_wp2
  simp only [maskN x hx, maskN y hy, divN, mulN, addN, wrapN _ bd, wrapN _ bb', wrapN _ bt, maskN _ bt, wrapN _ bc', wrapN _ bw, wrapN _ ba', wrapN _ bh1, wrapN _ bh, wrapM (x * y)]
  rw [hhi]
  go_ret2
  exact ⟨rfl, rfl⟩

end Go.Proofs.YtodnllopokoicaaGreat.NumK
namespace Go.Proofs.YtodnllopokoicaaGreat.NumK
open Go.RowKit

def sgn (n : Int) : Int := if n < 0 then -1 else 0
theorem sgn_neg {n : Int} (h : n < 0) : sgn n = -1 := by simp [sgn, h]
theorem sgn_pos {n : Int} (h : ¬ n < 0) : sgn n = 0 := by simp [sgn, h]

theorem sign_any (n : Int) (w : World) (h : -9223372036854775808 ≤ n ∧ n ≤ 9223372036854775807) :
    Calls Tryz.prog 133 #[.int .i64 n] w fun e w' => e = .returned (.int .i64 (sgn n)) ∧ w = w' := by
  go_enter Tryz.func133, Tryz.ntmps133
  go_wp2
  go_ret
  exact ⟨ret_i (by unfold sgn; split <;> omega), rfl⟩

theorem hi_of (n : Int) (h : -9223372036854775808 ≤ n ∧ n ≤ 9223372036854775807) : sgn n = hi64 n := by unfold sgn hi64; split <;> omega
theorem lo_of (n : Int) : IntKind.u64.wrap n = lo64 n := by rw [IntKind.wrap_u64]; rfl

theorem wof_any (n : Int) (w : World) (h : -9223372036854775808 ≤ n ∧ n ≤ 9223372036854775807) :
    Calls Tryz.prog 95 #[.int .i64 n] w fun e w' => e = .returned (.agg #[.int .i64 (hi64 n), .int .u64 (lo64 n)]) ∧ Grew w w' := by
  have C := fun w => sign_any n w h
  have e1 := lo_of n
  rw [hi_of n h] at C
  generalize hi64 n = hh at *
  generalize lo64 n = l at *
  go_enter Tryz.func95, Tryz.ntmps95
  go_wp2_with (go_at_call 133; ((with_reducible refine (C _).mono ?_); rintro e w' ⟨rfl, rfl⟩))
  exact bodyPost_ret (v := .agg #[.int .i64 hh, .int .u64 l]) (by simp [results, Tryz.results95, go_sem]) rfl ⟨rfl, grew_alloc _ _ _⟩

end Go.Proofs.YtodnllopokoicaaGreat.NumK
namespace Go.Proofs.YtodnllopokoicaaGreat.NumK
open Go.RowKit

theorem and_m1 (b : Int) (h : -9223372036854775808 ≤ b ∧ b ≤ 9223372036854775807) : bits .and .i64 (-1) b = b := by
  have e1 : (BitVec.ofInt 64 (-1)) = BitVec.allOnes 64 := by decide
  show IntKind.i64.wrap ((BitVec.ofInt 64 (-1) &&& BitVec.ofInt 64 b).toNat : Int) = b
  rw [e1, BitVec.allOnes_and, BitVec.toNat_ofInt, IntKind.wrap_i64]
  omega
theorem and_zero (b : Int) : bits .and .i64 0 b = 0 := by
  show IntKind.i64.wrap ((BitVec.ofInt 64 0 &&& BitVec.ofInt 64 b).toNat : Int) = 0
  have e1 : (BitVec.ofInt 64 0) = 0#64 := by decide
  rw [e1, BitVec.zero_and]; rfl

theorem times_parts (a b : Int) (ha : -9223372036854775808 ≤ a ∧ a ≤ 9223372036854775807) (hb : -9223372036854775808 ≤ b ∧ b ≤ 9223372036854775807) :
    ∃ x y : Nat, IntKind.u64.wrap a = x ∧ IntKind.u64.wrap b = y ∧ x < 18446744073709551616 ∧ y < 18446744073709551616 ∧ ((x * y % 18446744073709551616 : Nat) : Int) = lo64 (a * b) ∧
      (a < 0 → b < 0 → ((x * y / 18446744073709551616 : Nat) : Int) = hi64 (a * b) + b + a + 18446744073709551616) ∧
      (a < 0 → ¬ b < 0 → ((x * y / 18446744073709551616 : Nat) : Int) = hi64 (a * b) + b) ∧
      (¬ a < 0 → b < 0 → ((x * y / 18446744073709551616 : Nat) : Int) = hi64 (a * b) + a) ∧
      (¬ a < 0 → ¬ b < 0 → ((x * y / 18446744073709551616 : Nat) : Int) = hi64 (a * b)) := by
  refine ⟨(IntKind.u64.wrap a).toNat, (IntKind.u64.wrap b).toNat, by rw [IntKind.wrap_u64]; omega, by rw [IntKind.wrap_u64]; omega, by rw [IntKind.wrap_u64]; omega, by rw [IntKind.wrap_u64]; omega, ?_⟩
  rw [IntKind.wrap_u64, IntKind.wrap_u64]
  obtain ⟨x, hx⟩ : ∃ x : Nat, (a % 18446744073709551616).toNat = x := ⟨_, rfl⟩
  obtain ⟨y, hy⟩ : ∃ x : Nat, (b % 18446744073709551616).toNat = x := ⟨_, rfl⟩
  rw [hx, hy]
  have hP : ((x * y : Nat) : Int) = (x : Int) * (y : Int) := Int.natCast_mul x y
  unfold hi64 lo64
  by_cases c1 : a < 0 <;> by_cases c2 : b < 0
  · have e1 : (x : Int) = a + 18446744073709551616 := by omega
    have e2 : (y : Int) = b + 18446744073709551616 := by omega
    rw [e1, e2, Int.add_mul, Int.mul_add, Int.mul_add] at hP
    generalize x * y = P at *
    generalize a * b = p at *
    omega
  · have e1 : (x : Int) = a + 18446744073709551616 := by omega
    have e2 : (y : Int) = b := by omega
    rw [e1, e2, Int.add_mul] at hP
    generalize x * y = P at *
    generalize a * b = p at *
    omega
  · have e1 : (x : Int) = a := by omega
    have e2 : (y : Int) = b + 18446744073709551616 := by omega
    rw [e1, e2, Int.mul_add] at hP
    generalize x * y = P at *
    generalize a * b = p at *
    omega
  · have e1 : (x : Int) = a := by omega
    have e2 : (y : Int) = b := by omega
    rw [e1, e2] at hP
    generalize x * y = P at *
    generalize a * b = p at *
    omega

set_option maxHeartbeats 1000000 in
theorem wtimes_any (a b : Int) (w : World) (ha : -9223372036854775808 ≤ a ∧ a ≤ 9223372036854775807) (hb : -9223372036854775808 ≤ b ∧ b ≤ 9223372036854775807) :
    Calls Tryz.prog 92 #[.int .i64 a, .int .i64 b] w fun e w' => e = .returned (.agg #[.int .i64 (hi64 (a * b)), .int .u64 (lo64 (a * b))]) ∧ Grew w w' := by
  obtain ⟨x, y, h1, h2, h3, h4, h5, q1, q2, q3, q4⟩ := times_parts a b ha hb
  have M := mul64_any x y h3 h4
  have C1 := fun w => sign_any a w ha
  have C2 := fun w => sign_any b w hb
  have HB : Hid (isWide (a * b) = true) := by
    obtain ⟨t1, t2, t3⟩ := times_arith a b ha hb
    show isWide (a * b) = true
    rw [isWide_iff]
    generalize a * b = p at *
    generalize a.natAbs * b.natAbs = P at *
    omega
  rw [h5] at M
  generalize ((x * y / 18446744073709551616 : Nat) : Int) = hp at *
  clear h3 h4 h5
  by_cases c1 : a < 0 <;> by_cases c2 : b < 0
  · have s1 : sgn a = -1 := sgn_neg c1
    have s2 : sgn b = -1 := sgn_neg c2
    rw [s1] at C1
    rw [s2] at C2
    have l1 : bits .and .i64 (-1) b = b := and_m1 b hb
    have l2 : bits .and .i64 (-1) a = a := and_m1 a ha
    have L := Lib.hid (q1 c1 c2)
    clear q1 q2 q3 q4 s1 s2 c1 c2
    go_enter Tryz.func92, Tryz.ntmps92
    go_wp2_with (first
      | (go_at_call 109; ((with_reducible refine (M _).mono ?_); rintro e w' ⟨rfl, rfl⟩))
      | (go_at_call 133; ((with_reducible refine (C1 _).mono ?_); rintro e w' ⟨rfl, rfl⟩))
      | (go_at_call 133; ((with_reducible refine (C2 _).mono ?_); rintro e w' ⟨rfl, rfl⟩)))
    exact bodyPost_ret (v := .agg #[.int .i64 (wrap64 (wrap64 (wrap64 hp - b) - a)), .int .u64 (lo64 (a * b))]) (by simp [results, Tryz.results92, go_sem]) rfl ⟨ret_wv (by have l := L.out; have h := hi_bounds _ HB.out; unfold wrap64; omega) rfl, grew_alloc _ _ _⟩
  · have s1 : sgn a = -1 := sgn_neg c1
    have s2 : sgn b = 0 := sgn_pos c2
    rw [s1] at C1
    rw [s2] at C2
    have l1 : bits .and .i64 (-1) b = b := and_m1 b hb
    have l2 : bits .and .i64 (0) a = 0 := and_zero a
    have L := Lib.hid (q2 c1 c2)
    clear q1 q2 q3 q4 s1 s2 c1 c2
    go_enter Tryz.func92, Tryz.ntmps92
    go_wp2_with (first
      | (go_at_call 109; ((with_reducible refine (M _).mono ?_); rintro e w' ⟨rfl, rfl⟩))
      | (go_at_call 133; ((with_reducible refine (C1 _).mono ?_); rintro e w' ⟨rfl, rfl⟩))
      | (go_at_call 133; ((with_reducible refine (C2 _).mono ?_); rintro e w' ⟨rfl, rfl⟩)))
    exact bodyPost_ret (v := .agg #[.int .i64 (wrap64 (wrap64 (wrap64 hp - b))), .int .u64 (lo64 (a * b))]) (by simp [results, Tryz.results92, go_sem]) rfl ⟨ret_wv (by have l := L.out; have h := hi_bounds _ HB.out; unfold wrap64; omega) rfl, grew_alloc _ _ _⟩
  · have s1 : sgn a = 0 := sgn_pos c1
    have s2 : sgn b = -1 := sgn_neg c2
    rw [s1] at C1
    rw [s2] at C2
    have l1 : bits .and .i64 (0) b = 0 := and_zero b
    have l2 : bits .and .i64 (-1) a = a := and_m1 a ha
    have L := Lib.hid (q3 c1 c2)
    clear q1 q2 q3 q4 s1 s2 c1 c2
    go_enter Tryz.func92, Tryz.ntmps92
    go_wp2_with (first
      | (go_at_call 109; ((with_reducible refine (M _).mono ?_); rintro e w' ⟨rfl, rfl⟩))
      | (go_at_call 133; ((with_reducible refine (C1 _).mono ?_); rintro e w' ⟨rfl, rfl⟩))
      | (go_at_call 133; ((with_reducible refine (C2 _).mono ?_); rintro e w' ⟨rfl, rfl⟩)))
    exact bodyPost_ret (v := .agg #[.int .i64 (wrap64 (wrap64 (wrap64 hp) - a)), .int .u64 (lo64 (a * b))]) (by simp [results, Tryz.results92, go_sem]) rfl ⟨ret_wv (by have l := L.out; have h := hi_bounds _ HB.out; unfold wrap64; omega) rfl, grew_alloc _ _ _⟩
  · have s1 : sgn a = 0 := sgn_pos c1
    have s2 : sgn b = 0 := sgn_pos c2
    rw [s1] at C1
    rw [s2] at C2
    have l1 : bits .and .i64 (0) b = 0 := and_zero b
    have l2 : bits .and .i64 (0) a = 0 := and_zero a
    have L := Lib.hid (q4 c1 c2)
    clear q1 q2 q3 q4 s1 s2 c1 c2
    go_enter Tryz.func92, Tryz.ntmps92
    go_wp2_with (first
      | (go_at_call 109; ((with_reducible refine (M _).mono ?_); rintro e w' ⟨rfl, rfl⟩))
      | (go_at_call 133; ((with_reducible refine (C1 _).mono ?_); rintro e w' ⟨rfl, rfl⟩))
      | (go_at_call 133; ((with_reducible refine (C2 _).mono ?_); rintro e w' ⟨rfl, rfl⟩)))
    exact bodyPost_ret (v := .agg #[.int .i64 (wrap64 (wrap64 (wrap64 hp))), .int .u64 (lo64 (a * b))]) (by simp [results, Tryz.results92, go_sem]) rfl ⟨ret_wv (by have l := L.out; have h := hi_bounds _ HB.out; unfold wrap64; omega) rfl, grew_alloc _ _ _⟩
end Go.Proofs.YtodnllopokoicaaGreat.NumK
namespace Go.Proofs.YtodnllopokoicaaGreat.NumK
open Go.RowKit

set_option maxHeartbeats 400000 in
theorem right_any (A : Option Addr) (n c : Nat) (zs : List Int) (w : World) (hz : Ints w A n zs) (hn : n ≤ 9223372036854775807) :
    Calls Tryz.prog 71 #[.slice A n c] w fun e w' => e = .returned (.bool (zs.all isMoney)) ∧ w = w' := by
  have HZ : Hid (Ints w A n zs) := hz
  clear hz
  go_enter Tryz.func71, Tryz.ntmps71
  go_wp2
  go_loop [7] (fun i => ∃ k : Nat, k ≤ n ∧ i = .int .i64 k ∧ Hid ((zs.take k).all isMoney = true)) (fun i => n - (intOf i).toNat)
  case atStart => exact ⟨0, Nat.zero_le _, rfl, by simp [Hid]⟩
  case round =>
    obtain ⟨k, hk, rfl, HK⟩ := hrel
    by_cases hlt : k < n
    · obtain ⟨b, o, rfl, _, hc⟩ := HZ.out.2 (by omega)
      have hcell := hc k hlt
      have hl := HZ.out.1
      have hs := all_take_succ zs k (by omega)
      have HS : Hid ((zs.take (k + 1)).all isMoney = isMoney (zs.getD k 0)) := by rw [hs, HK.out]; simp [Hid]
      clear hs hc hl
      generalize hy : zs.getD k 0 = y at *
      have HY : Hid (zs.getD k 0 = y) := hy
      clear hy
      by_cases h1 : y < -4611686018427387904
      · go_wp2
        go_ret
        exact ⟨ret_b (all_false zs k (by have := HZ.out.1; omega) y HY.out (by omega)), rfl⟩
      · by_cases h2 : 4611686018427387904 < y
        · go_wp2
          go_ret
          exact ⟨ret_b (all_false zs k (by have := HZ.out.1; omega) y HY.out (by omega)), rfl⟩
        · go_wp2
          go_round
          case rel => exact ⟨k + 1, by omega, by go_num, HS.out.trans ((isMoney_iff y).2 ⟨by omega, by omega⟩)⟩
          case measure => simp [intOf]; omega
    · have : k = n := by omega
      subst this
      go_wp2
      go_ret
      have h1 := HK.out
      rw [List.take_of_length_le (by have := HZ.out.1; omega)] at h1
      exact ⟨ret_b h1.symm, rfl⟩

end Go.Proofs.YtodnllopokoicaaGreat.NumK
namespace Go.Proofs.YtodnllopokoicaaGreat.NumK
open Go.RowKit

theorem add64 (x y c : Int) (hx : 0 ≤ x) (hy : 0 ≤ y) (hc0 : 0 ≤ c) (hc : c ≤ 1) (w : World) : (callFunc 112 #[.int .u64 x, .int .u64 y, .int .u64 c]).run Tryz.prog w =
    .ok (.value (.tuple #[.int .u64 ((x + y + c) % 18446744073709551616), .int .u64 ((x + y + c) / 18446744073709551616)])) w := by
  rw [run_callFunc_extern Tryz.func112 (by kernel_rfl) (by kernel_rfl) (by kernel_rfl) (e := add64Entry) (by kernel_rfl), run_add64 x y c hx hy hc0 hc]
  rfl
theorem add64_named (x y c s d : Int) (hx : 0 ≤ x) (hy : 0 ≤ y) (hc0 : 0 ≤ c) (hc : c ≤ 1) (hs : s = (x + y + c) % 18446744073709551616) (hd : d = (x + y + c) / 18446744073709551616) (w : World) :
    (callFunc 112 #[.int .u64 x, .int .u64 y, .int .u64 c]).run Tryz.prog w = .ok (.value (.tuple #[.int .u64 s, .int .u64 d])) w := by
  rw [hs, hd]; exact add64 x y c hx hy hc0 hc w
end Go.Proofs.YtodnllopokoicaaGreat.NumK
namespace Go.Proofs.YtodnllopokoicaaGreat.NumK
open Go.RowKit

/-! ### a slice of wides -/
def wcells (x : Int) : List Value := [.int .i64 (hi64 x), .int .u64 (lo64 x)]
def Wides (w : World) (A : Option Addr) (n : Nat) (xs : List Int) : Prop :=
  xs.length = n ∧ (0 < n → ∃ b o, A = some ⟨b, o, none⟩ ∧ b < w.heap.size ∧ ∀ j, j < n → w.cell? ⟨b, o + j * 2, none⟩ = some (.int .i64 (hi64 (xs.getD j 0))) ∧ w.cell? ⟨b, o + j * 2 + 1, none⟩ = some (.int .u64 (lo64 (xs.getD j 0))))

theorem sum_take_succ (xs : List Int) (k : Nat) (h : k < xs.length) : (xs.take (k + 1)).sum = (xs.take k).sum + xs.getD k 0 := by
  rw [List.take_succ_eq_append_getElem h, List.sum_append]
  simp [List.getD, List.getElem?_eq_getElem h]

theorem info_wide : (Tryz.prog.info? 101).map (fun i => (i.zero, i.size, i.bytes)) = some (some (.agg #[.int .i64 0, .int .u64 0]), 2, 16) := by kernel_rfl

section
variable {w : World} {ops : Array Oper} {rest : List Oper} {o : Oper} {a : Act} {Q : Exit → Act → World → Prop}
end

theorem wides2 (w : World) (x y : Int) (t : TypeId) (N : Nat) (hN : w.heap.size = N) : Wides (w.alloc (.cells #[.int .i64 (hi64 x), .int .u64 (lo64 x), .int .i64 (hi64 y), .int .u64 (lo64 y)] t)) (some ⟨N, 0, none⟩) 2 [x, y] := by
  subst hN
  refine ⟨rfl, fun _ => ⟨_, _, rfl, by simp, fun j hj => ?_⟩⟩
  match j, hj with
  | 0, _ => exact ⟨(World.cell?_alloc_at _ _ _ _ rfl).trans rfl, (World.cell?_alloc_at _ _ _ _ rfl).trans rfl⟩
  | 1, _ => exact ⟨(World.cell?_alloc_at _ _ _ _ rfl).trans rfl, (World.cell?_alloc_at _ _ _ _ rfl).trans rfl⟩
end Go.Proofs.YtodnllopokoicaaGreat.NumK
namespace Go.Proofs.YtodnllopokoicaaGreat.NumK
open Go.RowKit

theorem Wides.keep {w w' : World} {A : Option Addr} {n : Nat} {xs : List Int} (h : Wides w A n xs) (g : Grew w w') : Wides w' A n xs :=
  ⟨h.1, fun hn => by
    obtain ⟨b, o, e, hb, hc⟩ := h.2 hn
    exact ⟨b, o, e, Nat.lt_of_lt_of_le hb g.size, fun j hj => ⟨(grew_cell g (p := ⟨b, o + j * 2, none⟩) hb).trans (hc j hj).1, (grew_cell g (p := ⟨b, o + j * 2 + 1, none⟩) hb).trans (hc j hj).2⟩⟩⟩

def wideE (x : Int) : Int := if isWide x then 0 else 1

/-- The block of its own that a call laid first stands as it was. -/
theorem own_first {w w1 : World} {v0 v1 : Value} {t : TypeId} (h : Grew (w.alloc (.cells #[v0, v1] t)) w1) :
    w1.cell? ⟨w.heap.size, 0, none⟩ = some v0 ∧ w1.cell? ⟨w.heap.size, 1, none⟩ = some v1 ∧ w1.frozen? ⟨w.heap.size, 0, none⟩ = false ∧ w1.frozen? ⟨w.heap.size, 1, none⟩ = false ∧ w.heap.size < w1.heap.size := by
  have hs := h.size
  have hl : w.heap.size < (w.alloc (.cells #[v0, v1] t)).heap.size := by simp
  exact ⟨(Below.cell h (p := ⟨w.heap.size, 0, none⟩) hl).trans (by simp), (Below.cell h (p := ⟨w.heap.size, 1, none⟩) hl).trans (by simp),
    (Below.frozen h (p := ⟨w.heap.size, 0, none⟩) hl).trans (by simp), (Below.frozen h (p := ⟨w.heap.size, 1, none⟩) hl).trans (by simp), by omega⟩

theorem ret_we {x a b : Int} {p q : Int} (h1 : a = hi64 x) (h2 : b = lo64 x) (h3 : p = q) : Ending.returned (.tuple #[.agg #[.int .i64 a, .int .u64 b], .int .i64 p]) = .returned (.tuple #[(.agg #[.int .i64 (hi64 (x)), .int .u64 (lo64 (x))]), .int .i64 q]) := by rw [h1, h2, h3]

set_option maxRecDepth 100000 in
set_option maxHeartbeats 2000000 in
theorem wsum_any (A : Option Addr) (n c : Nat) (xs : List Int) (w : World) (hz : Wides w A n xs) (hw : ∀ x ∈ xs, isWide x = true) (hn : n ≤ 1000000) :
    Calls Tryz.prog 94 #[.slice A n c] w fun e w' => e = .returned (.tuple #[(.agg #[.int .i64 (hi64 (wsV xs.sum)), .int .u64 (lo64 (wsV xs.sum))]), .int .i64 (wideE xs.sum)]) ∧ Grew w w' := by
  have HZ := Lib.hid hz
  have HW := Lib.hid hw
  clear hz hw
  go_enter Tryz.func94, Tryz.ntmps94
  go_wp2
  go_loopw [4, 5, 6, 12] (fun t h l i wr => ∃ (k : Nat) (T H L : Int), k ≤ n ∧ i = .int .i64 k ∧ t = .int .i64 T ∧ h = .int .u64 H ∧ l = .int .u64 L ∧ Hid (T * 340282366920938463463374607431768211456 + H * 18446744073709551616 + L = (xs.take k).sum) ∧
      0 ≤ H ∧ H < 18446744073709551616 ∧ 0 ≤ L ∧ L < 18446744073709551616 ∧ -(k : Int) ≤ T ∧ T ≤ k ∧ Hid (Grew (w.alloc (.cells #[.int .i64 0, .int .u64 0] 101)) wr)) (fun _ _ _ i _ => n - (intOf i).toNat)
  case atStart => exact ⟨0, 0, 0, 0, Nat.zero_le _, rfl, rfl, rfl, rfl, rfl, by omega, by omega, by omega, by omega, by omega, by omega, grew_refl _⟩
  case round =>
    obtain ⟨k, T, H, L, hk, rfl, rfl, rfl, rfl, HS, h0, h1, l0, l1, t0, t1, HG⟩ := hrel
    by_cases hlt : k < n
    · obtain ⟨b, o, rfl, hb, hc⟩ := (HZ.out.keep (grew_trans (grew_alloc _ _ _) HG.out)).2 (by omega)
      obtain ⟨hc0, hc1⟩ := hc k hlt
      have hst := sum_take_succ xs k (by have := HZ.out.1; omega)
      have hwx : isWide (xs.getD k 0) = true := HW.out _ (by rw [List.getD_eq_getElem?_getD, List.getElem?_eq_getElem (by have := HZ.out.1; omega)]; exact List.getElem_mem _)
      generalize xs.getD k 0 = x at *
      have bx := lo_bounds x
      have bh := hi_bounds x hwx
      have ex := w_eq x
      have CS := fun w => sign_any (hi64 x) w bh
      have bs : (hi64 x < 0 → sgn (hi64 x) = -1) ∧ (¬ hi64 x < 0 → sgn (hi64 x) = 0) := ⟨sgn_neg, sgn_pos⟩
      generalize sgn (hi64 x) = sg at *
      obtain ⟨s1, hs1⟩ : ∃ s, s = (L + lo64 x + 0) % 18446744073709551616 := ⟨_, rfl⟩
      obtain ⟨d1, hd1⟩ : ∃ s, s = (L + lo64 x + 0) / 18446744073709551616 := ⟨_, rfl⟩
      have A1 := add64_named L (lo64 x) 0 s1 d1 (by omega) (by omega) (by omega) (by omega) hs1 hd1
      have ew : 0 ≤ IntKind.u64.wrap (hi64 x) ∧ IntKind.u64.wrap (hi64 x) < 18446744073709551616 ∧ (hi64 x < 0 → IntKind.u64.wrap (hi64 x) = hi64 x + 18446744073709551616) ∧ (0 ≤ hi64 x → IntKind.u64.wrap (hi64 x) = hi64 x) := by rw [IntKind.wrap_u64]; omega
      obtain ⟨s2, hs2⟩ : ∃ s, s = (H + IntKind.u64.wrap (hi64 x) + d1) % 18446744073709551616 := ⟨_, rfl⟩
      obtain ⟨d2, hd2⟩ : ∃ s, s = (H + IntKind.u64.wrap (hi64 x) + d1) / 18446744073709551616 := ⟨_, rfl⟩
      have A2 := add64_named H (IntKind.u64.wrap (hi64 x)) d1 s2 d2 (by omega) (by omega) (by omega) (by omega) hs2 hd2
      have f1 : 0 ≤ s1 ∧ s1 < 18446744073709551616 := by omega
      have f2 : 0 ≤ s2 ∧ s2 < 18446744073709551616 := by omega
      have f3 : 0 ≤ d2 ∧ d2 ≤ 1 := by omega
      have f4 : -1 ≤ sg ∧ sg ≤ 0 := by omega
      have HN : Hid ((T + (sg + d2)) * 340282366920938463463374607431768211456 + s2 * 18446744073709551616 + s1 = (xs.take (k + 1)).sum) := by
        have := HS.out
        show _ = _
        rw [hst]
        by_cases c : hi64 x < 0
        · have := bs.1 c; have := ew.2.2.1 c; omega
        · have := bs.2 c; have := ew.2.2.2 (by omega); omega
      generalize eh : IntKind.u64.wrap (hi64 x) = hw at *
      clear hst hwx bx bh ex ew hs1 hd1 hs2 hd2 hc bs
      generalize hi64 x = hh at *
      generalize lo64 x = ll at *
      obtain ⟨f1, f2'⟩ := f1
      obtain ⟨f3', f4'⟩ := f2
      obtain ⟨f5, f6⟩ := f3
      obtain ⟨f7, f8⟩ := f4
      go_wp2_with (first | (go_at_call 133; refine (CS _).mono ?_; rintro e w1 ⟨rfl, rfl⟩) | rw [A1] | rw [A2])
      go_roundw
      case rel => exact ⟨k + 1, T + (sg + d2), s2, s1, by omega, by go_num, by go_num, rfl, rfl, HN, by omega, by omega, by omega, by omega, by omega, by omega, grew_trans HG.out (grew_alloc _ _ _)⟩
      case measure => simp [intOf]; omega
    · have hkn : k = n := by omega
      subst hkn
      have ht : xs.take k = xs := List.take_of_length_le (by have := HZ.out.1; omega)
      have hS := HS.out
      rw [ht] at hS
      have hwr : wrap64 H = if H < 9223372036854775808 then H else H - 18446744073709551616 := by unfold wrap64; split <;> omega
      have hwb : -9223372036854775808 ≤ wrap64 H ∧ wrap64 H ≤ 9223372036854775807 := by rw [hwr]; split <;> omega
      have hsg : sgn (wrap64 H) = if H < 9223372036854775808 then 0 else -1 := by rw [hwr]; split <;> (unfold sgn; split <;> omega)
      have hwid : isWide xs.sum = true ↔ T = sgn (wrap64 H) := by rw [hsg, isWide_iff]; split <;> omega
      have hval : T = sgn (wrap64 H) → wrap64 H = hi64 xs.sum ∧ L = lo64 xs.sum := fun h => by
        rw [hsg] at h
        have := w_unique xs.sum (wrap64 H) L (by rw [hwr]; split at h <;> (split <;> omega)) l0 l1
        exact ⟨this.1.symm, this.2.symm⟩
      have hz0 : (0 : Int) = hi64 0 ∧ (0 : Int) = lo64 0 := by decide
      have CS := fun w => sign_any (wrap64 H) w hwb
      have HD := Lib.hid hwid
      have HV := Lib.hid hval
      have HZ0 := Lib.hid hz0
      obtain ⟨o1, o2, o3, o4, o5⟩ := own_first HG.out
      have GF := Lib.hid (grew_trans (grew_alloc _ _ _) HG.out)
      clear ht hS hwr hwid hval hz0 hlt t0 t1 h0 h1 l0 l1 hwb hsg
      generalize eg : wrap64 H = g at *
      generalize sgn g = sg at *
      by_cases c1 : T = sg
      · subst c1
        have Y := Lib.hid (HD.out.2 rfl)
        have V := Lib.hid (HV.out rfl)
        go_wp2_with (go_at_call 133; refine (CS _).mono ?_; rintro e w1 ⟨rfl, rfl⟩)
        exact bodyPost_ret (v := .tuple #[.agg #[.int .i64 g, .int .u64 L], .int .i64 0]) (by simp [results, Tryz.results94, go_sem, o1, o2]) rfl ⟨ret_we (by rw [wsV, if_pos Y.out]; exact V.out.1) (by rw [wsV, if_pos Y.out]; exact V.out.2) (by rw [wideE, if_pos Y.out]), grew_set (grew_set GF.out _ (Nat.le_refl _)) _ (Nat.le_refl _)⟩
      · have Y : Hid (isWide xs.sum = false) := by show _ = _; rw [← Bool.not_eq_true, HD.out]; exact c1
        have d1 : (T != sg) = true := by simpa using c1
        clear c1
        go_wp2_with (go_at_call 133; refine (CS _).mono ?_; rintro e w1 ⟨rfl, rfl⟩)
        exact bodyPost_ret (v := .tuple #[.agg #[.int .i64 0, .int .u64 0], .int .i64 1]) (by simp [results, Tryz.results94, go_sem, o1, o2]) rfl ⟨ret_we (by rw [wsV, Y.out]; exact HZ0.out.1) (by rw [wsV, Y.out]; exact HZ0.out.2) (by rw [wideE, Y.out]; rfl), grew_set (grew_set GF.out _ (Nat.le_refl _)) _ (Nat.le_refl _)⟩
end Go.Proofs.YtodnllopokoicaaGreat.NumK
namespace Go.Proofs.YtodnllopokoicaaGreat.NumK
open Go.RowKit
set_option linter.unusedVariables false

/-- A block of the call's own: N cells that may be written. -/
def Slab (w : World) (g N : Nat) : Prop := g < w.heap.size ∧ ∀ k, k < N → (∃ v, w.cell? ⟨g, k, none⟩ = some v) ∧ w.frozen? ⟨g, k, none⟩ = false
theorem Slab.keep {w w' : World} {g N : Nat} (h : Slab w g N) (r : Grew w w') : Slab w' g N :=
  ⟨Nat.lt_of_lt_of_le h.1 r.size, fun k hk => by
    obtain ⟨⟨v, hv⟩, hf⟩ := h.2 k hk
    exact ⟨⟨v, (grew_cell r (p := ⟨g, k, none⟩) h.1).trans hv⟩, (Below.frozen r (p := ⟨g, k, none⟩) h.1).trans hf⟩⟩
theorem Slab.set {w : World} {g N : Nat} (h : Slab w g N) (b k : Nat) (x : Value) : Slab (w.setCell ⟨b, k, none⟩ x) g N :=
  ⟨by simpa [World.setCell] using h.1, fun i hi => by
    obtain ⟨⟨v, hv⟩, hf⟩ := h.2 i hi
    refine ⟨?_, by rw [World.frozen?_setCell]; exact hf⟩
    by_cases e : (⟨b, k, none⟩ : Addr) = ⟨g, i, none⟩
    · rw [e]; exact ⟨x, World.cell?_setCell_same _ _ _ hv⟩
    · exact ⟨v, by rw [World.cell?_setCell_other _ _ _ _ e]; exact hv⟩⟩
theorem flat_set {α : Type} (E : En α) : ∀ (l : List α) (j i : Nat) (u : Value) (x : α) (h : j < l.length) (hi : i < E.size), E.cs x = (E.cs l[j]).set i u → (l.flatMap E.cs).set (j * E.size + i) u = (l.set j x).flatMap E.cs
  | [], j, i, u, x, h, hi, hx => by simp at h
  | y :: l, 0, i, u, x, h, hi, hx => by
    rw [List.set_cons_zero, List.flatMap_cons, List.flatMap_cons, Nat.zero_mul, Nat.zero_add, List.set_append_left _ _ (by rw [E.len]; exact hi), hx]
    rfl
  | y :: l, j + 1, i, u, x, h, hi, hx => by
    rw [List.set_cons_succ, List.flatMap_cons, List.flatMap_cons, List.set_append_right _ _ (by rw [E.len, Nat.succ_mul]; omega), E.len, show (j + 1) * E.size + i - E.size = j * E.size + i by rw [Nat.succ_mul]; omega, flat_set E l j i u x (by simpa using h) hi hx]
/-- One cell of an element. -/
theorem OwnE.put1 {α : Type} {E : En α} {w : World} {base : Nat} {t : TypeId} {g n c : Nat} {l : List α} (h : OwnE E w base t (.slice (some ⟨g, 0, none⟩) n c) l) (hn : n = l.length) (j i : Nat) (u : Value) (x : α) (hj : j < l.length) (hi : i < E.size) (hx : E.cs x = (E.cs l[j]).set i u) :
    OwnE E (w.setCell ⟨g, j * E.size + i, none⟩ u) base t (.slice (some ⟨g, 0, none⟩) n c) (l.set j x) := by
  subst hn
  have h2 := (World.ownsRow.stored h (j * E.size + i) u).1
  unfold OwnE
  rw [List.length_set, ← flat_set E l j i u x hj hi hx]
  exact h2
/-! ### what has been mapped so far -/
def preL {α : Type} (f : α → α) (l : List α) (j : Nat) : List α := (l.take j).map f ++ l.drop j
end Go.Proofs.YtodnllopokoicaaGreat.NumK
