/- Contracts of package wide: Times. -/
import Derived.Test.YtckdbbjeifindaaRG2
import Derived.Test.YtckdbbjeifindaaRG1
import Derived.Laws.Externs
import Derived.Laws.OwnMore
import Derived.Deep.DeepCutAuto
import Derived.Deep.Light
namespace Go.Proofs.Ytckdbbjeifindaa.NumK
open Go.RowKit

theorem and_m1 (b : Int) (h : -9223372036854775808 ≤ b ∧ b ≤ 9223372036854775807) : bits .and .i64 (-1) b = b := by
  have e1 : (BitVec.ofInt 64 (-1)) = BitVec.allOnes 64 := by decide
  show IntKind.i64.wrap ((BitVec.ofInt 64 (-1) &&& BitVec.ofInt 64 b).toNat : Int) = b
  rw [e1, BitVec.allOnes_and, BitVec.toNat_ofInt, IntKind.wrap_i64]
  omega
theorem and_zero (b : Int) : bits .and .i64 0 b = 0 := by
  show IntKind.i64.wrap ((BitVec.ofInt 64 0 &&& BitVec.ofInt 64 b).toNat : Int) = 0
  have e1 : (BitVec.ofInt 64 0) = 0#64 := by decide
  rw [e1, BitVec.zero_and]; rfl

theorem times_parts (a b : Int) (ha : -9223372036854775808 ≤ a ∧ a ≤ 9223372036854775807) (hb : -9223372036854775808 ≤ b ∧ b ≤ 9223372036854775807) :
    ∃ x y : Nat, IntKind.u64.wrap a = x ∧ IntKind.u64.wrap b = y ∧ x < 18446744073709551616 ∧ y < 18446744073709551616 ∧ ((x * y % 18446744073709551616 : Nat) : Int) = lo64 (a * b) ∧
      (a < 0 → b < 0 → ((x * y / 18446744073709551616 : Nat) : Int) = hi64 (a * b) + b + a + 18446744073709551616) ∧
      (a < 0 → ¬ b < 0 → ((x * y / 18446744073709551616 : Nat) : Int) = hi64 (a * b) + b) ∧
      (¬ a < 0 → b < 0 → ((x * y / 18446744073709551616 : Nat) : Int) = hi64 (a * b) + a) ∧
      (¬ a < 0 → ¬ b < 0 → ((x * y / 18446744073709551616 : Nat) : Int) = hi64 (a * b)) := by
  refine ⟨(IntKind.u64.wrap a).toNat, (IntKind.u64.wrap b).toNat, by rw [IntKind.wrap_u64]; omega, by rw [IntKind.wrap_u64]; omega, by rw [IntKind.wrap_u64]; omega, by rw [IntKind.wrap_u64]; omega, ?_⟩
  rw [IntKind.wrap_u64, IntKind.wrap_u64]
  obtain ⟨x, hx⟩ : ∃ x : Nat, (a % 18446744073709551616).toNat = x := ⟨_, rfl⟩
  obtain ⟨y, hy⟩ : ∃ x : Nat, (b % 18446744073709551616).toNat = x := ⟨_, rfl⟩
  rw [hx, hy]
  have hP : ((x * y : Nat) : Int) = (x : Int) * (y : Int) := Int.natCast_mul x y
  unfold hi64 lo64
  by_cases c1 : a < 0 <;> by_cases c2 : b < 0
  · have e1 : (x : Int) = a + 18446744073709551616 := by omega
    have e2 : (y : Int) = b + 18446744073709551616 := by omega
    rw [e1, e2, Int.add_mul, Int.mul_add, Int.mul_add] at hP
    generalize x * y = P at *
    generalize a * b = p at *
    omega
  · have e1 : (x : Int) = a + 18446744073709551616 := by omega
    have e2 : (y : Int) = b := by omega
    rw [e1, e2, Int.add_mul] at hP
    generalize x * y = P at *
    generalize a * b = p at *
    omega
  · have e1 : (x : Int) = a := by omega
    have e2 : (y : Int) = b + 18446744073709551616 := by omega
    rw [e1, e2, Int.mul_add] at hP
    generalize x * y = P at *
    generalize a * b = p at *
    omega
  · have e1 : (x : Int) = a := by omega
    have e2 : (y : Int) = b := by omega
    rw [e1, e2] at hP
    generalize x * y = P at *
    generalize a * b = p at *
    omega

set_option maxHeartbeats 1000000 in
theorem wtimes_any (a b : Int) (w : World) (ha : -9223372036854775808 ≤ a ∧ a ≤ 9223372036854775807) (hb : -9223372036854775808 ≤ b ∧ b ≤ 9223372036854775807) :
    Calls Try.prog 48 #[.int .i64 a, .int .i64 b] w fun e w' => e = .returned (.agg #[.int .i64 (hi64 (a * b)), .int .u64 (lo64 (a * b))]) ∧ Grew w w' := by
  obtain ⟨x, y, h1, h2, h3, h4, h5, q1, q2, q3, q4⟩ := times_parts a b ha hb
  have M := mul64_any x y h3 h4
  have C1 := fun w => sign_any a w ha
  have C2 := fun w => sign_any b w hb
  have HB : Hid (isWide (a * b) = true) := by
    obtain ⟨t1, t2, t3⟩ := times_arith a b ha hb
    show isWide (a * b) = true
    rw [isWide_iff]
    generalize a * b = p at *
    generalize a.natAbs * b.natAbs = P at *
    omega
  rw [h5] at M
  generalize ((x * y / 18446744073709551616 : Nat) : Int) = hp at *
  clear h3 h4 h5
  by_cases c1 : a < 0 <;> by_cases c2 : b < 0
  · have s1 : sgn a = -1 := sgn_neg c1
    have s2 : sgn b = -1 := sgn_neg c2
    rw [s1] at C1
    rw [s2] at C2
    have l1 : bits .and .i64 (-1) b = b := and_m1 b hb
    have l2 : bits .and .i64 (-1) a = a := and_m1 a ha
    have L := Lib.hid (q1 c1 c2)
    clear q1 q2 q3 q4 s1 s2 c1 c2
    go_enter Try.func48, Try.ntmps48
    go_wp2_with (first
      | (go_at_call 53; ((with_reducible refine (M _).mono ?_); rintro e w' ⟨rfl, rfl⟩))
      | (go_at_call 67; ((with_reducible refine (C1 _).mono ?_); rintro e w' ⟨rfl, rfl⟩))
      | (go_at_call 67; ((with_reducible refine (C2 _).mono ?_); rintro e w' ⟨rfl, rfl⟩)))
    exact bodyPost_ret (v := .agg #[.int .i64 (wrap64 (wrap64 (wrap64 hp - b) - a)), .int .u64 (lo64 (a * b))]) (by simp [results, Try.results48, go_sem]) rfl ⟨ret_wv (by have l := L.out; have h := hi_bounds _ HB.out; unfold wrap64; omega) rfl, grew_alloc _ _ _⟩
  · have s1 : sgn a = -1 := sgn_neg c1
    have s2 : sgn b = 0 := sgn_pos c2
    rw [s1] at C1
    rw [s2] at C2
    have l1 : bits .and .i64 (-1) b = b := and_m1 b hb
    have l2 : bits .and .i64 (0) a = 0 := and_zero a
    have L := Lib.hid (q2 c1 c2)
    clear q1 q2 q3 q4 s1 s2 c1 c2
    go_enter Try.func48, Try.ntmps48
    go_wp2_with (first
      | (go_at_call 53; ((with_reducible refine (M _).mono ?_); rintro e w' ⟨rfl, rfl⟩))
      | (go_at_call 67; ((with_reducible refine (C1 _).mono ?_); rintro e w' ⟨rfl, rfl⟩))
      | (go_at_call 67; ((with_reducible refine (C2 _).mono ?_); rintro e w' ⟨rfl, rfl⟩)))
    exact bodyPost_ret (v := .agg #[.int .i64 (wrap64 (wrap64 (wrap64 hp - b))), .int .u64 (lo64 (a * b))]) (by simp [results, Try.results48, go_sem]) rfl ⟨ret_wv (by have l := L.out; have h := hi_bounds _ HB.out; unfold wrap64; omega) rfl, grew_alloc _ _ _⟩
  · have s1 : sgn a = 0 := sgn_pos c1
    have s2 : sgn b = -1 := sgn_neg c2
    rw [s1] at C1
    rw [s2] at C2
    have l1 : bits .and .i64 (0) b = 0 := and_zero b
    have l2 : bits .and .i64 (-1) a = a := and_m1 a ha
    have L := Lib.hid (q3 c1 c2)
    clear q1 q2 q3 q4 s1 s2 c1 c2
    go_enter Try.func48, Try.ntmps48
    go_wp2_with (first
      | (go_at_call 53; ((with_reducible refine (M _).mono ?_); rintro e w' ⟨rfl, rfl⟩))
      | (go_at_call 67; ((with_reducible refine (C1 _).mono ?_); rintro e w' ⟨rfl, rfl⟩))
      | (go_at_call 67; ((with_reducible refine (C2 _).mono ?_); rintro e w' ⟨rfl, rfl⟩)))
    exact bodyPost_ret (v := .agg #[.int .i64 (wrap64 (wrap64 (wrap64 hp) - a)), .int .u64 (lo64 (a * b))]) (by simp [results, Try.results48, go_sem]) rfl ⟨ret_wv (by have l := L.out; have h := hi_bounds _ HB.out; unfold wrap64; omega) rfl, grew_alloc _ _ _⟩
  · have s1 : sgn a = 0 := sgn_pos c1
    have s2 : sgn b = 0 := sgn_pos c2
    rw [s1] at C1
    rw [s2] at C2
    have l1 : bits .and .i64 (0) b = 0 := and_zero b
    have l2 : bits .and .i64 (0) a = 0 := and_zero a
    have L := Lib.hid (q4 c1 c2)
    clear q1 q2 q3 q4 s1 s2 c1 c2
    go_enter Try.func48, Try.ntmps48
    go_wp2_with (first
      | (go_at_call 53; ((with_reducible refine (M _).mono ?_); rintro e w' ⟨rfl, rfl⟩))
      | (go_at_call 67; ((with_reducible refine (C1 _).mono ?_); rintro e w' ⟨rfl, rfl⟩))
      | (go_at_call 67; ((with_reducible refine (C2 _).mono ?_); rintro e w' ⟨rfl, rfl⟩)))
    exact bodyPost_ret (v := .agg #[.int .i64 (wrap64 (wrap64 (wrap64 hp))), .int .u64 (lo64 (a * b))]) (by simp [results, Try.results48, go_sem]) rfl ⟨ret_wv (by have l := L.out; have h := hi_bounds _ HB.out; unfold wrap64; omega) rfl, grew_alloc _ _ _⟩
end Go.Proofs.Ytckdbbjeifindaa.NumK
namespace Go.Proofs.Ytckdbbjeifindaa.NumK
open Go.RowKit

set_option maxHeartbeats 400000 in
theorem right_any (A : Option Addr) (n c : Nat) (zs : List Int) (w : World) (hz : Ints w A n zs) (hn : n ≤ 9223372036854775807) :
    Calls Try.prog 63 #[.slice A n c] w fun e w' => e = .returned (.bool (zs.all isMoney)) ∧ w = w' := by
  have HZ : Hid (Ints w A n zs) := hz
  clear hz
  go_enter Try.func63, Try.ntmps63
  go_wp2
  go_loop [7] (fun i => ∃ k : Nat, k ≤ n ∧ i = .int .i64 k ∧ Hid ((zs.take k).all isMoney = true)) (fun i => n - (intOf i).toNat)
  case atStart => exact ⟨0, Nat.zero_le _, rfl, by simp [Hid]⟩
  case round =>
    obtain ⟨k, hk, rfl, HK⟩ := hrel
    by_cases hlt : k < n
    · obtain ⟨b, o, rfl, _, hc⟩ := HZ.out.2 (by omega)
      have hcell := hc k hlt
      have hl := HZ.out.1
      have hs := all_take_succ zs k (by omega)
      have HS : Hid ((zs.take (k + 1)).all isMoney = isMoney (zs.getD k 0)) := by rw [hs, HK.out]; simp [Hid]
      clear hs hc hl
      generalize hy : zs.getD k 0 = y at *
      have HY : Hid (zs.getD k 0 = y) := hy
      clear hy
      by_cases h1 : y < -4611686018427387904
      · go_wp2
        go_ret
        exact ⟨ret_b (all_false zs k (by have := HZ.out.1; omega) y HY.out (by omega)), rfl⟩
      · by_cases h2 : 4611686018427387904 < y
        · go_wp2
          go_ret
          exact ⟨ret_b (all_false zs k (by have := HZ.out.1; omega) y HY.out (by omega)), rfl⟩
        · go_wp2
          go_round
          case rel => exact ⟨k + 1, by omega, by go_num, HS.out.trans ((isMoney_iff y).2 ⟨by omega, by omega⟩)⟩
          case measure => simp [intOf]; omega
    · have : k = n := by omega
      subst this
      go_wp2
      go_ret
      have h1 := HK.out
      rw [List.take_of_length_le (by have := HZ.out.1; omega)] at h1
      exact ⟨ret_b h1.symm, rfl⟩

end Go.Proofs.Ytckdbbjeifindaa.NumK
namespace Go.Proofs.Ytckdbbjeifindaa.NumK
open Go.RowKit

theorem add64 (x y c : Int) (hx : 0 ≤ x) (hy : 0 ≤ y) (hc0 : 0 ≤ c) (hc : c ≤ 1) (w : World) : (callFunc 51 #[.int .u64 x, .int .u64 y, .int .u64 c]).run Try.prog w =
    .ok (.value (.tuple #[.int .u64 ((x + y + c) % 18446744073709551616), .int .u64 ((x + y + c) / 18446744073709551616)])) w := by
  rw [run_callFunc_extern Try.func51 (by kernel_rfl) (by kernel_rfl) (by kernel_rfl) (e := add64Entry) (by kernel_rfl), run_add64 x y c hx hy hc0 hc]
  rfl
theorem add64_named (x y c s d : Int) (hx : 0 ≤ x) (hy : 0 ≤ y) (hc0 : 0 ≤ c) (hc : c ≤ 1) (hs : s = (x + y + c) % 18446744073709551616) (hd : d = (x + y + c) / 18446744073709551616) (w : World) :
    (callFunc 51 #[.int .u64 x, .int .u64 y, .int .u64 c]).run Try.prog w = .ok (.value (.tuple #[.int .u64 s, .int .u64 d])) w := by
  rw [hs, hd]; exact add64 x y c hx hy hc0 hc w
end Go.Proofs.Ytckdbbjeifindaa.NumK
namespace Go.Proofs.Ytckdbbjeifindaa.NumK
open Go.RowKit

/-! ### a slice of wides -/
def wcells (x : Int) : List Value := [.int .i64 (hi64 x), .int .u64 (lo64 x)]
def Wides (w : World) (A : Option Addr) (n : Nat) (xs : List Int) : Prop :=
  xs.length = n ∧ (0 < n → ∃ b o, A = some ⟨b, o, none⟩ ∧ b < w.heap.size ∧ ∀ j, j < n → w.cell? ⟨b, o + j * 2, none⟩ = some (.int .i64 (hi64 (xs.getD j 0))) ∧ w.cell? ⟨b, o + j * 2 + 1, none⟩ = some (.int .u64 (lo64 (xs.getD j 0))))

section
variable {w : World} {ops : Array Oper} {rest : List Oper} {o : Oper} {a : Act} {Q : Exit → Act → World → Prop}
end

end Go.Proofs.Ytckdbbjeifindaa.NumK
namespace Go.Proofs.Ytckdbbjeifindaa.NumK
open Go.RowKit

theorem Wides.keep {w w' : World} {A : Option Addr} {n : Nat} {xs : List Int} (h : Wides w A n xs) (g : Grew w w') : Wides w' A n xs :=
  ⟨h.1, fun hn => by
    obtain ⟨b, o, e, hb, hc⟩ := h.2 hn
    exact ⟨b, o, e, Nat.lt_of_lt_of_le hb g.size, fun j hj => ⟨(grew_cell g (p := ⟨b, o + j * 2, none⟩) hb).trans (hc j hj).1, (grew_cell g (p := ⟨b, o + j * 2 + 1, none⟩) hb).trans (hc j hj).2⟩⟩⟩

def wideE (x : Int) : Int := if isWide x then 0 else 1

end Go.Proofs.Ytckdbbjeifindaa.NumK
namespace Go.Proofs.Ytckdbbjeifindaa.NumK
open Go.RowKit
set_option linter.unusedVariables false

/-- A block of the call's own: N cells that may be written. -/
def Slab (w : World) (g N : Nat) : Prop := g < w.heap.size ∧ ∀ k, k < N → (∃ v, w.cell? ⟨g, k, none⟩ = some v) ∧ w.frozen? ⟨g, k, none⟩ = false
theorem Slab.keep {w w' : World} {g N : Nat} (h : Slab w g N) (r : Grew w w') : Slab w' g N :=
  ⟨Nat.lt_of_lt_of_le h.1 r.size, fun k hk => by
    obtain ⟨⟨v, hv⟩, hf⟩ := h.2 k hk
    exact ⟨⟨v, (grew_cell r (p := ⟨g, k, none⟩) h.1).trans hv⟩, (Below.frozen r (p := ⟨g, k, none⟩) h.1).trans hf⟩⟩
theorem Slab.set {w : World} {g N : Nat} (h : Slab w g N) (b k : Nat) (x : Value) : Slab (w.setCell ⟨b, k, none⟩ x) g N :=
  ⟨by simpa [World.setCell] using h.1, fun i hi => by
    obtain ⟨⟨v, hv⟩, hf⟩ := h.2 i hi
    refine ⟨?_, by rw [World.frozen?_setCell]; exact hf⟩
    by_cases e : (⟨b, k, none⟩ : Addr) = ⟨g, i, none⟩
    · rw [e]; exact ⟨x, World.cell?_setCell_same _ _ _ hv⟩
    · exact ⟨v, by rw [World.cell?_setCell_other _ _ _ _ e]; exact hv⟩⟩
theorem OwnE.slab {α : Type} {E : En α} {w : World} {base : Nat} {t : TypeId} {v : Value} {l : List α} (h : OwnE E w base t v l) :
    ∃ A c, v = .slice A l.length c ∧ (l.length = 0 ∨ ∃ g, A = some ⟨g, 0, none⟩ ∧ base ≤ g ∧ Slab w g (l.length * E.size)) := by
  obtain ⟨hl, h⟩ := h
  rcases h with ⟨rfl, h0⟩ | ⟨g, cap, cur, rfl, hb, hh, hc, hm, hs, ht⟩
  · rw [h0]; exact ⟨none, 0, rfl, Or.inl rfl⟩
  · refine ⟨some ⟨g, 0, none⟩, cap, rfl, Or.inr ⟨g, rfl, hb, ?_, fun k hk => ⟨?_, ?_⟩⟩⟩
    · rcases Nat.lt_or_ge g w.heap.size with h1 | h1
      · exact h1
      · rw [Array.getElem?_eq_none h1] at hh; cases hh
    · rw [cell_of_row w g _ cur t (0, 0) hh]
      have hlt : k < cur.toList.length := by
        have e1 : (cur.toList.take (l.length * E.size)).length = l.length * E.size := by rw [ht, E.flat_len]
        rw [List.length_take] at e1; omega
      rw [← Array.getElem?_toList, List.getElem?_eq_getElem hlt]
      exact ⟨_, rfl⟩
    · unfold World.frozen?
      simp [hh]


/-! ### what has been mapped so far -/
def preL {α : Type} (f : α → α) (l : List α) (j : Nat) : List α := (l.take j).map f ++ l.drop j
end Go.Proofs.Ytckdbbjeifindaa.NumK
namespace Go.Proofs.Ytckdbbjeifindaa.NumK
open Go.RowKit

end Go.Proofs.Ytckdbbjeifindaa.NumK
namespace Go.Proofs.Ytckdbbjeifindaa.NumK
open Go.RowKit

theorem mag_any (n : Int) (w : World) (h : -9223372036854775808 ≤ n ∧ n ≤ 9223372036854775807) :
    Calls Try.prog 54 #[.int .i64 n] w fun e w' => e = .returned (.int .u64 (n.natAbs : Int)) ∧ w = w' := by
  by_cases c : n < 0
  · have e : IntKind.u64.wrap (-IntKind.u64.wrap n) = (n.natAbs : Int) := by rw [IntKind.wrap_u64, IntKind.wrap_u64]; omega
    have E := Lib.hid e
    clear e
    go_enter Try.func54, Try.ntmps54
    go_wp2
    go_ret
    exact ⟨ret_i E.out, rfl⟩
  · have e : (n.natAbs : Int) = n := by omega
    have E := Lib.hid e
    clear e
    go_enter Try.func54, Try.ntmps54
    go_wp2
    go_ret
    exact ⟨ret_i E.out.symm, rfl⟩

set_option maxRecDepth 100000 in
/-- turned round; not of the least one. -/
theorem neg_any (x : Int) (w : World) (h : isWide x = true) (h2 : isWide (-x) = true) :
    Calls Try.prog 55 #[(.agg #[.int .i64 (hi64 (x)), .int .u64 (lo64 (x))])] w fun e w' => e = .returned (.agg #[.int .i64 (hi64 (-x)), .int .u64 (lo64 (-x))]) ∧ Grew w w' := by
  have b1 := lo_bounds x
  have b2 := hi_bounds x h
  have b3 := hi_bounds (-x) h2
  have ex := w_eq x
  obtain ⟨s1, hs1⟩ : ∃ s, s = (18446744073709551615 - lo64 x + 1 + 0) % 18446744073709551616 := ⟨_, rfl⟩
  obtain ⟨d1, hd1⟩ : ∃ s, s = (18446744073709551615 - lo64 x + 1 + 0) / 18446744073709551616 := ⟨_, rfl⟩
  have A1 := add64_named (18446744073709551615 - lo64 x) 1 0 s1 d1 (by omega) (by omega) (by omega) (by omega) hs1 hd1
  have ew : 0 ≤ IntKind.u64.wrap (hi64 x) ∧ IntKind.u64.wrap (hi64 x) < 18446744073709551616 ∧ (IntKind.u64.wrap (hi64 x) = hi64 x ∨ IntKind.u64.wrap (hi64 x) = hi64 x + 18446744073709551616) := by rw [IntKind.wrap_u64]; omega
  obtain ⟨s2, hs2⟩ : ∃ s, s = (18446744073709551615 - IntKind.u64.wrap (hi64 x) + 0 + d1) % 18446744073709551616 := ⟨_, rfl⟩
  obtain ⟨d2, hd2⟩ : ∃ s, s = (18446744073709551615 - IntKind.u64.wrap (hi64 x) + 0 + d1) / 18446744073709551616 := ⟨_, rfl⟩
  have A2 := add64_named (18446744073709551615 - IntKind.u64.wrap (hi64 x)) 0 d1 s2 d2 (by omega) (by omega) (by omega) (by omega) hs2 hd2
  have b4 := (isWide_iff (-x)).1 h2
  have E := w_unique (-x) (IntKind.i64.wrap s2) s1 (by rw [IntKind.wrap_i64]; omega) (by omega) (by omega)
  have E1 := Lib.hid E.1.symm
  have E2 := Lib.hid E.2.symm
  have N1 := not_u64 (lo64 x) (by omega) (by omega)
  have N2 := not_u64 (IntKind.u64.wrap (hi64 x)) (by omega) (by omega)
  generalize eh : IntKind.u64.wrap (hi64 x) = hw at *
  clear hs1 hd1 hs2 hd2 ew E b3 ex b2 b1 b4
  generalize lo64 x = l at *
  generalize hi64 x = hh at *
  clear h h2
  go_enter Try.func55, Try.ntmps55
  go_wp2_with (first | simp only [A1] | simp only [A2])
  exact bodyPost_ret (v := .agg #[.int .i64 (wrap64 s2), .int .u64 s1]) (by simp [results, Try.results55, go_sem]) rfl ⟨ret_wv ((IntWalk.i64_left s2).symm.trans E1.out) E2.out, grew_trans (grew_alloc _ _ _) (grew_alloc _ _ _)⟩




set_option maxHeartbeats 1000000 in
theorem refTimes_any (a b : Int) (w : World) (ha : -9223372036854775808 ≤ a ∧ a ≤ 9223372036854775807) (hb : -9223372036854775808 ≤ b ∧ b ≤ 9223372036854775807) :
    Calls Try.prog 26 #[.int .i64 a, .int .i64 b] w fun e w' => e = .returned (.agg #[.int .i64 (hi64 (a * b)), .int .u64 (lo64 (a * b))]) ∧ Grew w w' := by
  have m1 := fun w => mag_any a w ha
  have m2 := fun w => mag_any b w hb
  have M := mul64_any a.natAbs b.natAbs (by omega) (by omega)
  obtain ⟨t1, t2, t3⟩ := times_arith a b ha hb
  generalize hP : a.natAbs * b.natAbs = P at *
  have e1 : ((P / 18446744073709551616 : Nat) : Int) = hi64 (P : Int) := by unfold hi64; omega
  have e2 : ((P % 18446744073709551616 : Nat) : Int) = lo64 (P : Int) := by unfold lo64; omega
  rw [e1, e2] at M
  have N := fun w => neg_any (P : Int) w ((isWide_iff _).2 (by omega)) ((isWide_iff _).2 (by omega))
  have g1 : 0 ≤ hi64 (P : Int) ∧ hi64 (P : Int) ≤ 4611686018427387904 := by unfold hi64; omega
  obtain ⟨g1, g2⟩ := g1
  have T2 := Lib.hid t2
  have T3 := Lib.hid t3
  clear t1 t2 t3 e1 e2 hP
  by_cases s1 : a < 0 <;> by_cases s2 : b < 0
  · have d1 : decide (a < 0) = true := by simpa using s1
    have d2 : decide (b < 0) = true := by simpa using s2
    go_enter Try.func26, Try.ntmps26
    go_wp2_with (first
      | (go_at_call 54; ((with_reducible refine (m1 _).mono ?_); rintro e w' ⟨rfl, rfl⟩))
      | (go_at_call 54; ((with_reducible refine (m2 _).mono ?_); rintro e w' ⟨rfl, rfl⟩))
      | (go_at_call 53; ((with_reducible refine (M _).mono ?_); rintro e w' ⟨rfl, rfl⟩))
      | (go_at_call 55; ((with_reducible refine (N _).mono ?_); rintro e w1 ⟨rfl, hg1⟩)))
    exact bodyPost_ret (v := (.agg #[.int .i64 (hi64 ((P : Int))), .int .u64 (lo64 ((P : Int)))])) (by simp [results, Try.results26, go_sem]) rfl ⟨ret_wv (by rw [T2.out (by omega)]) (by rw [T2.out (by omega)]), grew_trans (grew_alloc _ _ _) (grew_alloc _ _ _)⟩
  · have d1 : decide (a < 0) = true := by simpa using s1
    have d2 : decide (b < 0) = false := by simpa using s2
    go_enter Try.func26, Try.ntmps26
    go_wp2_with (first
      | (go_at_call 54; ((with_reducible refine (m1 _).mono ?_); rintro e w' ⟨rfl, rfl⟩))
      | (go_at_call 54; ((with_reducible refine (m2 _).mono ?_); rintro e w' ⟨rfl, rfl⟩))
      | (go_at_call 53; ((with_reducible refine (M _).mono ?_); rintro e w' ⟨rfl, rfl⟩))
      | (go_at_call 55; ((with_reducible refine (N _).mono ?_); rintro e w1 ⟨rfl, hg1⟩; have k0 := own_cells hg1; obtain ⟨k1, k2, k3, k4, k5⟩ := k0)))
    have hz := own_grew hg1
    exact bodyPost_ret (v := (.agg #[.int .i64 (hi64 (-(P : Int))), .int .u64 (lo64 (-(P : Int)))])) (by simp [results, Try.results26, go_sem, k1, k2]) rfl ⟨ret_wv (by rw [T3.out (by omega)]) (by rw [T3.out (by omega)]), grew_set (grew_set hz _ (Nat.le_refl _)) _ (Nat.le_refl _)⟩
  · have d1 : decide (a < 0) = false := by simpa using s1
    have d2 : decide (b < 0) = true := by simpa using s2
    go_enter Try.func26, Try.ntmps26
    go_wp2_with (first
      | (go_at_call 54; ((with_reducible refine (m1 _).mono ?_); rintro e w' ⟨rfl, rfl⟩))
      | (go_at_call 54; ((with_reducible refine (m2 _).mono ?_); rintro e w' ⟨rfl, rfl⟩))
      | (go_at_call 53; ((with_reducible refine (M _).mono ?_); rintro e w' ⟨rfl, rfl⟩))
      | (go_at_call 55; ((with_reducible refine (N _).mono ?_); rintro e w1 ⟨rfl, hg1⟩; have k0 := own_cells hg1; obtain ⟨k1, k2, k3, k4, k5⟩ := k0)))
    have hz := own_grew hg1
    exact bodyPost_ret (v := (.agg #[.int .i64 (hi64 (-(P : Int))), .int .u64 (lo64 (-(P : Int)))])) (by simp [results, Try.results26, go_sem, k1, k2]) rfl ⟨ret_wv (by rw [T3.out (by omega)]) (by rw [T3.out (by omega)]), grew_set (grew_set hz _ (Nat.le_refl _)) _ (Nat.le_refl _)⟩
  · have d1 : decide (a < 0) = false := by simpa using s1
    have d2 : decide (b < 0) = false := by simpa using s2
    go_enter Try.func26, Try.ntmps26
    go_wp2_with (first
      | (go_at_call 54; ((with_reducible refine (m1 _).mono ?_); rintro e w' ⟨rfl, rfl⟩))
      | (go_at_call 54; ((with_reducible refine (m2 _).mono ?_); rintro e w' ⟨rfl, rfl⟩))
      | (go_at_call 53; ((with_reducible refine (M _).mono ?_); rintro e w' ⟨rfl, rfl⟩))
      | (go_at_call 55; ((with_reducible refine (N _).mono ?_); rintro e w1 ⟨rfl, hg1⟩)))
    exact bodyPost_ret (v := (.agg #[.int .i64 (hi64 ((P : Int))), .int .u64 (lo64 ((P : Int)))])) (by simp [results, Try.results26, go_sem]) rfl ⟨ret_wv (by rw [T2.out (by omega)]) (by rw [T2.out (by omega)]), grew_trans (grew_alloc _ _ _) (grew_alloc _ _ _)⟩
end Go.Proofs.Ytckdbbjeifindaa.NumK
