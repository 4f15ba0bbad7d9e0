/- Contracts of package wide: Sum. -/
import Derived.Test.YtahioajpmlochaaGreatRH3
import Derived.Lib.BitFns
import Derived.Deep.QuietTactic
import Derived.BigQuiet
import Derived.Deep.DeepCutAuto
import Derived.Deep.Light
import Derived.Deep.CutBlock
import Derived.Laws.Externs
import Derived.Test.YtahioajpmlochaaGreatRH1
namespace Go.Proofs.YtahioajpmlochaaGreat.NumK
open Go.RowKit

theorem Wides.keep {w w' : World} {A : Option Addr} {n : Nat} {xs : List Int} (h : Wides w A n xs) (g : Grew w w') : Wides w' A n xs :=
  ⟨h.1, fun hn => by
    obtain ⟨b, o, e, hb, hc⟩ := h.2 hn
    exact ⟨b, o, e, Nat.lt_of_lt_of_le hb g.size, fun j hj => ⟨(grew_cell g (p := ⟨b, o + j * 2, none⟩) hb).trans (hc j hj).1, (grew_cell g (p := ⟨b, o + j * 2 + 1, none⟩) hb).trans (hc j hj).2⟩⟩⟩

def wideE (x : Int) : Int := if isWide x then 0 else 1

/-- The block of its own that a call laid first stands as it was. -/
theorem own_first {w w1 : World} {v0 v1 : Value} {t : TypeId} (h : Grew (w.alloc (.cells #[v0, v1] t)) w1) :
    w1.cell? ⟨w.heap.size, 0, none⟩ = some v0 ∧ w1.cell? ⟨w.heap.size, 1, none⟩ = some v1 ∧ w1.frozen? ⟨w.heap.size, 0, none⟩ = false ∧ w1.frozen? ⟨w.heap.size, 1, none⟩ = false ∧ w.heap.size < w1.heap.size := by
  have hs := h.size
  have hl : w.heap.size < (w.alloc (.cells #[v0, v1] t)).heap.size := by simp
  exact ⟨(Below.cell h (p := ⟨w.heap.size, 0, none⟩) hl).trans (by simp), (Below.cell h (p := ⟨w.heap.size, 1, none⟩) hl).trans (by simp),
    (Below.frozen h (p := ⟨w.heap.size, 0, none⟩) hl).trans (by simp), (Below.frozen h (p := ⟨w.heap.size, 1, none⟩) hl).trans (by simp), by omega⟩

theorem ret_we {x a b : Int} {p q : Int} (h1 : a = hi64 x) (h2 : b = lo64 x) (h3 : p = q) : Ending.returned (.tuple #[.agg #[.int .i64 a, .int .u64 b], .int .i64 p]) = .returned (.tuple #[(.agg #[.int .i64 (hi64 (x)), .int .u64 (lo64 (x))]), .int .i64 q]) := by rw [h1, h2, h3]

set_option maxRecDepth 100000 in
set_option maxHeartbeats 2000000 in
theorem wsum_any (A : Option Addr) (n c : Nat) (xs : List Int) (w : World) (hz : Wides w A n xs) (hw : ∀ x ∈ xs, isWide x = true) (hn : n ≤ 1000000) :
    Calls Tryz.prog 88 #[.slice A n c] w fun e w' => e = .returned (.tuple #[(.agg #[.int .i64 (hi64 (wsV xs.sum)), .int .u64 (lo64 (wsV xs.sum))]), .int .i64 (wideE xs.sum)]) ∧ Grew w w' := by
  have HZ := Lib.hid hz
  have HW := Lib.hid hw
  clear hz hw
  go_enter Tryz.func88, Tryz.ntmps88
  go_wp2
  go_loopw [4, 5, 6, 12] (fun t h l i wr => ∃ (k : Nat) (T H L : Int), k ≤ n ∧ i = .int .i64 k ∧ t = .int .i64 T ∧ h = .int .u64 H ∧ l = .int .u64 L ∧ Hid (T * 340282366920938463463374607431768211456 + H * 18446744073709551616 + L = (xs.take k).sum) ∧
      0 ≤ H ∧ H < 18446744073709551616 ∧ 0 ≤ L ∧ L < 18446744073709551616 ∧ -(k : Int) ≤ T ∧ T ≤ k ∧ Hid (Grew (w.alloc (.cells #[.int .i64 0, .int .u64 0] 84)) wr)) (fun _ _ _ i _ => n - (intOf i).toNat)
  case atStart => exact ⟨0, 0, 0, 0, Nat.zero_le _, rfl, rfl, rfl, rfl, rfl, by omega, by omega, by omega, by omega, by omega, by omega, grew_refl _⟩
  case round =>
    obtain ⟨k, T, H, L, hk, rfl, rfl, rfl, rfl, HS, h0, h1, l0, l1, t0, t1, HG⟩ := hrel
    by_cases hlt : k < n
    · obtain ⟨b, o, rfl, hb, hc⟩ := (HZ.out.keep (grew_trans (grew_alloc _ _ _) HG.out)).2 (by omega)
      obtain ⟨hc0, hc1⟩ := hc k hlt
      have hst := sum_take_succ xs k (by have := HZ.out.1; omega)
      have hwx : isWide (xs.getD k 0) = true := HW.out _ (by rw [List.getD_eq_getElem?_getD, List.getElem?_eq_getElem (by have := HZ.out.1; omega)]; exact List.getElem_mem _)
      generalize xs.getD k 0 = x at *
      have bx := lo_bounds x
      have bh := hi_bounds x hwx
      have ex := w_eq x
      have CS := fun w => sign_any (hi64 x) w bh
      have bs : (hi64 x < 0 → sgn (hi64 x) = -1) ∧ (¬ hi64 x < 0 → sgn (hi64 x) = 0) := ⟨sgn_neg, sgn_pos⟩
      generalize sgn (hi64 x) = sg at *
      obtain ⟨s1, hs1⟩ : ∃ s, s = (L + lo64 x + 0) % 18446744073709551616 := ⟨_, rfl⟩
      obtain ⟨d1, hd1⟩ : ∃ s, s = (L + lo64 x + 0) / 18446744073709551616 := ⟨_, rfl⟩
      have A1 := add64_named L (lo64 x) 0 s1 d1 (by omega) (by omega) (by omega) (by omega) hs1 hd1
      have ew : 0 ≤ IntKind.u64.wrap (hi64 x) ∧ IntKind.u64.wrap (hi64 x) < 18446744073709551616 ∧ (hi64 x < 0 → IntKind.u64.wrap (hi64 x) = hi64 x + 18446744073709551616) ∧ (0 ≤ hi64 x → IntKind.u64.wrap (hi64 x) = hi64 x) := by rw [IntKind.wrap_u64]; omega
      obtain ⟨s2, hs2⟩ : ∃ s, s = (H + IntKind.u64.wrap (hi64 x) + d1) % 18446744073709551616 := ⟨_, rfl⟩
      obtain ⟨d2, hd2⟩ : ∃ s, s = (H + IntKind.u64.wrap (hi64 x) + d1) / 18446744073709551616 := ⟨_, rfl⟩
      have A2 := add64_named H (IntKind.u64.wrap (hi64 x)) d1 s2 d2 (by omega) (by omega) (by omega) (by omega) hs2 hd2
      have f1 : 0 ≤ s1 ∧ s1 < 18446744073709551616 := by omega
      have f2 : 0 ≤ s2 ∧ s2 < 18446744073709551616 := by omega
      have f3 : 0 ≤ d2 ∧ d2 ≤ 1 := by omega
      have f4 : -1 ≤ sg ∧ sg ≤ 0 := by omega
      have HN : Hid ((T + (sg + d2)) * 340282366920938463463374607431768211456 + s2 * 18446744073709551616 + s1 = (xs.take (k + 1)).sum) := by
        have := HS.out
        show _ = _
        rw [hst]
        by_cases c : hi64 x < 0
        · have := bs.1 c; have := ew.2.2.1 c; omega
        · have := bs.2 c; have := ew.2.2.2 (by omega); omega
      generalize eh : IntKind.u64.wrap (hi64 x) = hw at *
      clear hst hwx bx bh ex ew hs1 hd1 hs2 hd2 hc bs
      generalize hi64 x = hh at *
      generalize lo64 x = ll at *
      obtain ⟨f1, f2'⟩ := f1
      obtain ⟨f3', f4'⟩ := f2
      obtain ⟨f5, f6⟩ := f3
      obtain ⟨f7, f8⟩ := f4
      go_wp2_with (first | (go_at_call 89; refine (CS _).mono ?_; rintro e w1 ⟨rfl, rfl⟩) | rw [A1] | rw [A2])
      go_roundw
      case rel => exact ⟨k + 1, T + (sg + d2), s2, s1, by omega, by go_num, by go_num, rfl, rfl, HN, by omega, by omega, by omega, by omega, by omega, by omega, grew_trans HG.out (grew_alloc _ _ _)⟩
      case measure => simp [intOf]; omega
    · have hkn : k = n := by omega
      subst hkn
      have ht : xs.take k = xs := List.take_of_length_le (by have := HZ.out.1; omega)
      have hS := HS.out
      rw [ht] at hS
      have hwr : wrap64 H = if H < 9223372036854775808 then H else H - 18446744073709551616 := by unfold wrap64; split <;> omega
      have hwb : -9223372036854775808 ≤ wrap64 H ∧ wrap64 H ≤ 9223372036854775807 := by rw [hwr]; split <;> omega
      have hsg : sgn (wrap64 H) = if H < 9223372036854775808 then 0 else -1 := by rw [hwr]; split <;> (unfold sgn; split <;> omega)
      have hwid : isWide xs.sum = true ↔ T = sgn (wrap64 H) := by rw [hsg, isWide_iff]; split <;> omega
      have hval : T = sgn (wrap64 H) → wrap64 H = hi64 xs.sum ∧ L = lo64 xs.sum := fun h => by
        rw [hsg] at h
        have := w_unique xs.sum (wrap64 H) L (by rw [hwr]; split at h <;> (split <;> omega)) l0 l1
        exact ⟨this.1.symm, this.2.symm⟩
      have hz0 : (0 : Int) = hi64 0 ∧ (0 : Int) = lo64 0 := by decide
      have CS := fun w => sign_any (wrap64 H) w hwb
      have HD := Lib.hid hwid
      have HV := Lib.hid hval
      have HZ0 := Lib.hid hz0
      obtain ⟨o1, o2, o3, o4, o5⟩ := own_first HG.out
      have GF := Lib.hid (grew_trans (grew_alloc _ _ _) HG.out)
      clear ht hS hwr hwid hval hz0 hlt t0 t1 h0 h1 l0 l1 hwb hsg
      generalize eg : wrap64 H = g at *
      generalize sgn g = sg at *
      by_cases c1 : T = sg
      · subst c1
        have Y := Lib.hid (HD.out.2 rfl)
        have V := Lib.hid (HV.out rfl)
        go_wp2_with (go_at_call 89; refine (CS _).mono ?_; rintro e w1 ⟨rfl, rfl⟩)
        exact bodyPost_ret (v := .tuple #[.agg #[.int .i64 g, .int .u64 L], .int .i64 0]) (by simp [results, Tryz.results88, go_sem, o1, o2]) rfl ⟨ret_we (by rw [wsV, if_pos Y.out]; exact V.out.1) (by rw [wsV, if_pos Y.out]; exact V.out.2) (by rw [wideE, if_pos Y.out]), grew_set (grew_set GF.out _ (Nat.le_refl _)) _ (Nat.le_refl _)⟩
      · have Y : Hid (isWide xs.sum = false) := by show _ = _; rw [← Bool.not_eq_true, HD.out]; exact c1
        have d1 : (T != sg) = true := by simpa using c1
        clear c1
        go_wp2_with (go_at_call 89; refine (CS _).mono ?_; rintro e w1 ⟨rfl, rfl⟩)
        exact bodyPost_ret (v := .tuple #[.agg #[.int .i64 0, .int .u64 0], .int .i64 1]) (by simp [results, Tryz.results88, go_sem, o1, o2]) rfl ⟨ret_we (by rw [wsV, Y.out]; exact HZ0.out.1) (by rw [wsV, Y.out]; exact HZ0.out.2) (by rw [wideE, Y.out]; rfl), grew_set (grew_set GF.out _ (Nat.le_refl _)) _ (Nat.le_refl _)⟩
end Go.Proofs.YtahioajpmlochaaGreat.NumK
namespace Go.Proofs.YtahioajpmlochaaGreat.NumK
open Go.RowKit

theorem and_m1 (b : Int) (h : -9223372036854775808 ≤ b ∧ b ≤ 9223372036854775807) : bits .and .i64 (-1) b = b := by
  have e1 : (BitVec.ofInt 64 (-1)) = BitVec.allOnes 64 := by decide
  show IntKind.i64.wrap ((BitVec.ofInt 64 (-1) &&& BitVec.ofInt 64 b).toNat : Int) = b
  rw [e1, BitVec.allOnes_and, BitVec.toNat_ofInt, IntKind.wrap_i64]
  omega
theorem and_zero (b : Int) : bits .and .i64 0 b = 0 := by
  show IntKind.i64.wrap ((BitVec.ofInt 64 0 &&& BitVec.ofInt 64 b).toNat : Int) = 0
  have e1 : (BitVec.ofInt 64 0) = 0#64 := by decide
  rw [e1, BitVec.zero_and]; rfl

theorem times_parts (a b : Int) (ha : -9223372036854775808 ≤ a ∧ a ≤ 9223372036854775807) (hb : -9223372036854775808 ≤ b ∧ b ≤ 9223372036854775807) :
    ∃ x y : Nat, IntKind.u64.wrap a = x ∧ IntKind.u64.wrap b = y ∧ x < 18446744073709551616 ∧ y < 18446744073709551616 ∧ ((x * y % 18446744073709551616 : Nat) : Int) = lo64 (a * b) ∧
      (a < 0 → b < 0 → ((x * y / 18446744073709551616 : Nat) : Int) = hi64 (a * b) + b + a + 18446744073709551616) ∧
      (a < 0 → ¬ b < 0 → ((x * y / 18446744073709551616 : Nat) : Int) = hi64 (a * b) + b) ∧
      (¬ a < 0 → b < 0 → ((x * y / 18446744073709551616 : Nat) : Int) = hi64 (a * b) + a) ∧
      (¬ a < 0 → ¬ b < 0 → ((x * y / 18446744073709551616 : Nat) : Int) = hi64 (a * b)) := by
  refine ⟨(IntKind.u64.wrap a).toNat, (IntKind.u64.wrap b).toNat, by rw [IntKind.wrap_u64]; omega, by rw [IntKind.wrap_u64]; omega, by rw [IntKind.wrap_u64]; omega, by rw [IntKind.wrap_u64]; omega, ?_⟩
  rw [IntKind.wrap_u64, IntKind.wrap_u64]
  obtain ⟨x, hx⟩ : ∃ x : Nat, (a % 18446744073709551616).toNat = x := ⟨_, rfl⟩
  obtain ⟨y, hy⟩ : ∃ x : Nat, (b % 18446744073709551616).toNat = x := ⟨_, rfl⟩
  rw [hx, hy]
  have hP : ((x * y : Nat) : Int) = (x : Int) * (y : Int) := Int.natCast_mul x y
  unfold hi64 lo64
  by_cases c1 : a < 0 <;> by_cases c2 : b < 0
  · have e1 : (x : Int) = a + 18446744073709551616 := by omega
    have e2 : (y : Int) = b + 18446744073709551616 := by omega
    rw [e1, e2, Int.add_mul, Int.mul_add, Int.mul_add] at hP
    generalize x * y = P at *
    generalize a * b = p at *
    omega
  · have e1 : (x : Int) = a + 18446744073709551616 := by omega
    have e2 : (y : Int) = b := by omega
    rw [e1, e2, Int.add_mul] at hP
    generalize x * y = P at *
    generalize a * b = p at *
    omega
  · have e1 : (x : Int) = a := by omega
    have e2 : (y : Int) = b + 18446744073709551616 := by omega
    rw [e1, e2, Int.mul_add] at hP
    generalize x * y = P at *
    generalize a * b = p at *
    omega
  · have e1 : (x : Int) = a := by omega
    have e2 : (y : Int) = b := by omega
    rw [e1, e2] at hP
    generalize x * y = P at *
    generalize a * b = p at *
    omega

set_option maxHeartbeats 1000000 in
theorem wtimes_any (a b : Int) (w : World) (ha : -9223372036854775808 ≤ a ∧ a ≤ 9223372036854775807) (hb : -9223372036854775808 ≤ b ∧ b ≤ 9223372036854775807) :
    Calls Tryz.prog 68 #[.int .i64 a, .int .i64 b] w fun e w' => e = .returned (.agg #[.int .i64 (hi64 (a * b)), .int .u64 (lo64 (a * b))]) ∧ Grew w w' := by
  obtain ⟨x, y, h1, h2, h3, h4, h5, q1, q2, q3, q4⟩ := times_parts a b ha hb
  have M := mul64_any x y h3 h4
  have C1 := fun w => sign_any a w ha
  have C2 := fun w => sign_any b w hb
  have HB : Hid (isWide (a * b) = true) := by
    obtain ⟨t1, t2, t3⟩ := times_arith a b ha hb
    show isWide (a * b) = true
    rw [isWide_iff]
    generalize a * b = p at *
    generalize a.natAbs * b.natAbs = P at *
    omega
  rw [h5] at M
  generalize ((x * y / 18446744073709551616 : Nat) : Int) = hp at *
  clear h3 h4 h5
  by_cases c1 : a < 0 <;> by_cases c2 : b < 0
  · have s1 : sgn a = -1 := sgn_neg c1
    have s2 : sgn b = -1 := sgn_neg c2
    rw [s1] at C1
    rw [s2] at C2
    have l1 : bits .and .i64 (-1) b = b := and_m1 b hb
    have l2 : bits .and .i64 (-1) a = a := and_m1 a ha
    have L := Lib.hid (q1 c1 c2)
    clear q1 q2 q3 q4 s1 s2 c1 c2
    go_enter Tryz.func68, Tryz.ntmps68
    go_wp2_with (first
      | (go_at_call 43; ((with_reducible refine (M _).mono ?_); rintro e w' ⟨rfl, rfl⟩))
      | (go_at_call 89; ((with_reducible refine (C1 _).mono ?_); rintro e w' ⟨rfl, rfl⟩))
      | (go_at_call 89; ((with_reducible refine (C2 _).mono ?_); rintro e w' ⟨rfl, rfl⟩)))
    exact bodyPost_ret (v := .agg #[.int .i64 (wrap64 (wrap64 (wrap64 hp - b) - a)), .int .u64 (lo64 (a * b))]) (by simp [results, Tryz.results68, go_sem]) rfl ⟨ret_wv (by have l := L.out; have h := hi_bounds _ HB.out; unfold wrap64; omega) rfl, grew_alloc _ _ _⟩
  · have s1 : sgn a = -1 := sgn_neg c1
    have s2 : sgn b = 0 := sgn_pos c2
    rw [s1] at C1
    rw [s2] at C2
    have l1 : bits .and .i64 (-1) b = b := and_m1 b hb
    have l2 : bits .and .i64 (0) a = 0 := and_zero a
    have L := Lib.hid (q2 c1 c2)
    clear q1 q2 q3 q4 s1 s2 c1 c2
    go_enter Tryz.func68, Tryz.ntmps68
    go_wp2_with (first
      | (go_at_call 43; ((with_reducible refine (M _).mono ?_); rintro e w' ⟨rfl, rfl⟩))
      | (go_at_call 89; ((with_reducible refine (C1 _).mono ?_); rintro e w' ⟨rfl, rfl⟩))
      | (go_at_call 89; ((with_reducible refine (C2 _).mono ?_); rintro e w' ⟨rfl, rfl⟩)))
    exact bodyPost_ret (v := .agg #[.int .i64 (wrap64 (wrap64 (wrap64 hp - b))), .int .u64 (lo64 (a * b))]) (by simp [results, Tryz.results68, go_sem]) rfl ⟨ret_wv (by have l := L.out; have h := hi_bounds _ HB.out; unfold wrap64; omega) rfl, grew_alloc _ _ _⟩
  · have s1 : sgn a = 0 := sgn_pos c1
    have s2 : sgn b = -1 := sgn_neg c2
    rw [s1] at C1
    rw [s2] at C2
    have l1 : bits .and .i64 (0) b = 0 := and_zero b
    have l2 : bits .and .i64 (-1) a = a := and_m1 a ha
    have L := Lib.hid (q3 c1 c2)
    clear q1 q2 q3 q4 s1 s2 c1 c2
    go_enter Tryz.func68, Tryz.ntmps68
    go_wp2_with (first
      | (go_at_call 43; ((with_reducible refine (M _).mono ?_); rintro e w' ⟨rfl, rfl⟩))
      | (go_at_call 89; ((with_reducible refine (C1 _).mono ?_); rintro e w' ⟨rfl, rfl⟩))
      | (go_at_call 89; ((with_reducible refine (C2 _).mono ?_); rintro e w' ⟨rfl, rfl⟩)))
    exact bodyPost_ret (v := .agg #[.int .i64 (wrap64 (wrap64 (wrap64 hp) - a)), .int .u64 (lo64 (a * b))]) (by simp [results, Tryz.results68, go_sem]) rfl ⟨ret_wv (by have l := L.out; have h := hi_bounds _ HB.out; unfold wrap64; omega) rfl, grew_alloc _ _ _⟩
  · have s1 : sgn a = 0 := sgn_pos c1
    have s2 : sgn b = 0 := sgn_pos c2
    rw [s1] at C1
    rw [s2] at C2
    have l1 : bits .and .i64 (0) b = 0 := and_zero b
    have l2 : bits .and .i64 (0) a = 0 := and_zero a
    have L := Lib.hid (q4 c1 c2)
    clear q1 q2 q3 q4 s1 s2 c1 c2
    go_enter Tryz.func68, Tryz.ntmps68
    go_wp2_with (first
      | (go_at_call 43; ((with_reducible refine (M _).mono ?_); rintro e w' ⟨rfl, rfl⟩))
      | (go_at_call 89; ((with_reducible refine (C1 _).mono ?_); rintro e w' ⟨rfl, rfl⟩))
      | (go_at_call 89; ((with_reducible refine (C2 _).mono ?_); rintro e w' ⟨rfl, rfl⟩)))
    exact bodyPost_ret (v := .agg #[.int .i64 (wrap64 (wrap64 (wrap64 hp))), .int .u64 (lo64 (a * b))]) (by simp [results, Tryz.results68, go_sem]) rfl ⟨ret_wv (by have l := L.out; have h := hi_bounds _ HB.out; unfold wrap64; omega) rfl, grew_alloc _ _ _⟩
end Go.Proofs.YtahioajpmlochaaGreat.NumK
namespace Go.Proofs.YtahioajpmlochaaGreat.NumK
open Go.RowKit

theorem tab8 (i : Int) (h0 : 0 ≤ i) (h1 : i < 256) (h : i.toNat < Lib.len8tab.size) : ((Lib.len8tab[i.toNat].toNat : Nat) : Int) = (Lib.bitLen i.toNat : Int) ∧ Lib.bitLen i.toNat ≤ 8 := by
  refine ⟨?_, Lib.bitLen_le8' i h0 (by omega)⟩
  rw [← Lib.len8_of i h0 (by omega)]
  unfold Lib.len8
  rw [getElem?_pos Lib.len8tab i.toNat h]
  rfl

theorem fin8 (k L B : Nat) (z : Int) (hz : z = k) (hk : k ≤ 56) (l : L ≤ 8) (s : B = k + L) : wrap64 (z + wrap64 (L : Int)) = (B : Int) := by
  subst hz s
  unfold wrap64
  omega
theorem fin0 (L : Nat) (l : L ≤ 8) : wrap64 (wrap64 (L : Int)) = (L : Int) := by
  unfold wrap64
  omega

set_option maxHeartbeats 4000000 in
set_option maxRecDepth 100000 in
theorem len64_any (x : Int) (w : World) (h0 : 0 ≤ x) (h1 : x ≤ 18446744073709551615) :
    Calls Tryz.prog 101 #[.int .u64 x] w fun e w' => e = .returned (.int .i64 (Lib.bitLen x.toNat)) ∧ w = w' := by
  have hs : ((Lib.len8tab.size : Nat) : Int) = 256 := by rw [Lib.len8tab_size]; rfl
  go_enter Tryz.func101, Tryz.ntmps101
  go_wp2
  all_goals (go_ret; refine ⟨congrArg Ending.returned (congrArg (Value.int IntKind.i64) ?_), rfl⟩)
  all_goals first
    | (obtain ⟨e, l⟩ := tab8 (x / 4294967296 / 65536 / 256) (by omega) (by omega) (by rw [Lib.len8tab_size]; omega)
       simp only [e]
       have e2 : (x / 4294967296 / 65536 / 256).toNat = x.toNat / 72057594037927936 := by omega
       rw [e2] at l ⊢
       exact fin8 56 _ _ _ rfl (by omega) l (Lib.bitLen_shift56 x.toNat (by omega) (by omega)))
    | (obtain ⟨e, l⟩ := tab8 (x / 4294967296 / 65536) (by omega) (by omega) (by rw [Lib.len8tab_size]; omega)
       simp only [e]
       have e2 : (x / 4294967296 / 65536).toNat = x.toNat / 281474976710656 := by omega
       rw [e2] at l ⊢
       exact fin8 48 _ _ _ rfl (by omega) l (Lib.bitLen_shift48 x.toNat (by omega) (by omega)))
    | (obtain ⟨e, l⟩ := tab8 (x / 4294967296 / 256) (by omega) (by omega) (by rw [Lib.len8tab_size]; omega)
       simp only [e]
       have e2 : (x / 4294967296 / 256).toNat = x.toNat / 1099511627776 := by omega
       rw [e2] at l ⊢
       exact fin8 40 _ _ _ rfl (by omega) l (Lib.bitLen_shift40 x.toNat (by omega) (by omega)))
    | (obtain ⟨e, l⟩ := tab8 (x / 4294967296) (by omega) (by omega) (by rw [Lib.len8tab_size]; omega)
       simp only [e]
       have e2 : (x / 4294967296).toNat = x.toNat / 4294967296 := by omega
       rw [e2] at l ⊢
       exact fin8 32 _ _ _ rfl (by omega) l (Lib.bitLen_shift32 x.toNat (by omega) (by omega)))
    | (obtain ⟨e, l⟩ := tab8 (x / 65536 / 256) (by omega) (by omega) (by rw [Lib.len8tab_size]; omega)
       simp only [e]
       have e2 : (x / 65536 / 256).toNat = x.toNat / 16777216 := by omega
       rw [e2] at l ⊢
       exact fin8 24 _ _ _ rfl (by omega) l (Lib.bitLen_shift24 x.toNat (by omega) (by omega)))
    | (obtain ⟨e, l⟩ := tab8 (x / 65536) (by omega) (by omega) (by rw [Lib.len8tab_size]; omega)
       simp only [e]
       have e2 : (x / 65536).toNat = x.toNat / 65536 := by omega
       rw [e2] at l ⊢
       exact fin8 16 _ _ _ rfl (by omega) l (Lib.bitLen_shift16 x.toNat (by omega) (by omega)))
    | (obtain ⟨e, l⟩ := tab8 (x / 256) (by omega) (by omega) (by rw [Lib.len8tab_size]; omega)
       simp only [e]
       have e2 : (x / 256).toNat = x.toNat / 256 := by omega
       rw [e2] at l ⊢
       exact fin8 8 _ _ _ rfl (by omega) l (Lib.bitLen_shift8 x.toNat (by omega) (by omega)))
    | (obtain ⟨e, l⟩ := tab8 x (by omega) (by omega) (by rw [Lib.len8tab_size]; omega)
       simp only [e]
       exact fin0 _ l)

theorem lz64_any (x : Int) (w : World) (h0 : 0 ≤ x) (h1 : x ≤ 18446744073709551615) :
    Calls Tryz.prog 103 #[.int .u64 x] w fun e w' => e = .returned (.int .i64 (64 - (Lib.bitLen x.toNat : Int))) ∧ w = w' := by
  have C := fun w => len64_any x w h0 h1
  have l := Lib.bitLen_le x.toNat 64 (by omega) (by omega)
  generalize Lib.bitLen x.toNat = L at *
  go_enter Tryz.func103, Tryz.ntmps103
  go_wp2_with (go_at_call 101; ((with_reducible refine (C _).mono ?_); rintro e w' ⟨rfl, rfl⟩))
  go_ret
  exact ⟨rfl, rfl⟩
end Go.Proofs.YtahioajpmlochaaGreat.NumK
namespace Go.Proofs.YtahioajpmlochaaGreat.NumK
open Go.RowKit

/-- y1 and y0 are the halves of what divides, u the rest so far, d the next digit, q and r the guess: q is not below the digit that is looked for. -/
def Dig (y1 y0 u d q r : Int) : Prop := q * y1 + r = u ∧ u * 4294967296 + d < (q + 1) * (y1 * 4294967296 + y0) ∧ 0 ≤ r ∧ 0 ≤ q ∧ q ≤ 4294967297

theorem dig_start (y1 y0 u d q : Int) (h1 : 2147483648 ≤ y1) (h3 : 0 ≤ y0) (h4 : y0 < 4294967296) (h5 : 0 ≤ u) (h6 : u < y1 * 4294967296 + y0) (h8 : d < 4294967296) (hq : q = u / y1) :
    Dig y1 y0 u d q (u - q * y1) ∧ u - q * y1 < y1 := by
  have e1 := Int.mul_ediv_add_emod u y1
  have e2 := Int.emod_nonneg u (show y1 ≠ 0 by omega)
  have e3 := Int.emod_lt_of_pos u (show 0 < y1 by omega)
  have e4 : 0 ≤ q := by rw [hq]; exact Int.ediv_nonneg h5 (by omega)
  rw [← hq, Int.mul_comm] at e1
  have e5 : q ≤ 4294967297 := by
    rcases Int.lt_or_le 4294967297 q with h | h
    · have : 4294967298 * y1 ≤ q * y1 := Int.mul_le_mul_of_nonneg_right h (by omega)
      omega
    · exact h
  have e6 : (q + 1) * (y1 * 4294967296 + y0) = q * y1 * 4294967296 + y1 * 4294967296 + (q + 1) * y0 := by grind
  have e7 : 0 ≤ (q + 1) * y0 := Int.mul_nonneg (by omega) h3
  refine ⟨⟨by omega, ?_, by omega, e4, e5⟩, by omega⟩
  rw [e6]
  generalize (q + 1) * y0 = A at *
  generalize q * y1 = B at *
  omega

theorem dig_pos (y1 y0 u d q r p : Int) (h3 : 0 ≤ d) (D : Dig y1 y0 u d q r) (hp : p = q * y0) (h : 4294967296 ≤ q ∨ 4294967296 * r + d < p) : 1 ≤ q := by
  obtain ⟨_, _, d3, d4, _⟩ := D
  rcases h with h | h
  · omega
  · rcases Int.lt_or_le q 1 with c | c
    · have : q = 0 := by omega
      subst this
      omega
    · exact c

theorem dig_next (y1 y0 u d q r p : Int) (h1 : 0 ≤ y1) (h0 : 0 ≤ u) (h5 : u < y1 * 4294967296 + y0) (h8 : d < 4294967296) (h6 : 0 ≤ d) (D : Dig y1 y0 u d q r) (hp : p = q * y0) (h : 4294967296 ≤ q ∨ 4294967296 * r + d < p) : Dig y1 y0 u d (q - 1) (r + y1) := by
  have hq := dig_pos y1 y0 u d q r p h6 D hp h
  obtain ⟨d1, d2, d3, d4, d5⟩ := D
  refine ⟨by rw [Int.sub_mul]; omega, ?_, by omega, by omega, by omega⟩
  have e : q - 1 + 1 = q := by omega
  rw [e]
  rcases h with h | h
  · have h9 : 4294967296 * (y1 * 4294967296 + y0) ≤ q * (y1 * 4294967296 + y0) := Int.mul_le_mul_of_nonneg_right h (by omega)
    omega
  · have e6 : q * (y1 * 4294967296 + y0) = q * y1 * 4294967296 + p := by rw [hp]; grind
    rw [e6]
    generalize q * y1 = B at *
    omega

theorem dig_quit (y1 y0 u d q r : Int) (h0 : 0 ≤ u) (h5 : u < y1 * 4294967296 + y0) (D : Dig y1 y0 u d q r) (h : q * (y1 * 4294967296 + y0) ≤ u * 4294967296 + d) :
    q = (u * 4294967296 + d) / (y1 * 4294967296 + y0) ∧ u * 4294967296 + d - q * (y1 * 4294967296 + y0) = (u * 4294967296 + d) % (y1 * 4294967296 + y0) := by
  obtain ⟨_, d2, _⟩ := D
  generalize y1 * 4294967296 + y0 = Y at *
  generalize u * 4294967296 + d = N at *
  rw [Int.add_mul] at d2
  have := (Int.ediv_emod_unique (a := N) (b := Y) (r := N - q * Y) (q := q) (by omega)).2 ⟨by rw [Int.mul_comm]; omega, by omega, by omega⟩
  exact ⟨this.1.symm, this.2.symm⟩

theorem dig_exit (y1 y0 u d q r p : Int) (h0 : 0 ≤ u) (h5 : u < y1 * 4294967296 + y0) (D : Dig y1 y0 u d q r) (hp : p = q * y0) (h : p ≤ 4294967296 * r + d) :
    q = (u * 4294967296 + d) / (y1 * 4294967296 + y0) ∧ u * 4294967296 + d - q * (y1 * 4294967296 + y0) = (u * 4294967296 + d) % (y1 * 4294967296 + y0) := by
  refine dig_quit y1 y0 u d q r h0 h5 D ?_
  obtain ⟨d1, _⟩ := D
  have e6 : q * (y1 * 4294967296 + y0) = q * y1 * 4294967296 + p := by rw [hp]; grind
  rw [e6]
  generalize q * y1 = B at *
  omega

theorem dig_break (y1 y0 u d q r : Int) (h0 : 0 ≤ u) (h3 : 0 ≤ y0) (h4 : y0 < 4294967296) (h6 : 0 ≤ d) (h5 : u < y1 * 4294967296 + y0) (D : Dig y1 y0 u d q r) (hq : q ≤ 4294967296) (h : 4294967296 ≤ r) :
    q = (u * 4294967296 + d) / (y1 * 4294967296 + y0) ∧ u * 4294967296 + d - q * (y1 * 4294967296 + y0) = (u * 4294967296 + d) % (y1 * 4294967296 + y0) := by
  refine dig_exit y1 y0 u d q r (q * y0) h0 h5 D rfl ?_
  obtain ⟨_, _, _, d4, _⟩ := D
  have : q * y0 ≤ 4294967296 * 4294967295 := Int.mul_le_mul hq (by omega) h3 (by omega)
  omega

/-! ### shifts and masks of 64 bits -/
theorem maskI (x : Int) (h0 : 0 ≤ x) (h1 : x < 18446744073709551616) : bits .and .u64 x 4294967295 = x % 4294967296 := by
  obtain ⟨a, rfl⟩ := Int.eq_ofNat_of_zero_le h0
  have h := bits_and_u64_nat a 4294967295 (by omega) (by omega)
  have e : a &&& 4294967295 = a % 4294967296 := Nat.and_two_pow_sub_one_eq_mod a 32
  rw [e] at h
  exact h

theorem or_shift (a b s : Nat) (hb : b < 2 ^ s) (ha : a * 2 ^ s < 18446744073709551616) (hb2 : b < 18446744073709551616) : bits .or .u64 ((a * 2 ^ s : Nat) : Int) (b : Int) = ((a * 2 ^ s + b : Nat) : Int) := by
  have h := bits_or_u64_nat (a * 2 ^ s) b ha hb2
  rw [h, ← Nat.shiftLeft_eq, ← Nat.shiftLeft_add_eq_or_of_lt hb]
end Go.Proofs.YtahioajpmlochaaGreat.NumK
namespace Go.Proofs.YtahioajpmlochaaGreat.NumK
open Go.RowKit

theorem pow_nat (s : Nat) : ((2 : Int) ^ s) = ((2 ^ s : Nat) : Int) := by simp

theorem scaled (hi lo y s : Int) (h0 : 0 ≤ hi) (h1 : hi < y) (l0 : 0 ≤ lo) (l1 : lo ≤ 18446744073709551615) (s0 : 0 ≤ s) (s1 : s ≤ 63) (p0 : 2 ^ (63 - s).toNat ≤ y) (p1 : y < 2 ^ (64 - s).toNat) :
    ∃ Y H B U L y1 y0 d1 d0 : Int, IntKind.u64.wrap (y * 2 ^ s.toNat) = Y ∧ IntKind.u64.wrap (hi * 2 ^ s.toNat) = H ∧ lo / 2 ^ (64 - s).toNat = B ∧ bits .or .u64 H B = U ∧ IntKind.u64.wrap (lo * 2 ^ s.toNat) = L
      ∧ Y / 4294967296 = y1 ∧ bits .and .u64 Y 4294967295 = y0 ∧ L / 4294967296 = d1 ∧ bits .and .u64 L 4294967295 = d0
      ∧ Y = y1 * 4294967296 + y0 ∧ 2147483648 ≤ y1 ∧ y1 < 4294967296 ∧ 0 ≤ y0 ∧ y0 < 4294967296 ∧ 0 ≤ d1 ∧ d1 < 4294967296 ∧ 0 ≤ d0 ∧ d0 < 4294967296 ∧ 0 ≤ U ∧ U < Y
      ∧ (0 ≤ H ∧ H < 18446744073709551616) ∧ (0 ≤ B ∧ B < 18446744073709551616) ∧ (0 ≤ L ∧ L < 18446744073709551616)
      ∧ U * 18446744073709551616 + (d1 * 4294967296 + d0) = (hi * 18446744073709551616 + lo) * 2 ^ s.toNat ∧ Y = y * 2 ^ s.toNat := by
  obtain ⟨k, rfl⟩ := Int.eq_ofNat_of_zero_le s0
  have k1 : k ≤ 63 := by omega
  have t1 : ((k : Int)).toNat = k := by omega
  have t2 : (64 - (k : Int)).toNat = 64 - k := by omega
  have t3 : (63 - (k : Int)).toNat = 63 - k := by omega
  rw [t2] at p1
  rw [t3] at p0
  rw [t1, t2]
  have hST : (2 : Int) ^ k * 2 ^ (64 - k) = 18446744073709551616 := by
    rw [← Int.pow_add, show k + (64 - k) = 64 by omega]; rfl
  have hSV : (2 : Int) ^ k * 2 ^ (63 - k) = 9223372036854775808 := by
    rw [← Int.pow_add, show k + (63 - k) = 63 by omega]; rfl
  have hS : (0 : Int) < 2 ^ k := Int.pow_pos (by omega)
  have hT : (0 : Int) < 2 ^ (64 - k) := Int.pow_pos (by omega)
  obtain ⟨a, rfl⟩ := Int.eq_ofNat_of_zero_le h0
  obtain ⟨l, rfl⟩ := Int.eq_ofNat_of_zero_le l0
  have hB0 : 0 ≤ (l : Int) / 2 ^ (64 - k) := Int.ediv_nonneg (by omega) (by omega)
  have hB1 : (l : Int) / 2 ^ (64 - k) < 2 ^ k := by
    apply Int.ediv_lt_of_lt_mul hT
    rw [hST]; omega
  obtain ⟨b, hb⟩ := Int.eq_ofNat_of_zero_le hB0
  have hY1 : y * 2 ^ k < 18446744073709551616 := by
    have := Int.mul_lt_mul_of_pos_right p1 hS
    rw [Int.mul_comm (2 ^ (64 - k)), hST] at this; exact this
  have hY0 : 9223372036854775808 ≤ y * 2 ^ k := by
    have := Int.mul_le_mul_of_nonneg_right p0 (Int.le_of_lt hS)
    rw [Int.mul_comm (2 ^ (63 - k)), hSV] at this; exact this
  have hU : (a : Int) * 2 ^ k + 2 ^ k ≤ y * 2 ^ k := by
    have := Int.mul_le_mul_of_nonneg_right (show (a : Int) + 1 ≤ y by omega) (Int.le_of_lt hS)
    rw [Int.add_mul, Int.one_mul] at this; exact this
  have hA0 : 0 ≤ (a : Int) * 2 ^ k := Int.mul_nonneg (by omega) (by omega)
  have hwY : IntKind.u64.wrap (y * 2 ^ k) = y * 2 ^ k := by rw [IntKind.wrap_u64]; omega
  have hwH : IntKind.u64.wrap ((a : Int) * 2 ^ k) = (a : Int) * 2 ^ k := by rw [IntKind.wrap_u64]; omega
  have hl := Int.mul_ediv_add_emod (l : Int) (2 ^ (64 - k))
  have hl0 := Int.emod_nonneg (l : Int) (show (2 : Int) ^ (64 - k) ≠ 0 by omega)
  have hl1 := Int.emod_lt_of_pos (l : Int) hT
  have hL0 : 0 ≤ (l : Int) % 2 ^ (64 - k) * 2 ^ k := Int.mul_nonneg hl0 (by omega)
  have hL1 : (l : Int) % 2 ^ (64 - k) * 2 ^ k < 18446744073709551616 := by
    have := Int.mul_lt_mul_of_pos_right hl1 hS
    rw [Int.mul_comm (2 ^ (64 - k)), hST] at this; exact this
  have hL : (l : Int) * 2 ^ k = (l : Int) / 2 ^ (64 - k) * 18446744073709551616 + (l : Int) % 2 ^ (64 - k) * 2 ^ k := by
    have e : ((2 : Int) ^ (64 - k) * ((l : Int) / 2 ^ (64 - k)) + (l : Int) % 2 ^ (64 - k)) * 2 ^ k = (l : Int) / 2 ^ (64 - k) * (2 ^ k * 2 ^ (64 - k)) + (l : Int) % 2 ^ (64 - k) * 2 ^ k := by grind
    rw [hl, hST] at e
    exact e
  have hwL : IntKind.u64.wrap ((l : Int) * 2 ^ k) = (l : Int) % 2 ^ (64 - k) * 2 ^ k := by rw [IntKind.wrap_u64, hL]; omega
  have hO : bits .or .u64 ((a : Int) * 2 ^ k) (l / 2 ^ (64 - k)) = (a : Int) * 2 ^ k + (l : Int) / 2 ^ (64 - k) := by
    have hA1 : (a : Int) * 2 ^ k < 18446744073709551616 := by omega
    rw [hb]
    rw [pow_nat, ← Int.natCast_mul] at hA1
    have hA2 : a * 2 ^ k < 18446744073709551616 := by omega
    have hB2 : b < 2 ^ k := by rw [hb, pow_nat] at hB1; omega
    have hB3 : b < 18446744073709551616 := by
      have : (2 : Nat) ^ k ≤ 2 ^ 63 := Nat.pow_le_pow_right (by omega) k1
      omega
    have := or_shift a b k hB2 hA2 hB3
    rw [pow_nat, ← Int.natCast_mul, this, Int.natCast_add]
  rw [hwY, hwH, hwL]
  have hmY := maskI (y * 2 ^ k) (by omega) (by omega)
  have hmL := maskI ((l : Int) % 2 ^ (64 - k) * 2 ^ k) (by omega) (by omega)
  have hN : ((a : Int) * 2 ^ k + (l : Int) / 2 ^ (64 - k)) * 18446744073709551616 + (l : Int) % 2 ^ (64 - k) * 2 ^ k = (a * 18446744073709551616 + l) * 2 ^ k := by
    rw [Int.add_mul, Int.add_mul (a * 18446744073709551616), hL]
    have : (a : Int) * 2 ^ k * 18446744073709551616 = a * 18446744073709551616 * 2 ^ k := by grind
    omega
  refine ⟨_, _, _, _, _, _, _, _, _, rfl, rfl, rfl, hO, rfl, rfl, hmY, rfl, hmL, ?_⟩
  generalize (a : Int) * 2 ^ k = A at *
  generalize (l : Int) % 2 ^ (64 - k) * 2 ^ k = L at *
  generalize (l : Int) / 2 ^ (64 - k) = B at *
  generalize y * 2 ^ k = Y at *
  generalize (a * 18446744073709551616 + l : Int) * 2 ^ k = N at *
  have hSb : (2 : Int) ^ k ≤ 9223372036854775808 := by
    have : (2 : Int) ^ k * 1 ≤ 2 ^ k * 2 ^ (63 - k) := Int.mul_le_mul_of_nonneg_left (by have : (0 : Int) < 2 ^ (63 - k) := Int.pow_pos (by omega); omega) (by omega)
    omega
  generalize (2 : Int) ^ k = S at *
  refine ⟨by omega, by omega, by omega, by omega, by omega, by omega, by omega, by omega, by omega, by omega, by omega, ⟨by omega, by omega⟩, ⟨by omega, by omega⟩, ⟨by omega, by omega⟩, by omega, rfl⟩

theorem digit (Y y1 y0 u d : Int) (f1 : Y = y1 * 4294967296 + y0) (f2 : 2147483648 ≤ y1) (f3 : y1 < 4294967296) (f4 : 0 ≤ y0) (f5 : y0 < 4294967296) (f6 : 0 ≤ d) (f7 : d < 4294967296) (f10 : 0 ≤ u) (f11 : u < Y) :
    ∃ q m q2 V a1 a2 a3 : Int, IntKind.u64.wrap (u.tdiv y1) = q ∧ IntKind.u64.wrap (q * y1) = m ∧ Dig y1 y0 u d q (u - m) ∧ 0 ≤ q ∧ q ≤ 4294967297 ∧ 0 ≤ m ∧ m ≤ u ∧ u - m < y1
      ∧ (u * 4294967296 + d) / (y1 * 4294967296 + y0) = q2 ∧ 0 ≤ q2 ∧ q2 < 4294967296 ∧ IntKind.u64.wrap (u * 4294967296) = a1 ∧ IntKind.u64.wrap (a1 + d) = a2 ∧ IntKind.u64.wrap (q2 * Y) = a3 ∧ IntKind.u64.wrap (a2 - a3) = V
      ∧ 0 ≤ V ∧ V < Y ∧ u * 4294967296 + d = q2 * Y + V := by
  obtain ⟨dg, dr⟩ := dig_start y1 y0 u d (u / y1) f2 f4 f5 f10 (by omega) f7 rfl
  obtain ⟨a1, a2, a3, a4, a5⟩ := id dg
  have m0 : 0 ≤ u / y1 * y1 := Int.mul_nonneg a4 (by omega)
  have e1 : IntKind.u64.wrap (u.tdiv y1) = u / y1 := by rw [Int.tdiv_eq_ediv_of_nonneg f10, IntKind.wrap_u64]; omega
  have e2 : IntKind.u64.wrap (u / y1 * y1) = u / y1 * y1 := by
    generalize u / y1 * y1 = M at *
    rw [IntKind.wrap_u64]; omega
  rw [← f1]
  have n0 : 0 ≤ (u * 4294967296 + d) / Y := Int.ediv_nonneg (by omega) (by omega)
  have n1 : (u * 4294967296 + d) / Y < 4294967296 := Int.ediv_lt_of_lt_mul (by omega) (by omega)
  have n2 := Int.mul_ediv_add_emod (u * 4294967296 + d) Y
  have n3 := Int.emod_nonneg (u * 4294967296 + d) (show Y ≠ 0 by omega)
  have n4 := Int.emod_lt_of_pos (u * 4294967296 + d) (show 0 < Y by omega)
  rw [Int.mul_comm] at n2
  refine ⟨_, _, _, (u * 4294967296 + d) % Y, _, _, _, e1, e2, dg, a4, a5, m0, by omega, dr, rfl, n0, n1, rfl, rfl, rfl, ?_, n3, n4, n2.symm⟩
  generalize (u * 4294967296 + d) / Y * Y = A at *
  generalize (u * 4294967296 + d) % Y = B at *
  rw [IntKind.wrap_u64, IntKind.wrap_u64, IntKind.wrap_u64, IntKind.wrap_u64]
  omega

theorem scaled_quo (N y S Q R : Int) (hS : 0 < S) (h : N * S = Q * (y * S) + R) (h0 : 0 ≤ R) (h1 : R < y * S) (hy : 0 < y) : N / y = Q ∧ N % y = R / S := by
  have e : R = (N - Q * y) * S := by grind
  have e2 : R / S = N - Q * y := by rw [e]; exact Int.mul_ediv_cancel _ (by omega)
  have b0 : 0 ≤ N - Q * y := by
    rw [e] at h0
    exact Int.nonneg_of_mul_nonneg_left h0 hS
  have b1 : N - Q * y < y := by
    rw [e] at h1
    exact Int.lt_of_mul_lt_mul_right h1 (by omega)
  rw [e2]
  exact (Int.ediv_emod_unique hy).2 ⟨by rw [Int.mul_comm]; omega, b0, b1⟩
end Go.Proofs.YtahioajpmlochaaGreat.NumK
namespace Go.Proofs.YtahioajpmlochaaGreat.NumK
open Go.RowKit

set_option maxHeartbeats 1000000 in
set_option maxRecDepth 100000 in
theorem div64_zero (lo y : Int) (w : World) (h1 : 0 < y) (h2 : y ≤ 18446744073709551615) (l0 : 0 ≤ lo) (l1 : lo ≤ 18446744073709551615) :
    Calls Tryz.prog 92 #[.int .u64 0, .int .u64 lo, .int .u64 y] w fun e w' => e = .returned (.tuple #[.int .u64 (lo / y), .int .u64 (lo % y)]) ∧ Grew w w' := by
  have e1 : lo.tdiv y = lo / y := Int.tdiv_eq_ediv_of_nonneg l0
  have e2 : lo.tmod y = lo % y := Int.tmod_eq_emod_of_nonneg l0
  have b1 : 0 ≤ lo / y := Int.ediv_nonneg l0 (by omega)
  have b2 : lo / y ≤ lo := Int.ediv_le_self y l0
  have b3 : 0 ≤ lo % y := Int.emod_nonneg lo (by omega)
  have b4 : lo % y < y := Int.emod_lt_of_pos lo h1
  have y0 : (y == 0) = false := by simp; omega
  have e3 : IntKind.u64.wrap (lo.tdiv y) = lo / y := by rw [e1, IntKind.wrap_u64]; omega
  go_enter Tryz.func92, Tryz.ntmps92
  go_wp2
  go_quiet (fail)
  go_wp2
  exact bodyPost_ret (v := .tuple #[.int .u64 (lo / y), .int .u64 (lo % y)]) (by simp [results, Tryz.results92, go_sem]) rfl ⟨rfl, grew_drewN (grew_refl _) _⟩

set_option maxHeartbeats 2000000 in
set_option maxRecDepth 100000 in
theorem div64_far (hi lo y s : Int) (w : World) (h0 : 0 < hi) (h1 : hi < y) (l0 : 0 ≤ lo) (l1 : lo ≤ 18446744073709551615) (s0 : 0 ≤ s) (s1 : s ≤ 63) (p0 : 2 ^ (63 - s).toNat ≤ y) (p1 : y < 2 ^ (64 - s).toNat)
   (C : ∀ w, Calls Tryz.prog 103 #[.int .u64 y] w fun e w' => e = .returned (.int .i64 s) ∧ w = w') :
    Calls Tryz.prog 92 #[.int .u64 hi, .int .u64 lo, .int .u64 y] w fun e w' => e = .returned (.tuple #[.int .u64 ((hi * 18446744073709551616 + lo) / y), .int .u64 ((hi * 18446744073709551616 + lo) % y)]) ∧ Grew w w' := by
  obtain ⟨Y, H, B, U, L, y1, y0, d1, d0, eY, eH, eB, eO, eL, eY1, eY0, eL1, eL0, f1, f2, f3, f4, f5, f6, f7, f8, f9, f10, f11, ⟨g1, g2⟩, ⟨g3, g4⟩, ⟨g5, g6⟩, f12, f13⟩ := scaled hi lo y s (by omega) h1 l0 l1 s0 s1 p0 p1
  clear p0 p1
  obtain ⟨q, m, q2, V, a1, a2, a3, k1, k2, k3, k4, k5, k6, k7, k8, k9, k10, k11, k12, k13, k14, k15, k16, k17, k18⟩ := digit Y y1 y0 U d1 f1 f2 f3 f4 f5 f6 f7 f10 f11
  obtain ⟨q', m', q3, R, b1, b2, b3, j1, j2, j3, j4, j5, j6, j7, j8, j9, j10, j11, j12, j13, j14, j15, j16, j17, j18⟩ := digit Y y1 y0 V d0 f1 f2 f3 f4 f5 f8 f9 k16 k17
  have fin := scaled_quo (hi * 18446744073709551616 + lo) y (2 ^ s.toNat) (q2 * 4294967296 + q3) R (Int.pow_pos (by omega)) (by
    rw [← f12, ← f13, Int.add_mul]
    have : q2 * 4294967296 * Y = q2 * Y * 4294967296 := by grind
    rw [this]
    generalize q2 * Y = X1 at *
    generalize q3 * Y = X2 at *
    omega) j16 (by rw [← f13]; exact j17) (by omega)
  have FIN := Lib.hid fin
  have huA : U < y1 * 4294967296 + y0 := by omega
  have huB : V < y1 * 4294967296 + y0 := by omega
  have gU : U < 18446744073709551616 := by omega
  have gV : V < 18446744073709551616 := by omega
  have gR : R < 18446744073709551616 := by omega
  have K3 := Lib.hid k3
  have J3 := Lib.hid j3
  clear f12 f13 fin k3 j3 k18 j18 f11 f1
  go_enter Tryz.func92, Tryz.ntmps92
  go_upto_block 0 with (first | (go_at_call 103; ((with_reducible refine (C _).mono ?_); rintro e w' ⟨rfl, rfl⟩)))
  go_cut [15] (fun s15 wx => s15 = .int .u64 q2 ∧ w = wx)
  case first =>
    go_wp2_with fail
    go_loop [15, 16] (fun a b => ∃ g r : Int, a = .int .u64 g ∧ b = .int .u64 r ∧ Hid (Dig y1 y0 U d1 g r) ∧ 0 ≤ r ∧ r < 4294967296 ∧ 0 ≤ g ∧ g ≤ 4294967297) (fun a _ => (intOf a).toNat)
    case atStart => exact ⟨q, U - m, rfl, rfl, K3, by omega, by omega, by omega, by omega⟩
    case round =>
      obtain ⟨g, r, rfl, rfl, DD, r0, r1, g0, g1⟩ := hrel
      obtain ⟨p, hp⟩ : ∃ p, p = g * y0 := ⟨_, rfl⟩
      have ln := fun h => dig_next y1 y0 U d1 g r p (by omega) (by omega) huA (by omega) (by omega) DD.out hp h
      have lp := dig_pos y1 y0 U d1 g r p (by omega) DD.out hp
      have lx := dig_exit y1 y0 U d1 g r p (by omega) huA DD.out hp
      rw [k9] at lx
      have lb := dig_break y1 y0 U d1 (g - 1) (r + y1) (by omega) f4 f5 (by omega) huA
      rw [k9] at lb
      by_cases c1 : 4294967296 ≤ g
      · have hg := lp (Or.inl c1)
        have DN := Lib.hid (ln (Or.inl c1))
        clear ln lp lx hp
        by_cases c3 : 4294967296 ≤ r + y1
        · have E := Lib.hid (lb DN.out (by omega) c3)
          clear lb
          go_wp2_with fail
          go_meet
          case rel => exact ⟨by rw [E.out.1], rfl⟩
        · clear lb
          go_wp2_with fail
          go_round
          case rel => exact ⟨g - 1, r + y1, rfl, rfl, DN, by omega, by omega, by omega, by omega⟩
          case measure => simp [intOf]; omega
      · have ep : IntKind.u64.wrap (g * y0) = p := by
          have e1 : g * y0 ≤ 4294967295 * 4294967295 := Int.mul_le_mul (by omega) (by omega) f4 (by omega)
          have e2 : 0 ≤ g * y0 := Int.mul_nonneg g0 f4
          rw [hp, IntKind.wrap_u64]; omega
        by_cases c2 : 4294967296 * r + d1 < p
        · have hg := lp (Or.inr c2)
          have DN := Lib.hid (ln (Or.inr c2))
          clear ln lp lx hp
          by_cases c3 : 4294967296 ≤ r + y1
          · have E := Lib.hid (lb DN.out (by omega) c3)
            clear lb
            go_wp2_with fail
            go_meet
            case rel => exact ⟨by rw [E.out.1], rfl⟩
          · clear lb
            go_wp2_with fail
            go_round
            case rel => exact ⟨g - 1, r + y1, rfl, rfl, DN, by omega, by omega, by omega, by omega⟩
            case measure => simp [intOf]; omega
        · have E := Lib.hid (lx (by omega))
          clear ln lp lx hp lb
          go_wp2_with fail
          go_meet
          case rel => exact ⟨by rw [E.out.1], rfl⟩
  case rest =>
    obtain ⟨rfl, rfl⟩ := hcut
    go_upto_block 2 with fail
    go_cut [18] (fun s18 wx => s18 = .int .u64 q3 ∧ w = wx)
    case first =>
      go_wp2_with fail
      go_loop [18, 16] (fun a b => ∃ g r : Int, a = .int .u64 g ∧ b = .int .u64 r ∧ Hid (Dig y1 y0 V d0 g r) ∧ 0 ≤ r ∧ r < 4294967296 ∧ 0 ≤ g ∧ g ≤ 4294967297) (fun a _ => (intOf a).toNat)
      case atStart => exact ⟨q', V - m', rfl, rfl, J3, by omega, by omega, by omega, by omega⟩
      case round =>
        obtain ⟨g, r, rfl, rfl, DD, r0, r1, g0, g1⟩ := hrel
        obtain ⟨p, hp⟩ : ∃ p, p = g * y0 := ⟨_, rfl⟩
        have ln := fun h => dig_next y1 y0 V d0 g r p (by omega) (by omega) huB (by omega) (by omega) DD.out hp h
        have lp := dig_pos y1 y0 V d0 g r p (by omega) DD.out hp
        have lx := dig_exit y1 y0 V d0 g r p (by omega) huB DD.out hp
        rw [j9] at lx
        have lb := dig_break y1 y0 V d0 (g - 1) (r + y1) (by omega) f4 f5 (by omega) huB
        rw [j9] at lb
        by_cases c1 : 4294967296 ≤ g
        · have hg := lp (Or.inl c1)
          have DN := Lib.hid (ln (Or.inl c1))
          clear ln lp lx hp
          by_cases c3 : 4294967296 ≤ r + y1
          · have E := Lib.hid (lb DN.out (by omega) c3)
            clear lb
            go_wp2_with fail
            go_meet
            case rel => exact ⟨by rw [E.out.1], rfl⟩
          · clear lb
            go_wp2_with fail
            go_round
            case rel => exact ⟨g - 1, r + y1, rfl, rfl, DN, by omega, by omega, by omega, by omega⟩
            case measure => simp [intOf]; omega
        · have ep : IntKind.u64.wrap (g * y0) = p := by
            have e1 : g * y0 ≤ 4294967295 * 4294967295 := Int.mul_le_mul (by omega) (by omega) f4 (by omega)
            have e2 : 0 ≤ g * y0 := Int.mul_nonneg g0 f4
            rw [hp, IntKind.wrap_u64]; omega
          by_cases c2 : 4294967296 * r + d0 < p
          · have hg := lp (Or.inr c2)
            have DN := Lib.hid (ln (Or.inr c2))
            clear ln lp lx hp
            by_cases c3 : 4294967296 ≤ r + y1
            · have E := Lib.hid (lb DN.out (by omega) c3)
              clear lb
              go_wp2_with fail
              go_meet
              case rel => exact ⟨by rw [E.out.1], rfl⟩
            · clear lb
              go_wp2_with fail
              go_round
              case rel => exact ⟨g - 1, r + y1, rfl, rfl, DN, by omega, by omega, by omega, by omega⟩
              case measure => simp [intOf]; omega
          · have E := Lib.hid (lx (by omega))
            clear ln lp lx hp lb
            go_wp2_with fail
            go_meet
            case rel => exact ⟨by rw [E.out.1], rfl⟩
    case rest =>
      obtain ⟨rfl, rfl⟩ := hcut
      go_wp2_with fail
      exact bodyPost_ret (v := .tuple #[.int .u64 (q2 * 4294967296 + q3), .int .u64 (R / 2 ^ s.toNat)]) (by simp [results, Tryz.results92, go_sem]) rfl ⟨by rw [FIN.out.1, FIN.out.2], grew_refl _⟩

theorem bitLen_both (x : Nat) (h0 : 0 < x) (h1 : x < 18446744073709551616) : 1 ≤ Lib.bitLen x ∧ Lib.bitLen x ≤ 64 ∧ 2 ^ (Lib.bitLen x - 1) ≤ x ∧ x < 2 ^ Lib.bitLen x := by
  have a := Lib.bitLen_le x 64 (by omega) h1
  have b := Lib.bitLen_half x (by omega) h1
  refine ⟨by omega, a, ?_, ?_⟩
  · rcases Nat.lt_or_ge x (2 ^ (Lib.bitLen x - 1)) with c | c
    · have := Lib.bitLen_le x (Lib.bitLen x - 1) (by omega) c
      omega
    · exact c
  · rcases Nat.lt_or_ge x (2 ^ Lib.bitLen x) with c | c
    · exact c
    · have e := Lib.bitLen_shift (Lib.bitLen x) x c h1
      have p : 0 < x / 2 ^ Lib.bitLen x := Nat.div_pos c (Nat.two_pow_pos _)
      have q : x / 2 ^ Lib.bitLen x < 2 ^ 64 := Nat.lt_of_le_of_lt (Nat.div_le_self _ _) h1
      have := Lib.bitLen_half (x / 2 ^ Lib.bitLen x) (by omega) q
      omega

theorem div64_any (hi lo y : Int) (w : World) (h0 : 0 ≤ hi) (h1 : hi < y) (h2 : y ≤ 18446744073709551615) (l0 : 0 ≤ lo) (l1 : lo ≤ 18446744073709551615) :
    Calls Tryz.prog 92 #[.int .u64 hi, .int .u64 lo, .int .u64 y] w fun e w' => e = .returned (.tuple #[.int .u64 ((hi * 18446744073709551616 + lo) / y), .int .u64 ((hi * 18446744073709551616 + lo) % y)]) ∧ Grew w w' := by
  by_cases c : hi = 0
  · subst c
    have e : (0 * 18446744073709551616 + lo : Int) = lo := by omega
    rw [e]
    exact div64_zero lo y w h1 h2 l0 l1
  · obtain ⟨a1, a2, a3, a4⟩ := bitLen_both y.toNat (by omega) (by omega)
    have C := fun w => lz64_any y w (by omega) h2
    have e1 : (63 - (64 - (Lib.bitLen y.toNat : Int))).toNat = Lib.bitLen y.toNat - 1 := by omega
    have e2 : (64 - (64 - (Lib.bitLen y.toNat : Int))).toNat = Lib.bitLen y.toNat := by omega
    exact div64_far hi lo y (64 - (Lib.bitLen y.toNat : Int)) w (by omega) h1 l0 l1 (by omega) (by omega) (by rw [e1, pow_nat]; omega) (by rw [e2, pow_nat]; omega) C
end Go.Proofs.YtahioajpmlochaaGreat.NumK
namespace Go.Proofs.YtahioajpmlochaaGreat.NumK
open Go.RowKit

def sub64Entry : Array Value → Sem Value := fun args => do
  let (x, y, b) ← Extern.MathBitsCarry.three "Sub64" args
  pure (Extern.MathBitsCarry.pair ((x + Extern.MathBitsCarry.m64 - y - b) % Extern.MathBitsCarry.m64) (if x < y + b then 1 else 0))

theorem run_sub64 {P : Program} (x y : Int) (hx : 0 ≤ x) (hy : 0 ≤ y) (hy2 : y < 18446744073709551616) (w : World) :
    (sub64Entry #[.int .u64 x, .int .u64 y, .int .u64 0]).run P w = .ok (.tuple #[.int .u64 ((x - y) % 18446744073709551616), .int .u64 (if x < y then 1 else 0)]) w := by
  have key : (sub64Entry #[.int .u64 x, .int .u64 y, .int .u64 0]).run P w =
      .ok (Extern.MathBitsCarry.pair ((x.toNat + Extern.MathBitsCarry.m64 - y.toNat - 0) % Extern.MathBitsCarry.m64) (if x.toNat < y.toNat + 0 then 1 else 0)) w := rfl
  rw [key]
  obtain ⟨X, rfl⟩ := Int.eq_ofNat_of_zero_le hx
  obtain ⟨Y, rfl⟩ := Int.eq_ofNat_of_zero_le hy
  simp only [Extern.MathBitsCarry.pair, Extern.MathBitsCarry.m64, Int.toNat_natCast]
  have e1 : Int.ofNat ((X + 2 ^ 64 - Y - 0) % 2 ^ 64) = ((X : Int) - (Y : Int)) % 18446744073709551616 := by simp; omega
  have e2 : Int.ofNat (if X < Y + 0 then 1 else 0) = if (X : Int) < (Y : Int) then 1 else 0 := by
    by_cases h : X < Y
    · rw [if_pos (by omega), if_pos (by omega)]; rfl
    · rw [if_neg (by omega), if_neg (by omega)]; rfl
  rw [e1, e2]

theorem sub64 (x y : Int) (hx : 0 ≤ x) (hy : 0 ≤ y) (hy2 : y < 18446744073709551616) (w : World) : (callFunc 102 #[.int .u64 x, .int .u64 y, .int .u64 0]).run Tryz.prog w =
    .ok (.value (.tuple #[.int .u64 ((x - y) % 18446744073709551616), .int .u64 (if x < y then 1 else 0)])) w := by
  rw [run_callFunc_extern Tryz.func102 (by kernel_rfl) (by kernel_rfl) (by kernel_rfl) (e := sub64Entry) (by kernel_rfl), run_sub64 x y hx hy hy2]
  rfl
theorem sub64_named (x y s d : Int) (hx : 0 ≤ x) (hy : 0 ≤ y) (hy2 : y < 18446744073709551616) (hs : s = (x - y) % 18446744073709551616) (hd : d = if x < y then 1 else 0) (w : World) :
    (callFunc 102 #[.int .u64 x, .int .u64 y, .int .u64 0]).run Tryz.prog w = .ok (.value (.tuple #[.int .u64 s, .int .u64 d])) w := by
  rw [hs, hd]; exact sub64 x y hx hy hy2 w
end Go.Proofs.YtahioajpmlochaaGreat.NumK
namespace Go.Proofs.YtahioajpmlochaaGreat.NumK

/-- What stands from l up to i is ahead of what stands at a; what stands from j on is not. -/
def Bef (f : Nat → Int) (d : Nat → Nat) (a l i : Nat) : Prop := ∀ k, l ≤ k → k < i → f (d a) < f (d k)
def Nbf (f : Nat → Int) (d : Nat → Nat) (a j b : Nat) : Prop := ∀ k, j ≤ k → k < b → ¬ f (d a) < f (d k)

/-- What stands from l up to i is not behind what stands at m; what stands from j on is. -/
def Bef2 (f : Nat → Int) (d : Nat → Nat) (m l i : Nat) : Prop := ∀ k, l ≤ k → k < i → ¬ f (d k) < f (d m)
def Nbf2 (f : Nat → Int) (d : Nat → Nat) (m j b : Nat) : Prop := ∀ k, j ≤ k → k < b → f (d k) < f (d m)

def Side (a m b mid lo hi : Nat) : Prop := (mid < m ∧ lo + b = mid + m ∧ hi = mid) ∨ (m ≤ mid ∧ lo = a ∧ hi = m)
/-- What the search has found of the cut: left of i it is too low, at j it is high enough. -/
def Low (f : Nat → Int) (d : Nat → Nat) (q lo i : Nat) : Prop := lo < i → ¬ f (d (i - 1)) < f (d (q - 1 - (i - 1)))
def High (f : Nat → Int) (d : Nat → Nat) (q hi j : Nat) : Prop := j < hi → f (d j) < f (d (q - 1 - j))

theorem rot_nil (d : Nat → Nat) (s m e : Nat) (h : m ≤ s ∨ e ≤ m) (hs : s ≤ m) (he : m ≤ e) : rot d s m e = d := by
  funext k
  unfold rot
  rcases h with h | h
  · by_cases c : s ≤ k ∧ k < s + (e - m)
    · rw [if_pos c]; congr 1; omega
    · rw [if_neg c, if_neg (by omega)]
  · rw [if_neg (by omega)]
    by_cases c : s + (e - m) ≤ k ∧ k < e
    · rw [if_pos c]; congr 1; omega
    · rw [if_neg c]

theorem cut_side {f : Nat → Int} {a m b mid lo hi s : Nat} {d : Nat → Nat} (h1 : Sd f a m d) (h2 : Sd f m b d) (hx : Xs a m b d) (ham : a < m) (hmb : m < b) (hmid : mid = (a + b) / 2) (S : Side a m b mid lo hi)
    (hs1 : lo ≤ s) (hs2 : s ≤ hi) (hb : Low f d (mid + m) lo s) (ha : High f d (mid + m) hi s) : Cut f a m b mid s d := by
  refine cut_of (lo0 := lo) (hi0 := hi) h1 h2 hx ham hmb hmid ?_ ?_ hs1 hs2 hb ha
  · unfold Side at S; split <;> omega
  · unfold Side at S; split <;> omega

theorem dvd_gap {s a c : Nat} (ha : s ∣ a) (hc : s ∣ c) (h : a < c) : a + s ≤ c := by
  have := Nat.le_of_dvd (by omega) (Nat.dvd_sub hc ha)
  omega

/-- Each block of so many places is sorted, and holds what it held. -/
def Blk (f : Nat → Int) (sz n : Nat) (e : Nat → Nat) : Prop := ∀ c, sz ∣ c → Sd f c (min (c + sz) n) e ∧ Br c e
/-- .. up to a of twice as many, from a on of as many. -/
def Half (f : Nat → Int) (sz n a : Nat) (e : Nat → Nat) : Prop :=
  2 * sz ∣ a ∧ (∀ c, 2 * sz ∣ c → c + 2 * sz ≤ a → Sd f c (c + 2 * sz) e) ∧ (∀ c, sz ∣ c → a ≤ c → Sd f c (min (c + sz) n) e) ∧ (∀ c, 2 * sz ∣ c → Br c e) ∧ (∀ c, sz ∣ c → a ≤ c → Br c e)
/-- .. up to a sorted, from a on as they came. -/
def Begun (f : Nat → Int) (sz a : Nat) (e : Nat → Nat) : Prop :=
  sz ∣ a ∧ (∀ c, sz ∣ c → c + sz ≤ a → Sd f c (c + sz) e) ∧ (∀ c, sz ∣ c → Br c e) ∧ ∀ k, a ≤ k → e k = k

theorem br_id (c : Nat) : Br c (fun k => k) := fun _ => Iff.rfl

theorem begun_next {f : Nat → Int} {sz a : Nat} {e e' : Nat → Nat} (h : Begun f sz a e) (hz : 0 < sz) (hm : Moves a (a + sz) e e') (hs : Sd f a (a + sz) e') : Begun f sz (a + sz) e' := by
  obtain ⟨h1, h2, h3, h4⟩ := h
  refine ⟨(Nat.dvd_add_right h1).2 (Nat.dvd_refl _), fun c hc hl => ?_, fun c hc => ?_, fun k hk => ?_⟩
  · by_cases e1 : c = a
    · subst e1; exact hs
    · have : c + sz ≤ a := by
        rcases Nat.lt_or_ge c a with g | g
        · exact dvd_gap hc h1 g
        · omega
      exact (h2 c hc this).moves_out hm (Or.inl this)
  · refine (h3 c hc).moves hm ?_
    rcases Nat.lt_or_ge a c with g | g
    · exact Or.inr (dvd_gap h1 hc g)
    · exact Or.inl g
  · rw [hm.out k (by omega)]; exact h4 k (by omega)

theorem begun_end {f : Nat → Int} {sz n a : Nat} {e e' : Nat → Nat} (h : Begun f sz a e) (ha : n ≤ a + sz) (han : a ≤ n) (hm : Moves a n e e') (hs : Sd f a n e') : Blk f sz n e' := by
  obtain ⟨h1, h2, h3, h4⟩ := h
  intro c hc
  rcases Nat.lt_trichotomy c a with g | g | g
  · have := dvd_gap hc h1 g
    refine ⟨?_, (h3 c hc).moves hm (Or.inl (by omega))⟩
    rw [show min (c + sz) n = c + sz from by omega]
    exact (h2 c hc this).moves_out hm (Or.inl this)
  · subst g
    refine ⟨?_, (h3 c hc).moves hm (Or.inl (by omega))⟩
    rw [show min (c + sz) n = n from by omega]; exact hs
  · have := dvd_gap h1 hc g
    exact ⟨Sd.one _ _ _ _ (by omega), (h3 c hc).moves hm (Or.inr (by omega))⟩

theorem half_start {f : Nat → Int} {sz n : Nat} {e : Nat → Nat} (h : Blk f sz n e) (hz : 0 < sz) : Half f sz n 0 e :=
  ⟨Nat.dvd_zero _, fun c _ hl => by omega, fun c hc _ => (h c hc).1, fun c hc => (h c (Nat.dvd_trans (Nat.dvd_mul_left _ _) hc)).2, fun c hc _ => (h c hc).2⟩

theorem half_parts {f : Nat → Int} {sz n a : Nat} {e : Nat → Nat} (h : Half f sz n a e) : sz ∣ a ∧ sz ∣ a + sz ∧ Br (a + sz) e := by
  obtain ⟨h1, h2, h3, h4, h5⟩ := h
  have k1 : sz ∣ a := Nat.dvd_trans (Nat.dvd_mul_left _ _) h1
  have k2 : sz ∣ a + sz := (Nat.dvd_add_right k1).2 (Nat.dvd_refl _)
  exact ⟨k1, k2, h5 _ k2 (by omega)⟩
theorem half_two {f : Nat → Int} {sz n a : Nat} {e : Nat → Nat} (h : Half f sz n a e) (hz : 0 < sz) (hb : a + 2 * sz ≤ n) : Sd f a (a + sz) e ∧ Sd f (a + sz) (a + 2 * sz) e ∧ Xs a (a + sz) (a + 2 * sz) e := by
  obtain ⟨k1, k2, k3⟩ := half_parts h
  obtain ⟨h1, h2, h3, h4, h5⟩ := h
  have a1 := h3 a k1 (Nat.le_refl _)
  have a2 := h3 (a + sz) k2 (by omega)
  rw [show min (a + sz) n = a + sz from by omega] at a1
  rw [show min (a + sz + sz) n = a + 2 * sz from by omega] at a2
  exact ⟨a1, a2, k3.xs⟩
theorem half_last {f : Nat → Int} {sz n a : Nat} {e : Nat → Nat} (h : Half f sz n a e) (hb : n ≤ a + 2 * sz) (hm : a + sz ≤ n) : Sd f a (a + sz) e ∧ Sd f (a + sz) n e ∧ Xs a (a + sz) n e := by
  obtain ⟨k1, k2, k3⟩ := half_parts h
  obtain ⟨h1, h2, h3, h4, h5⟩ := h
  have a1 := h3 a k1 (Nat.le_refl _)
  have a2 := h3 (a + sz) k2 (by omega)
  rw [show min (a + sz) n = a + sz from by omega] at a1
  rw [show min (a + sz + sz) n = n from by omega] at a2
  exact ⟨a1, a2, k3.xs⟩

theorem half_next {f : Nat → Int} {sz n a : Nat} {e e' : Nat → Nat} (h : Half f sz n a e) (hz : 0 < sz) (hm : Moves a (a + 2 * sz) e e') (hs : Sd f a (a + 2 * sz) e') : Half f sz n (a + 2 * sz) e' := by
  obtain ⟨h1, h2, h3, h4, h5⟩ := h
  refine ⟨(Nat.dvd_add_right h1).2 (Nat.dvd_refl _), fun c hc hl => ?_, fun c hc hl => (h3 c hc (by omega)).moves_out hm (Or.inr (by omega)), fun c hc => ?_, fun c hc hl => (h5 c hc (by omega)).moves hm (Or.inr hl)⟩
  · by_cases e1 : c = a
    · subst e1; exact hs
    · have : c + 2 * sz ≤ a := by
        rcases Nat.lt_or_ge c a with g | g
        · exact dvd_gap hc h1 g
        · omega
      exact (h2 c hc this).moves_out hm (Or.inl this)
  · refine (h4 c hc).moves hm ?_
    rcases Nat.lt_or_ge a c with g | g
    · exact Or.inr (dvd_gap h1 hc g)
    · exact Or.inl g

theorem half_end {f : Nat → Int} {sz n a : Nat} {e e' : Nat → Nat} (h : Half f sz n a e) (han : a ≤ n) (hb : n ≤ a + 2 * sz) (hm : Moves a n e e') (hs : Sd f a n e') : Blk f (2 * sz) n e' := by
  obtain ⟨h1, h2, h3, h4, h5⟩ := h
  intro c hc
  rcases Nat.lt_trichotomy c a with g | g | g
  · have := dvd_gap hc h1 g
    refine ⟨?_, (h4 c hc).moves hm (Or.inl (by omega))⟩
    rw [show min (c + 2 * sz) n = c + 2 * sz from by omega]
    exact (h2 c hc this).moves_out hm (Or.inl this)
  · subst g
    refine ⟨?_, (h4 c hc).moves hm (Or.inl (by omega))⟩
    rw [show min (c + 2 * sz) n = n from by omega]; exact hs
  · have := dvd_gap h1 hc g
    exact ⟨Sd.one _ _ _ _ (by omega), (h4 c hc).moves hm (Or.inr (by omega))⟩

theorem half_stay {f : Nat → Int} {sz n a : Nat} {e : Nat → Nat} (h : Half f sz n a e) (han : a ≤ n) (hb : n ≤ a + sz) : Blk f (2 * sz) n e := by
  refine half_end h han (by omega) (Moves.refl _ _ _) ?_
  obtain ⟨k1, k2, k3⟩ := half_parts h
  have := h.2.2.1 a k1 (Nat.le_refl _)
  rwa [show min (a + sz) n = n from by omega] at this

end Go.Proofs.YtahioajpmlochaaGreat.NumK
