/- Contracts of package num, further: quotients, products, what is cut to a span; a sum at the bound. -/
import Derived.Test.YtfmhphojnokhdaaNum
import Derived.Lib.Mul64
import Derived.Laws.Bits64b
import Derived.Deep.QuietTactic
import Derived.BigQuiet
namespace Go.Proofs.Ytfmhphojnokhdaa.NumK
open Go.RowKit

theorem ret3 {a b c a' b' c' : Int} (h1 : a = a') (h2 : b = b') (h3 : c = c') : Ending.returned (.tuple #[.int .i64 a, .int .i64 b, .int .i64 c]) = .returned (.tuple #[.int .i64 a', .int .i64 b', .int .i64 c']) := by rw [h1, h2, h3]

theorem quo_wrong (a b : Int) (w : World) (h : [a, b].all isMoney = false) :
    Calls Try.prog 16 #[.int .i64 a, .int .i64 b] w fun e w' => e = .returned (.tuple #[.int .i64 0, .int .i64 0, .int .i64 3]) ∧ Grew w w' := by
  have C := (right_any (some ⟨w.heap.size, 0, none⟩) 2 2 [a, b] _ (ints2 w a b 3) (by omega))
  rw [h] at C
  clear h
  go_enter Try.func16, Try.ntmps16
  go_wp2_with (go_at_call 8; ((with_reducible refine C.mono ?_); rintro e w' ⟨rfl, rfl⟩))
  go_ret3
  exact ⟨rfl, grew_alloc _ _ _⟩

theorem quo_zero (a : Int) (w : World) (h : isMoney a = true) :
    Calls Try.prog 16 #[.int .i64 a, .int .i64 0] w fun e w' => e = .returned (.tuple #[.int .i64 0, .int .i64 0, .int .i64 2]) ∧ Grew w w' := by
  have C := (right_any (some ⟨w.heap.size, 0, none⟩) 2 2 [a, 0] _ (ints2 w a 0 3) (by omega))
  have hr : [a, 0].all isMoney = true := by have := (isMoney_iff a).1 h; simp [isMoney]; omega
  rw [hr] at C
  clear h hr
  go_enter Try.func16, Try.ntmps16
  go_wp2_with (go_at_call 8; ((with_reducible refine C.mono ?_); rintro e w' ⟨rfl, rfl⟩))
  go_ret3
  exact ⟨rfl, grew_alloc _ _ _⟩

set_option maxHeartbeats 1000000 in
theorem quo_right (a b : Int) (w : World) (ha : isMoney a = true) (hb : isMoney b = true) (h0 : b ≠ 0) :
    Calls Try.prog 16 #[.int .i64 a, .int .i64 b] w fun e w' => e = .returned (.tuple #[.int .i64 (a.fdiv b), .int .i64 (a.fmod b), .int .i64 0]) ∧ Grew w w' := by
  have C := (right_any (some ⟨w.heap.size, 0, none⟩) 2 2 [a, b] _ (ints2 w a b 3) (by omega))
  have hr : [a, b].all isMoney = true := by simp [ha, hb]
  rw [hr] at C
  rw [isMoney_iff] at ha hb
  obtain ⟨h1, h2, h3, h4, h5, h6, h7⟩ := tdiv_facts a b h0
  have hq : IntKind.i64.wrap (a.tdiv b) = a.tdiv b := IntWalk.i64_in _ (by omega)
  have hb0 : (b == 0) = false := by simpa using h0
  obtain ⟨b1, b2⟩ := hb
  obtain ⟨a1, a2⟩ := ha
  have FU := Lib.hid (fun x y => floor_up a b h0 x y)
  have FS := Lib.hid (fun x => floor_same a b h0 x)
  have HF := Lib.hid h1
  clear h1 h2 h3 hr
  by_cases hr0 : a.tmod b = 0
  · go_enter Try.func16, Try.ntmps16
    go_wp2_with (go_at_call 8; ((with_reducible refine C.mono ?_); rintro e w' ⟨rfl, rfl⟩))
    go_quiet (fail)
    go_wp2
    go_ret3
    have f := FS.out (Or.inl hr0)
    exact ⟨ret3 f.1.symm (by omega) rfl, grew_drewN (grew_alloc _ _ _) _⟩
  · have hr1 : (a.tmod b == 0) = false := by simpa using hr0
    have hr2 : (a.tmod b != 0) = true := by simpa using hr0
    by_cases c1 : a.tmod b < 0 <;> by_cases c2 : b < 0
    · have d1 : decide (a.tmod b < 0) = true := by simpa using c1
      have d2 : decide (b < 0) = true := by simpa using c2
      go_enter Try.func16, Try.ntmps16
      go_wp2_with (go_at_call 8; ((with_reducible refine C.mono ?_); rintro e w' ⟨rfl, rfl⟩))
      go_quiet (fail)
      go_wp2
      go_ret3
      have f := FS.out (Or.inr (by omega))
      exact ⟨ret3 f.1.symm f.2.symm rfl, grew_drewN (grew_alloc _ _ _) _⟩
    · have d1 : decide (a.tmod b < 0) = true := by simpa using c1
      have d2 : decide (b < 0) = false := by simpa using c2
      go_enter Try.func16, Try.ntmps16
      go_wp2_with (go_at_call 8; ((with_reducible refine C.mono ?_); rintro e w' ⟨rfl, rfl⟩))
      go_quiet (fail)
      go_wp2
      go_ret3
      have f := FU.out hr0 (by omega)
      exact ⟨ret3 f.1.symm f.2.symm rfl, grew_drewN (grew_alloc _ _ _) _⟩
    · have d1 : decide (a.tmod b < 0) = false := by simpa using c1
      have d2 : decide (b < 0) = true := by simpa using c2
      go_enter Try.func16, Try.ntmps16
      go_wp2_with (go_at_call 8; ((with_reducible refine C.mono ?_); rintro e w' ⟨rfl, rfl⟩))
      go_quiet (fail)
      go_wp2
      go_ret3
      have f := FU.out hr0 (by omega)
      exact ⟨ret3 f.1.symm f.2.symm rfl, grew_drewN (grew_alloc _ _ _) _⟩
    · have d1 : decide (a.tmod b < 0) = false := by simpa using c1
      have d2 : decide (b < 0) = false := by simpa using c2
      go_enter Try.func16, Try.ntmps16
      go_wp2_with (go_at_call 8; ((with_reducible refine C.mono ?_); rintro e w' ⟨rfl, rfl⟩))
      go_quiet (fail)
      go_wp2
      go_ret3
      have f := FS.out (Or.inr (by omega))
      exact ⟨ret3 f.1.symm f.2.symm rfl, grew_drewN (grew_alloc _ _ _) _⟩

/-! ### products -/
theorem ret_i {k : IntKind} {a b : Int} (h : a = b) : Ending.returned (.int k a) = .returned (.int k b) := by rw [h]
theorem size_any (n : Int) (w : World) (h : isMoney n = true) :
    Calls Try.prog 25 #[.int .i64 n] w fun e w' => e = .returned (.int .u64 (n.natAbs : Int)) ∧ w = w' := by
  rw [isMoney_iff] at h
  obtain ⟨h1, h2⟩ := h
  by_cases c : n < 0
  · obtain ⟨m, rfl⟩ : ∃ m : Int, n = -m := ⟨-n, by omega⟩
    have e : ((-m).natAbs : Int) = m := by omega
    have E := Lib.hid e
    clear e
    go_enter Try.func25, Try.ntmps25
    go_wp2
    go_ret
    exact ⟨ret_i E.out.symm, rfl⟩
  · have e : (n.natAbs : Int) = n := by omega
    have E := Lib.hid e
    clear e
    go_enter Try.func25, Try.ntmps25
    go_wp2
    go_ret
    exact ⟨ret_i E.out.symm, rfl⟩

theorem maskN (a : Nat) (ha : a < 18446744073709551616) : bits .and .u64 (a : Int) 4294967295 = ((a % 4294967296 : Nat) : Int) := by
  have h := bits_and_u64_nat a 4294967295 ha (by omega)
  have e : a &&& 4294967295 = a % 4294967296 := Nat.and_two_pow_sub_one_eq_mod a 32
  rw [e] at h
  exact h
theorem divN (a : Nat) : (a : Int) / 4294967296 = ((a / 4294967296 : Nat) : Int) := by omega
theorem mulN (a b : Nat) : (a : Int) * (b : Int) = ((a * b : Nat) : Int) := (Int.natCast_mul a b).symm
theorem addN (a b : Nat) : (a : Int) + (b : Int) = ((a + b : Nat) : Int) := (Int.natCast_add a b).symm
theorem wrapN (a : Nat) (ha : a < 18446744073709551616) : IntKind.u64.wrap (a : Int) = (a : Int) := by rw [IntKind.wrap_u64]; omega
theorem wrapM (a : Nat) : IntKind.u64.wrap (a : Int) = ((a % 18446744073709551616 : Nat) : Int) := by rw [IntKind.wrap_u64]; omega

set_option maxHeartbeats 1000000 in
theorem mul64_any (x y : Nat) (hx : x < 18446744073709551616) (hy : y < 18446744073709551616) (w : World) :
    Calls Try.prog 24 #[.int .u64 x, .int .u64 y] w fun e w' => e = .returned (.tuple #[.int .u64 ((x * y / 18446744073709551616 : Nat) : Int), .int .u64 ((x * y % 18446744073709551616 : Nat) : Int)]) ∧ w = w' := by
  obtain ⟨bd, bt, bw, hhi⟩ := Lib.mul64_hi x y hx hy
  have ba := Lib.half_mul_le (a := x / 4294967296) (b := y / 4294967296) (by omega) (by omega)
  have bb := Lib.half_mul_le (a := x / 4294967296) (b := y % 4294967296) (by omega) (by omega)
  have bc := Lib.half_mul_le (a := x % 4294967296) (b := y / 4294967296) (by omega) (by omega)
  have ba' : x / 4294967296 * (y / 4294967296) < 18446744073709551616 := by omega
  have bb' : x / 4294967296 * (y % 4294967296) < 18446744073709551616 := by omega
  have bc' : x % 4294967296 * (y / 4294967296) < 18446744073709551616 := by omega
  have bh1 : x / 4294967296 * (y / 4294967296) + (x / 4294967296 * (y % 4294967296) + x % 4294967296 * (y % 4294967296) / 4294967296) / 4294967296 < 18446744073709551616 := by omega
  have bh : x / 4294967296 * (y / 4294967296) + (x / 4294967296 * (y % 4294967296) + x % 4294967296 * (y % 4294967296) / 4294967296) / 4294967296 + ((x / 4294967296 * (y % 4294967296) + x % 4294967296 * (y % 4294967296) / 4294967296) % 4294967296 + x % 4294967296 * (y / 4294967296)) / 4294967296 < 18446744073709551616 := by omega
  go_enter Try.func24, Try.ntmps24
  go_wp2
  simp only [maskN x hx, maskN y hy, divN, mulN, addN, wrapN _ bd, wrapN _ bb', wrapN _ bt, maskN _ bt, wrapN _ bc', wrapN _ bw, wrapN _ ba', wrapN _ bh1, wrapN _ bh, wrapM (x * y)]
  rw [hhi]
  go_ret2
  exact ⟨rfl, rfl⟩

def mulV (a b : Int) : Int := if [a, b].all isMoney then capV (a * b) else 0
def mulE (a b : Int) : Int := if [a, b].all isMoney then capE (a * b) else 3
theorem mulV_in {a b : Int} (h : [a, b].all isMoney = true) : mulV a b = capV (a * b) := by simp only [mulV, h, if_true]
theorem mulE_in {a b : Int} (h : [a, b].all isMoney = true) : mulE a b = capE (a * b) := by simp only [mulE, h, if_true]
theorem mulV_out {a b : Int} (h : [a, b].all isMoney = false) : mulV a b = 0 := by unfold mulV; rw [h]; rfl
theorem mulE_out {a b : Int} (h : [a, b].all isMoney = false) : mulE a b = 3 := by unfold mulE; rw [h]; rfl

theorem times_wrong (a b : Int) (w : World) (h : [a, b].all isMoney = false) :
    Calls Try.prog 14 #[.int .i64 a, .int .i64 b] w fun e w' => e = .returned (.tuple #[.int .i64 (mulV a b), .int .i64 (mulE a b)]) ∧ Grew w w' := by
  have C := (right_any (some ⟨w.heap.size, 0, none⟩) 2 2 [a, b] _ (ints2 w a b 3) (by omega))
  rw [h] at C
  have H := Lib.hid h
  clear h
  go_enter Try.func14, Try.ntmps14
  go_wp2_with (go_at_call 8; ((with_reducible refine C.mono ?_); rintro e w' ⟨rfl, rfl⟩))
  go_ret2
  exact ⟨ret2 (mulV_out H.out).symm (mulE_out H.out).symm, grew_alloc _ _ _⟩

theorem part_any (l lo hi : Int) (w : World) :
    Calls Try.prog 18 #[.int .i64 l, .int .i64 lo, .int .i64 hi] w fun e w' => e = .returned (.int .i64 (max lo (min l hi))) ∧ w = w' := by
  go_enter Try.func18, Try.ntmps18
  go_wp2
  all_goals
    go_ret
    exact ⟨ret_i (by omega), rfl⟩

set_option maxHeartbeats 1000000 in
theorem times_right (a b : Int) (w : World) (h : [a, b].all isMoney = true) :
    Calls Try.prog 14 #[.int .i64 a, .int .i64 b] w fun e w' => e = .returned (.tuple #[.int .i64 (mulV a b), .int .i64 (mulE a b)]) ∧ Grew w w' := by
  have C := (right_any (some ⟨w.heap.size, 0, none⟩) 2 2 [a, b] _ (ints2 w a b 3) (by omega))
  rw [h] at C
  have E1 := Lib.hid (mulV_in h)
  have E2 := Lib.hid (mulE_in h)
  have ha : isMoney a = true := by simp only [List.all_cons, Bool.and_eq_true] at h; exact h.1
  have hb : isMoney b = true := by simp only [List.all_cons, Bool.and_eq_true] at h; exact h.2.1
  have A := Lib.hid ha
  have B := Lib.hid hb
  rw [isMoney_iff] at ha hb
  have hp : ((a * b).natAbs) = a.natAbs * b.natAbs := Int.natAbs_mul a b
  have hs : (a < 0 ↔ b < 0) → 0 ≤ a * b := fun h => by
    by_cases c : a < 0
    · exact Int.mul_nonneg_of_nonpos_of_nonpos (by omega) (by omega)
    · exact Int.mul_nonneg (by omega) (by omega)
  have hn : (a < 0 ↔ ¬ b < 0) → a * b ≤ 0 := fun h => by
    by_cases c : a < 0
    · exact Int.mul_nonpos_of_nonpos_of_nonneg (by omega) (by omega)
    · exact Int.mul_nonpos_of_nonneg_of_nonpos (by omega) (by omega)
  have HS := Lib.hid hs
  have HN := Lib.hid hn
  have HP := Lib.hid hp
  clear h hs hn hp
  have M := mul64_any a.natAbs b.natAbs (by omega) (by omega)
  generalize hP : a.natAbs * b.natAbs = P at *
  clear hP ha hb
  have HI : Hid (isMoney (a * b) = decide (P ≤ 4611686018427387904)) := by
    show isMoney (a * b) = _
    rw [Bool.eq_iff_iff, isMoney_iff, decide_eq_true_iff]
    have := HP.out
    omega
  by_cases c1 : (P / 18446744073709551616 : Nat) = 0
  · have e1 : ((P / 18446744073709551616 : Nat) : Int) = 0 := by omega
    have e2 : ((P % 18446744073709551616 : Nat) : Int) = (P : Int) := by omega
    have M := M (w.alloc (.cells #[.int .i64 a, .int .i64 b] 3))
    rw [e1, e2] at M
    clear e1 e2 c1
    by_cases c2 : P ≤ 4611686018427387904
    · have hI : isMoney (a * b) = true := by rw [HI.out]; simpa using c2
      have HM := Lib.hid hI
      clear hI
      have g : (P : Int) ≤ 4611686018427387904 := by omega
      by_cases s1 : a < 0 <;> by_cases s2 : b < 0
      · have d1 : decide (a < 0) = true := by simpa using s1
        have d2 : decide (b < 0) = true := by simpa using s2
        go_enter Try.func14, Try.ntmps14
        go_wp2_with (first | (go_at_call 8; ((with_reducible refine C.mono ?_); rintro e w' ⟨rfl, rfl⟩)) | (go_at_call 25; ((with_reducible refine (size_any _ _ A.out).mono ?_); rintro e w' ⟨rfl, rfl⟩)) | (go_at_call 25; ((with_reducible refine (size_any _ _ B.out).mono ?_); rintro e w' ⟨rfl, rfl⟩)) | (go_at_call 24; ((with_reducible refine M.mono ?_); rintro e w' ⟨rfl, rfl⟩)))
        go_ret2
        have hp := HP.out
        have hs := HS.out (by omega)
        exact ⟨ret2 (by rw [E1.out, capV_in HM.out]; omega) (by rw [E2.out, capE_in HM.out]), grew_alloc _ _ _⟩
      · have d1 : decide (a < 0) = true := by simpa using s1
        have d2 : decide (b < 0) = false := by simpa using s2
        go_enter Try.func14, Try.ntmps14
        go_wp2_with (first | (go_at_call 8; ((with_reducible refine C.mono ?_); rintro e w' ⟨rfl, rfl⟩)) | (go_at_call 25; ((with_reducible refine (size_any _ _ A.out).mono ?_); rintro e w' ⟨rfl, rfl⟩)) | (go_at_call 25; ((with_reducible refine (size_any _ _ B.out).mono ?_); rintro e w' ⟨rfl, rfl⟩)) | (go_at_call 24; ((with_reducible refine M.mono ?_); rintro e w' ⟨rfl, rfl⟩)))
        go_ret2
        have hp := HP.out
        have hs := HN.out (by omega)
        exact ⟨ret2 (by rw [E1.out, capV_in HM.out]; omega) (by rw [E2.out, capE_in HM.out]), grew_alloc _ _ _⟩
      · have d1 : decide (a < 0) = false := by simpa using s1
        have d2 : decide (b < 0) = true := by simpa using s2
        go_enter Try.func14, Try.ntmps14
        go_wp2_with (first | (go_at_call 8; ((with_reducible refine C.mono ?_); rintro e w' ⟨rfl, rfl⟩)) | (go_at_call 25; ((with_reducible refine (size_any _ _ A.out).mono ?_); rintro e w' ⟨rfl, rfl⟩)) | (go_at_call 25; ((with_reducible refine (size_any _ _ B.out).mono ?_); rintro e w' ⟨rfl, rfl⟩)) | (go_at_call 24; ((with_reducible refine M.mono ?_); rintro e w' ⟨rfl, rfl⟩)))
        go_ret2
        have hp := HP.out
        have hs := HN.out (by omega)
        exact ⟨ret2 (by rw [E1.out, capV_in HM.out]; omega) (by rw [E2.out, capE_in HM.out]), grew_alloc _ _ _⟩
      · have d1 : decide (a < 0) = false := by simpa using s1
        have d2 : decide (b < 0) = false := by simpa using s2
        go_enter Try.func14, Try.ntmps14
        go_wp2_with (first | (go_at_call 8; ((with_reducible refine C.mono ?_); rintro e w' ⟨rfl, rfl⟩)) | (go_at_call 25; ((with_reducible refine (size_any _ _ A.out).mono ?_); rintro e w' ⟨rfl, rfl⟩)) | (go_at_call 25; ((with_reducible refine (size_any _ _ B.out).mono ?_); rintro e w' ⟨rfl, rfl⟩)) | (go_at_call 24; ((with_reducible refine M.mono ?_); rintro e w' ⟨rfl, rfl⟩)))
        go_ret2
        have hp := HP.out
        have hs := HS.out (by omega)
        exact ⟨ret2 (by rw [E1.out, capV_in HM.out]; omega) (by rw [E2.out, capE_in HM.out]), grew_alloc _ _ _⟩
    · have hI : isMoney (a * b) = false := by rw [HI.out]; simpa using c2
      have HM := Lib.hid hI
      clear hI
      have g : (4611686018427387904 : Int) < (P : Int) := by omega
      go_enter Try.func14, Try.ntmps14
      go_wp2_with (first | (go_at_call 8; ((with_reducible refine C.mono ?_); rintro e w' ⟨rfl, rfl⟩)) | (go_at_call 25; ((with_reducible refine (size_any _ _ A.out).mono ?_); rintro e w' ⟨rfl, rfl⟩)) | (go_at_call 25; ((with_reducible refine (size_any _ _ B.out).mono ?_); rintro e w' ⟨rfl, rfl⟩)) | (go_at_call 24; ((with_reducible refine M.mono ?_); rintro e w' ⟨rfl, rfl⟩)))
      go_ret2
      exact ⟨ret2 (by rw [E1.out, capV_out HM.out]) (by rw [E2.out, capE_out HM.out]), grew_alloc _ _ _⟩
  · have hI : isMoney (a * b) = false := by rw [HI.out]; simp; omega
    have HM := Lib.hid hI
    clear hI
    have M := M (w.alloc (.cells #[.int .i64 a, .int .i64 b] 3))
    have g : (((P / 18446744073709551616 : Nat) : Int) != 0) = true := by
      have : ((P / 18446744073709551616 : Nat) : Int) ≠ 0 := by omega
      simpa using this
    generalize ((P / 18446744073709551616 : Nat) : Int) = Hi at *
    generalize ((P % 18446744073709551616 : Nat) : Int) = Lo at *
    go_enter Try.func14, Try.ntmps14
    go_wp2_with (first | (go_at_call 8; ((with_reducible refine C.mono ?_); rintro e w' ⟨rfl, rfl⟩)) | (go_at_call 25; ((with_reducible refine (size_any _ _ A.out).mono ?_); rintro e w' ⟨rfl, rfl⟩)) | (go_at_call 25; ((with_reducible refine (size_any _ _ B.out).mono ?_); rintro e w' ⟨rfl, rfl⟩)) | (go_at_call 24; ((with_reducible refine M.mono ?_); rintro e w' ⟨rfl, rfl⟩)))
    go_ret2
    exact ⟨ret2 (by rw [E1.out, capV_out HM.out]) (by rw [E2.out, capE_out HM.out]), grew_alloc _ _ _⟩

theorem times_any (a b : Int) (w : World) :
    Calls Try.prog 14 #[.int .i64 a, .int .i64 b] w fun e w' => e = .returned (.tuple #[.int .i64 (mulV a b), .int .i64 (mulE a b)]) ∧ Grew w w' := by
  by_cases h : [a, b].all isMoney = true
  · exact times_right a b w h
  · exact times_wrong a b w (by simpa using h)

/-! ### wakes -/
theorem wakes_any (w : World) :
    Calls Try.prog 19 #[] w fun e w' => e = .returned (.bool true) ∧ Grew w w' := by
  have C1 := sum_any (some ⟨w.heap.size, 0, none⟩) 3 3 [4611686018427387904, 1, -1] _ (ints3' w _ _ _ 3 _ rfl) (by omega)
  have C2 := fun w' : World => sum_any (some ⟨w'.heap.size, 0, none⟩) 2 2 [4611686018427387904, 1] _ (ints2' w' _ _ 3 _ rfl) (by omega)
  have e1 : sumV [4611686018427387904, 1, -1] = 4611686018427387904 := by decide
  have e2 : sumE [4611686018427387904, 1, -1] = 0 := by decide
  have e3 : sumE [4611686018427387904, 1] = 1 := by decide
  rw [e1, e2] at C1
  rw [e3] at C2
  clear e1 e2 e3
  go_enter Try.func19, Try.ntmps19
  go_wp2_with (first | (go_at_call 10; ((with_reducible refine C1.mono ?_); rintro e w1 ⟨rfl, hg1⟩)) | (go_at_call 10; ((with_reducible refine (C2 _).mono ?_); rintro e w2 ⟨rfl, hg2⟩)))
  go_ret
  exact ⟨rfl, grew_trans (grew_alloc _ _ _) (grew_trans hg1 (grew_trans (grew_alloc _ _ _) hg2))⟩
end Go.Proofs.Ytfmhphojnokhdaa.NumK
