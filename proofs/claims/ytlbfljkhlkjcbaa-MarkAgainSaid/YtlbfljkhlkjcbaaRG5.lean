/- Contracts of package wide: Int. -/
import Derived.Test.YtlbfljkhlkjcbaaRG2
import Derived.Test.YtlbfljkhlkjcbaaRG1
import Derived.Deep.RegionHeld3
import Derived.Deep.RegionWith
import Derived.Test.YtlbfljkhlkjcbaaRG4
namespace Go.Proofs.Ytlbfljkhlkjcbaa.NumK
open Go.RowKit

theorem right1 (n : Int) (b : Bool) (h : isMoney n = b) (w : World) :
    Calls Try.prog 30 #[.slice (some ⟨w.heap.size, 0, none⟩) 1 1] (w.alloc (.cells #[.int .i64 n] 3)).drew fun e w' => e = .returned (.bool b) ∧ (w.alloc (.cells #[.int .i64 n] 3)).drew = w' := by
  have C := right_any (some ⟨w.heap.size, 0, none⟩) 1 1 [n] _ ((ints1 w n 3).keep (grew_drew (grew_refl _))) (by omega)
  have e : [n].all isMoney = b := by simp [h]
  rw [e] at C
  exact C

set_option maxHeartbeats 1000000 in
theorem wint_money (x : Int) (w : World) (h : isMoney x = true) :
    Calls Try.prog 33 #[(.agg #[.int .i64 (hi64 (x)), .int .u64 (lo64 (x))])] w fun e w' => e = .returned (.tuple #[.int .i64 (capV x), .int .i64 (capE x)]) ∧ Grew w w' := by
  have hx := (isMoney_iff x).1 h
  have b1 := lo_bounds x
  have L : wrap64 (lo64 x) = x := by unfold wrap64 lo64; omega
  have C1 := fun w => sign_any x w (by omega)
  rw [hi_of x (by omega)] at C1
  have C2 := right1 x true h
  have E1 := Lib.hid (capV_in h)
  have E2 := Lib.hid (capE_in h)
  clear h hx b1
  generalize hi64 x = hh at *
  generalize lo64 x = l at *
  go_enter Try.func33, Try.ntmps33
  go_wp2
  have h0 : (w.alloc (.cells #[.int .i64 hh, .int .u64 l] 64)).cell? ⟨w.heap.size, 0, none⟩ = some (.int .i64 hh) ∧ (w.alloc (.cells #[.int .i64 hh, .int .u64 l] 64)).cell? ⟨w.heap.size, 1, none⟩ = some (.int .u64 l) ∧ w.heap.size < (w.alloc (.cells #[.int .i64 hh, .int .u64 l] 64)).heap.size ∧ Grew w (w.alloc (.cells #[.int .i64 hh, .int .u64 l] 64)) := ⟨by simp, by simp, by simp, grew_alloc _ _ _⟩
  generalize w.alloc (.cells #[.int .i64 hh, .int .u64 l] 64) = w0 at h0 ⊢
  obtain ⟨h1, h2, h3, h4⟩ := h0
  go_region_held3 (fun w' => w'.cell? ⟨w.heap.size, 0, none⟩ = some (.int .i64 hh) ∧ w'.cell? ⟨w.heap.size, 1, none⟩ = some (.int .u64 l) ∧ w.heap.size < w'.heap.size ∧ Grew w w')
    (first
      | (exact keep2 (grew_drew (grew_refl _)) h1 h2 h3 h4)
      | (exact keep2 (grew_drew (grew_alloc _ _ _)) h1 h2 h3 h4)
      | (trace_state; fail))
    (first
      | (go_at_call 57; refine (C1 _).mono ?_; rintro e w1 ⟨rfl, rfl⟩)
      | (go_at_call 30; refine (C2 _).mono ?_; rintro e w2 ⟨rfl, rfl⟩))
  rename_i hS
  go_wp2
  go_ret2
  exact ⟨ret2 E1.out.symm E2.out.symm, hS.2.2.2⟩
set_option maxHeartbeats 1000000 in
theorem wint_near (x : Int) (w : World) (h : isMoney x = false) (L : wrap64 (lo64 x) = x) :
    Calls Try.prog 33 #[(.agg #[.int .i64 (hi64 (x)), .int .u64 (lo64 (x))])] w fun e w' => e = .returned (.tuple #[.int .i64 (capV x), .int .i64 (capE x)]) ∧ Grew w w' := by
  have b1 := lo_bounds x
  have bn : -9223372036854775808 ≤ wrap64 (lo64 x) ∧ wrap64 (lo64 x) ≤ 9223372036854775807 := by unfold wrap64; omega
  rw [L] at bn
  have C1 := fun w => sign_any x w bn
  rw [hi_of x bn] at C1
  have C2 := right1 x false h
  have E1 := Lib.hid (capV_out h)
  have E2 := Lib.hid (capE_out h)
  clear h b1
  generalize hi64 x = hh at *
  generalize lo64 x = l at *
  go_enter Try.func33, Try.ntmps33
  go_wp2
  have h0 : (w.alloc (.cells #[.int .i64 hh, .int .u64 l] 64)).cell? ⟨w.heap.size, 0, none⟩ = some (.int .i64 hh) ∧ (w.alloc (.cells #[.int .i64 hh, .int .u64 l] 64)).cell? ⟨w.heap.size, 1, none⟩ = some (.int .u64 l) ∧ w.heap.size < (w.alloc (.cells #[.int .i64 hh, .int .u64 l] 64)).heap.size ∧ Grew w (w.alloc (.cells #[.int .i64 hh, .int .u64 l] 64)) := ⟨by simp, by simp, by simp, grew_alloc _ _ _⟩
  generalize w.alloc (.cells #[.int .i64 hh, .int .u64 l] 64) = w0 at h0 ⊢
  obtain ⟨h1, h2, h3, h4⟩ := h0
  go_region_held3 (fun w' => w'.cell? ⟨w.heap.size, 0, none⟩ = some (.int .i64 hh) ∧ w'.cell? ⟨w.heap.size, 1, none⟩ = some (.int .u64 l) ∧ w.heap.size < w'.heap.size ∧ Grew w w')
    (first
      | (exact keep2 (grew_drew (grew_refl _)) h1 h2 h3 h4)
      | (exact keep2 (grew_drew (grew_alloc _ _ _)) h1 h2 h3 h4)
      | (trace_state; fail))
    (first
      | (go_at_call 57; refine (C1 _).mono ?_; rintro e w1 ⟨rfl, rfl⟩)
      | (go_at_call 30; refine (C2 _).mono ?_; rintro e w2 ⟨rfl, rfl⟩))
  rename_i hS
  go_wp2
  go_ret2
  exact ⟨ret2 E1.out.symm E2.out.symm, hS.2.2.2⟩

set_option maxHeartbeats 1000000 in
theorem wint_far (x : Int) (w : World) (h : isMoney x = false) (hf : hi64 (wrap64 (lo64 x)) ≠ hi64 x) :
    Calls Try.prog 33 #[(.agg #[.int .i64 (hi64 (x)), .int .u64 (lo64 (x))])] w fun e w' => e = .returned (.tuple #[.int .i64 (capV x), .int .i64 (capE x)]) ∧ Grew w w' := by
  have b1 := lo_bounds x
  have bn : -9223372036854775808 ≤ wrap64 (lo64 x) ∧ wrap64 (lo64 x) ≤ 9223372036854775807 := by unfold wrap64; omega
  have C1 := fun w => sign_any (wrap64 (lo64 x)) w bn
  rw [hi_of _ bn] at C1
  have E1 := Lib.hid (capV_out h)
  have E2 := Lib.hid (capE_out h)
  have d1 : (hi64 x == hi64 (wrap64 (lo64 x))) = false := by simpa using (Ne.symm hf)
  have d2 : (hi64 x != hi64 (wrap64 (lo64 x))) = true := by simpa using (Ne.symm hf)
  clear h b1 hf
  generalize hi64 (wrap64 (lo64 x)) = hn at *
  generalize hi64 x = hh at *
  generalize lo64 x = l at *
  go_enter Try.func33, Try.ntmps33
  go_wp2
  first
  | (go_region_with (first
      | (go_at_call 57; refine (C1 _).mono ?_; rintro e w1 ⟨rfl, rfl⟩)))
  | fail
  all_goals
    go_wp2
    go_ret2
    exact ⟨ret2 E1.out.symm E2.out.symm, grew_drew (grew_alloc _ _ _)⟩

theorem wint_any (x : Int) (w : World) :
    Calls Try.prog 33 #[(.agg #[.int .i64 (hi64 (x)), .int .u64 (lo64 (x))])] w fun e w' => e = .returned (.tuple #[.int .i64 (capV x), .int .i64 (capE x)]) ∧ Grew w w' := by
  by_cases h : isMoney x = true
  · exact wint_money x w h
  · simp only [Bool.not_eq_true] at h
    by_cases hf : hi64 (wrap64 (lo64 x)) = hi64 x
    · refine wint_near x w h ?_
      have b1 := lo_bounds x
      have e1 := w_eq x
      have e2 := w_eq (wrap64 (lo64 x))
      have hl : lo64 (wrap64 (lo64 x)) = lo64 x := by unfold wrap64 lo64; omega
      rw [hf, hl] at e2
      omega
    · exact wint_far x w h hf
end Go.Proofs.Ytlbfljkhlkjcbaa.NumK
namespace Go.Proofs.Ytlbfljkhlkjcbaa.NumK
open Go.RowKit
set_option linter.unusedVariables false

theorem mul_abs {a b : Int} {A B : Nat} (ha : a.natAbs ≤ A) (hb : b.natAbs ≤ B) : (a * b).natAbs ≤ A * B := by rw [Int.natAbs_mul]; exact Nat.mul_le_mul ha hb
theorem isWide_abs {x : Int} (h : x.natAbs ≤ 85070591730234615865843651857942052864) : isWide x = true := by rw [isWide_iff]; omega

theorem mwithin_any (n lo hi : Int) (w : World) : Calls Try.prog 29 #[.int .i64 n, .int .i64 lo, .int .i64 hi] w fun e w' => e = .returned (.bool (wi n lo hi)) ∧ w = w' := by
  by_cases h1 : lo ≤ n <;> by_cases h2 : n ≤ hi
  all_goals
    (have HR : Hid (wi n lo hi = (decide (lo ≤ n) && decide (n ≤ hi))) := rfl
     generalize wi n lo hi = R at *
     simp only [h1, h2, decide_true, decide_false, Bool.and_true, Bool.and_false] at HR
     go_enter Try.func29, Try.ntmps29
     go_wp2
     go_ret
     exact ⟨ret_b HR.out.symm, rfl⟩)

set_option maxRecDepth 100000 in
set_option maxHeartbeats 1000000 in
theorem price_any (i : In) (w : World) : Calls Try.prog 13 #[vIn i] w fun e w' => e = .returned (.tuple #[.int .i64 (priceI i), .int .i64 (priceE i)]) ∧ Grew w w' := by
  have HN : Hid (priceI i = if i.1.2.2.2.2.1 = 0 then i.1.2.2.2.2.2 else i.1.2.2.2.2.1) := rfl
  have HE : Hid (priceE i = if i.1.2.2.2.2.1 = 0 ∧ i.1.2.2.2.2.2 = 0 then 20 else 0) := rfl
  generalize priceI i = N at *
  generalize priceE i = E at *
  obtain ⟨⟨q1, q2, q3, q4, q5, q6⟩, ⟨q7, q8, q9, q10, q11, q12⟩⟩ := i
  dsimp only [vIn] at HN HE ⊢
  by_cases h1 : q5 = 0
  · subst h1
    by_cases h2 : q6 = 0
    · subst h2
      have HN1 : Hid (N = 0) := by show _ = _; rw [HN.out]; rfl
      have HE1 : Hid (E = 20) := by show _ = _; rw [HE.out]; rfl
      clear HN HE
      go_enter Try.func13, Try.ntmps13
      go_wp2
      go_ret2
      exact ⟨ret2 HN1.out.symm HE1.out.symm, grew_alloc _ _ _⟩
    · have HN1 : Hid (N = q6) := by show _ = _; rw [HN.out, if_pos rfl]
      have HE1 : Hid (E = 0) := by show _ = _; rw [HE.out, if_neg (fun h => h2 h.2)]
      have d2 : (q6 != 0) = true := by simpa using h2
      clear HN HE h2
      go_enter Try.func13, Try.ntmps13
      go_wp2
      go_ret2
      exact ⟨ret2 HN1.out.symm HE1.out.symm, grew_alloc _ _ _⟩
  · have HN1 : Hid (N = q5) := by show _ = _; rw [HN.out, if_neg h1]
    have HE1 : Hid (E = 0) := by show _ = _; rw [HE.out, if_neg (fun h => h1 h.1)]
    have d1 : (q5 != 0) = true := by simpa using h1
    clear HN HE h1
    go_enter Try.func13, Try.ntmps13
    go_wp2
    go_ret2
    exact ⟨ret2 HN1.out.symm HE1.out.symm, grew_alloc _ _ _⟩

theorem wides2 (w : World) (x y : Int) (t : TypeId) (N : Nat) (hN : w.heap.size = N) : Wides (w.alloc (.cells #[.int .i64 (hi64 x), .int .u64 (lo64 x), .int .i64 (hi64 y), .int .u64 (lo64 y)] t)) (some ⟨N, 0, none⟩) 2 [x, y] := by
  subst hN
  refine ⟨rfl, fun _ => ⟨_, _, rfl, by simp, fun j hj => ?_⟩⟩
  match j, hj with
  | 0, _ => exact ⟨(World.cell?_alloc_at _ _ _ _ rfl).trans rfl, (World.cell?_alloc_at _ _ _ _ rfl).trans rfl⟩
  | 1, _ => exact ⟨(World.cell?_alloc_at _ _ _ _ rfl).trans rfl, (World.cell?_alloc_at _ _ _ _ rfl).trans rfl⟩

/-- A sum of two wide numbers, as a statement on cells. -/
theorem wsum2_any (x y z a1 a2 b1 b2 d1 d2 : Int) (w w' : World) (N : Nat) (hN : w.heap.size = N) (g : Grew (w.alloc (.cells #[.int .i64 a1, .int .u64 a2, .int .i64 b1, .int .u64 b2] 64)) w') (hx : isWide x = true) (hy : isWide y = true) (hs : isWide z = true) (hz : x + y = z) (ha1 : hi64 x = a1) (ha2 : lo64 x = a2) (hb1 : hi64 y = b1) (hb2 : lo64 y = b2) (hd1 : hi64 z = d1) (hd2 : lo64 z = d2) :
    Calls Try.prog 31 #[.slice (some ⟨N, 0, none⟩) 2 2] w' fun e w'' => e = .returned (.tuple #[.agg #[.int .i64 d1, .int .u64 d2], .int .i64 0]) ∧ Grew w' w'' := by
  subst hz ha1 ha2 hb1 hb2 hd1 hd2
  have C := wsum_any (some ⟨N, 0, none⟩) 2 2 [x, y] _ ((wides2 w x y 64 N hN).keep g) (by simp [hx, hy]) (by omega)
  have e : [x, y].sum = x + y := by simp
  rw [e, wsV, if_pos hs, wideE, if_pos hs] at C
  exact C

theorem right1_any (z : Int) (w : World) (N : Nat) (hN : w.heap.size = N) :
    Calls Try.prog 30 #[.slice (some ⟨N, 0, none⟩) 1 1] (w.alloc (.cells #[.int .i64 z] 3)) fun e w' => e = .returned (.bool (isMoney z)) ∧ w.alloc (.cells #[.int .i64 z] 3) = w' := by
  subst hN
  have C := right_any (some ⟨w.heap.size, 0, none⟩) 1 1 [z] _ (ints1 w z 3) (by omega)
  have e1 : [z].all isMoney = isMoney z := by simp
  rw [e1] at C
  exact C

theorem may_alt (p : Po) (m k : Int) : worthE p m k = (if okQ p.2.2.1 then (if isMoney p.2.2.2 then (if wi m 1 1024 then (if wi k 0 1073741824 then capE (worthV p m k) else 3) else 3) else 3) else 3) ∧
    worthN p m k = (if okQ p.2.2.1 then (if isMoney p.2.2.2 then (if wi m 1 1024 then (if wi k 0 1073741824 then capV (worthV p m k) else 0) else 0) else 0) else 0) := by
  unfold worthN worthE mayW capE capV
  cases okQ p.2.2.1 <;> cases isMoney p.2.2.2 <;> cases wi m 1 1024 <;> cases wi k 0 1073741824 <;> simp

set_option maxRecDepth 100000 in
set_option maxHeartbeats 2000000 in
theorem worth_any (p : Po) (m k : Int) (w : World) : Calls Try.prog 10 #[vPo p, .int .i64 m, .int .i64 k] w fun e w' => e = .returned (.tuple #[.int .i64 (worthN p m k), .int .i64 (worthE p m k)]) ∧ Grew w w' := by
  obtain ⟨hE, hN⟩ := may_alt p m k
  have HE := Lib.hid hE
  have HN := Lib.hid hN
  clear hE hN
  have HV : Hid (worthV p m k = m * (p.2.2.1 * k - p.2.2.2)) := rfl
  generalize worthE p m k = E at *
  generalize worthN p m k = N at *
  obtain ⟨q1, q2, q3, q4⟩ := p
  dsimp only at HE HN HV
  generalize worthV (q1, q2, q3, q4) m k = V at *
  dsimp only [vPo]
  have CW1 := fun w => mwithin_any q3 (-1099511627776) 1099511627776 w
  have CW2 := fun w => mwithin_any m 1 1024 w
  have CW3 := fun w => mwithin_any k 0 1073741824 w
  have hq : okQ q3 = wi q3 (-1099511627776) 1099511627776 := rfl
  rw [hq] at HE HN
  clear hq
  have CR := fun w N hN => right1_any q4 w N hN
  have HX0 : Hid (OwnC (w.alloc (.cells #[.int .i64 q1, .int .i64 q2, .int .i64 q3, .int .i64 q4] 34)) w.heap.size [.int .i64 q1, .int .i64 q2, .int .i64 q3, .int .i64 q4]) := OwnC.new w [.int .i64 q1, .int .i64 q2, .int .i64 q3, .int .i64 q4] _ _ rfl
  have B1 : Hid (wi q3 (-1099511627776) 1099511627776 = true → q3.natAbs ≤ 1099511627776) := fun h => by simp [wi] at h; omega
  have B2 : Hid (isMoney q4 = true → q4.natAbs ≤ 4611686018427387904) := fun h => by rw [isMoney_iff] at h; omega
  have B3 : Hid (wi m 1 1024 = true → m.natAbs ≤ 1024) := fun h => by simp [wi] at h; omega
  have B4 : Hid (wi k 0 1073741824 = true → k.natAbs ≤ 1073741824) := fun h => by simp [wi] at h; omega
  generalize wi q3 (-1099511627776) 1099511627776 = R1 at *
  generalize isMoney q4 = R2 at *
  generalize wi m 1 1024 = R3 at *
  generalize wi k 0 1073741824 = R4 at *
  have H : (R1 && R2 && R3 && R4) = false ∨ (R1 = true ∧ R2 = true ∧ R3 = true ∧ R4 = true) := by cases R1 <;> cases R2 <;> cases R3 <;> cases R4 <;> simp
  rcases H with H | ⟨rfl, rfl, rfl, rfl⟩
  · have HE1 : Hid (E = 3) := by show _ = _; rw [HE.out]; revert H; cases R1 <;> cases R2 <;> cases R3 <;> cases R4 <;> simp
    have HN1 : Hid (N = 0) := by show _ = _; rw [HN.out]; revert H; cases R1 <;> cases R2 <;> cases R3 <;> cases R4 <;> simp
    have H2 := Lib.hid H
    clear HE HN H B1 B2 B3 B4 HX0
    cases R1
    · go_enter Try.func10, Try.ntmps10
      go_wp2_with (go_at_call 29; ((with_reducible refine (CW1 _).mono ?_); rintro e w1 ⟨rfl, rfl⟩))
      go_ret2
      exact ⟨ret2 HN1.out.symm HE1.out.symm, grew_alloc _ _ _⟩
    · cases R2
      · go_enter Try.func10, Try.ntmps10
        go_wp2_with (first
          | (go_at_call 29; ((with_reducible refine (CW1 _).mono ?_); rintro e w1 ⟨rfl, rfl⟩))
          | (go_at_call 30; ((with_reducible refine (CR _ _ (by simp)).mono ?_); rintro e w1 ⟨rfl, rfl⟩)))
        go_ret2
        exact ⟨ret2 HN1.out.symm HE1.out.symm, grew_trans (grew_alloc _ _ _) (grew_alloc _ _ _)⟩
      · cases R3
        · go_enter Try.func10, Try.ntmps10
          go_wp2_with (first
            | (go_at_call 29; ((with_reducible refine (CW1 _).mono ?_); rintro e w1 ⟨rfl, rfl⟩))
            | (go_at_call 30; ((with_reducible refine (CR _ _ (by simp)).mono ?_); rintro e w1 ⟨rfl, rfl⟩))
            | (go_at_call 29; ((with_reducible refine (CW2 _).mono ?_); rintro e w1 ⟨rfl, rfl⟩)))
          go_ret2
          exact ⟨ret2 HN1.out.symm HE1.out.symm, grew_trans (grew_alloc _ _ _) (grew_alloc _ _ _)⟩
        · obtain rfl : R4 = false := by simpa using H2.out
          go_enter Try.func10, Try.ntmps10
          go_wp2_with (first
            | (go_at_call 29; ((with_reducible refine (CW1 _).mono ?_); rintro e w1 ⟨rfl, rfl⟩))
            | (go_at_call 30; ((with_reducible refine (CR _ _ (by simp)).mono ?_); rintro e w1 ⟨rfl, rfl⟩))
            | (go_at_call 29; ((with_reducible refine (CW2 _).mono ?_); rintro e w1 ⟨rfl, rfl⟩))
            | (go_at_call 29; ((with_reducible refine (CW3 _).mono ?_); rintro e w1 ⟨rfl, rfl⟩)))
          go_ret2
          exact ⟨ret2 HN1.out.symm HE1.out.symm, grew_trans (grew_alloc _ _ _) (grew_alloc _ _ _)⟩
  · have HE1 : Hid (E = capE V) := by show _ = _; rw [HE.out]; rfl
    have HN1 : Hid (N = capV V) := by show _ = _; rw [HN.out]; rfl
    have b1 := B1.out rfl
    have b2 := B2.out rfl
    have b3 := B3.out rfl
    have b4 := B4.out rfl
    clear HE HN B1 B2 B3 B4
    obtain ⟨mq, hmq⟩ : ∃ x, m * q3 = x := ⟨_, rfl⟩
    have bmq := mul_abs b3 b1
    rw [hmq] at bmq
    obtain ⟨X, hX⟩ : ∃ x, mq * k = x := ⟨_, rfl⟩
    have bX := mul_abs bmq b4
    rw [hX] at bX
    obtain ⟨Y, hY⟩ : ∃ x, -m * q4 = x := ⟨_, rfl⟩
    have bY := mul_abs (a := -m) (b := q4) (A := 1024) (by omega) b2
    rw [hY] at bY
    have hV : X + Y = V := by
      rw [HV.out, ← hX, ← hY, ← hmq, Int.mul_sub, Int.neg_mul, Int.mul_assoc]; omega
    have C1 := fun w => wtimes_any mq k w (by omega) (by omega)
    have C2 := fun w => wtimes_any (-m) q4 w (by omega) (by omega)
    rw [hX] at C1
    rw [hY] at C2
    have wX : isWide X = true := isWide_abs (by omega)
    have wY : isWide Y = true := isWide_abs (by omega)
    have wV : isWide V = true := isWide_abs (by omega)
    have CS := fun w w' N hN g => wsum2_any X Y V _ _ _ _ _ _ w w' N hN g wX wY wV hV rfl rfl rfl rfl rfl rfl
    have CI := fun w => wint_any V w
    have HM : IntKind.i64.wrap (m * q3) = mq := by rw [hmq, IntKind.wrap_i64]; omega
    have HM2 : IntKind.i64.wrap (-m) = -m := by rw [IntKind.wrap_i64]; omega
    rw [← HM] at C1
    rw [← HM2] at C2
    clear HM HM2
    clear wX wY wV hV hX hY hmq bX bY bmq b1 b2 b3 b4 HV
    generalize hi64 X = x1 at *
    generalize lo64 X = x2 at *
    generalize hi64 Y = y1 at *
    generalize lo64 Y = y2 at *
    generalize hi64 V = v1 at *
    generalize lo64 V = v2 at *
    go_enter Try.func10, Try.ntmps10
    go_upto_region 3 with (first
      | (go_at_call 29; ((with_reducible refine (CW1 _).mono ?_); rintro e w1 ⟨rfl, rfl⟩))
      | (go_at_call 30; ((with_reducible refine (CR _ _ (by simp)).mono ?_); rintro e w1 ⟨rfl, rfl⟩))
      | (go_at_call 29; ((with_reducible refine (CW2 _).mono ?_); rintro e w1 ⟨rfl, rfl⟩))
      | (go_at_call 29; ((with_reducible refine (CW3 _).mono ?_); rintro e w1 ⟨rfl, rfl⟩)))
    have HX1 : Hid (OwnC ((w.alloc (.cells #[.int .i64 q1, .int .i64 q2, .int .i64 q3, .int .i64 q4] 34)).alloc (.cells #[.int .i64 q4] 3)) w.heap.size [.int .i64 q1, .int .i64 q2, .int .i64 q3, .int .i64 q4]) := HX0.out.keep (grew_alloc _ _ _)
    have HG1 : Hid (Grew w ((w.alloc (.cells #[.int .i64 q1, .int .i64 q2, .int .i64 q3, .int .i64 q4] 34)).alloc (.cells #[.int .i64 q4] 3))) := grew_trans (grew_alloc _ _ _) (grew_alloc _ _ _)
    clear HX0 CW1 CW2 CW3 CR
    generalize (w.alloc (.cells #[.int .i64 q1, .int .i64 q2, .int .i64 q3, .int .i64 q4] 34)).alloc (.cells #[.int .i64 q4] 3) = w1 at *
    have HS : Hid (∀ w', Grew w1 w' → w'.cell? ⟨w.heap.size, 2, none⟩ = some (.int .i64 q3) ∧ w'.cell? ⟨w.heap.size, 3, none⟩ = some (.int .i64 q4)) := fun w' g => ⟨(HX1.out.keep g).at 2 _ rfl, (HX1.out.keep g).at 3 _ rfl⟩
    clear HX1
    go_region_held3 (fun w' => w'.cell? ⟨w.heap.size, 2, none⟩ = some (.int .i64 q3) ∧ w'.cell? ⟨w.heap.size, 3, none⟩ = some (.int .i64 q4))
      (first
        | (with_reducible exact HS.out _ (grew_drew (grew_refl _)))
        | (with_reducible exact HS.out _ (grew_trans (grew_drew (grew_refl _)) (grew_alloc _ _ _)))
        | (with_reducible exact HS.out _ HG3.out)
        | (with_reducible exact HS.out _ (grew_trans HG3.out (grew_alloc _ _ _)))
        | (with_reducible exact HS.out _ (grew_set (grew_set (grew_trans HG3.out (grew_alloc _ _ _)) _ (grew_size HG3.out)) _ (grew_size HG3.out)))
        | (with_reducible exact HS.out _ (grew_set (grew_set HG3.out _ HBS.out) _ HBS.out))
        | (with_reducible exact HS.out _ HGB.out)
        | (with_reducible exact HS.out _ (grew_trans HGB.out (grew_alloc _ _ _)))
        | (with_reducible exact HS.out _ (grew_trans HGB.out (grew_trans (grew_alloc _ _ _) (grew_alloc _ _ _))))
        | (with_reducible exact HS.out _ HGA.out)
        | (with_reducible exact HS.out _ (grew_trans HGA.out (grew_alloc _ _ _)))
        | (trace_state; fail))
      (first
        | (go_at_call 32; (with_reducible refine (C1 _).mono ?_); rintro e w2 ⟨rfl, hg⟩; have HGA : Hid (Grew w1 w2) := grew_trans (grew_drew (grew_refl _)) hg; clear hg)
        | (go_at_call 32; (with_reducible refine (C1 _).mono ?_); rintro e w2 ⟨rfl, hg⟩; have HGA : Hid (Grew w1 w2) := grew_trans (grew_trans (grew_drew (grew_refl _)) (grew_alloc _ _ _)) hg; have HB2 : Hid (OwnC w2 w1.heap.size [.int .i64 0, .int .u64 0]) := (OwnC.new w1.drew [.int .i64 0, .int .u64 0] _ w1.heap.size rfl).keep hg; have HBS : Hid (w1.heap.size ≤ w1.heap.size) := Nat.le_refl _; clear hg)
        | (go_at_call 32; (with_reducible refine (C2 _).mono ?_); rintro e w3 ⟨rfl, hg⟩; have HB3 := Lib.hid (HB2.out.keep hg); have HGB : Hid (Grew w1 w3) := grew_trans HGA.out hg; have HZA : Hid (w1.heap.size ≤ w3.heap.size) := grew_size HGB.out; clear hg)
        | (go_at_call 32; (with_reducible refine (C2 _).mono ?_); rintro e w3 ⟨rfl, hg⟩; have HGB : Hid (Grew w1 w3) := grew_trans HGA.out hg; have HZA : Hid (w1.heap.size ≤ w3.heap.size) := grew_size HGB.out; clear hg)
        | (go_at_call 32; (with_reducible refine (C2 _).mono ?_); rintro e w3 ⟨rfl, hg⟩; have HB3 : Hid (OwnC w3 w2.heap.size [.int .i64 0, .int .u64 0]) := (OwnC.new w2 [.int .i64 0, .int .u64 0] _ _ rfl).keep hg; have HBS : Hid (w1.heap.size ≤ w2.heap.size) := grew_size HGA.out; have HGB : Hid (Grew w1 w3) := grew_trans HGA.out (grew_trans (grew_alloc _ _ _) hg); have HZA : Hid (w1.heap.size ≤ w3.heap.size) := grew_size HGB.out; clear hg)
        | (go_at_call 31; (with_reducible refine (CS _ _ _ rfl (grew_refl _)).mono ?_); rintro e w4 ⟨rfl, hg⟩; have HB4 := Lib.hid (HB3.out.keep (grew_trans (grew_alloc _ _ _) hg)); have HG3 : Hid (Grew w1 w4) := grew_trans HGB.out (grew_trans (grew_alloc _ _ _) hg); have y0 := HB4.out.at 0 (.int .i64 0) rfl; have y1 := HB4.out.at 1 (.int .u64 0) rfl; have f0 := HB4.out.fr 0 (by decide); have f1 := HB4.out.fr 1 (by decide); clear hg)
        | (go_at_call 31; (with_reducible refine (CS _ _ _ rfl (grew_refl _)).mono ?_); rintro e w4 ⟨rfl, hg⟩; have HG3 : Hid (Grew w1 w4) := grew_trans HGB.out (grew_trans (grew_alloc _ _ _) hg); clear hg)
        | (go_at_call 31; (with_reducible refine (CS _ _ _ rfl (grew_alloc _ _ _)).mono ?_); rintro e w4 ⟨rfl, hg⟩; have HB4 : Hid (OwnC w4 (w3.heap.size + 1) [.int .i64 0, .int .u64 0]) := (OwnC.new _ [.int .i64 0, .int .u64 0] _ _ (by simp)).keep hg; have HBS : Hid (w1.heap.size ≤ w3.heap.size + 1) := Nat.le_succ_of_le HZA.out; have HG3 : Hid (Grew w1 w4) := grew_trans HGB.out (grew_trans (grew_trans (grew_alloc _ _ _) (grew_alloc _ _ _)) hg); have y0 := HB4.out.at 0 (.int .i64 0) rfl; have y1 := HB4.out.at 1 (.int .u64 0) rfl; have f0 := HB4.out.fr 0 (by decide); have f1 := HB4.out.fr 1 (by decide); clear hg)
        | (go_at_call 31; (with_reducible refine (CS (w3.alloc _) _ _ (by simp) (grew_refl _)).mono ?_); rintro e w4 ⟨rfl, hg⟩; have HB4 : Hid (OwnC w4 w3.heap.size [.int .i64 0, .int .u64 0]) := ((OwnC.new _ [.int .i64 0, .int .u64 0] _ _ rfl).keep (grew_alloc _ _ _)).keep hg; have HBS : Hid (w1.heap.size ≤ w3.heap.size) := HZA.out; have HG3 : Hid (Grew w1 w4) := grew_trans HGB.out (grew_trans (grew_trans (grew_alloc _ _ _) (grew_alloc _ _ _)) hg); have y0 := HB4.out.at 0 (.int .i64 0) rfl; have y1 := HB4.out.at 1 (.int .u64 0) rfl; have f0 := HB4.out.fr 0 (by decide); have f1 := HB4.out.fr 1 (by decide); clear hg)
        | (go_at_call 32; trace_state; fail)
        | (go_at_call 31; trace_state; fail))
    all_goals
      (first
        | refine end_put (w := w) (P := Exit.then _ _ Exit.normal _) [.int .i64 v1, .int .u64 v2] (by rfl) HB4.out (grew_trans HG1.out HG3.out) (Nat.le_trans (grew_size HG1.out) HBS.out) ?_
        | refine end_new (w := w) (P := Exit.then _ _ Exit.normal _) [.int .i64 v1, .int .u64 v2] 64 (grew_trans HG1.out HG3.out) ?_
       intro w5 h5 g5
       have z0 := h5.at 0 _ rfl
       have z1 := h5.at 1 _ rfl
       have HG5 := Lib.hid g5
       clear h5 g5
       apply_assumption
       go_wp2_with (go_at_call 33; ((with_reducible refine (CI _).mono ?_); rintro e w6 ⟨rfl, hg⟩; have HG6 := Lib.hid (grew_trans HG5.out hg); clear hg))
       go_ret2
       exact ⟨ret2 HN1.out.symm HE1.out.symm, HG6.out⟩)
end Go.Proofs.Ytlbfljkhlkjcbaa.NumK
