/-
  For every number of blocks, length of a snapshot and of a record: what does not fit is refused, and nothing of it is there; what fits to the last block is (P7.2, P7.3); numbers beyond those that the statement names it lets by.
-/
import Derived.Test.YthmdbfbhcnjghaaRJnN
import Derived.Test.YthmdbfbhcnjghaaRows
import Derived.WalkKit
import Derived.ProofKit
import Derived.OpenShut
import Derived.ShutString
import Derived.ChangeOld
import Derived.Below
import Derived.Carry
namespace Go.Proofs.Ythmdbfbhcnjghaa.NumK
open Go.RowKit

set_option maxRecDepth 100000 in
set_option maxHeartbeats 1000000 in
theorem logFull_big (x0 x1 x2 : Int) (W : World) (h : x0 < 4 ∨ 60 < x0 ∨ x1 < 0 ∨ 4000 < x1 ∨ x2 < 0 ∨ 4000 < x2) :
    Calls Try.prog 7 #[.int .i64 x0, .int .i64 x1, .int .i64 x2] W fun e w' => e = .returned (.bool true) ∧ Grew W w' := by
  by_cases d0 : x0 < 4
  · clear h
    go_enter Try.func7, Try.ntmps7
    go_wp2
    go_ret
    exact ⟨rfl, grew_refl _⟩
  · skip
    by_cases d1 : 60 < x0
    · clear h
      go_enter Try.func7, Try.ntmps7
      go_wp2
      go_ret
      exact ⟨rfl, grew_refl _⟩
    · skip
      by_cases d2 : x1 < 0
      · clear h
        go_enter Try.func7, Try.ntmps7
        go_wp2
        go_ret
        exact ⟨rfl, grew_refl _⟩
      · skip
        by_cases d3 : 4000 < x1
        · clear h
          go_enter Try.func7, Try.ntmps7
          go_wp2
          go_ret
          exact ⟨rfl, grew_refl _⟩
        · skip
          by_cases d4 : x2 < 0
          · clear h
            go_enter Try.func7, Try.ntmps7
            go_wp2
            go_ret
            exact ⟨rfl, grew_refl _⟩
          · skip
            have d5 : 4000 < x2 := by omega
            clear h
            go_enter Try.func7, Try.ntmps7
            go_wp2
            go_ret
            exact ⟨rfl, grew_refl _⟩

/-- Its model. -/
theorem full_snap (N sN : Nat) (hs : sN ≤ 4000) (hf : N / 2 < nbk (sN + 21)) : lBegin (dNew N) (lPick (dNew N)) (List.replicate sN 0) = (9, dNew N, lPick (dNew N)) := by
  unfold lBegin
  rw [lPick_new, if_neg (by simp), if_neg (by simp; omega), if_pos (by unfold roomD; rw [dNew_len]; simpa using hf)]
set_option maxRecDepth 100000 in
set_option maxHeartbeats 2000000 in
theorem logFull_no (N sN mN : Nat) (W : World) (h4 : 4 ≤ N) (hN : N ≤ 60) (hs : sN ≤ 4000) (hm : mN ≤ 4000) (hf : N / 2 < nbk (sN + 21)) :
    Calls Try.prog 7 #[.int .i64 N, .int .i64 sN, .int .i64 mN] W fun e w' => e = .returned (.bool true) ∧ Grew W w' := by
  have CN := Lib.hid (newD N W (by omega) (by omega))
  have CO := Lib.hid (fun w1 q (h : DI N0 W w1 q (dNew N)) => h.openJ (lOpen_ok rfl (by rw [dNew_len]; omega)))
  have CB : Hid (∀ w1 lb q, JI N0 W w1 lb q (dNew N) (lPick (dNew N)) → Calls Try.prog 29 #[.pointer (some ⟨lb, 0, none⟩), .slice (some ⟨w1.heap.size, 0, none⟩) sN sN] (w1.alloc (.cells (madeCells #[.int .u8 0] sN) 5)) (JOut N0 W lb q 9 (dNew N) (lPick (dNew N)))) := fun w1 lb q h =>
    h.begin' (grew_alloc _ _ _) (List.replicate sN 0) _ sN sN (bys_zeros _ _ _) (fun h => by cases h) (Nat.le_refl _) (fun a ha _ => by cases ha; exact Or.inr (Or.inr ⟨Nat.le_refl _, by simp⟩)) (by omega) (by simp [dNew]) (full_snap N sN hs hf) rfl
  have CX := Lib.hid (fun w1 lb q (h : JI N0 W w1 lb q (dNew N) (lPick (dNew N))) => h.appendX (by rw [lPick_new]) rfl (by simp [dNew]))
  have CL := Lib.hid (fun w => rows_any sN (by omega) w)
  have CW := Lib.hid (fun w => wakes07_any w)
  have hmk := fun w => run_u8s w sN (by omega)
  have d0 : ¬ (N : Int) < 4 := by omega
  have d1 : ¬ (60 : Int) < (N : Int) := by omega
  have d2 : ¬ (sN : Int) < 0 := by omega
  have d3 : ¬ (4000 : Int) < (sN : Int) := by omega
  have d4 : ¬ (mN : Int) < 0 := by omega
  have d5 : ¬ (4000 : Int) < (mN : Int) := by omega
  have t1 : ((N : Int)).tdiv 2 = ((N / 2 : Nat) : Int) := by rw [Int.tdiv_eq_ediv_of_nonneg (by omega)]; omega
  have t2 : IntKind.i64.wrap ((N / 2 : Nat) : Int) = ((N / 2 : Nat) : Int) := by rw [IntKind.wrap_i64]; omega
  have t3 : ¬ ((nbk (sN + 21) : Nat) : Int) ≤ ((N / 2 : Nat) : Int) := by omega
  generalize nbk (sN + 21) = nb at *
  generalize N / 2 = room at *
  clear hf
  go_enter Try.func7, Try.ntmps7
  go_upto_region 11 with (first
    | (go_at_call 12; ((with_reducible refine CN.out.mono ?_); rintro e w1 ⟨q, rfl, hd⟩; have D0 := Lib.hid hd; clear hd))
    | (go_at_call 23; ((with_reducible refine (CO.out _ _ D0.out).mono ?_); rintro e w2 ⟨hg, lb, rfl, hj⟩; have J0 := Lib.hid hj; clear hj hg))
    | (go_at_call 29; ((with_reducible refine (CB.out _ _ _ J0.out).mono ?_); rintro e w3 ⟨rfl, hj⟩; have J1 := Lib.hid hj; clear hj)))
  go_wp2_with (first
    | (go_at_call 36; ((with_reducible refine (CL.out _).mono ?_); rintro e w4 ⟨rfl, rfl⟩; have m1 := run_mark w3 #[.int .u8 120] w3.heap.size 1 1 rfl))
    | (go_at_call 30; ((with_reducible refine (CX.out _ _ _ J1.out).mono ?_); rintro e w5 ⟨rfl, hj⟩; have J2 := Lib.hid hj; clear hj))
    | (go_at_call 21; ((with_reducible refine (CW.out _).mono ?_); rintro e w15 ⟨rfl, hg⟩; have GE := Lib.hid (grew_trans J2.out.grew hg); clear hg)))
  go_ret
  exact ⟨rfl, GE.out⟩
set_option maxRecDepth 100000 in
set_option maxHeartbeats 4000000 in
theorem logFull_yes (N sN mN : Nat) (W : World) (h4 : 4 ≤ N) (hN : N ≤ 60) (hs : sN ≤ 4000) (hm : mN ≤ 4000) (hf : nbk (sN + 21) ≤ N / 2) :
    Calls Try.prog 7 #[.int .i64 N, .int .i64 sN, .int .i64 mN] W fun e w' => e = .returned (.bool true) ∧ Grew W w' := by
  obtain ⟨s1, e1, L1, o1, k1⟩ := LL.first N (List.replicate sN 0) (by omega) (by simp; omega) (by simpa using hf)
  have r1 : roomD s1 = N / 2 := by unfold roomD; rw [k1]
  have CN := Lib.hid (newD N W (by omega) (by omega))
  have CO := Lib.hid (fun w1 q (h : DI N0 W w1 q (dNew N)) => h.openJ (lOpen_ok rfl (by rw [dNew_len]; omega)))
  have CB : Hid (∀ w1 lb q, JI N0 W w1 lb q (dNew N) (lPick (dNew N)) → Calls Try.prog 29 #[.pointer (some ⟨lb, 0, none⟩), .slice (some ⟨w1.heap.size, 0, none⟩) sN sN] (w1.alloc (.cells (madeCells #[.int .u8 0] sN) 5)) (JOut N0 W lb q 0 s1 (lgL 0 1 (List.replicate sN 0) [] true))) := fun w1 lb q h =>
    h.begin' (grew_alloc _ _ _) (List.replicate sN 0) _ sN sN (bys_zeros _ _ _) (fun h => by cases h) (Nat.le_refl _) (fun a ha _ => by cases ha; exact Or.inr (Or.inr ⟨Nat.le_refl _, by simp⟩)) (by omega) (by simp [dNew]) e1 L1.on
  have HAP : ∃ (r : Int) (s2 : DS) (rs : List (List UInt8)), lAppend s1 (lgL 0 1 (List.replicate sN 0) [] true) [List.replicate mN 0] = (r, s2, lgL 0 1 (List.replicate sN 0) rs true) ∧ LL s2 0 1 (List.replicate sN 0) [] rs ∧ s2.safe.length = N ∧
      ((r = 0 ∧ rs.length = 1 ∧ nbk (sN + 21) + nbk (mN + 21) ≤ N / 2) ∨ (r = 9 ∧ rs.length = 0 ∧ ¬ nbk (sN + 21) + nbk (mN + 21) ≤ N / 2)) := by
    by_cases hc : nbk (sN + 21) + nbk (mN + 21) ≤ N / 2
    · obtain ⟨s2, e2, L2, f2⟩ := L1.append [List.replicate mN 0] (by simp; omega) (by rw [r1]; simp [spanL]; omega)
      exact ⟨0, s2, [List.replicate mN 0], by simpa using e2, by simpa using L2, by rw [f2, k1], Or.inl ⟨rfl, rfl, hc⟩⟩
    · exact ⟨9, s1, [], LL.full (s := s1) [List.replicate mN 0] (by simp; omega) (by rw [r1]; simp [spanL]; omega), L1, k1, Or.inr ⟨rfl, rfl, hc⟩⟩
  obtain ⟨r, s2, rs, e2, L2, k2, hcase⟩ := HAP
  obtain ⟨s3, e3, L3, o3, k3, _⟩ := L2.sync
  have CA : Hid (∀ w1 lb q, JI N0 W w1 lb q s1 (lgL 0 1 (List.replicate sN 0) [] true) → Calls Try.prog 30 #[.pointer (some ⟨lb, 0, none⟩), .slice (some ⟨w1.heap.size + 1, 0, none⟩) 1 1] ((w1.alloc (.cells (madeCells #[.int .u8 0] mN) 5)).alloc (.cells #[.slice (some ⟨w1.heap.size, 0, none⟩) mN mN] 37)) (JOut N0 W lb q r s2 (lgL 0 1 (List.replicate sN 0) rs true))) := fun w1 lb q h => by
    have z1 : (w1.alloc (.cells (madeCells #[.int .u8 0] mN) 5)).heap.size = w1.heap.size + 1 := by simp
    have hM : ∀ (w3 : World) k, w1.heap.size ≤ k → k < w3.heap.size → ¬ Mine (WithNew N0 w1 w3) W k := fun w3 k h1 h2 hm => hm.2 (Or.inr ⟨h1, h2⟩)
    have hr := rows1S (M := Mine (WithNew N0 w1 ((w1.alloc (.cells (madeCells #[.int .u8 0] mN) 5)).alloc (.cells #[.slice (some ⟨w1.heap.size, 0, none⟩) mN mN] 37))) W) 37 (bys_zeros w1 mN 5) (c1 := mN) (fun h => by cases h) (by omega) (by omega) (fun a ha _ => by cases ha; exact hM _ _ (by simp) (by simp; omega)) (hM _ _ (by simp) (by simp))
    rw [z1] at hr
    exact h.append' (grew_trans (grew_alloc _ _ _) (grew_alloc _ _ _)) [List.replicate mN 0] _ 1 1 hr (by omega) (by rw [o1]; simp) e2 L2.on
  have CY := Lib.hid (fun w1 lb q (h : JI N0 W w1 lb q s2 (lgL 0 1 (List.replicate sN 0) rs true)) => h.sync' (grew_refl _) (by have := L2.opn; omega) e3 L3.on)
  have CO2 := Lib.hid (fun w1 q (h : DI N0 W w1 q s3) => h.openJ (lOpen_ok L3.on (by omega)))
  rw [L3.pick, List.nil_append, List.append_nil] at CO2
  have CS := Lib.hid (fun w1 lb q (h : JI N0 W w1 lb q s3 (lgL 0 1 (List.replicate sN 0) rs false)) => h.snapL)
  rw [List.length_replicate] at CS
  have CR := Lib.hid (fun w1 lb q (h : JI N0 W w1 lb q s3 (lgL 0 1 (List.replicate sN 0) rs false)) => h.recsL)
  have CL := Lib.hid (fun w => rows_any sN (by omega) w)
  have CM := Lib.hid (fun w => rows_any mN (by omega) w)
  have CW := Lib.hid (fun w => wakes07_any w)
  have hmk := fun w => run_u8s w sN (by omega)
  have hmk2 := fun w => run_u8s w mN (by omega)
  have d0 : ¬ (N : Int) < 4 := by omega
  have d1 : ¬ (60 : Int) < (N : Int) := by omega
  have d2 : ¬ (sN : Int) < 0 := by omega
  have d3 : ¬ (4000 : Int) < (sN : Int) := by omega
  have d4 : ¬ (mN : Int) < 0 := by omega
  have d5 : ¬ (4000 : Int) < (mN : Int) := by omega
  have t1 : ((N : Int)).tdiv 2 = ((N / 2 : Nat) : Int) := by rw [Int.tdiv_eq_ediv_of_nonneg (by omega)]; omega
  have t2 : IntKind.i64.wrap ((N / 2 : Nat) : Int) = ((N / 2 : Nat) : Int) := by rw [IntKind.wrap_i64]; omega
  have t3 : ((nbk (sN + 21) : Nat) : Int) ≤ ((N / 2 : Nat) : Int) := by omega
  have t4 : IntKind.i64.wrap (((nbk (sN + 21) : Nat) : Int) + ((nbk (mN + 21) : Nat) : Int)) = ((nbk (sN + 21) : Nat) : Int) + ((nbk (mN + 21) : Nat) : Int) := by unfold nbk; rw [IntKind.wrap_i64]; omega
  clear e1 L1 o1 k1 r1 e2 L2 k2 e3 L3 o3 k3
  rcases hcase with ⟨rfl, hrl, hc⟩ | ⟨rfl, hrl, hc⟩
  · have t5 : ((nbk (sN + 21) : Nat) : Int) + ((nbk (mN + 21) : Nat) : Int) ≤ ((N / 2 : Nat) : Int) := by omega
    have t6 : (rs.length : Int) = 1 := by omega
    clear hc hrl hf
    generalize nbk (sN + 21) = nb at *
    generalize nbk (mN + 21) = nb2 at *
    generalize N / 2 = room at *
    generalize List.replicate sN 0 = p0 at *
    go_enter Try.func7, Try.ntmps7
    go_upto_region 18 with (first
      | (go_at_call 12; ((with_reducible refine CN.out.mono ?_); rintro e w1 ⟨q, rfl, hd⟩; have D0 := Lib.hid hd; clear hd))
      | (go_at_call 23; ((with_reducible refine (CO.out _ _ D0.out).mono ?_); rintro e w2 ⟨hg, lb, rfl, hj⟩; have J0 := Lib.hid hj; clear hj hg))
      | (go_at_call 29; ((with_reducible refine (CB.out _ _ _ J0.out).mono ?_); rintro e w3 ⟨rfl, hj⟩; have J1 := Lib.hid hj; clear hj))
      | (go_at_call 36; ((with_reducible refine (CL.out _).mono ?_); rintro e w4 ⟨rfl, rfl⟩))
      | (go_at_call 36; ((with_reducible refine (CM.out _).mono ?_); rintro e w4b ⟨rfl, rfl⟩))
      | (go_at_call 30; ((with_reducible refine (CA.out _ _ _ J1.out).mono ?_); rintro e w5 ⟨rfl, hj⟩; have J2 := Lib.hid hj; clear hj))
      | (go_at_call 31; ((with_reducible refine (CY.out _ _ _ J2.out).mono ?_); rintro e w6 ⟨rfl, hj⟩; have J3 := Lib.hid hj; clear hj)))
    clear D0 J0 J1 J2
    go_wp2_with (first
      | (go_at_call 23; ((with_reducible refine (CO2.out _ _ J3.out.di).mono ?_); rintro e w7 ⟨hg, lb2, rfl, hj⟩; have J4 := Lib.hid hj; clear hj hg))
      | (go_at_call 27; ((with_reducible refine (CR.out _ _ _ J4.out).mono ?_); rintro e w10 ⟨hg10, v, rfl, hv⟩; obtain ⟨A10, c10, rfl, -⟩ := hv.toB; have J5 := Lib.hid (J4.out.grows hg10); clear hg10 hv))
      | (go_at_call 26; ((with_reducible refine (CS.out _ _ _ J5.out).mono ?_); rintro e w8 ⟨hg8, A8, c8, rfl, -⟩; have J6 := Lib.hid (J5.out.grows hg8); clear hg8))
      | (go_at_call 21; ((with_reducible refine (CW.out _).mono ?_); rintro e w15 ⟨rfl, hg⟩; have GE := Lib.hid (grew_trans J6.out.grew hg); clear hg)))
    go_ret
    exact ⟨rfl, GE.out⟩
  · have t5 : ¬ ((nbk (sN + 21) : Nat) : Int) + ((nbk (mN + 21) : Nat) : Int) ≤ ((N / 2 : Nat) : Int) := by omega
    have t6 : (rs.length : Int) = 0 := by omega
    clear hc hrl hf
    generalize nbk (sN + 21) = nb at *
    generalize nbk (mN + 21) = nb2 at *
    generalize N / 2 = room at *
    generalize List.replicate sN 0 = p0 at *
    go_enter Try.func7, Try.ntmps7
    go_upto_region 18 with (first
      | (go_at_call 12; ((with_reducible refine CN.out.mono ?_); rintro e w1 ⟨q, rfl, hd⟩; have D0 := Lib.hid hd; clear hd))
      | (go_at_call 23; ((with_reducible refine (CO.out _ _ D0.out).mono ?_); rintro e w2 ⟨hg, lb, rfl, hj⟩; have J0 := Lib.hid hj; clear hj hg))
      | (go_at_call 29; ((with_reducible refine (CB.out _ _ _ J0.out).mono ?_); rintro e w3 ⟨rfl, hj⟩; have J1 := Lib.hid hj; clear hj))
      | (go_at_call 36; ((with_reducible refine (CL.out _).mono ?_); rintro e w4 ⟨rfl, rfl⟩))
      | (go_at_call 36; ((with_reducible refine (CM.out _).mono ?_); rintro e w4b ⟨rfl, rfl⟩))
      | (go_at_call 30; ((with_reducible refine (CA.out _ _ _ J1.out).mono ?_); rintro e w5 ⟨rfl, hj⟩; have J2 := Lib.hid hj; clear hj))
      | (go_at_call 31; ((with_reducible refine (CY.out _ _ _ J2.out).mono ?_); rintro e w6 ⟨rfl, hj⟩; have J3 := Lib.hid hj; clear hj)))
    clear D0 J0 J1 J2
    go_wp2_with (first
      | (go_at_call 23; ((with_reducible refine (CO2.out _ _ J3.out.di).mono ?_); rintro e w7 ⟨hg, lb2, rfl, hj⟩; have J4 := Lib.hid hj; clear hj hg))
      | (go_at_call 27; ((with_reducible refine (CR.out _ _ _ J4.out).mono ?_); rintro e w10 ⟨hg10, v, rfl, hv⟩; obtain ⟨A10, c10, rfl, -⟩ := hv.toB; have J5 := Lib.hid (J4.out.grows hg10); clear hg10 hv))
      | (go_at_call 26; ((with_reducible refine (CS.out _ _ _ J5.out).mono ?_); rintro e w8 ⟨hg8, A8, c8, rfl, -⟩; have J6 := Lib.hid (J5.out.grows hg8); clear hg8))
      | (go_at_call 21; ((with_reducible refine (CW.out _).mono ?_); rintro e w15 ⟨rfl, hg⟩; have GE := Lib.hid (grew_trans J6.out.grew hg); clear hg)))
    go_ret
    exact ⟨rfl, GE.out⟩
theorem logFull_walk (x0 x1 x2 : Int) (W : World) :
    Calls Try.prog 7 #[.int .i64 x0, .int .i64 x1, .int .i64 x2] W fun e w' => e = .returned (.bool true) ∧ Grew W w' := by
  by_cases h : x0 < 4 ∨ 60 < x0 ∨ x1 < 0 ∨ 4000 < x1 ∨ x2 < 0 ∨ 4000 < x2
  · exact logFull_big x0 x1 x2 W h
  · obtain ⟨N, rfl⟩ : ∃ N : Nat, x0 = (N : Int) := ⟨x0.toNat, by omega⟩
    obtain ⟨sN, rfl⟩ : ∃ N : Nat, x1 = (N : Int) := ⟨x1.toNat, by omega⟩
    obtain ⟨mN, rfl⟩ : ∃ N : Nat, x2 = (N : Int) := ⟨x2.toNat, by omega⟩
    by_cases hf : nbk (sN + 21) ≤ N / 2
    · exact logFull_yes N sN mN W (by omega) (by omega) (by omega) (by omega) hf
    · exact logFull_no N sN mN W (by omega) (by omega) (by omega) (by omega) (by omega)
end Go.Proofs.Ythmdbfbhcnjghaa.NumK
namespace Go.Proofs.Ythmdbfbhcnjghaa.logFull
open Go.ChangeShapes Go.WideShapes Go.ChangeAt Go.RowKit
set_option linter.unusedVariables false

theorem own : ownKnob Try.prog.godebug = none := by kernel_rfl
theorem laidOut : laidOutB Try.prog = true := by kernel_rfl

set_option maxRecDepth 100000 in
theorem lifted (os : Os) (started : os.Started) (H : Type) (enc : TypeId × Value → H) :
    ReturnsInHanded {} Try.checked os 7 .any (Rows.logFullSpec.pre6 enc Try.prog Try.f7 Rows.logFullRow.domain false) (Rows.logFullSpec.post enc Try.prog Try.f7 false true false false) := by
  refine returnsInHanded_of_change (C := Try.checked) own started (by kernel_rfl) Try.func7
    (ChangeSpec.witness6 (enc := enc) (C := Try.checked) false ⟨#[], #[.int .i64 0, .int .i64 0, .int .i64 0], []⟩ 8 (by kernel_rfl) (by kernel_rfl) (by kernel_rfl) (by kernel_rfl)) ?_
  intro W base args ds gs before hval0 hW hcnd _
  have hval : ∀ (j : Nat) t v, Try.f7.params[j]? = some t → args[j]? = some v → Value.okWide Try.prog W .any base t v := hval0
  have hW' := hW
  obtain ⟨p, q, hA0, hV, rfl, hfz, hnd⟩ := hW
  have hA : DataW.TrodAll enc Try.prog W 0 (fun _ => true) true Try.f7.params.toList args.toList ds p := hA0
  skip
  rw [Try.params7] at hA hval
  obtain ⟨v0, vs0, d0, ds0, p0, q0, hargs, rfl, rfl, h0, r0⟩ := trodAll_cons hA
  obtain ⟨v1, vs1, d1, ds1, p1, q1, rfl, rfl, rfl, h1, r1⟩ := trodAll_cons r0
  obtain ⟨v2, vs2, d2, ds2, p2, q2, rfl, rfl, rfl, h2, r2⟩ := trodAll_cons r1
  obtain ⟨rfl, rfl, rfl⟩ := trodAll_nil r2
  obtain rfl : args = #[v0, v1, v2] := by cases args; simp_all
  obtain ⟨rfl, rfl⟩ := trodVars_none hV
  obtain ⟨a0, rfl, rfl, rfl, w0⟩ := open_int Try.underlying3 (hval 0 3 v0 rfl rfl) h0
  obtain ⟨a1, rfl, rfl, rfl, w1⟩ := open_int Try.underlying3 (hval 1 3 v1 rfl rfl) h1
  obtain ⟨a2, rfl, rfl, rfl, w2⟩ := open_int Try.underlying3 (hval 2 3 v2 rfl rfl) h2
  clear hA0 hval0
  refine (NumK.logFull_walk a0 a1 a2 W).mono fun e W' ⟨he, bel⟩ => ?_
  subst he
  exact ⟨_, rfl, _, _, _, [], _, [], hW', trodAll_mk1 (shut_bool Try.underlying4 _), (trodAll_cons_mk (shut_int Try.underlying3 w0) (trodAll_cons_mk (shut_int Try.underlying3 w1) (trodAll_cons_mk (shut_int Try.underlying3 w2) trodAll_mk0))), rfl, bel.frame _, fun h => by cases h⟩

theorem over : Rows.logFullRow.holds Try.pinned (OpenSpec.ofChange Rows.logFullSpec) :=
  OpenClaim.holds_of_wide 7 Try.f7 rfl rfl rfl rfl rfl rfl rfl ⟨rfl, rfl, rfl, rfl, rfl⟩ rfl rfl rfl rfl rfl (by kernel_rfl) Try.func7 (by kernel_rfl)
    (of_decide_eq_true (by kernel_rfl)) (by unfold Func.isWrapper; first | (rw [if_pos (by decide +kernel)]; kernel_rfl) | (rw [if_neg (by decide +kernel)]; exact ⟨rfl, rfl⟩))
    (fun os started H enc _ => lifted os started H enc)

/-! ### the statement -/
theorem proved : Rows.LogFullSaid := over
end Go.Proofs.Ythmdbfbhcnjghaa.logFull
