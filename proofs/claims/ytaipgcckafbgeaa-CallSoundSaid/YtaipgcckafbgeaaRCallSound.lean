/-
  For all acts, from no calls on: whatever is asked, met, or left out, calls are right, a deadline that stands is not put off, an amount is what was asked last, less what was met since, and what was refused has no calls; of more than 1000 acts the statement says nothing, and it plays the first 300.
-/
import Derived.Test.YtaipgcckafbgeaaRG5
import Derived.Test.YtaipgcckafbgeaaRG6
import Derived.Test.YtaipgcckafbgeaaRG2
import Derived.Deep.RegionHeld3
import Derived.Test.YtaipgcckafbgeaaRG7
import Derived.Test.YtaipgcckafbgeaaRows
import Derived.WalkKit
import Derived.ProofKit
import Derived.OpenShut
import Derived.ShutString
import Derived.ChangeOld
import Derived.Below
import Derived.Carry
namespace Go.Proofs.Ytaipgcckafbgeaa.NumK
open Go.RowKit
set_option linter.unusedVariables false

theorem setL_len1 {α : Type} (no : α → Int) (l : List α) (k : Int) (o : Option α) : (setL no l k o).length ≤ l.length + 1 := by
  unfold setL
  rw [List.length_append, List.length_append]
  have h3 : o.toList.length ≤ 1 := by cases o <;> simp
  have h1 : (l.filter (fun y => decide (no y < k))).length + (l.filter (fun y => decide (k < no y))).length ≤ l.length := by
    induction l with
    | nil => simp
    | cons x l ih =>
      rw [List.filter_cons, List.filter_cons, List.length_cons]
      by_cases a : no x < k
      · rw [if_pos (by simpa using a), if_neg (by simp; omega), List.length_cons]; omega
      · rw [if_neg (by simpa using a)]
        split
        · rw [List.length_cons]; omega
        · omega
  omega
def AfterC (l k : List Ca) : Prop := rightCa k = true ∧ keptL l k ∧ k.length ≤ l.length + 1
theorem ask_after {l : List Ca} {d : Du} {t : Int} (h : askE l d t = 0) : AfterC l (askL l d t) := ⟨ask_right h, ask_kept h, by unfold askL; rw [if_pos h]; exact setL_len1 _ _ _ _⟩
theorem meet_after {l : List Ca} {d : Du} (h : meetE l d = 0) : AfterC l (meetL l d) := ⟨meet_right h, meet_kept h, by unfold meetL; rw [if_pos h]; exact setL_len1 _ _ _ _⟩
theorem without_after {l : List Ca} (h : rightCa l = true) (ws : List Int) : AfterC l (withoutL l ws) := ⟨without_right h ws, without_kept h ws, by
  have := List.length_filter_le (fun x : Ca => !(ws.any fun w => decide (w = x.1))) l
  unfold withoutL; omega⟩

set_option maxRecDepth 100000 in
set_option maxHeartbeats 16000000 in
theorem callSound_walk (A : Option Addr) (n c : Nat) (acts : List B5) (w : World) (h : RowE enB5 w A n acts) :
    Calls Try.prog 4 #[.slice A n c] w fun e w' => e = .returned (.bool true) ∧ Grew w w' := by
  have HI := Lib.hid h
  have HL := Lib.hid h.len
  have CW := fun w => wakes18_any w
  clear h
  go_enter Try.func4, Try.ntmps4
  by_cases hn : n > 1000
  · have j1 : (n : Int) > 1000 := by omega
    clear CW
    go_wp2
    go_ret
    exact ⟨rfl, grew_refl _⟩
  · have j1 : ¬ (n : Int) > 1000 := by omega
    go_wp2
    go_loopw [3, 4] (fun v3 v4 wr => ∃ (j : Nat) (ll : List Ca), v4 = .int .i64 j ∧ j ≤ n ∧ j ≤ 300 ∧ Hid (OwnE enC4 wr w.heap.size 32 v3 ll) ∧ rightCa ll = true ∧ ll.length ≤ j ∧ Hid (Grew w wr)) (fun _ v4 _ => n - (intOf v4).toNat)
    case atStart => exact ⟨0, [], rfl, by omega, by omega, OwnE.nil _ _ _ _, rfl, by simp, grew_refl _⟩
    case round =>
      obtain ⟨j, ll, rfl, hj, hj3, HO, hr, hll, HG⟩ := hrel
      by_cases hlt : j < n
      · have i1 : (j : Int) < (n : Int) := by omega
        by_cases hlt3 : j < 300
        · have i2 : (j : Int) < 300 := by omega
          have i0 : (0 : Int) ≤ (j : Int) := by omega
          obtain ⟨b, o, rfl, hb, hc⟩ := (HI.out.keep HG.out).rB5 hlt
          obtain ⟨a0, a1, a2, a3, a4⟩ := hc j hlt
          clear hc CW
          generalize acts.getD j (0, 0, 0, 0, 0) = x at *
          obtain ⟨y0, y1, q1, q2, q3⟩ := x
          dsimp only at a0 a1 a2 a3 a4
          obtain ⟨A3, c3, rfl, -⟩ := HO.out.form
          obtain ⟨hr3, hk3, hl3, hc3⟩ := own_form HO.out
          have HR3 := Lib.hid hr3
          have HK3 := Lib.hid hk3
          have HW3 : Hid (w.heap.size ≤ wr.heap.size) := HG.out.size
          have HOW : Hid (OwnE enC4 wr w.heap.size 32 (.slice A3 ll.length c3) ll) := HO.out
          clear hr3 hk3 HO
          have HRT := Lib.hid hr
          have HOF := Lib.hid (of_in hr q1 q2)
          clear hr
          have HX0 : Hid (OwnC (wr.alloc (.cells #[.int .i64 y0, .int .i64 y1, .int .i64 q1, .int .i64 q2, .int .i64 q3] 48)) wr.heap.size [.int .i64 y0, .int .i64 y1, .int .i64 q1, .int .i64 q2, .int .i64 q3]) := OwnC.new wr [.int .i64 y0, .int .i64 y1, .int .i64 q1, .int .i64 q2, .int .i64 q3] _ _ rfl
          have HG0 : Hid (Grew wr (wr.alloc (.cells #[.int .i64 y0, .int .i64 y1, .int .i64 q1, .int .i64 q2, .int .i64 q3] 48))) := grew_alloc _ _ _
          go_upto_region 8 with (fail)
          generalize (wr.alloc (.cells #[.int .i64 y0, .int .i64 y1, .int .i64 q1, .int .i64 q2, .int .i64 q3] 48)) = w0 at *
          clear a0 a1 a2 a3 a4 hb
          generalize hN : wr.heap.size = N at HX0 ⊢
          have C1 := clof_any A3 ll.length c3 ll q1 q2 w0 (HR3.out.keep HG0.out) (by omega)
          have x0 := HX0.out.at 0 (.int .i64 y0) rfl; have x1 := HX0.out.at 1 (.int .i64 y1) rfl; have x2 := HX0.out.at 2 (.int .i64 q1) rfl; have x3 := HX0.out.at 3 (.int .i64 q2) rfl; have x4 := HX0.out.at 4 (.int .i64 q3) rfl
          go_upto_region 11 with (go_at_call 12; ((with_reducible refine C1.mono ?_); rintro e w1 ⟨rfl, hg⟩; have HX1 := Lib.hid (HX0.out.keep hg); have HG1 := Lib.hid (grew_trans HG0.out hg); clear hg C1 HX0 HG0 x0 x1 x2 x3 x4))
          have x0 := HX1.out.at 0 (.int .i64 y0) rfl; have x1 := HX1.out.at 1 (.int .i64 y1) rfl; have x2 := HX1.out.at 2 (.int .i64 q1) rfl; have x3 := HX1.out.at 3 (.int .i64 q2) rfl; have x4 := HX1.out.at 4 (.int .i64 q3) rfl
          generalize hof : ofC ll q1 q2 = was at *
          have HWAS := Lib.hid hof
          clear hof
          have hk5 : (IntKind.u64.wrap y0).tmod 5 = 0 ∨ (IntKind.u64.wrap y0).tmod 5 = 1 ∨ (IntKind.u64.wrap y0).tmod 5 = 2 ∨ (IntKind.u64.wrap y0).tmod 5 = 3 ∨ (IntKind.u64.wrap y0).tmod 5 = 4 := by
            have h0 : 0 ≤ IntKind.u64.wrap y0 := by rw [IntKind.wrap_u64]; omega
            generalize IntKind.u64.wrap y0 = z at *
            rw [Int.tmod_eq_emod_of_nonneg h0]
            omega
          generalize hkk : (IntKind.u64.wrap y0).tmod 5 = kk at *
          rcases hk5 with rfl | rfl | rfl | rfl | rfl
          · have d0 : ((IntKind.u64.wrap y0).tmod 5 == 0) = true := by rw [hkk]; decide
            clear hkk
            have CA := clask_any A3 ll.length c3 ll (q1, q2, q3) y1 w1 (HR3.out.keep HG1.out) HK3.out hl3 hc3 (by omega)
            unfold AskPost at CA
            dsimp only [vDe] at CA
            have HAF0 : Hid (askE ll (q1, q2, q3) y1 = 0 → AfterC ll (askL ll (q1, q2, q3) y1) ∧ ofC (askL ll (q1, q2, q3) y1) q1 q2 = q3) := fun h => ⟨ask_after h, ask_of h⟩
            have HNO : Hid (askE ll (q1, q2, q3) y1 ≠ 0 → askL ll (q1, q2, q3) y1 = []) := fun h => askL_no h
            generalize askE ll (q1, q2, q3) y1 = E at *
            generalize askL ll (q1, q2, q3) y1 = KL at *
            have HW1 : Hid (wr.heap.size ≤ w1.heap.size) := grew_size HG1.out
            go_upto_region 18 with (go_at_call 13; ((with_reducible refine CA.mono ?_); rintro e w2 ⟨v6, rfl, ho, hg⟩; have HO5 := Lib.hid ho; have HX2 := Lib.hid (HX1.out.keep hg); have HG2 := Lib.hid (grew_trans HG1.out hg); clear hg ho CA HX1 HG1 x0 x1 x2 x3 x4))
            obtain ⟨A6, c6, rfl, hr6, -⟩ := HO5.out.form
            have HR5 := Lib.hid hr6
            have HO2 := Lib.hid (HO5.out.mono (Nat.le_trans HW3.out HW1.out))
            clear hr6 HO5
            have x2 := grew_every (w := w2) (S := fun w' => w'.cell? ⟨N, 2, none⟩ = some (.int .i64 q1)) (fun w' g => (HX2.out.keep g).at 2 _ rfl)
            have x3 := grew_every (w := w2) (S := fun w' => w'.cell? ⟨N, 3, none⟩ = some (.int .i64 q2)) (fun w' g => (HX2.out.keep g).at 3 _ rfl)
            have x4 := grew_every (w := w2) (S := fun w' => w'.cell? ⟨N, 4, none⟩ = some (.int .i64 q3)) (fun w' g => (HX2.out.keep g).at 4 _ rfl)
            by_cases he : E = 0
            · subst he
              obtain ⟨haf, hof⟩ := HAF0.out rfl
              have HAF := Lib.hid haf
              have CO := fun w' (g : Grew w2 w') => clof_any A6 KL.length c6 KL q1 q2 w' (HR5.out.keep g) (by have := HAF.out.2.2; omega)
              rw [hof] at CO
              clear haf hof HAF0 HNO
              refine wp_region_grew (by kernel_rfl) (by kernel_rfl) ?_
              repeat (go_big_quiet_step (with_reducible exact calls_every CO))
              refine wpQuiet_nil ?_
              intro w5 hw'
              have HG5 := Lib.hid (grew_of hw')
              clear hw' x2 x3 x4 CO
              have HR6 := Lib.hid (HR5.out.keep HG5.out)
              have HO6 := Lib.hid (HO2.out.keep HG5.out)
              have HGR := Lib.hid (grew_trans HG2.out HG5.out)
              have CK := clcheck_any A6 _ c6 KL w5 HR6.out (by have := HAF.out.2.2; omega)
              rw [show chkC KL = 0 by unfold chkC; rw [if_pos HAF.out.1]] at CK
              have CP := fun w' (g : Grew w5 w') => kept_any A3 A6 ll.length c3 KL.length c6 ll KL w' (HR3.out.keep (grew_trans HGR.out g)) (HR6.out.keep g) HAF.out.2.1 (by omega) (by have := HAF.out.2.2; omega)
              go_wp2_with (first
                | (go_at_call 9; ((with_reducible refine CK.mono ?_); rintro e w8 ⟨rfl, hg⟩; have HG8 := Lib.hid hg; clear hg CK))
                | (go_at_call 24; ((with_reducible refine (CP _ HG8.out).mono ?_); rintro e w9 ⟨rfl, hg⟩; have HG9 := Lib.hid (grew_trans HG8.out hg); clear hg CP)))
              go_roundw
              case rel => exact ⟨j + 1, KL, by go_num, by omega, by omega, HO6.out.keep HG9.out, HAF.out.1, by have := HAF.out.2.2; omega, grew_trans HG.out (grew_trans HGR.out HG9.out)⟩
              case measure => simp only [intOf]; omega
            · obtain rfl := HNO.out he
              have d8 : (E == 0) = false := by simpa using he
              have d9 : (E != 0) = true := bne_iff_ne.2 he
              have HNR := Lib.hid (HOW.out.keep HG2.out)
              clear he HAF0 HNO HO2 HR5
              refine wp_region_grew (by kernel_rfl) (by kernel_rfl) ?_
              repeat (go_big_quiet_step (fail))
              refine wpQuiet_nil ?_
              intro w5 hw'
              have HG5 := Lib.hid (grew_of hw')
              clear hw' x2 x3 x4
              go_wp2
              go_roundw
              case rel => exact ⟨j + 1, ll, by go_num, by omega, by omega, HNR.out.keep HG5.out, HRT.out, by omega, grew_trans HG.out (grew_trans HG2.out HG5.out)⟩
              case measure => simp only [intOf]; omega
          · have d0 : ((IntKind.u64.wrap y0).tmod 5 == 0) = false := by rw [hkk]; decide
            have d1 : ((IntKind.u64.wrap y0).tmod 5 == 1) = true := by rw [hkk]; decide
            clear hkk
            have CA := clask_any A3 ll.length c3 ll (q1, q2, q3) y1 w1 (HR3.out.keep HG1.out) HK3.out hl3 hc3 (by omega)
            unfold AskPost at CA
            dsimp only [vDe] at CA
            have HAF0 : Hid (askE ll (q1, q2, q3) y1 = 0 → AfterC ll (askL ll (q1, q2, q3) y1) ∧ ofC (askL ll (q1, q2, q3) y1) q1 q2 = q3) := fun h => ⟨ask_after h, ask_of h⟩
            have HNO : Hid (askE ll (q1, q2, q3) y1 ≠ 0 → askL ll (q1, q2, q3) y1 = []) := fun h => askL_no h
            generalize askE ll (q1, q2, q3) y1 = E at *
            generalize askL ll (q1, q2, q3) y1 = KL at *
            have HW1 : Hid (wr.heap.size ≤ w1.heap.size) := grew_size HG1.out
            go_upto_region 18 with (go_at_call 13; ((with_reducible refine CA.mono ?_); rintro e w2 ⟨v6, rfl, ho, hg⟩; have HO5 := Lib.hid ho; have HX2 := Lib.hid (HX1.out.keep hg); have HG2 := Lib.hid (grew_trans HG1.out hg); clear hg ho CA HX1 HG1 x0 x1 x2 x3 x4))
            obtain ⟨A6, c6, rfl, hr6, -⟩ := HO5.out.form
            have HR5 := Lib.hid hr6
            have HO2 := Lib.hid (HO5.out.mono (Nat.le_trans HW3.out HW1.out))
            clear hr6 HO5
            have x2 := grew_every (w := w2) (S := fun w' => w'.cell? ⟨N, 2, none⟩ = some (.int .i64 q1)) (fun w' g => (HX2.out.keep g).at 2 _ rfl)
            have x3 := grew_every (w := w2) (S := fun w' => w'.cell? ⟨N, 3, none⟩ = some (.int .i64 q2)) (fun w' g => (HX2.out.keep g).at 3 _ rfl)
            have x4 := grew_every (w := w2) (S := fun w' => w'.cell? ⟨N, 4, none⟩ = some (.int .i64 q3)) (fun w' g => (HX2.out.keep g).at 4 _ rfl)
            by_cases he : E = 0
            · subst he
              obtain ⟨haf, hof⟩ := HAF0.out rfl
              have HAF := Lib.hid haf
              have CO := fun w' (g : Grew w2 w') => clof_any A6 KL.length c6 KL q1 q2 w' (HR5.out.keep g) (by have := HAF.out.2.2; omega)
              rw [hof] at CO
              clear haf hof HAF0 HNO
              refine wp_region_grew (by kernel_rfl) (by kernel_rfl) ?_
              repeat (go_big_quiet_step (with_reducible exact calls_every CO))
              refine wpQuiet_nil ?_
              intro w5 hw'
              have HG5 := Lib.hid (grew_of hw')
              clear hw' x2 x3 x4 CO
              have HR6 := Lib.hid (HR5.out.keep HG5.out)
              have HO6 := Lib.hid (HO2.out.keep HG5.out)
              have HGR := Lib.hid (grew_trans HG2.out HG5.out)
              have CK := clcheck_any A6 _ c6 KL w5 HR6.out (by have := HAF.out.2.2; omega)
              rw [show chkC KL = 0 by unfold chkC; rw [if_pos HAF.out.1]] at CK
              have CP := fun w' (g : Grew w5 w') => kept_any A3 A6 ll.length c3 KL.length c6 ll KL w' (HR3.out.keep (grew_trans HGR.out g)) (HR6.out.keep g) HAF.out.2.1 (by omega) (by have := HAF.out.2.2; omega)
              go_wp2_with (first
                | (go_at_call 9; ((with_reducible refine CK.mono ?_); rintro e w8 ⟨rfl, hg⟩; have HG8 := Lib.hid hg; clear hg CK))
                | (go_at_call 24; ((with_reducible refine (CP _ HG8.out).mono ?_); rintro e w9 ⟨rfl, hg⟩; have HG9 := Lib.hid (grew_trans HG8.out hg); clear hg CP)))
              go_roundw
              case rel => exact ⟨j + 1, KL, by go_num, by omega, by omega, HO6.out.keep HG9.out, HAF.out.1, by have := HAF.out.2.2; omega, grew_trans HG.out (grew_trans HGR.out HG9.out)⟩
              case measure => simp only [intOf]; omega
            · obtain rfl := HNO.out he
              have d8 : (E == 0) = false := by simpa using he
              have d9 : (E != 0) = true := bne_iff_ne.2 he
              have HNR := Lib.hid (HOW.out.keep HG2.out)
              clear he HAF0 HNO HO2 HR5
              refine wp_region_grew (by kernel_rfl) (by kernel_rfl) ?_
              repeat (go_big_quiet_step (fail))
              refine wpQuiet_nil ?_
              intro w5 hw'
              have HG5 := Lib.hid (grew_of hw')
              clear hw' x2 x3 x4
              go_wp2
              go_roundw
              case rel => exact ⟨j + 1, ll, by go_num, by omega, by omega, HNR.out.keep HG5.out, HRT.out, by omega, grew_trans HG.out (grew_trans HG2.out HG5.out)⟩
              case measure => simp only [intOf]; omega
          · have d0 : ((IntKind.u64.wrap y0).tmod 5 == 0) = false := by rw [hkk]; decide
            have d1 : ((IntKind.u64.wrap y0).tmod 5 == 1) = false := by rw [hkk]; decide
            have d2 : ((IntKind.u64.wrap y0).tmod 5 == 2) = true := by rw [hkk]; decide
            clear hkk
            have CA := clmeet_any A3 ll.length c3 ll (q1, q2, q3) w1 (HR3.out.keep HG1.out) HK3.out hl3 hc3 (by omega)
            unfold MeetPost at CA
            dsimp only [vDe] at CA
            have HAF0 : Hid (meetE ll (q1, q2, q3) = 0 → AfterC ll (meetL ll (q1, q2, q3)) ∧ ofC (meetL ll (q1, q2, q3)) q1 q2 = max0 (was - q3) ∧ 0 ≤ q3 ∧ q3 ≤ 4611686018427387904) := fun h => ⟨meet_after h, by rw [← HWAS.out]; exact meet_of h, ((okDu_iff _).1 (meetE_ok.1 h).2).2⟩
            have HNO : Hid (meetE ll (q1, q2, q3) ≠ 0 → meetL ll (q1, q2, q3) = []) := fun h => meetL_no h
            generalize meetE ll (q1, q2, q3) = E at *
            generalize meetL ll (q1, q2, q3) = KL at *
            have HW1 : Hid (wr.heap.size ≤ w1.heap.size) := grew_size HG1.out
            go_upto_region 23 with (go_at_call 17; ((with_reducible refine CA.mono ?_); rintro e w2 ⟨v6, rfl, ho, hg⟩; have HO5 := Lib.hid ho; have HX2 := Lib.hid (HX1.out.keep hg); have HG2 := Lib.hid (grew_trans HG1.out hg); clear hg ho CA HX1 HG1 x0 x1 x2 x3 x4))
            obtain ⟨A6, c6, rfl, hr6, -⟩ := HO5.out.form
            have HR5 := Lib.hid hr6
            have HO2 := Lib.hid (HO5.out.mono (Nat.le_trans HW3.out HW1.out))
            clear hr6 HO5
            have x2 := grew_every (w := w2) (S := fun w' => w'.cell? ⟨N, 2, none⟩ = some (.int .i64 q1)) (fun w' g => (HX2.out.keep g).at 2 _ rfl)
            have x3 := grew_every (w := w2) (S := fun w' => w'.cell? ⟨N, 3, none⟩ = some (.int .i64 q2)) (fun w' g => (HX2.out.keep g).at 3 _ rfl)
            have x4 := grew_every (w := w2) (S := fun w' => w'.cell? ⟨N, 4, none⟩ = some (.int .i64 q3)) (fun w' g => (HX2.out.keep g).at 4 _ rfl)
            by_cases he : E = 0
            · subst he
              obtain ⟨haf, hof, hq3⟩ := HAF0.out rfl
              have HAF := Lib.hid haf
              have CO := fun w' (g : Grew w2 w') => clof_any A6 KL.length c6 KL q1 q2 w' (HR5.out.keep g) (by have := HAF.out.2.2; omega)
              rw [hof] at CO
              clear haf hof HAF0 HNO
              have hwb := HOF.out
              obtain ⟨nu, hnu⟩ : ∃ nu, nu = was - q3 := ⟨_, rfl⟩
              have q5 : IntKind.i64.wrap (was - q3) = nu := by rw [IntKind.wrap_i64, hnu]; omega
              rw [← hnu] at CO
              have hmx : max nu 0 = max0 nu := by unfold max0; split <;> omega
              clear hnu
              refine wp_region_grew (by kernel_rfl) (by kernel_rfl) ?_
              repeat (go_big_quiet_step (with_reducible exact calls_every CO))
              refine wpQuiet_nil ?_
              intro w5 hw'
              have HG5 := Lib.hid (grew_of hw')
              clear hw' x2 x3 x4 CO
              have HR6 := Lib.hid (HR5.out.keep HG5.out)
              have HO6 := Lib.hid (HO2.out.keep HG5.out)
              have HGR := Lib.hid (grew_trans HG2.out HG5.out)
              have CK := clcheck_any A6 _ c6 KL w5 HR6.out (by have := HAF.out.2.2; omega)
              rw [show chkC KL = 0 by unfold chkC; rw [if_pos HAF.out.1]] at CK
              have CP := fun w' (g : Grew w5 w') => kept_any A3 A6 ll.length c3 KL.length c6 ll KL w' (HR3.out.keep (grew_trans HGR.out g)) (HR6.out.keep g) HAF.out.2.1 (by omega) (by have := HAF.out.2.2; omega)
              go_wp2_with (first
                | (go_at_call 9; ((with_reducible refine CK.mono ?_); rintro e w8 ⟨rfl, hg⟩; have HG8 := Lib.hid hg; clear hg CK))
                | (go_at_call 24; ((with_reducible refine (CP _ HG8.out).mono ?_); rintro e w9 ⟨rfl, hg⟩; have HG9 := Lib.hid (grew_trans HG8.out hg); clear hg CP)))
              go_roundw
              case rel => exact ⟨j + 1, KL, by go_num, by omega, by omega, HO6.out.keep HG9.out, HAF.out.1, by have := HAF.out.2.2; omega, grew_trans HG.out (grew_trans HGR.out HG9.out)⟩
              case measure => simp only [intOf]; omega
            · obtain rfl := HNO.out he
              have d8 : (E == 0) = false := by simpa using he
              have d9 : (E != 0) = true := bne_iff_ne.2 he
              have HNR := Lib.hid (HOW.out.keep HG2.out)
              clear he HAF0 HNO HO2 HR5
              refine wp_region_grew (by kernel_rfl) (by kernel_rfl) ?_
              repeat (go_big_quiet_step (fail))
              refine wpQuiet_nil ?_
              intro w5 hw'
              have HG5 := Lib.hid (grew_of hw')
              clear hw' x2 x3 x4
              go_wp2
              go_roundw
              case rel => exact ⟨j + 1, ll, by go_num, by omega, by omega, HNR.out.keep HG5.out, HRT.out, by omega, grew_trans HG.out (grew_trans HG2.out HG5.out)⟩
              case measure => simp only [intOf]; omega
          · have d0 : ((IntKind.u64.wrap y0).tmod 5 == 0) = false := by rw [hkk]; decide
            have d1 : ((IntKind.u64.wrap y0).tmod 5 == 1) = false := by rw [hkk]; decide
            have d2 : ((IntKind.u64.wrap y0).tmod 5 == 2) = false := by rw [hkk]; decide
            have d3 : ((IntKind.u64.wrap y0).tmod 5 == 3) = true := by rw [hkk]; decide
            clear hkk
            have CA := clmeet_any A3 ll.length c3 ll (q1, q2, q3) w1 (HR3.out.keep HG1.out) HK3.out hl3 hc3 (by omega)
            unfold MeetPost at CA
            dsimp only [vDe] at CA
            have HAF0 : Hid (meetE ll (q1, q2, q3) = 0 → AfterC ll (meetL ll (q1, q2, q3)) ∧ ofC (meetL ll (q1, q2, q3)) q1 q2 = max0 (was - q3) ∧ 0 ≤ q3 ∧ q3 ≤ 4611686018427387904) := fun h => ⟨meet_after h, by rw [← HWAS.out]; exact meet_of h, ((okDu_iff _).1 (meetE_ok.1 h).2).2⟩
            have HNO : Hid (meetE ll (q1, q2, q3) ≠ 0 → meetL ll (q1, q2, q3) = []) := fun h => meetL_no h
            generalize meetE ll (q1, q2, q3) = E at *
            generalize meetL ll (q1, q2, q3) = KL at *
            have HW1 : Hid (wr.heap.size ≤ w1.heap.size) := grew_size HG1.out
            go_upto_region 23 with (go_at_call 17; ((with_reducible refine CA.mono ?_); rintro e w2 ⟨v6, rfl, ho, hg⟩; have HO5 := Lib.hid ho; have HX2 := Lib.hid (HX1.out.keep hg); have HG2 := Lib.hid (grew_trans HG1.out hg); clear hg ho CA HX1 HG1 x0 x1 x2 x3 x4))
            obtain ⟨A6, c6, rfl, hr6, -⟩ := HO5.out.form
            have HR5 := Lib.hid hr6
            have HO2 := Lib.hid (HO5.out.mono (Nat.le_trans HW3.out HW1.out))
            clear hr6 HO5
            have x2 := grew_every (w := w2) (S := fun w' => w'.cell? ⟨N, 2, none⟩ = some (.int .i64 q1)) (fun w' g => (HX2.out.keep g).at 2 _ rfl)
            have x3 := grew_every (w := w2) (S := fun w' => w'.cell? ⟨N, 3, none⟩ = some (.int .i64 q2)) (fun w' g => (HX2.out.keep g).at 3 _ rfl)
            have x4 := grew_every (w := w2) (S := fun w' => w'.cell? ⟨N, 4, none⟩ = some (.int .i64 q3)) (fun w' g => (HX2.out.keep g).at 4 _ rfl)
            by_cases he : E = 0
            · subst he
              obtain ⟨haf, hof, hq3⟩ := HAF0.out rfl
              have HAF := Lib.hid haf
              have CO := fun w' (g : Grew w2 w') => clof_any A6 KL.length c6 KL q1 q2 w' (HR5.out.keep g) (by have := HAF.out.2.2; omega)
              rw [hof] at CO
              clear haf hof HAF0 HNO
              have hwb := HOF.out
              obtain ⟨nu, hnu⟩ : ∃ nu, nu = was - q3 := ⟨_, rfl⟩
              have q5 : IntKind.i64.wrap (was - q3) = nu := by rw [IntKind.wrap_i64, hnu]; omega
              rw [← hnu] at CO
              have hmx : max nu 0 = max0 nu := by unfold max0; split <;> omega
              clear hnu
              refine wp_region_grew (by kernel_rfl) (by kernel_rfl) ?_
              repeat (go_big_quiet_step (with_reducible exact calls_every CO))
              refine wpQuiet_nil ?_
              intro w5 hw'
              have HG5 := Lib.hid (grew_of hw')
              clear hw' x2 x3 x4 CO
              have HR6 := Lib.hid (HR5.out.keep HG5.out)
              have HO6 := Lib.hid (HO2.out.keep HG5.out)
              have HGR := Lib.hid (grew_trans HG2.out HG5.out)
              have CK := clcheck_any A6 _ c6 KL w5 HR6.out (by have := HAF.out.2.2; omega)
              rw [show chkC KL = 0 by unfold chkC; rw [if_pos HAF.out.1]] at CK
              have CP := fun w' (g : Grew w5 w') => kept_any A3 A6 ll.length c3 KL.length c6 ll KL w' (HR3.out.keep (grew_trans HGR.out g)) (HR6.out.keep g) HAF.out.2.1 (by omega) (by have := HAF.out.2.2; omega)
              go_wp2_with (first
                | (go_at_call 9; ((with_reducible refine CK.mono ?_); rintro e w8 ⟨rfl, hg⟩; have HG8 := Lib.hid hg; clear hg CK))
                | (go_at_call 24; ((with_reducible refine (CP _ HG8.out).mono ?_); rintro e w9 ⟨rfl, hg⟩; have HG9 := Lib.hid (grew_trans HG8.out hg); clear hg CP)))
              go_roundw
              case rel => exact ⟨j + 1, KL, by go_num, by omega, by omega, HO6.out.keep HG9.out, HAF.out.1, by have := HAF.out.2.2; omega, grew_trans HG.out (grew_trans HGR.out HG9.out)⟩
              case measure => simp only [intOf]; omega
            · obtain rfl := HNO.out he
              have d8 : (E == 0) = false := by simpa using he
              have d9 : (E != 0) = true := bne_iff_ne.2 he
              have HNR := Lib.hid (HOW.out.keep HG2.out)
              clear he HAF0 HNO HO2 HR5
              refine wp_region_grew (by kernel_rfl) (by kernel_rfl) ?_
              repeat (go_big_quiet_step (fail))
              refine wpQuiet_nil ?_
              intro w5 hw'
              have HG5 := Lib.hid (grew_of hw')
              clear hw' x2 x3 x4
              go_wp2
              go_roundw
              case rel => exact ⟨j + 1, ll, by go_num, by omega, by omega, HNR.out.keep HG5.out, HRT.out, by omega, grew_trans HG.out (grew_trans HG2.out HG5.out)⟩
              case measure => simp only [intOf]; omega
          · have d0 : ((IntKind.u64.wrap y0).tmod 5 == 0) = false := by rw [hkk]; decide
            have d1 : ((IntKind.u64.wrap y0).tmod 5 == 1) = false := by rw [hkk]; decide
            have d2 : ((IntKind.u64.wrap y0).tmod 5 == 2) = false := by rw [hkk]; decide
            have d3 : ((IntKind.u64.wrap y0).tmod 5 == 3) = false := by rw [hkk]; decide
            clear hkk
            have CA := fun B2 w' (g : Grew w1 w') (hi : Ints w' B2 1 [q1]) => clwithout_any A3 B2 ll.length c3 1 1 ll [q1] w' (HR3.out.keep (grew_trans HG1.out g)) hi (by omega) (by omega)
            have HAF := Lib.hid (without_after HRT.out [q1])
            have hof := without_of ll q1 q2
            generalize withoutL ll [q1] = KL at *
            have CA1 := CA (some ⟨w1.heap.size, 0, none⟩) _ (grew_alloc w1 #[.int .i64 q1] 3) (ints1 w1 q1 3)
            clear CA
            have HW1 : Hid (wr.heap.size ≤ (w1.alloc (.cells #[.int .i64 q1] 3)).heap.size) := grew_size (grew_trans HG1.out (grew_alloc _ _ _))
            go_upto_region 13 with (go_at_call 21; ((with_reducible refine CA1.mono ?_); rintro e w2 ⟨v6, rfl, ho, hg⟩; have HO5 := Lib.hid ho; have HX2 := Lib.hid ((HX1.out.keep (grew_alloc _ _ _)).keep hg); have HG2 := Lib.hid (grew_trans (grew_trans HG1.out (grew_alloc _ _ _)) hg); clear hg ho CA1 HX1 HG1 x0 x1 x2 x3 x4))
            obtain ⟨A6, c6, rfl, hr6, -⟩ := HO5.out.form
            have HR5 := Lib.hid hr6
            have HO2 := Lib.hid (HO5.out.mono (Nat.le_trans HW3.out HW1.out))
            clear hr6 HO5
            have CO := clof_any A6 KL.length c6 KL q1 q2 w2 HR5.out (by have := HAF.out.2.2; omega)
            rw [hof] at CO
            clear hof
            have x2 := HX2.out.at 2 (.int .i64 q1) rfl; have x3 := HX2.out.at 3 (.int .i64 q2) rfl; have x4 := HX2.out.at 4 (.int .i64 q3) rfl
            go_upto_region 25 with (go_at_call 12; ((with_reducible refine CO.mono ?_); rintro e w5 ⟨rfl, hg⟩; have HG5 := Lib.hid hg; clear hg CO))
            clear x2 x3 x4
            have HR6 := Lib.hid (HR5.out.keep HG5.out)
            have HO6 := Lib.hid (HO2.out.keep HG5.out)
            have HGR := Lib.hid (grew_trans HG2.out HG5.out)
            have CK := clcheck_any A6 _ c6 KL w5 HR6.out (by have := HAF.out.2.2; omega)
            rw [show chkC KL = 0 by unfold chkC; rw [if_pos HAF.out.1]] at CK
            have CP := fun w' (g : Grew w5 w') => kept_any A3 A6 ll.length c3 KL.length c6 ll KL w' (HR3.out.keep (grew_trans HGR.out g)) (HR6.out.keep g) HAF.out.2.1 (by omega) (by have := HAF.out.2.2; omega)
            go_wp2_with (first
              | (go_at_call 9; ((with_reducible refine CK.mono ?_); rintro e w8 ⟨rfl, hg⟩; have HG8 := Lib.hid hg; clear hg CK))
              | (go_at_call 24; ((with_reducible refine (CP _ HG8.out).mono ?_); rintro e w9 ⟨rfl, hg⟩; have HG9 := Lib.hid (grew_trans HG8.out hg); clear hg CP)))
            go_roundw
            case rel => exact ⟨j + 1, KL, by go_num, by omega, by omega, HO6.out.keep HG9.out, HAF.out.1, by have := HAF.out.2.2; omega, grew_trans HG.out (grew_trans HGR.out HG9.out)⟩
            case measure => simp only [intOf]; omega
        · obtain rfl : j = 300 := by omega
          have i2 : ¬ ((300 : Nat) : Int) < 300 := by omega
          go_wp2_with (go_at_call 23; ((with_reducible refine (CW _).mono ?_); rintro e wz ⟨rfl, hg⟩; have HGZ := Lib.hid (grew_trans HG.out hg); clear hg CW))
          go_ret
          exact ⟨rfl, HGZ.out⟩
      · obtain rfl : j = n := by omega
        go_wp2_with (go_at_call 23; ((with_reducible refine (CW _).mono ?_); rintro e wz ⟨rfl, hg⟩; have HGZ := Lib.hid (grew_trans HG.out hg); clear hg CW))
        go_ret
        exact ⟨rfl, HGZ.out⟩
end Go.Proofs.Ytaipgcckafbgeaa.NumK
namespace Go.Proofs.Ytaipgcckafbgeaa.NumK
open Go.RowKit
theorem callSound_row (w : World) {A : Option Addr} {n c : Nat} {l : List B5} (h : Row spAc18 w A n l) :
    Calls Try.prog 4 #[.slice A n c] w fun e w' => e = .returned (.bool true) ∧ Grew w w' :=
  callSound_walk A n c l w (acts18_row h)
end Go.Proofs.Ytaipgcckafbgeaa.NumK
namespace Go.Proofs.Ytaipgcckafbgeaa.callSound
open Go.ChangeShapes Go.WideShapes Go.ChangeAt Go.RowKit
set_option linter.unusedVariables false

theorem own : ownKnob Try.prog.godebug = none := by kernel_rfl
theorem laidOut : laidOutB Try.prog = true := by kernel_rfl

set_option maxRecDepth 100000 in
theorem lifted (os : Os) (started : os.Started) (H : Type) (enc : TypeId × Value → H) :
    ReturnsInHanded {} Try.checked os 4 .any (Rows.callSoundSpec.pre6 enc Try.prog Try.f4 Rows.callSoundRow.domain false) (Rows.callSoundSpec.post enc Try.prog Try.f4 false true false false) := by
  refine returnsInHanded_of_change (C := Try.checked) own started (by kernel_rfl) Try.func4
    (ChangeSpec.witness6 (enc := enc) (C := Try.checked) false ⟨#[], #[.slice none 0 0], []⟩ 8 (by kernel_rfl) (by kernel_rfl) (by kernel_rfl) (by kernel_rfl)) ?_
  intro W base args ds gs before hval0 hW hcnd _
  have hval : ∀ (j : Nat) t v, Try.f4.params[j]? = some t → args[j]? = some v → Value.okWide Try.prog W .any base t v := hval0
  have hW' := hW
  obtain ⟨p, q, hA0, hV, rfl, hfz, hnd⟩ := hW
  have hA : DataW.TrodAll enc Try.prog W 0 (fun _ => true) true Try.f4.params.toList args.toList ds p := hA0
  skip
  rw [Try.params4] at hA hval
  obtain ⟨v0, vs0, d0, ds0, p0, q0, hargs, rfl, rfl, h0, r0⟩ := trodAll_cons hA
  obtain ⟨rfl, rfl, rfl⟩ := trodAll_nil r0
  obtain rfl : args = #[v0] := by cases args; simp_all
  obtain ⟨rfl, rfl⟩ := trodVars_none hV
  have k0 := h0
  have lt0 : ∀ x ∈ p0, x.block < W.heap.size := by obtain ⟨m, hm⟩ := k0; exact DataW.trod_lt m _ _ _ hm
  obtain ⟨A0, len0, cap0, l0, rfl, ro0, n0, c0, m0⟩ := NumK.arg_slice Try.underlying46 NumK.opens_acts18 (hval 0 46 v0 rfl rfl) h0
  clear hA0 hval0
  refine (NumK.callSound_row W ro0).mono fun e W' ⟨he, bel⟩ => ?_
  subst he
  exact ⟨_, rfl, _, _, _, [], _, [], hW', trodAll_mk1 (shut_bool Try.underlying4 _), (trodAll_cons_mk (Below.trod laidOut (by kernel_rfl) (of_decide_eq_true (by kernel_rfl)) k0 bel lt0) trodAll_mk0), rfl, bel.frame _, fun h => by cases h⟩

theorem over : Rows.callSoundRow.holds Try.pinned (OpenSpec.ofChange Rows.callSoundSpec) :=
  OpenClaim.holds_of_wide 4 Try.f4 rfl rfl rfl rfl rfl rfl rfl ⟨rfl, rfl, rfl, rfl, rfl⟩ rfl rfl rfl rfl rfl (by kernel_rfl) Try.func4 (by kernel_rfl)
    (of_decide_eq_true (by kernel_rfl)) (by unfold Func.isWrapper; first | (rw [if_pos (by decide +kernel)]; kernel_rfl) | (rw [if_neg (by decide +kernel)]; exact ⟨rfl, rfl⟩))
    (fun os started H enc _ => lifted os started H enc)

/-! ### the statement -/
theorem proved : Rows.CallSoundSaid := over
end Go.Proofs.Ytaipgcckafbgeaa.callSound
