/- Which trades may be: the program's word, the document's. -/
import Derived.Test.YtgblhliinjgofaaRO
import Derived.Test.YtgblhliinjgofaaRG
import Derived.Test.YtgblhliinjgofaaRI
import Derived.Test.YtgblhliinjgofaaRJ
import Derived.Deep.CutBlock
namespace Go.Proofs.Ytgblhliinjgofaa.NumK
open Go.RowKit
set_option linter.unusedVariables false

/-- The error of a trade: 0 where it may be. -/
def tradeP (r : Rl) (t : Tr) : Int :=
  if rightR r = false then 14 else if sizedT t = false then 3 else if (hasL noIn r.2.1 t.1.2.2.2.1 && (hasL noMb r.1 t.1.2.1 && hasL noMb r.1 t.1.2.2.1)) = false then 10 else if t.1.2.1 = t.1.2.2.1 then 16 else
  if (findL noMb mb0 r.1 t.1.2.1).2.1 = 1 then (if (findL noMb mb0 r.1 t.1.2.2.1).2.1 = 1 then 0 else 14) else 14
theorem tradeP_is (r : Rl) (t : Tr) : tradeP r t =
  if rightR r = false then 14 else if sizedT t = false then 3 else if (hasL noIn r.2.1 t.1.2.2.2.1 && (hasL noMb r.1 t.1.2.1 && hasL noMb r.1 t.1.2.2.1)) = false then 10 else if t.1.2.1 = t.1.2.2.1 then 16 else
  if (findL noMb mb0 r.1 t.1.2.1).2.1 = 1 then (if (findL noMb mb0 r.1 t.1.2.2.1).2.1 = 1 then 0 else 14) else 14 := rfl

set_option maxRecDepth 100000 in
set_option maxHeartbeats 8000000 in
theorem tcheck_any (r : Rl) (t : Tr) (A1 A2 A3 : Option Addr) (n1 n2 n3 c1 c2 c3 : Nat) (w : World) (h : Rows3 w r A1 A2 A3 n1 n2 n3) (hn : n1 ≤ 1000000 ∧ n2 ≤ 1000000 ∧ n3 ≤ 1000000) :
    Calls Try.prog 10 #[rlV A1 A2 A3 n1 n2 n3 c1 c2 c3, vTr t] w fun e w' => e = .returned (.int .i64 (tradeP r t)) ∧ Grew w w' := by
  have HP := Lib.hid (tradeP_is r t)
  obtain ⟨⟨q1, q2, q3, q4, q5, q6⟩, q7⟩ := t
  have CK := fun w' (g : Grew w w') => check_any r A1 A2 A3 n1 n2 n3 c1 c2 c3 w' (h.keep g) hn
  have CT := fun w' (g : Grew w w') => tright_any ((q1, q2, q3, q4, q5, q6), q7) w'
  have CI := fun w' (g : Grew w w') => pfindIn_any A1 A2 A3 n1 n2 n3 c1 c2 c3 r.2.1 q4 w' (h.i.keep g) hn.2.1 (fun w hh => firstIn_any A2 n2 c2 r.2.1 q4 w hh hn.2.1)
  have CA := fun w' (g : Grew w w') => pfindMb_any A1 A2 A3 n1 n2 n3 c1 c2 c3 r.1 q2 w' (h.m.keep g) hn.1 (fun w hh => firstMb_any A1 n1 c1 r.1 q2 w hh hn.1)
  have CB := fun w' (g : Grew w w') => pfindMb_any A1 A2 A3 n1 n2 n3 c1 c2 c3 r.1 q3 w' (h.m.keep g) hn.1 (fun w hh => firstMb_any A1 n1 c1 r.1 q3 w hh hn.1)
  unfold chkV at CK
  have HSG : Hid (Grew w ((w.alloc (.cells #[.slice A1 n1 c1, .slice A2 n2 c2, .slice A3 n3 c3] 26)).alloc (.cells #[.int .i64 q1, .int .i64 q2, .int .i64 q3, .int .i64 q4, .int .i64 q5, .int .i64 q6, .bool q7] 28))) := grew_trans (grew_alloc _ _ _) (grew_alloc _ _ _)
  have HSX : Hid (OwnC ((w.alloc (.cells #[.slice A1 n1 c1, .slice A2 n2 c2, .slice A3 n3 c3] 26)).alloc (.cells #[.int .i64 q1, .int .i64 q2, .int .i64 q3, .int .i64 q4, .int .i64 q5, .int .i64 q6, .bool q7] 28)) w.heap.size [.slice A1 n1 c1, .slice A2 n2 c2, .slice A3 n3 c3]) := (OwnC.new w [.slice A1 n1 c1, .slice A2 n2 c2, .slice A3 n3 c3] _ _ rfl).keep (grew_alloc _ _ _)
  have HST : Hid (OwnC ((w.alloc (.cells #[.slice A1 n1 c1, .slice A2 n2 c2, .slice A3 n3 c3] 26)).alloc (.cells #[.int .i64 q1, .int .i64 q2, .int .i64 q3, .int .i64 q4, .int .i64 q5, .int .i64 q6, .bool q7] 28)) (w.heap.size + 1) [.int .i64 q1, .int .i64 q2, .int .i64 q3, .int .i64 q4, .int .i64 q5, .int .i64 q6, .bool q7]) := OwnC.new _ [.int .i64 q1, .int .i64 q2, .int .i64 q3, .int .i64 q4, .int .i64 q5, .int .i64 q6, .bool q7] _ _ (by simp)
  clear h
  generalize tradeP r ((q1, q2, q3, q4, q5, q6), q7) = V at *
  generalize rightR r = R at *
  generalize sizedT ((q1, q2, q3, q4, q5, q6), q7) = S at *
  dsimp only [rlV, vTr] at CK CT HP ⊢
  generalize hasL noIn r.2.1 q4 = L at *
  generalize hasL noMb r.1 q2 = M1 at *
  generalize hasL noMb r.1 q3 = M2 at *
  generalize findL noIn in0 r.2.1 q4 = fi at *
  generalize findL noMb mb0 r.1 q2 = fa at *
  generalize findL noMb mb0 r.1 q3 = fb at *
  obtain ⟨⟨i1, i2, i3, i4, i5, i6⟩, ⟨j1, j2, j3, j4, j5, j6⟩⟩ := fi
  obtain ⟨a1, a2, a3⟩ := fa
  obtain ⟨b1, b2, b3⟩ := fb
  dsimp only [vIn, vMb] at CI CA CB HP
  have hH0 : w.heap.size < w.heap.size + 1 := by omega
  cases R
  · have HF : Hid (14 = V) := by show _ = _; rw [HP.out]; rfl
    simp only [Bool.false_eq_true, if_false] at CK
    clear HP CT CI CA CB
    go_enter Try.func10, Try.ntmps10
    go_wp2_with (go_at_call 23; ((with_reducible refine (CK _ HSG.out).mono ?_); rintro e w1 ⟨rfl, hg⟩; have HG := Lib.hid (grew_trans HSG.out hg); clear hg CK))
    go_ret
    exact ⟨ret_i HF.out, HG.out⟩
  · simp only [if_true] at CK
    cases S
    · have HF : Hid (3 = V) := by show _ = _; rw [HP.out]; rfl
      clear HP CI CA CB
      go_enter Try.func10, Try.ntmps10
      go_wp2_with (first
        | (go_at_call 23; ((with_reducible refine (CK _ HSG.out).mono ?_); rintro e w1 ⟨rfl, hg⟩; have HKX := Lib.hid (HSX.out.keep hg); have HKT := Lib.hid (HST.out.keep hg); have HKG := Lib.hid (grew_trans HSG.out hg); have x0 : w1.cell? ⟨w.heap.size, 0, none⟩ = some (.slice A1 n1 c1) := HKX.out.at 0 _ rfl; have x1 : w1.cell? ⟨w.heap.size, 1, none⟩ = some (.slice A2 n2 c2) := HKX.out.at 1 _ rfl; have x2 : w1.cell? ⟨w.heap.size, 2, none⟩ = some (.slice A3 n3 c3) := HKX.out.at 2 _ rfl; have t0 : w1.cell? ⟨w.heap.size + 1, 0, none⟩ = some (.int .i64 q1) := HKT.out.at 0 _ rfl; have t1 : w1.cell? ⟨w.heap.size + 1, 1, none⟩ = some (.int .i64 q2) := HKT.out.at 1 _ rfl; have t2 : w1.cell? ⟨w.heap.size + 1, 2, none⟩ = some (.int .i64 q3) := HKT.out.at 2 _ rfl; have t3 : w1.cell? ⟨w.heap.size + 1, 3, none⟩ = some (.int .i64 q4) := HKT.out.at 3 _ rfl; have t4 : w1.cell? ⟨w.heap.size + 1, 4, none⟩ = some (.int .i64 q5) := HKT.out.at 4 _ rfl; have t5 : w1.cell? ⟨w.heap.size + 1, 5, none⟩ = some (.int .i64 q6) := HKT.out.at 5 _ rfl; have t6 : w1.cell? ⟨w.heap.size + 1, 6, none⟩ = some (.bool q7) := HKT.out.at 6 _ rfl; clear hg CK))
        | (go_at_call 24; ((with_reducible refine (CT _ HKG.out).mono ?_); rintro e w2 ⟨rfl, hg⟩; have HG := Lib.hid (grew_trans HKG.out hg); clear hg CT)))
      go_ret
      exact ⟨ret_i HF.out, HG.out⟩
    · go_enter Try.func10, Try.ntmps10
      go_upto_region 9 with (first
        | (go_at_call 23; ((with_reducible refine (CK _ HSG.out).mono ?_); rintro e w1 ⟨rfl, hg⟩; have HKX := Lib.hid (HSX.out.keep hg); have HKT := Lib.hid (HST.out.keep hg); have HKG := Lib.hid (grew_trans HSG.out hg); have x0 : w1.cell? ⟨w.heap.size, 0, none⟩ = some (.slice A1 n1 c1) := HKX.out.at 0 _ rfl; have x1 : w1.cell? ⟨w.heap.size, 1, none⟩ = some (.slice A2 n2 c2) := HKX.out.at 1 _ rfl; have x2 : w1.cell? ⟨w.heap.size, 2, none⟩ = some (.slice A3 n3 c3) := HKX.out.at 2 _ rfl; have t0 : w1.cell? ⟨w.heap.size + 1, 0, none⟩ = some (.int .i64 q1) := HKT.out.at 0 _ rfl; have t1 : w1.cell? ⟨w.heap.size + 1, 1, none⟩ = some (.int .i64 q2) := HKT.out.at 1 _ rfl; have t2 : w1.cell? ⟨w.heap.size + 1, 2, none⟩ = some (.int .i64 q3) := HKT.out.at 2 _ rfl; have t3 : w1.cell? ⟨w.heap.size + 1, 3, none⟩ = some (.int .i64 q4) := HKT.out.at 3 _ rfl; have t4 : w1.cell? ⟨w.heap.size + 1, 4, none⟩ = some (.int .i64 q5) := HKT.out.at 4 _ rfl; have t5 : w1.cell? ⟨w.heap.size + 1, 5, none⟩ = some (.int .i64 q6) := HKT.out.at 5 _ rfl; have t6 : w1.cell? ⟨w.heap.size + 1, 6, none⟩ = some (.bool q7) := HKT.out.at 6 _ rfl; clear hg CK))
        | (go_at_call 24; ((with_reducible refine (CT _ HKG.out).mono ?_); rintro e w2 ⟨rfl, hg⟩; have HRX := Lib.hid (HKX.out.keep hg); have HRT := Lib.hid (HKT.out.keep hg); have HRG := Lib.hid (grew_trans HKG.out hg); have x0 : w2.cell? ⟨w.heap.size, 0, none⟩ = some (.slice A1 n1 c1) := HRX.out.at 0 _ rfl; have x1 : w2.cell? ⟨w.heap.size, 1, none⟩ = some (.slice A2 n2 c2) := HRX.out.at 1 _ rfl; have x2 : w2.cell? ⟨w.heap.size, 2, none⟩ = some (.slice A3 n3 c3) := HRX.out.at 2 _ rfl; have t0 : w2.cell? ⟨w.heap.size + 1, 0, none⟩ = some (.int .i64 q1) := HRT.out.at 0 _ rfl; have t1 : w2.cell? ⟨w.heap.size + 1, 1, none⟩ = some (.int .i64 q2) := HRT.out.at 1 _ rfl; have t2 : w2.cell? ⟨w.heap.size + 1, 2, none⟩ = some (.int .i64 q3) := HRT.out.at 2 _ rfl; have t3 : w2.cell? ⟨w.heap.size + 1, 3, none⟩ = some (.int .i64 q4) := HRT.out.at 3 _ rfl; have t4 : w2.cell? ⟨w.heap.size + 1, 4, none⟩ = some (.int .i64 q5) := HRT.out.at 4 _ rfl; have t5 : w2.cell? ⟨w.heap.size + 1, 5, none⟩ = some (.int .i64 q6) := HRT.out.at 5 _ rfl; have t6 : w2.cell? ⟨w.heap.size + 1, 6, none⟩ = some (.bool q7) := HRT.out.at 6 _ rfl; clear hg CT))
        | (go_at_call 25; ((with_reducible refine (CI _ HRG.out).mono ?_); rintro e w3 ⟨rfl, hg⟩; have HIX0 := Lib.hid (HRX.out.keep hg); have HIT0 := Lib.hid (HRT.out.keep hg); have HIG : Hid (Grew w (w3.alloc (.cells #[.int .i64 i1, .int .i64 i2, .int .i64 i3, .int .i64 i4, .int .i64 i5, .int .i64 i6, .int .i64 j1, .int .i64 j2, .int .i64 j3, .int .i64 j4, .int .i64 j5, .int .i64 j6] 56))) := grew_trans (grew_trans HRG.out hg) (grew_alloc _ _ _); have HIX : Hid (OwnC (w3.alloc (.cells #[.int .i64 i1, .int .i64 i2, .int .i64 i3, .int .i64 i4, .int .i64 i5, .int .i64 i6, .int .i64 j1, .int .i64 j2, .int .i64 j3, .int .i64 j4, .int .i64 j5, .int .i64 j6] 56)) w.heap.size [.slice A1 n1 c1, .slice A2 n2 c2, .slice A3 n3 c3]) := HIX0.out.keep (grew_alloc _ _ _); have HIT : Hid (OwnC (w3.alloc (.cells #[.int .i64 i1, .int .i64 i2, .int .i64 i3, .int .i64 i4, .int .i64 i5, .int .i64 i6, .int .i64 j1, .int .i64 j2, .int .i64 j3, .int .i64 j4, .int .i64 j5, .int .i64 j6] 56)) (w.heap.size + 1) [.int .i64 q1, .int .i64 q2, .int .i64 q3, .int .i64 q4, .int .i64 q5, .int .i64 q6, .bool q7]) := HIT0.out.keep (grew_alloc _ _ _); have HIl0 : w.heap.size < w3.heap.size := HIX0.out.lt; have HIl1 : w.heap.size + 1 < w3.heap.size := HIT0.out.lt; have x0 : w3.cell? ⟨w.heap.size, 0, none⟩ = some (.slice A1 n1 c1) := HIX0.out.at 0 _ rfl; have x1 : w3.cell? ⟨w.heap.size, 1, none⟩ = some (.slice A2 n2 c2) := HIX0.out.at 1 _ rfl; have x2 : w3.cell? ⟨w.heap.size, 2, none⟩ = some (.slice A3 n3 c3) := HIX0.out.at 2 _ rfl; have t0 : w3.cell? ⟨w.heap.size + 1, 0, none⟩ = some (.int .i64 q1) := HIT0.out.at 0 _ rfl; have t1 : w3.cell? ⟨w.heap.size + 1, 1, none⟩ = some (.int .i64 q2) := HIT0.out.at 1 _ rfl; have t2 : w3.cell? ⟨w.heap.size + 1, 2, none⟩ = some (.int .i64 q3) := HIT0.out.at 2 _ rfl; have t3 : w3.cell? ⟨w.heap.size + 1, 3, none⟩ = some (.int .i64 q4) := HIT0.out.at 3 _ rfl; have t4 : w3.cell? ⟨w.heap.size + 1, 4, none⟩ = some (.int .i64 q5) := HIT0.out.at 4 _ rfl; have t5 : w3.cell? ⟨w.heap.size + 1, 5, none⟩ = some (.int .i64 q6) := HIT0.out.at 5 _ rfl; have t6 : w3.cell? ⟨w.heap.size + 1, 6, none⟩ = some (.bool q7) := HIT0.out.at 6 _ rfl; clear hg CI HIX0 HIT0))
        | (go_at_call 26; ((with_reducible refine (CA _ HIG.out).mono ?_); rintro e w4 ⟨rfl, hg⟩; have HAX0 := Lib.hid (HIX.out.keep hg); have HAT0 := Lib.hid (HIT.out.keep hg); have HAG : Hid (Grew w (w4.alloc (.cells #[.int .i64 a1, .int .i64 a2, .int .i64 a3] 51))) := grew_trans (grew_trans HIG.out hg) (grew_alloc _ _ _); have HAX : Hid (OwnC (w4.alloc (.cells #[.int .i64 a1, .int .i64 a2, .int .i64 a3] 51)) w.heap.size [.slice A1 n1 c1, .slice A2 n2 c2, .slice A3 n3 c3]) := HAX0.out.keep (grew_alloc _ _ _); have HAT : Hid (OwnC (w4.alloc (.cells #[.int .i64 a1, .int .i64 a2, .int .i64 a3] 51)) (w.heap.size + 1) [.int .i64 q1, .int .i64 q2, .int .i64 q3, .int .i64 q4, .int .i64 q5, .int .i64 q6, .bool q7]) := HAT0.out.keep (grew_alloc _ _ _); have HAl0 : w.heap.size < w4.heap.size := HAX0.out.lt; have HAl1 : w.heap.size + 1 < w4.heap.size := HAT0.out.lt; have x0 : w4.cell? ⟨w.heap.size, 0, none⟩ = some (.slice A1 n1 c1) := HAX0.out.at 0 _ rfl; have x1 : w4.cell? ⟨w.heap.size, 1, none⟩ = some (.slice A2 n2 c2) := HAX0.out.at 1 _ rfl; have x2 : w4.cell? ⟨w.heap.size, 2, none⟩ = some (.slice A3 n3 c3) := HAX0.out.at 2 _ rfl; have t0 : w4.cell? ⟨w.heap.size + 1, 0, none⟩ = some (.int .i64 q1) := HAT0.out.at 0 _ rfl; have t1 : w4.cell? ⟨w.heap.size + 1, 1, none⟩ = some (.int .i64 q2) := HAT0.out.at 1 _ rfl; have t2 : w4.cell? ⟨w.heap.size + 1, 2, none⟩ = some (.int .i64 q3) := HAT0.out.at 2 _ rfl; have t3 : w4.cell? ⟨w.heap.size + 1, 3, none⟩ = some (.int .i64 q4) := HAT0.out.at 3 _ rfl; have t4 : w4.cell? ⟨w.heap.size + 1, 4, none⟩ = some (.int .i64 q5) := HAT0.out.at 4 _ rfl; have t5 : w4.cell? ⟨w.heap.size + 1, 5, none⟩ = some (.int .i64 q6) := HAT0.out.at 5 _ rfl; have t6 : w4.cell? ⟨w.heap.size + 1, 6, none⟩ = some (.bool q7) := HAT0.out.at 6 _ rfl; have HAM : Hid (OwnC (w4.alloc (.cells #[.int .i64 a1, .int .i64 a2, .int .i64 a3] 51)) w4.heap.size [.int .i64 a1, .int .i64 a2, .int .i64 a3]) := OwnC.new w4 [.int .i64 a1, .int .i64 a2, .int .i64 a3] _ _ rfl; clear hg CA HAX0 HAT0))
        | (go_at_call 26; ((with_reducible refine (CB _ HAG.out).mono ?_); rintro e w5 ⟨rfl, hg⟩; have HBX0 := Lib.hid (HAX.out.keep hg); have HBT0 := Lib.hid (HAT.out.keep hg); have HBG : Hid (Grew w (w5.alloc (.cells #[.int .i64 b1, .int .i64 b2, .int .i64 b3] 51))) := grew_trans (grew_trans HAG.out hg) (grew_alloc _ _ _); have HBX : Hid (OwnC (w5.alloc (.cells #[.int .i64 b1, .int .i64 b2, .int .i64 b3] 51)) w.heap.size [.slice A1 n1 c1, .slice A2 n2 c2, .slice A3 n3 c3]) := HBX0.out.keep (grew_alloc _ _ _); have HBT : Hid (OwnC (w5.alloc (.cells #[.int .i64 b1, .int .i64 b2, .int .i64 b3] 51)) (w.heap.size + 1) [.int .i64 q1, .int .i64 q2, .int .i64 q3, .int .i64 q4, .int .i64 q5, .int .i64 q6, .bool q7]) := HBT0.out.keep (grew_alloc _ _ _); have HBl0 : w.heap.size < w5.heap.size := HBX0.out.lt; have HBl1 : w.heap.size + 1 < w5.heap.size := HBT0.out.lt; have x0 : w5.cell? ⟨w.heap.size, 0, none⟩ = some (.slice A1 n1 c1) := HBX0.out.at 0 _ rfl; have x1 : w5.cell? ⟨w.heap.size, 1, none⟩ = some (.slice A2 n2 c2) := HBX0.out.at 1 _ rfl; have x2 : w5.cell? ⟨w.heap.size, 2, none⟩ = some (.slice A3 n3 c3) := HBX0.out.at 2 _ rfl; have t0 : w5.cell? ⟨w.heap.size + 1, 0, none⟩ = some (.int .i64 q1) := HBT0.out.at 0 _ rfl; have t1 : w5.cell? ⟨w.heap.size + 1, 1, none⟩ = some (.int .i64 q2) := HBT0.out.at 1 _ rfl; have t2 : w5.cell? ⟨w.heap.size + 1, 2, none⟩ = some (.int .i64 q3) := HBT0.out.at 2 _ rfl; have t3 : w5.cell? ⟨w.heap.size + 1, 3, none⟩ = some (.int .i64 q4) := HBT0.out.at 3 _ rfl; have t4 : w5.cell? ⟨w.heap.size + 1, 4, none⟩ = some (.int .i64 q5) := HBT0.out.at 4 _ rfl; have t5 : w5.cell? ⟨w.heap.size + 1, 5, none⟩ = some (.int .i64 q6) := HBT0.out.at 5 _ rfl; have t6 : w5.cell? ⟨w.heap.size + 1, 6, none⟩ = some (.bool q7) := HBT0.out.at 6 _ rfl; have HAM2 : Hid (OwnC (w5.alloc (.cells #[.int .i64 b1, .int .i64 b2, .int .i64 b3] 51)) w4.heap.size [.int .i64 a1, .int .i64 a2, .int .i64 a3]) := (HAM.out.keep hg).keep (grew_alloc _ _ _); have HBM : Hid (OwnC (w5.alloc (.cells #[.int .i64 b1, .int .i64 b2, .int .i64 b3] 51)) w5.heap.size [.int .i64 b1, .int .i64 b2, .int .i64 b3]) := OwnC.new w5 [.int .i64 b1, .int .i64 b2, .int .i64 b3] _ _ rfl; clear hg CB HBX0 HBT0)))
      generalize w5.alloc (.cells #[.int .i64 b1, .int .i64 b2, .int .i64 b3] 51) = w9 at *
      have t1 : w9.cell? ⟨w.heap.size + 1, 1, none⟩ = some (.int .i64 q2) := HBT.out.at 1 _ rfl
      have t2 : w9.cell? ⟨w.heap.size + 1, 2, none⟩ = some (.int .i64 q3) := HBT.out.at 2 _ rfl
      have m1 : w9.cell? ⟨w4.heap.size, 1, none⟩ = some (.int .i64 a2) := HAM2.out.at 1 _ rfl
      have m2 : w9.cell? ⟨w5.heap.size, 1, none⟩ = some (.int .i64 b2) := HBM.out.at 1 _ rfl
      clear HIX HIT HIG HAG HAX HAT HAM HBX HBT HAM2 HBM HKX HKT HKG HRX HRT HRG HSX HST HSG
      cases L
      · have HF : Hid (10 = V) := by show _ = _; rw [HP.out]; rfl
        clear HP
        go_wp2
        go_ret
        exact ⟨ret_i HF.out, HBG.out⟩
      · cases M1
        · have HF : Hid (10 = V) := by show _ = _; rw [HP.out]; rfl
          clear HP
          go_wp2
          go_ret
          exact ⟨ret_i HF.out, HBG.out⟩
        · cases M2
          · have HF : Hid (10 = V) := by show _ = _; rw [HP.out]; rfl
            clear HP
            go_wp2
            go_ret
            exact ⟨ret_i HF.out, HBG.out⟩
          · by_cases hq : q2 = q3
            · have HF : Hid (16 = V) := by show _ = _; rw [HP.out, if_pos hq]; rfl
              clear HP
              go_wp2
              go_ret
              exact ⟨ret_i HF.out, HBG.out⟩
            · have hq2 : (q2 == q3) = false := by simp [hq]
              by_cases ha : a2 = 1
              · have ha2 : (a2 != 1) = false := by simp [ha]
                by_cases hb : b2 = 1
                · have hb2 : (b2 != 1) = false := by simp [hb]
                  have HF : Hid (0 = V) := by show _ = _; rw [HP.out, if_neg hq, if_pos ha, if_pos hb]; rfl
                  clear HP ha hb
                  go_wp2
                  go_ret
                  exact ⟨ret_i HF.out, HBG.out⟩
                · have hb2 : (b2 != 1) = true := by simp [hb]
                  have HF : Hid (14 = V) := by show _ = _; rw [HP.out, if_neg hq, if_pos ha, if_neg hb]; rfl
                  clear HP ha hb
                  go_wp2
                  go_ret
                  exact ⟨ret_i HF.out, HBG.out⟩
              · have ha2 : (a2 != 1) = true := by simp [ha]
                have HF : Hid (14 = V) := by show _ = _; rw [HP.out, if_neg hq, if_neg ha]; rfl
                clear HP ha
                go_wp2
                go_ret
                exact ⟨ret_i HF.out, HBG.out⟩

set_option maxRecDepth 100000 in
set_option maxHeartbeats 8000000 in
theorem rtrade_any (r : Rl) (t : Tr) (A1 A2 A3 : Option Addr) (n1 n2 n3 c1 c2 c3 : Nat) (w : World) (h : Rows3 w r A1 A2 A3 n1 n2 n3) (hn : n1 ≤ 1000000 ∧ n2 ≤ 1000000 ∧ n3 ≤ 1000000) :
    Calls Try.prog 11 #[rlV A1 A2 A3 n1 n2 n3 c1 c2 c3, vTr t] w fun e w' => e = .returned (.int .i64 (tradeP r t)) ∧ Grew w w' := by
  have HP := Lib.hid (tradeP_is r t)
  obtain ⟨⟨q1, q2, q3, q4, q5, q6⟩, q7⟩ := t
  have CK := fun w' (g : Grew w w') => rroll_any r A1 A2 A3 n1 n2 n3 c1 c2 c3 w' (h.keep g) hn
  have CT := fun w' (g : Grew w w') => rsized_any ((q1, q2, q3, q4, q5, q6), q7) w'
  have CI := fun w' (g : Grew w w') => rfindIn_any A1 A2 A3 n1 n2 n3 c1 c2 c3 r.2.1 q4 w' (h.i.keep g) hn.2.1
  have CA := fun w' (g : Grew w w') => rfindMb_any A1 A2 A3 n1 n2 n3 c1 c2 c3 r.1 q2 w' (h.m.keep g) hn.1
  have CB := fun w' (g : Grew w w') => rfindMb_any A1 A2 A3 n1 n2 n3 c1 c2 c3 r.1 q3 w' (h.m.keep g) hn.1
  skip
  have HSG : Hid (Grew w ((w.alloc (.cells #[.slice A1 n1 c1, .slice A2 n2 c2, .slice A3 n3 c3] 26)).alloc (.cells #[.int .i64 q1, .int .i64 q2, .int .i64 q3, .int .i64 q4, .int .i64 q5, .int .i64 q6, .bool q7] 28))) := grew_trans (grew_alloc _ _ _) (grew_alloc _ _ _)
  have HSX : Hid (OwnC ((w.alloc (.cells #[.slice A1 n1 c1, .slice A2 n2 c2, .slice A3 n3 c3] 26)).alloc (.cells #[.int .i64 q1, .int .i64 q2, .int .i64 q3, .int .i64 q4, .int .i64 q5, .int .i64 q6, .bool q7] 28)) w.heap.size [.slice A1 n1 c1, .slice A2 n2 c2, .slice A3 n3 c3]) := (OwnC.new w [.slice A1 n1 c1, .slice A2 n2 c2, .slice A3 n3 c3] _ _ rfl).keep (grew_alloc _ _ _)
  have HST : Hid (OwnC ((w.alloc (.cells #[.slice A1 n1 c1, .slice A2 n2 c2, .slice A3 n3 c3] 26)).alloc (.cells #[.int .i64 q1, .int .i64 q2, .int .i64 q3, .int .i64 q4, .int .i64 q5, .int .i64 q6, .bool q7] 28)) (w.heap.size + 1) [.int .i64 q1, .int .i64 q2, .int .i64 q3, .int .i64 q4, .int .i64 q5, .int .i64 q6, .bool q7]) := OwnC.new _ [.int .i64 q1, .int .i64 q2, .int .i64 q3, .int .i64 q4, .int .i64 q5, .int .i64 q6, .bool q7] _ _ (by simp)
  clear h
  generalize tradeP r ((q1, q2, q3, q4, q5, q6), q7) = V at *
  generalize rightR r = R at *
  generalize sizedT ((q1, q2, q3, q4, q5, q6), q7) = S at *
  dsimp only [rlV, vTr] at CK CT HP ⊢
  generalize hasL noIn r.2.1 q4 = L at *
  generalize hasL noMb r.1 q2 = M1 at *
  generalize hasL noMb r.1 q3 = M2 at *
  generalize findL noIn in0 r.2.1 q4 = fi at *
  generalize findL noMb mb0 r.1 q2 = fa at *
  generalize findL noMb mb0 r.1 q3 = fb at *
  obtain ⟨⟨i1, i2, i3, i4, i5, i6⟩, ⟨j1, j2, j3, j4, j5, j6⟩⟩ := fi
  obtain ⟨a1, a2, a3⟩ := fa
  obtain ⟨b1, b2, b3⟩ := fb
  dsimp only [vIn, vMb] at CI CA CB HP
  have hH0 : w.heap.size < w.heap.size + 1 := by omega
  cases R
  · have HF : Hid (14 = V) := by show _ = _; rw [HP.out]; rfl
    skip
    clear HP CT CI CA CB
    go_enter Try.func11, Try.ntmps11
    go_wp2_with (go_at_call 27; ((with_reducible refine (CK _ HSG.out).mono ?_); rintro e w1 ⟨rfl, hg⟩; have HG := Lib.hid (grew_trans HSG.out hg); clear hg CK))
    go_ret
    exact ⟨ret_i HF.out, HG.out⟩
  · skip
    cases S
    · have HF : Hid (3 = V) := by show _ = _; rw [HP.out]; rfl
      clear HP CI CA CB
      go_enter Try.func11, Try.ntmps11
      go_wp2_with (first
        | (go_at_call 27; ((with_reducible refine (CK _ HSG.out).mono ?_); rintro e w1 ⟨rfl, hg⟩; have HKX := Lib.hid (HSX.out.keep hg); have HKT := Lib.hid (HST.out.keep hg); have HKG := Lib.hid (grew_trans HSG.out hg); have x0 : w1.cell? ⟨w.heap.size, 0, none⟩ = some (.slice A1 n1 c1) := HKX.out.at 0 _ rfl; have x1 : w1.cell? ⟨w.heap.size, 1, none⟩ = some (.slice A2 n2 c2) := HKX.out.at 1 _ rfl; have x2 : w1.cell? ⟨w.heap.size, 2, none⟩ = some (.slice A3 n3 c3) := HKX.out.at 2 _ rfl; have t0 : w1.cell? ⟨w.heap.size + 1, 0, none⟩ = some (.int .i64 q1) := HKT.out.at 0 _ rfl; have t1 : w1.cell? ⟨w.heap.size + 1, 1, none⟩ = some (.int .i64 q2) := HKT.out.at 1 _ rfl; have t2 : w1.cell? ⟨w.heap.size + 1, 2, none⟩ = some (.int .i64 q3) := HKT.out.at 2 _ rfl; have t3 : w1.cell? ⟨w.heap.size + 1, 3, none⟩ = some (.int .i64 q4) := HKT.out.at 3 _ rfl; have t4 : w1.cell? ⟨w.heap.size + 1, 4, none⟩ = some (.int .i64 q5) := HKT.out.at 4 _ rfl; have t5 : w1.cell? ⟨w.heap.size + 1, 5, none⟩ = some (.int .i64 q6) := HKT.out.at 5 _ rfl; have t6 : w1.cell? ⟨w.heap.size + 1, 6, none⟩ = some (.bool q7) := HKT.out.at 6 _ rfl; clear hg CK))
        | (go_at_call 28; ((with_reducible refine (CT _ HKG.out).mono ?_); rintro e w2 ⟨rfl, hg⟩; have HG := Lib.hid (grew_trans HKG.out hg); clear hg CT)))
      go_ret
      exact ⟨ret_i HF.out, HG.out⟩
    · go_enter Try.func11, Try.ntmps11
      go_upto_region 8 with (first
        | (go_at_call 27; ((with_reducible refine (CK _ HSG.out).mono ?_); rintro e w1 ⟨rfl, hg⟩; have HKX := Lib.hid (HSX.out.keep hg); have HKT := Lib.hid (HST.out.keep hg); have HKG := Lib.hid (grew_trans HSG.out hg); have x0 : w1.cell? ⟨w.heap.size, 0, none⟩ = some (.slice A1 n1 c1) := HKX.out.at 0 _ rfl; have x1 : w1.cell? ⟨w.heap.size, 1, none⟩ = some (.slice A2 n2 c2) := HKX.out.at 1 _ rfl; have x2 : w1.cell? ⟨w.heap.size, 2, none⟩ = some (.slice A3 n3 c3) := HKX.out.at 2 _ rfl; have t0 : w1.cell? ⟨w.heap.size + 1, 0, none⟩ = some (.int .i64 q1) := HKT.out.at 0 _ rfl; have t1 : w1.cell? ⟨w.heap.size + 1, 1, none⟩ = some (.int .i64 q2) := HKT.out.at 1 _ rfl; have t2 : w1.cell? ⟨w.heap.size + 1, 2, none⟩ = some (.int .i64 q3) := HKT.out.at 2 _ rfl; have t3 : w1.cell? ⟨w.heap.size + 1, 3, none⟩ = some (.int .i64 q4) := HKT.out.at 3 _ rfl; have t4 : w1.cell? ⟨w.heap.size + 1, 4, none⟩ = some (.int .i64 q5) := HKT.out.at 4 _ rfl; have t5 : w1.cell? ⟨w.heap.size + 1, 5, none⟩ = some (.int .i64 q6) := HKT.out.at 5 _ rfl; have t6 : w1.cell? ⟨w.heap.size + 1, 6, none⟩ = some (.bool q7) := HKT.out.at 6 _ rfl; clear hg CK))
        | (go_at_call 28; ((with_reducible refine (CT _ HKG.out).mono ?_); rintro e w2 ⟨rfl, hg⟩; have HRX := Lib.hid (HKX.out.keep hg); have HRT := Lib.hid (HKT.out.keep hg); have HRG := Lib.hid (grew_trans HKG.out hg); have x0 : w2.cell? ⟨w.heap.size, 0, none⟩ = some (.slice A1 n1 c1) := HRX.out.at 0 _ rfl; have x1 : w2.cell? ⟨w.heap.size, 1, none⟩ = some (.slice A2 n2 c2) := HRX.out.at 1 _ rfl; have x2 : w2.cell? ⟨w.heap.size, 2, none⟩ = some (.slice A3 n3 c3) := HRX.out.at 2 _ rfl; have t0 : w2.cell? ⟨w.heap.size + 1, 0, none⟩ = some (.int .i64 q1) := HRT.out.at 0 _ rfl; have t1 : w2.cell? ⟨w.heap.size + 1, 1, none⟩ = some (.int .i64 q2) := HRT.out.at 1 _ rfl; have t2 : w2.cell? ⟨w.heap.size + 1, 2, none⟩ = some (.int .i64 q3) := HRT.out.at 2 _ rfl; have t3 : w2.cell? ⟨w.heap.size + 1, 3, none⟩ = some (.int .i64 q4) := HRT.out.at 3 _ rfl; have t4 : w2.cell? ⟨w.heap.size + 1, 4, none⟩ = some (.int .i64 q5) := HRT.out.at 4 _ rfl; have t5 : w2.cell? ⟨w.heap.size + 1, 5, none⟩ = some (.int .i64 q6) := HRT.out.at 5 _ rfl; have t6 : w2.cell? ⟨w.heap.size + 1, 6, none⟩ = some (.bool q7) := HRT.out.at 6 _ rfl; clear hg CT))
        | (go_at_call 22; ((with_reducible refine (CI _ HRG.out).mono ?_); rintro e w3 ⟨rfl, hg⟩; have HIX0 := Lib.hid (HRX.out.keep hg); have HIT0 := Lib.hid (HRT.out.keep hg); have HIG : Hid (Grew w (w3.alloc (.cells #[.int .i64 i1, .int .i64 i2, .int .i64 i3, .int .i64 i4, .int .i64 i5, .int .i64 i6, .int .i64 j1, .int .i64 j2, .int .i64 j3, .int .i64 j4, .int .i64 j5, .int .i64 j6] 56))) := grew_trans (grew_trans HRG.out hg) (grew_alloc _ _ _); have HIX : Hid (OwnC (w3.alloc (.cells #[.int .i64 i1, .int .i64 i2, .int .i64 i3, .int .i64 i4, .int .i64 i5, .int .i64 i6, .int .i64 j1, .int .i64 j2, .int .i64 j3, .int .i64 j4, .int .i64 j5, .int .i64 j6] 56)) w.heap.size [.slice A1 n1 c1, .slice A2 n2 c2, .slice A3 n3 c3]) := HIX0.out.keep (grew_alloc _ _ _); have HIT : Hid (OwnC (w3.alloc (.cells #[.int .i64 i1, .int .i64 i2, .int .i64 i3, .int .i64 i4, .int .i64 i5, .int .i64 i6, .int .i64 j1, .int .i64 j2, .int .i64 j3, .int .i64 j4, .int .i64 j5, .int .i64 j6] 56)) (w.heap.size + 1) [.int .i64 q1, .int .i64 q2, .int .i64 q3, .int .i64 q4, .int .i64 q5, .int .i64 q6, .bool q7]) := HIT0.out.keep (grew_alloc _ _ _); have HIl0 : w.heap.size < w3.heap.size := HIX0.out.lt; have HIl1 : w.heap.size + 1 < w3.heap.size := HIT0.out.lt; have x0 : w3.cell? ⟨w.heap.size, 0, none⟩ = some (.slice A1 n1 c1) := HIX0.out.at 0 _ rfl; have x1 : w3.cell? ⟨w.heap.size, 1, none⟩ = some (.slice A2 n2 c2) := HIX0.out.at 1 _ rfl; have x2 : w3.cell? ⟨w.heap.size, 2, none⟩ = some (.slice A3 n3 c3) := HIX0.out.at 2 _ rfl; have t0 : w3.cell? ⟨w.heap.size + 1, 0, none⟩ = some (.int .i64 q1) := HIT0.out.at 0 _ rfl; have t1 : w3.cell? ⟨w.heap.size + 1, 1, none⟩ = some (.int .i64 q2) := HIT0.out.at 1 _ rfl; have t2 : w3.cell? ⟨w.heap.size + 1, 2, none⟩ = some (.int .i64 q3) := HIT0.out.at 2 _ rfl; have t3 : w3.cell? ⟨w.heap.size + 1, 3, none⟩ = some (.int .i64 q4) := HIT0.out.at 3 _ rfl; have t4 : w3.cell? ⟨w.heap.size + 1, 4, none⟩ = some (.int .i64 q5) := HIT0.out.at 4 _ rfl; have t5 : w3.cell? ⟨w.heap.size + 1, 5, none⟩ = some (.int .i64 q6) := HIT0.out.at 5 _ rfl; have t6 : w3.cell? ⟨w.heap.size + 1, 6, none⟩ = some (.bool q7) := HIT0.out.at 6 _ rfl; clear hg CI HIX0 HIT0))
        | (go_at_call 21; ((with_reducible refine (CA _ HIG.out).mono ?_); rintro e w4 ⟨rfl, hg⟩; have HAX0 := Lib.hid (HIX.out.keep hg); have HAT0 := Lib.hid (HIT.out.keep hg); have HAG : Hid (Grew w (w4.alloc (.cells #[.int .i64 a1, .int .i64 a2, .int .i64 a3] 51))) := grew_trans (grew_trans HIG.out hg) (grew_alloc _ _ _); have HAX : Hid (OwnC (w4.alloc (.cells #[.int .i64 a1, .int .i64 a2, .int .i64 a3] 51)) w.heap.size [.slice A1 n1 c1, .slice A2 n2 c2, .slice A3 n3 c3]) := HAX0.out.keep (grew_alloc _ _ _); have HAT : Hid (OwnC (w4.alloc (.cells #[.int .i64 a1, .int .i64 a2, .int .i64 a3] 51)) (w.heap.size + 1) [.int .i64 q1, .int .i64 q2, .int .i64 q3, .int .i64 q4, .int .i64 q5, .int .i64 q6, .bool q7]) := HAT0.out.keep (grew_alloc _ _ _); have HAl0 : w.heap.size < w4.heap.size := HAX0.out.lt; have HAl1 : w.heap.size + 1 < w4.heap.size := HAT0.out.lt; have x0 : w4.cell? ⟨w.heap.size, 0, none⟩ = some (.slice A1 n1 c1) := HAX0.out.at 0 _ rfl; have x1 : w4.cell? ⟨w.heap.size, 1, none⟩ = some (.slice A2 n2 c2) := HAX0.out.at 1 _ rfl; have x2 : w4.cell? ⟨w.heap.size, 2, none⟩ = some (.slice A3 n3 c3) := HAX0.out.at 2 _ rfl; have t0 : w4.cell? ⟨w.heap.size + 1, 0, none⟩ = some (.int .i64 q1) := HAT0.out.at 0 _ rfl; have t1 : w4.cell? ⟨w.heap.size + 1, 1, none⟩ = some (.int .i64 q2) := HAT0.out.at 1 _ rfl; have t2 : w4.cell? ⟨w.heap.size + 1, 2, none⟩ = some (.int .i64 q3) := HAT0.out.at 2 _ rfl; have t3 : w4.cell? ⟨w.heap.size + 1, 3, none⟩ = some (.int .i64 q4) := HAT0.out.at 3 _ rfl; have t4 : w4.cell? ⟨w.heap.size + 1, 4, none⟩ = some (.int .i64 q5) := HAT0.out.at 4 _ rfl; have t5 : w4.cell? ⟨w.heap.size + 1, 5, none⟩ = some (.int .i64 q6) := HAT0.out.at 5 _ rfl; have t6 : w4.cell? ⟨w.heap.size + 1, 6, none⟩ = some (.bool q7) := HAT0.out.at 6 _ rfl; have HAM : Hid (OwnC (w4.alloc (.cells #[.int .i64 a1, .int .i64 a2, .int .i64 a3] 51)) w4.heap.size [.int .i64 a1, .int .i64 a2, .int .i64 a3]) := OwnC.new w4 [.int .i64 a1, .int .i64 a2, .int .i64 a3] _ _ rfl; clear hg CA HAX0 HAT0))
        | (go_at_call 21; ((with_reducible refine (CB _ HAG.out).mono ?_); rintro e w5 ⟨rfl, hg⟩; have HBX0 := Lib.hid (HAX.out.keep hg); have HBT0 := Lib.hid (HAT.out.keep hg); have HBG : Hid (Grew w (w5.alloc (.cells #[.int .i64 b1, .int .i64 b2, .int .i64 b3] 51))) := grew_trans (grew_trans HAG.out hg) (grew_alloc _ _ _); have HBX : Hid (OwnC (w5.alloc (.cells #[.int .i64 b1, .int .i64 b2, .int .i64 b3] 51)) w.heap.size [.slice A1 n1 c1, .slice A2 n2 c2, .slice A3 n3 c3]) := HBX0.out.keep (grew_alloc _ _ _); have HBT : Hid (OwnC (w5.alloc (.cells #[.int .i64 b1, .int .i64 b2, .int .i64 b3] 51)) (w.heap.size + 1) [.int .i64 q1, .int .i64 q2, .int .i64 q3, .int .i64 q4, .int .i64 q5, .int .i64 q6, .bool q7]) := HBT0.out.keep (grew_alloc _ _ _); have HBl0 : w.heap.size < w5.heap.size := HBX0.out.lt; have HBl1 : w.heap.size + 1 < w5.heap.size := HBT0.out.lt; have x0 : w5.cell? ⟨w.heap.size, 0, none⟩ = some (.slice A1 n1 c1) := HBX0.out.at 0 _ rfl; have x1 : w5.cell? ⟨w.heap.size, 1, none⟩ = some (.slice A2 n2 c2) := HBX0.out.at 1 _ rfl; have x2 : w5.cell? ⟨w.heap.size, 2, none⟩ = some (.slice A3 n3 c3) := HBX0.out.at 2 _ rfl; have t0 : w5.cell? ⟨w.heap.size + 1, 0, none⟩ = some (.int .i64 q1) := HBT0.out.at 0 _ rfl; have t1 : w5.cell? ⟨w.heap.size + 1, 1, none⟩ = some (.int .i64 q2) := HBT0.out.at 1 _ rfl; have t2 : w5.cell? ⟨w.heap.size + 1, 2, none⟩ = some (.int .i64 q3) := HBT0.out.at 2 _ rfl; have t3 : w5.cell? ⟨w.heap.size + 1, 3, none⟩ = some (.int .i64 q4) := HBT0.out.at 3 _ rfl; have t4 : w5.cell? ⟨w.heap.size + 1, 4, none⟩ = some (.int .i64 q5) := HBT0.out.at 4 _ rfl; have t5 : w5.cell? ⟨w.heap.size + 1, 5, none⟩ = some (.int .i64 q6) := HBT0.out.at 5 _ rfl; have t6 : w5.cell? ⟨w.heap.size + 1, 6, none⟩ = some (.bool q7) := HBT0.out.at 6 _ rfl; have HAM2 : Hid (OwnC (w5.alloc (.cells #[.int .i64 b1, .int .i64 b2, .int .i64 b3] 51)) w4.heap.size [.int .i64 a1, .int .i64 a2, .int .i64 a3]) := (HAM.out.keep hg).keep (grew_alloc _ _ _); have HBM : Hid (OwnC (w5.alloc (.cells #[.int .i64 b1, .int .i64 b2, .int .i64 b3] 51)) w5.heap.size [.int .i64 b1, .int .i64 b2, .int .i64 b3]) := OwnC.new w5 [.int .i64 b1, .int .i64 b2, .int .i64 b3] _ _ rfl; clear hg CB HBX0 HBT0)))
      generalize w5.alloc (.cells #[.int .i64 b1, .int .i64 b2, .int .i64 b3] 51) = w9 at *
      have t1 : w9.cell? ⟨w.heap.size + 1, 1, none⟩ = some (.int .i64 q2) := HBT.out.at 1 _ rfl
      have t2 : w9.cell? ⟨w.heap.size + 1, 2, none⟩ = some (.int .i64 q3) := HBT.out.at 2 _ rfl
      have m1 : w9.cell? ⟨w4.heap.size, 1, none⟩ = some (.int .i64 a2) := HAM2.out.at 1 _ rfl
      have m2 : w9.cell? ⟨w5.heap.size, 1, none⟩ = some (.int .i64 b2) := HBM.out.at 1 _ rfl
      clear HIX HIT HIG HAG HAX HAT HAM HBX HBT HAM2 HBM HKX HKT HKG HRX HRT HRG HSX HST HSG
      cases L
      · have HF : Hid (10 = V) := by show _ = _; rw [HP.out]; rfl
        clear HP
        go_wp2
        go_ret
        exact ⟨ret_i HF.out, HBG.out⟩
      · cases M1
        · have HF : Hid (10 = V) := by show _ = _; rw [HP.out]; rfl
          clear HP
          go_wp2
          go_ret
          exact ⟨ret_i HF.out, HBG.out⟩
        · cases M2
          · have HF : Hid (10 = V) := by show _ = _; rw [HP.out]; rfl
            clear HP
            go_wp2
            go_ret
            exact ⟨ret_i HF.out, HBG.out⟩
          · by_cases hq : q2 = q3
            · have HF : Hid (16 = V) := by show _ = _; rw [HP.out, if_pos hq]; rfl
              clear HP
              go_wp2
              go_ret
              exact ⟨ret_i HF.out, HBG.out⟩
            · have hq2 : (q2 == q3) = false := by simp [hq]
              by_cases ha : a2 = 1
              · have ha2 : (a2 != 1) = false := by simp [ha]
                by_cases hb : b2 = 1
                · have hb2 : (b2 != 1) = false := by simp [hb]
                  have HF : Hid (0 = V) := by show _ = _; rw [HP.out, if_neg hq, if_pos ha, if_pos hb]; rfl
                  clear HP ha hb
                  go_wp2
                  go_ret
                  exact ⟨ret_i HF.out, HBG.out⟩
                · have hb2 : (b2 != 1) = true := by simp [hb]
                  have HF : Hid (14 = V) := by show _ = _; rw [HP.out, if_neg hq, if_pos ha, if_neg hb]; rfl
                  clear HP ha hb
                  go_wp2
                  go_ret
                  exact ⟨ret_i HF.out, HBG.out⟩
              · have ha2 : (a2 != 1) = true := by simp [ha]
                have HF : Hid (14 = V) := by show _ = _; rw [HP.out, if_neg hq, if_neg ha]; rfl
                clear HP ha
                go_wp2
                go_ret
                exact ⟨ret_i HF.out, HBG.out⟩
end Go.Proofs.Ytgblhliinjgofaa.NumK
