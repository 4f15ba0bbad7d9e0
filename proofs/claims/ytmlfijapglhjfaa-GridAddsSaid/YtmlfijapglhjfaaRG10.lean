/- A list of In: the document's first one of a number; two lists that are the same. -/
import Derived.Test.YtmlfijapglhjfaaRG4
import Derived.Test.YtmlfijapglhjfaaRG1
import Derived.Test.YtmlfijapglhjfaaRG2
namespace Go.Proofs.Ytmlfijapglhjfaa.NumK
open Go.RowKit
set_option linter.unusedVariables false

set_option maxRecDepth 100000 in
set_option maxHeartbeats 2000000 in
theorem rfindIn_any (A1 A2 A3 : Option Addr) (n1 n2 n3 c1 c2 c3 : Nat) (l : List In) (m : Int) (w : World) (h : RowE enIn w A2 n2 l) (hn : n2 ≤ 1000000) :
    Calls Try.prog 27 #[.agg #[.slice A1 n1 c1, .slice A2 n2 c2, .slice A3 n3 c3], .int .i64 m] w fun e w' => e = .returned (.tuple #[vIn (findL noIn in0 l m), .bool (hasL noIn l m)]) ∧ Grew w w' := by
  have HI := Lib.hid h
  have HL := Lib.hid h.len
  have HY := Lib.hid (find_yes noIn in0 l m)
  have HZ := Lib.hid (find_no noIn in0 l m)
  generalize findL noIn in0 l m = F at *
  generalize hasL noIn l m = B at *
  clear h
  dsimp only [vIn]
  go_enter Try.func27, Try.ntmps27
  go_wp2
  have HG0 : Hid (Grew w ((w.alloc (.cells #[.slice A1 n1 c1, .slice A2 n2 c2, .slice A3 n3 c3] 26)).alloc (.cells #[.int .i64 0, .int .i64 0, .int .i64 0, .int .i64 0, .int .i64 0, .int .i64 0, .int .i64 0, .int .i64 0, .int .i64 0, .int .i64 0, .int .i64 0, .int .i64 0] 49))) := grew_trans (grew_alloc _ _ _) (grew_alloc _ _ _)
  have HX0 : Hid (OwnC ((w.alloc (.cells #[.slice A1 n1 c1, .slice A2 n2 c2, .slice A3 n3 c3] 26)).alloc (.cells #[.int .i64 0, .int .i64 0, .int .i64 0, .int .i64 0, .int .i64 0, .int .i64 0, .int .i64 0, .int .i64 0, .int .i64 0, .int .i64 0, .int .i64 0, .int .i64 0] 49)) w.heap.size [.slice A1 n1 c1, .slice A2 n2 c2, .slice A3 n3 c3]) := (OwnC.new w _ _ _ rfl).keep (grew_alloc _ _ _)
  have HO0 : Hid (OwnC ((w.alloc (.cells #[.slice A1 n1 c1, .slice A2 n2 c2, .slice A3 n3 c3] 26)).alloc (.cells #[.int .i64 0, .int .i64 0, .int .i64 0, .int .i64 0, .int .i64 0, .int .i64 0, .int .i64 0, .int .i64 0, .int .i64 0, .int .i64 0, .int .i64 0, .int .i64 0] 49)) (w.heap.size + 1) [.int .i64 0, .int .i64 0, .int .i64 0, .int .i64 0, .int .i64 0, .int .i64 0, .int .i64 0, .int .i64 0, .int .i64 0, .int .i64 0, .int .i64 0, .int .i64 0]) := OwnC.new _ _ _ _ (by simp)
  generalize (w.alloc (.cells #[.slice A1 n1 c1, .slice A2 n2 c2, .slice A3 n3 c3] 26)).alloc (.cells #[.int .i64 0, .int .i64 0, .int .i64 0, .int .i64 0, .int .i64 0, .int .i64 0, .int .i64 0, .int .i64 0, .int .i64 0, .int .i64 0, .int .i64 0, .int .i64 0] 49) = w0 at *
  go_loopw [6] (fun v wr => ∃ j : Nat, v = .int .i64 j ∧ j ≤ n2 ∧ Hid (∀ i, i < j → noIn (l.getD i in0) ≠ m) ∧ Hid (Grew w0 wr)) (fun v _ => n2 - (intOf v).toNat)
  case atStart => exact ⟨0, rfl, by omega, (by intro i hi; omega), grew_refl _⟩
  case round =>
    obtain ⟨j, rfl, hj, HK, HG1⟩ := hrel
    have HG := Lib.hid (grew_trans HG0.out HG1.out)
    have HO := Lib.hid (HO0.out.keep HG1.out)
    have px : wr.cell? ⟨w.heap.size, 1, none⟩ = some (.slice A2 n2 c2) := (HX0.out.keep HG1.out).at 1 _ rfl
    by_cases hlt : j < n2
    · obtain ⟨b, o, rfl, hb, hc⟩ := (HI.out.keep HG.out).in hlt
      obtain ⟨a0, a1, a2, a3, a4, a5, a6, a7, a8, a9, a10, a11⟩ := hc j hlt
      clear hc hb
      have HY1 := Lib.hid (HY.out j (by rw [HL.out]; exact hlt) HK.out)
      have HK1 : Hid (noIn (l.getD j in0) ≠ m → ∀ i, i < j + 1 → noIn (l.getD i in0) ≠ m) := fun h i hi => by
        rcases Nat.lt_or_ge i j with h1 | h1
        · exact HK.out i h1
        · obtain rfl : i = j := by omega
          exact h
      have HNX : Hid (noIn (l.getD j in0) = (l.getD j in0).1.1) := rfl
      have i0 : (0 : Int) ≤ (j : Int) := by omega
      have i1 : (j : Int) < (n2 : Int) := by omega
      generalize noIn (l.getD j in0) = nx at *
      generalize l.getD j in0 = x at *
      obtain ⟨⟨q1, q2, q3, q4, q5, q6⟩, ⟨q7, q8, q9, q10, q11, q12⟩⟩ := x
      dsimp only at a0 a1 a2 a3 a4 a5 a6 a7 a8 a9 a10 a11  HNX
      have he1 := HNX.out.symm
      subst he1
      by_cases he : q1 = m
      · subst he
        obtain ⟨rfl, rfl⟩ := HY1.out rfl
        clear HY HZ HY1 HK1 HK
        have r0 : wr.cell? ⟨w.heap.size + 1, 0, none⟩ = some (.int .i64 0) := HO.out.at 0 _ rfl; have r1 : wr.cell? ⟨w.heap.size + 1, 1, none⟩ = some (.int .i64 0) := HO.out.at 1 _ rfl; have r2 : wr.cell? ⟨w.heap.size + 1, 2, none⟩ = some (.int .i64 0) := HO.out.at 2 _ rfl; have r3 : wr.cell? ⟨w.heap.size + 1, 3, none⟩ = some (.int .i64 0) := HO.out.at 3 _ rfl; have r4 : wr.cell? ⟨w.heap.size + 1, 4, none⟩ = some (.int .i64 0) := HO.out.at 4 _ rfl; have r5 : wr.cell? ⟨w.heap.size + 1, 5, none⟩ = some (.int .i64 0) := HO.out.at 5 _ rfl; have r6 : wr.cell? ⟨w.heap.size + 1, 6, none⟩ = some (.int .i64 0) := HO.out.at 6 _ rfl; have r7 : wr.cell? ⟨w.heap.size + 1, 7, none⟩ = some (.int .i64 0) := HO.out.at 7 _ rfl; have r8 : wr.cell? ⟨w.heap.size + 1, 8, none⟩ = some (.int .i64 0) := HO.out.at 8 _ rfl; have r9 : wr.cell? ⟨w.heap.size + 1, 9, none⟩ = some (.int .i64 0) := HO.out.at 9 _ rfl; have r10 : wr.cell? ⟨w.heap.size + 1, 10, none⟩ = some (.int .i64 0) := HO.out.at 10 _ rfl; have r11 : wr.cell? ⟨w.heap.size + 1, 11, none⟩ = some (.int .i64 0) := HO.out.at 11 _ rfl
        have f0 : wr.frozen? ⟨w.heap.size + 1, 0, none⟩ = false := HO.out.fr 0 (by decide); have f1 : wr.frozen? ⟨w.heap.size + 1, 1, none⟩ = false := HO.out.fr 1 (by decide); have f2 : wr.frozen? ⟨w.heap.size + 1, 2, none⟩ = false := HO.out.fr 2 (by decide); have f3 : wr.frozen? ⟨w.heap.size + 1, 3, none⟩ = false := HO.out.fr 3 (by decide); have f4 : wr.frozen? ⟨w.heap.size + 1, 4, none⟩ = false := HO.out.fr 4 (by decide); have f5 : wr.frozen? ⟨w.heap.size + 1, 5, none⟩ = false := HO.out.fr 5 (by decide); have f6 : wr.frozen? ⟨w.heap.size + 1, 6, none⟩ = false := HO.out.fr 6 (by decide); have f7 : wr.frozen? ⟨w.heap.size + 1, 7, none⟩ = false := HO.out.fr 7 (by decide); have f8 : wr.frozen? ⟨w.heap.size + 1, 8, none⟩ = false := HO.out.fr 8 (by decide); have f9 : wr.frozen? ⟨w.heap.size + 1, 9, none⟩ = false := HO.out.fr 9 (by decide); have f10 : wr.frozen? ⟨w.heap.size + 1, 10, none⟩ = false := HO.out.fr 10 (by decide); have f11 : wr.frozen? ⟨w.heap.size + 1, 11, none⟩ = false := HO.out.fr 11 (by decide)
        go_wp2
        have HP := HO.out.all [.int .i64 q1, .int .i64 q2, .int .i64 q3, .int .i64 q4, .int .i64 q5, .int .i64 q6, .int .i64 q7, .int .i64 q8, .int .i64 q9, .int .i64 q10, .int .i64 q11, .int .i64 q12] rfl
        have HGP := grew_put (w.heap.size + 1) (Nat.le_succ _) [.int .i64 q1, .int .i64 q2, .int .i64 q3, .int .i64 q4, .int .i64 q5, .int .i64 q6, .int .i64 q7, .int .i64 q8, .int .i64 q9, .int .i64 q10, .int .i64 q11, .int .i64 q12] 0 _ HG.out
        change bodyPost _ _ _ _ _ (putC wr (w.heap.size + 1) 0 [.int .i64 q1, .int .i64 q2, .int .i64 q3, .int .i64 q4, .int .i64 q5, .int .i64 q6, .int .i64 q7, .int .i64 q8, .int .i64 q9, .int .i64 q10, .int .i64 q11, .int .i64 q12])
        generalize putC wr (w.heap.size + 1) 0 [.int .i64 q1, .int .i64 q2, .int .i64 q3, .int .i64 q4, .int .i64 q5, .int .i64 q6, .int .i64 q7, .int .i64 q8, .int .i64 q9, .int .i64 q10, .int .i64 q11, .int .i64 q12] = w9 at *
        have z0 : w9.cell? ⟨w.heap.size + 1, 0, none⟩ = _ := HP.at 0 _ rfl; have z1 : w9.cell? ⟨w.heap.size + 1, 1, none⟩ = _ := HP.at 1 _ rfl; have z2 : w9.cell? ⟨w.heap.size + 1, 2, none⟩ = _ := HP.at 2 _ rfl; have z3 : w9.cell? ⟨w.heap.size + 1, 3, none⟩ = _ := HP.at 3 _ rfl; have z4 : w9.cell? ⟨w.heap.size + 1, 4, none⟩ = _ := HP.at 4 _ rfl; have z5 : w9.cell? ⟨w.heap.size + 1, 5, none⟩ = _ := HP.at 5 _ rfl; have z6 : w9.cell? ⟨w.heap.size + 1, 6, none⟩ = _ := HP.at 6 _ rfl; have z7 : w9.cell? ⟨w.heap.size + 1, 7, none⟩ = _ := HP.at 7 _ rfl; have z8 : w9.cell? ⟨w.heap.size + 1, 8, none⟩ = _ := HP.at 8 _ rfl; have z9 : w9.cell? ⟨w.heap.size + 1, 9, none⟩ = _ := HP.at 9 _ rfl; have z10 : w9.cell? ⟨w.heap.size + 1, 10, none⟩ = _ := HP.at 10 _ rfl; have z11 : w9.cell? ⟨w.heap.size + 1, 11, none⟩ = _ := HP.at 11 _ rfl
        refine bodyPost_ret (v := .tuple #[.agg #[.int .i64 q1, .int .i64 q2, .int .i64 q3, .int .i64 q4, .int .i64 q5, .int .i64 q6, .int .i64 q7, .int .i64 q8, .int .i64 q9, .int .i64 q10, .int .i64 q11, .int .i64 q12], .bool true]) (by simp [results, Try.results27, go_sem, z0, z1, z2, z3, z4, z5, z6, z7, z8, z9, z10, z11]) rfl ?_
        exact ⟨rfl, HGP⟩
      · have he2 := he
        have HK2 := Lib.hid (HK1.out he2)
        clear HY HZ HY1 HK1 HK he2
        go_wp2
        go_roundw
        case rel => exact ⟨j + 1, by go_num, by omega, HK2.out, HG1.out⟩
        case measure => simp only [intOf]; omega
    · obtain rfl : j = n2 := by omega
      obtain ⟨rfl, rfl⟩ := HZ.out (fun i hi => HK.out i (by rw [HL.out] at hi; exact hi))
      clear HY HZ HK
      have r0 : wr.cell? ⟨w.heap.size + 1, 0, none⟩ = some (.int .i64 0) := HO.out.at 0 _ rfl; have r1 : wr.cell? ⟨w.heap.size + 1, 1, none⟩ = some (.int .i64 0) := HO.out.at 1 _ rfl; have r2 : wr.cell? ⟨w.heap.size + 1, 2, none⟩ = some (.int .i64 0) := HO.out.at 2 _ rfl; have r3 : wr.cell? ⟨w.heap.size + 1, 3, none⟩ = some (.int .i64 0) := HO.out.at 3 _ rfl; have r4 : wr.cell? ⟨w.heap.size + 1, 4, none⟩ = some (.int .i64 0) := HO.out.at 4 _ rfl; have r5 : wr.cell? ⟨w.heap.size + 1, 5, none⟩ = some (.int .i64 0) := HO.out.at 5 _ rfl; have r6 : wr.cell? ⟨w.heap.size + 1, 6, none⟩ = some (.int .i64 0) := HO.out.at 6 _ rfl; have r7 : wr.cell? ⟨w.heap.size + 1, 7, none⟩ = some (.int .i64 0) := HO.out.at 7 _ rfl; have r8 : wr.cell? ⟨w.heap.size + 1, 8, none⟩ = some (.int .i64 0) := HO.out.at 8 _ rfl; have r9 : wr.cell? ⟨w.heap.size + 1, 9, none⟩ = some (.int .i64 0) := HO.out.at 9 _ rfl; have r10 : wr.cell? ⟨w.heap.size + 1, 10, none⟩ = some (.int .i64 0) := HO.out.at 10 _ rfl; have r11 : wr.cell? ⟨w.heap.size + 1, 11, none⟩ = some (.int .i64 0) := HO.out.at 11 _ rfl
      have f0 : wr.frozen? ⟨w.heap.size + 1, 0, none⟩ = false := HO.out.fr 0 (by decide); have f1 : wr.frozen? ⟨w.heap.size + 1, 1, none⟩ = false := HO.out.fr 1 (by decide); have f2 : wr.frozen? ⟨w.heap.size + 1, 2, none⟩ = false := HO.out.fr 2 (by decide); have f3 : wr.frozen? ⟨w.heap.size + 1, 3, none⟩ = false := HO.out.fr 3 (by decide); have f4 : wr.frozen? ⟨w.heap.size + 1, 4, none⟩ = false := HO.out.fr 4 (by decide); have f5 : wr.frozen? ⟨w.heap.size + 1, 5, none⟩ = false := HO.out.fr 5 (by decide); have f6 : wr.frozen? ⟨w.heap.size + 1, 6, none⟩ = false := HO.out.fr 6 (by decide); have f7 : wr.frozen? ⟨w.heap.size + 1, 7, none⟩ = false := HO.out.fr 7 (by decide); have f8 : wr.frozen? ⟨w.heap.size + 1, 8, none⟩ = false := HO.out.fr 8 (by decide); have f9 : wr.frozen? ⟨w.heap.size + 1, 9, none⟩ = false := HO.out.fr 9 (by decide); have f10 : wr.frozen? ⟨w.heap.size + 1, 10, none⟩ = false := HO.out.fr 10 (by decide); have f11 : wr.frozen? ⟨w.heap.size + 1, 11, none⟩ = false := HO.out.fr 11 (by decide)
      go_wp2
      have HP := HO.out.all [.int .i64 0, .int .i64 0, .int .i64 0, .int .i64 0, .int .i64 0, .int .i64 0, .int .i64 0, .int .i64 0, .int .i64 0, .int .i64 0, .int .i64 0, .int .i64 0] rfl
      have HGP := grew_put (w.heap.size + 1) (Nat.le_succ _) [.int .i64 0, .int .i64 0, .int .i64 0, .int .i64 0, .int .i64 0, .int .i64 0, .int .i64 0, .int .i64 0, .int .i64 0, .int .i64 0, .int .i64 0, .int .i64 0] 0 _ HG.out
      change bodyPost _ _ _ _ _ (putC wr (w.heap.size + 1) 0 [.int .i64 0, .int .i64 0, .int .i64 0, .int .i64 0, .int .i64 0, .int .i64 0, .int .i64 0, .int .i64 0, .int .i64 0, .int .i64 0, .int .i64 0, .int .i64 0])
      generalize putC wr (w.heap.size + 1) 0 [.int .i64 0, .int .i64 0, .int .i64 0, .int .i64 0, .int .i64 0, .int .i64 0, .int .i64 0, .int .i64 0, .int .i64 0, .int .i64 0, .int .i64 0, .int .i64 0] = w9 at *
      have z0 : w9.cell? ⟨w.heap.size + 1, 0, none⟩ = _ := HP.at 0 _ rfl; have z1 : w9.cell? ⟨w.heap.size + 1, 1, none⟩ = _ := HP.at 1 _ rfl; have z2 : w9.cell? ⟨w.heap.size + 1, 2, none⟩ = _ := HP.at 2 _ rfl; have z3 : w9.cell? ⟨w.heap.size + 1, 3, none⟩ = _ := HP.at 3 _ rfl; have z4 : w9.cell? ⟨w.heap.size + 1, 4, none⟩ = _ := HP.at 4 _ rfl; have z5 : w9.cell? ⟨w.heap.size + 1, 5, none⟩ = _ := HP.at 5 _ rfl; have z6 : w9.cell? ⟨w.heap.size + 1, 6, none⟩ = _ := HP.at 6 _ rfl; have z7 : w9.cell? ⟨w.heap.size + 1, 7, none⟩ = _ := HP.at 7 _ rfl; have z8 : w9.cell? ⟨w.heap.size + 1, 8, none⟩ = _ := HP.at 8 _ rfl; have z9 : w9.cell? ⟨w.heap.size + 1, 9, none⟩ = _ := HP.at 9 _ rfl; have z10 : w9.cell? ⟨w.heap.size + 1, 10, none⟩ = _ := HP.at 10 _ rfl; have z11 : w9.cell? ⟨w.heap.size + 1, 11, none⟩ = _ := HP.at 11 _ rfl
      refine bodyPost_ret (v := .tuple #[.agg #[.int .i64 0, .int .i64 0, .int .i64 0, .int .i64 0, .int .i64 0, .int .i64 0, .int .i64 0, .int .i64 0, .int .i64 0, .int .i64 0, .int .i64 0, .int .i64 0], .bool false]) (by simp [results, Try.results27, go_sem, z0, z1, z2, z3, z4, z5, z6, z7, z8, z9, z10, z11]) rfl ?_
      exact ⟨rfl, HGP⟩

set_option maxRecDepth 100000 in
theorem pfindIn_any (A1 A2 A3 : Option Addr) (n1 n2 n3 c1 c2 c3 : Nat) (l : List In) (m : Int) (w : World) (h : RowE enIn w A2 n2 l) (_hn : n2 ≤ 1000000)
    (hC : ∀ w, RowE enIn w A2 n2 l → Calls Try.prog 65 #[.slice A2 n2 c2, .func (.func 44) #[] #[], .int .i64 m] w fun e w' => e = .returned (.tuple #[vIn (findL noIn in0 l m), .bool (hasL noIn l m)]) ∧ Grew w w') :
    Calls Try.prog 50 #[.agg #[.slice A1 n1 c1, .slice A2 n2 c2, .slice A3 n3 c3], .int .i64 m] w fun e w' => e = .returned (.tuple #[vIn (findL noIn in0 l m), .bool (hasL noIn l m)]) ∧ Grew w w' := by
  have HI := Lib.hid h
  have CF := fun w' (g : Grew w w') => hC w' (h.keep g)
  generalize findL noIn in0 l m = F at *
  generalize hasL noIn l m = B at *
  clear h
  obtain ⟨⟨q1, q2, q3, q4, q5, q6⟩, ⟨q7, q8, q9, q10, q11, q12⟩⟩ := F
  dsimp only [vIn] at CF ⊢
  have HO : Hid (OwnC ((w.alloc (.cells #[.slice A1 n1 c1, .slice A2 n2 c2, .slice A3 n3 c3] 26)).alloc (.cells #[.int .i64 0, .int .i64 0, .int .i64 0, .int .i64 0, .int .i64 0, .int .i64 0, .int .i64 0, .int .i64 0, .int .i64 0, .int .i64 0, .int .i64 0, .int .i64 0] 49)) (w.heap.size + 1) [.int .i64 0, .int .i64 0, .int .i64 0, .int .i64 0, .int .i64 0, .int .i64 0, .int .i64 0, .int .i64 0, .int .i64 0, .int .i64 0, .int .i64 0, .int .i64 0]) := OwnC.new _ _ _ _ (by simp)
  go_enter Try.func50, Try.ntmps50
  go_wp2_with (go_at_call 65; ((with_reducible refine (CF _ (grew_trans (grew_alloc _ _ _) (grew_alloc _ _ _))).mono ?_); rintro e w5 ⟨rfl, hg⟩; have HO5 := Lib.hid (HO.out.keep hg); have HG5 : Hid (Grew w w5) := grew_trans (grew_trans (grew_alloc _ _ _) (grew_alloc _ _ _)) hg; have r0 : w5.cell? ⟨w.heap.size + 1, 0, none⟩ = some (.int .i64 0) := HO5.out.at 0 _ rfl; have r1 : w5.cell? ⟨w.heap.size + 1, 1, none⟩ = some (.int .i64 0) := HO5.out.at 1 _ rfl; have r2 : w5.cell? ⟨w.heap.size + 1, 2, none⟩ = some (.int .i64 0) := HO5.out.at 2 _ rfl; have r3 : w5.cell? ⟨w.heap.size + 1, 3, none⟩ = some (.int .i64 0) := HO5.out.at 3 _ rfl; have r4 : w5.cell? ⟨w.heap.size + 1, 4, none⟩ = some (.int .i64 0) := HO5.out.at 4 _ rfl; have r5 : w5.cell? ⟨w.heap.size + 1, 5, none⟩ = some (.int .i64 0) := HO5.out.at 5 _ rfl; have r6 : w5.cell? ⟨w.heap.size + 1, 6, none⟩ = some (.int .i64 0) := HO5.out.at 6 _ rfl; have r7 : w5.cell? ⟨w.heap.size + 1, 7, none⟩ = some (.int .i64 0) := HO5.out.at 7 _ rfl; have r8 : w5.cell? ⟨w.heap.size + 1, 8, none⟩ = some (.int .i64 0) := HO5.out.at 8 _ rfl; have r9 : w5.cell? ⟨w.heap.size + 1, 9, none⟩ = some (.int .i64 0) := HO5.out.at 9 _ rfl; have r10 : w5.cell? ⟨w.heap.size + 1, 10, none⟩ = some (.int .i64 0) := HO5.out.at 10 _ rfl; have r11 : w5.cell? ⟨w.heap.size + 1, 11, none⟩ = some (.int .i64 0) := HO5.out.at 11 _ rfl; have f0 : w5.frozen? ⟨w.heap.size + 1, 0, none⟩ = false := HO5.out.fr 0 (by decide); have f1 : w5.frozen? ⟨w.heap.size + 1, 1, none⟩ = false := HO5.out.fr 1 (by decide); have f2 : w5.frozen? ⟨w.heap.size + 1, 2, none⟩ = false := HO5.out.fr 2 (by decide); have f3 : w5.frozen? ⟨w.heap.size + 1, 3, none⟩ = false := HO5.out.fr 3 (by decide); have f4 : w5.frozen? ⟨w.heap.size + 1, 4, none⟩ = false := HO5.out.fr 4 (by decide); have f5 : w5.frozen? ⟨w.heap.size + 1, 5, none⟩ = false := HO5.out.fr 5 (by decide); have f6 : w5.frozen? ⟨w.heap.size + 1, 6, none⟩ = false := HO5.out.fr 6 (by decide); have f7 : w5.frozen? ⟨w.heap.size + 1, 7, none⟩ = false := HO5.out.fr 7 (by decide); have f8 : w5.frozen? ⟨w.heap.size + 1, 8, none⟩ = false := HO5.out.fr 8 (by decide); have f9 : w5.frozen? ⟨w.heap.size + 1, 9, none⟩ = false := HO5.out.fr 9 (by decide); have f10 : w5.frozen? ⟨w.heap.size + 1, 10, none⟩ = false := HO5.out.fr 10 (by decide); have f11 : w5.frozen? ⟨w.heap.size + 1, 11, none⟩ = false := HO5.out.fr 11 (by decide); clear hg CF))
  have HP := HO5.out.all [.int .i64 q1, .int .i64 q2, .int .i64 q3, .int .i64 q4, .int .i64 q5, .int .i64 q6, .int .i64 q7, .int .i64 q8, .int .i64 q9, .int .i64 q10, .int .i64 q11, .int .i64 q12] rfl
  have HGP := grew_put (w.heap.size + 1) (Nat.le_succ _) [.int .i64 q1, .int .i64 q2, .int .i64 q3, .int .i64 q4, .int .i64 q5, .int .i64 q6, .int .i64 q7, .int .i64 q8, .int .i64 q9, .int .i64 q10, .int .i64 q11, .int .i64 q12] 0 _ HG5.out
  change bodyPost _ _ _ _ _ (putC w5 (w.heap.size + 1) 0 [.int .i64 q1, .int .i64 q2, .int .i64 q3, .int .i64 q4, .int .i64 q5, .int .i64 q6, .int .i64 q7, .int .i64 q8, .int .i64 q9, .int .i64 q10, .int .i64 q11, .int .i64 q12])
  generalize putC w5 (w.heap.size + 1) 0 [.int .i64 q1, .int .i64 q2, .int .i64 q3, .int .i64 q4, .int .i64 q5, .int .i64 q6, .int .i64 q7, .int .i64 q8, .int .i64 q9, .int .i64 q10, .int .i64 q11, .int .i64 q12] = w9 at *
  have z0 : w9.cell? ⟨w.heap.size + 1, 0, none⟩ = _ := HP.at 0 _ rfl; have z1 : w9.cell? ⟨w.heap.size + 1, 1, none⟩ = _ := HP.at 1 _ rfl; have z2 : w9.cell? ⟨w.heap.size + 1, 2, none⟩ = _ := HP.at 2 _ rfl; have z3 : w9.cell? ⟨w.heap.size + 1, 3, none⟩ = _ := HP.at 3 _ rfl; have z4 : w9.cell? ⟨w.heap.size + 1, 4, none⟩ = _ := HP.at 4 _ rfl; have z5 : w9.cell? ⟨w.heap.size + 1, 5, none⟩ = _ := HP.at 5 _ rfl; have z6 : w9.cell? ⟨w.heap.size + 1, 6, none⟩ = _ := HP.at 6 _ rfl; have z7 : w9.cell? ⟨w.heap.size + 1, 7, none⟩ = _ := HP.at 7 _ rfl; have z8 : w9.cell? ⟨w.heap.size + 1, 8, none⟩ = _ := HP.at 8 _ rfl; have z9 : w9.cell? ⟨w.heap.size + 1, 9, none⟩ = _ := HP.at 9 _ rfl; have z10 : w9.cell? ⟨w.heap.size + 1, 10, none⟩ = _ := HP.at 10 _ rfl; have z11 : w9.cell? ⟨w.heap.size + 1, 11, none⟩ = _ := HP.at 11 _ rfl
  refine bodyPost_ret (v := .tuple #[.agg #[.int .i64 q1, .int .i64 q2, .int .i64 q3, .int .i64 q4, .int .i64 q5, .int .i64 q6, .int .i64 q7, .int .i64 q8, .int .i64 q9, .int .i64 q10, .int .i64 q11, .int .i64 q12], .bool B]) (by simp [results, Try.results50, go_sem, z0, z1, z2, z3, z4, z5, z6, z7, z8, z9, z10, z11]) rfl ?_
  exact ⟨rfl, HGP⟩
end Go.Proofs.Ytmlfijapglhjfaa.NumK
namespace Go.Proofs.Ytmlfijapglhjfaa.NumK
open Go.RowKit
set_option linter.unusedVariables false

set_option maxRecDepth 100000 in
set_option maxHeartbeats 2000000 in
theorem firstIn_any (A : Option Addr) (n c : Nat) (l : List In) (m : Int) (w : World) (h : RowE enIn w A n l) (hn : n ≤ 1000000) :
    Calls Try.prog 65 #[.slice A n c, .func (.func 44) #[] #[], .int .i64 m] w fun e w' => e = .returned (.tuple #[vIn (findL noIn in0 l m), .bool (hasL noIn l m)]) ∧ Grew w w' := by
  have HI := Lib.hid h
  have HL := Lib.hid h.len
  have HY := Lib.hid (find_yes noIn in0 l m)
  have HZ := Lib.hid (find_no noIn in0 l m)
  generalize findL noIn in0 l m = F at *
  generalize hasL noIn l m = B at *
  clear h
  dsimp only [vIn]
  go_enter Try.func65, Try.ntmps65
  go_wp2
  go_loopw [13] (fun v wr => ∃ j : Nat, v = .int .i64 j ∧ j ≤ n ∧ Hid (∀ i, i < j → noIn (l.getD i in0) ≠ m) ∧ Hid (OwnC wr w.heap.size [.int .i64 0, .int .i64 0, .int .i64 0, .int .i64 0, .int .i64 0, .int .i64 0, .int .i64 0, .int .i64 0, .int .i64 0, .int .i64 0, .int .i64 0, .int .i64 0]) ∧ Hid (Grew w wr)) (fun v _ => n - (intOf v).toNat)
  case atStart => exact ⟨0, rfl, by omega, (by intro i hi; omega), OwnC.new _ _ _ _ rfl, grew_alloc _ _ _⟩
  case round =>
    obtain ⟨j, rfl, hj, HK, HO, HG⟩ := hrel
    by_cases hlt : j < n
    · obtain ⟨b, o, rfl, hb, hc⟩ := (HI.out.keep HG.out).in hlt
      obtain ⟨a0, a1, a2, a3, a4, a5, a6, a7, a8, a9, a10, a11⟩ := hc j hlt
      clear hc hb
      have HY1 := Lib.hid (HY.out j (by rw [HL.out]; exact hlt) HK.out)
      have HK1 : Hid (noIn (l.getD j in0) ≠ m → ∀ i, i < j + 1 → noIn (l.getD i in0) ≠ m) := fun h i hi => by
        rcases Nat.lt_or_ge i j with h1 | h1
        · exact HK.out i h1
        · obtain rfl : i = j := by omega
          exact h
      have CX := fun w => instNo_any (l.getD j in0) w
      have i0 : (0 : Int) ≤ (j : Int) := by omega
      have i1 : (j : Int) < (n : Int) := by omega
      generalize noIn (l.getD j in0) = nx at *
      generalize l.getD j in0 = x at *
      obtain ⟨⟨q1, q2, q3, q4, q5, q6⟩, ⟨q7, q8, q9, q10, q11, q12⟩⟩ := x
      dsimp only at a0 a1 a2 a3 a4 a5 a6 a7 a8 a9 a10 a11 
      dsimp only [vIn] at CX
      have HO1 := Lib.hid (HO.out.keep (grew_alloc wr #[.int .i64 q1, .int .i64 q2, .int .i64 q3, .int .i64 q4, .int .i64 q5, .int .i64 q6, .int .i64 q7, .int .i64 q8, .int .i64 q9, .int .i64 q10, .int .i64 q11, .int .i64 q12] 49))
      by_cases he : nx = m
      · subst he
        obtain ⟨rfl, rfl⟩ := HY1.out rfl
        clear HY HZ HY1 HK1 HK HO
        go_wp2_with (go_at_call 44; ((with_reducible refine (CX _).mono ?_); rintro e w5 ⟨rfl, hg⟩; have x0 : w5.cell? ⟨wr.heap.size, 0, none⟩ = some (.int .i64 q1) := own_cell hg 0; have x1 : w5.cell? ⟨wr.heap.size, 1, none⟩ = some (.int .i64 q2) := own_cell hg 1; have x2 : w5.cell? ⟨wr.heap.size, 2, none⟩ = some (.int .i64 q3) := own_cell hg 2; have x3 : w5.cell? ⟨wr.heap.size, 3, none⟩ = some (.int .i64 q4) := own_cell hg 3; have x4 : w5.cell? ⟨wr.heap.size, 4, none⟩ = some (.int .i64 q5) := own_cell hg 4; have x5 : w5.cell? ⟨wr.heap.size, 5, none⟩ = some (.int .i64 q6) := own_cell hg 5; have x6 : w5.cell? ⟨wr.heap.size, 6, none⟩ = some (.int .i64 q7) := own_cell hg 6; have x7 : w5.cell? ⟨wr.heap.size, 7, none⟩ = some (.int .i64 q8) := own_cell hg 7; have x8 : w5.cell? ⟨wr.heap.size, 8, none⟩ = some (.int .i64 q9) := own_cell hg 8; have x9 : w5.cell? ⟨wr.heap.size, 9, none⟩ = some (.int .i64 q10) := own_cell hg 9; have x10 : w5.cell? ⟨wr.heap.size, 10, none⟩ = some (.int .i64 q11) := own_cell hg 10; have x11 : w5.cell? ⟨wr.heap.size, 11, none⟩ = some (.int .i64 q12) := own_cell hg 11; have HO5 := Lib.hid (HO1.out.keep hg); have r0 : w5.cell? ⟨w.heap.size, 0, none⟩ = some (.int .i64 0) := HO5.out.at 0 _ rfl; have r1 : w5.cell? ⟨w.heap.size, 1, none⟩ = some (.int .i64 0) := HO5.out.at 1 _ rfl; have r2 : w5.cell? ⟨w.heap.size, 2, none⟩ = some (.int .i64 0) := HO5.out.at 2 _ rfl; have r3 : w5.cell? ⟨w.heap.size, 3, none⟩ = some (.int .i64 0) := HO5.out.at 3 _ rfl; have r4 : w5.cell? ⟨w.heap.size, 4, none⟩ = some (.int .i64 0) := HO5.out.at 4 _ rfl; have r5 : w5.cell? ⟨w.heap.size, 5, none⟩ = some (.int .i64 0) := HO5.out.at 5 _ rfl; have r6 : w5.cell? ⟨w.heap.size, 6, none⟩ = some (.int .i64 0) := HO5.out.at 6 _ rfl; have r7 : w5.cell? ⟨w.heap.size, 7, none⟩ = some (.int .i64 0) := HO5.out.at 7 _ rfl; have r8 : w5.cell? ⟨w.heap.size, 8, none⟩ = some (.int .i64 0) := HO5.out.at 8 _ rfl; have r9 : w5.cell? ⟨w.heap.size, 9, none⟩ = some (.int .i64 0) := HO5.out.at 9 _ rfl; have r10 : w5.cell? ⟨w.heap.size, 10, none⟩ = some (.int .i64 0) := HO5.out.at 10 _ rfl; have r11 : w5.cell? ⟨w.heap.size, 11, none⟩ = some (.int .i64 0) := HO5.out.at 11 _ rfl; have f0 : w5.frozen? ⟨w.heap.size, 0, none⟩ = false := HO5.out.fr 0 (by decide); have f1 : w5.frozen? ⟨w.heap.size, 1, none⟩ = false := HO5.out.fr 1 (by decide); have f2 : w5.frozen? ⟨w.heap.size, 2, none⟩ = false := HO5.out.fr 2 (by decide); have f3 : w5.frozen? ⟨w.heap.size, 3, none⟩ = false := HO5.out.fr 3 (by decide); have f4 : w5.frozen? ⟨w.heap.size, 4, none⟩ = false := HO5.out.fr 4 (by decide); have f5 : w5.frozen? ⟨w.heap.size, 5, none⟩ = false := HO5.out.fr 5 (by decide); have f6 : w5.frozen? ⟨w.heap.size, 6, none⟩ = false := HO5.out.fr 6 (by decide); have f7 : w5.frozen? ⟨w.heap.size, 7, none⟩ = false := HO5.out.fr 7 (by decide); have f8 : w5.frozen? ⟨w.heap.size, 8, none⟩ = false := HO5.out.fr 8 (by decide); have f9 : w5.frozen? ⟨w.heap.size, 9, none⟩ = false := HO5.out.fr 9 (by decide); have f10 : w5.frozen? ⟨w.heap.size, 10, none⟩ = false := HO5.out.fr 10 (by decide); have f11 : w5.frozen? ⟨w.heap.size, 11, none⟩ = false := HO5.out.fr 11 (by decide); have HG5 := Lib.hid (grew_trans HG.out (own_back hg)); clear hg CX))
        have HP := HO5.out.all [.int .i64 q1, .int .i64 q2, .int .i64 q3, .int .i64 q4, .int .i64 q5, .int .i64 q6, .int .i64 q7, .int .i64 q8, .int .i64 q9, .int .i64 q10, .int .i64 q11, .int .i64 q12] rfl
        have HGP := grew_put w.heap.size (Nat.le_refl _) [.int .i64 q1, .int .i64 q2, .int .i64 q3, .int .i64 q4, .int .i64 q5, .int .i64 q6, .int .i64 q7, .int .i64 q8, .int .i64 q9, .int .i64 q10, .int .i64 q11, .int .i64 q12] 0 _ HG5.out
        change bodyPost _ _ _ _ _ (putC w5 w.heap.size 0 [.int .i64 q1, .int .i64 q2, .int .i64 q3, .int .i64 q4, .int .i64 q5, .int .i64 q6, .int .i64 q7, .int .i64 q8, .int .i64 q9, .int .i64 q10, .int .i64 q11, .int .i64 q12])
        generalize putC w5 w.heap.size 0 [.int .i64 q1, .int .i64 q2, .int .i64 q3, .int .i64 q4, .int .i64 q5, .int .i64 q6, .int .i64 q7, .int .i64 q8, .int .i64 q9, .int .i64 q10, .int .i64 q11, .int .i64 q12] = w9 at *
        have z0 : w9.cell? ⟨w.heap.size, 0, none⟩ = _ := HP.at 0 _ rfl; have z1 : w9.cell? ⟨w.heap.size, 1, none⟩ = _ := HP.at 1 _ rfl; have z2 : w9.cell? ⟨w.heap.size, 2, none⟩ = _ := HP.at 2 _ rfl; have z3 : w9.cell? ⟨w.heap.size, 3, none⟩ = _ := HP.at 3 _ rfl; have z4 : w9.cell? ⟨w.heap.size, 4, none⟩ = _ := HP.at 4 _ rfl; have z5 : w9.cell? ⟨w.heap.size, 5, none⟩ = _ := HP.at 5 _ rfl; have z6 : w9.cell? ⟨w.heap.size, 6, none⟩ = _ := HP.at 6 _ rfl; have z7 : w9.cell? ⟨w.heap.size, 7, none⟩ = _ := HP.at 7 _ rfl; have z8 : w9.cell? ⟨w.heap.size, 8, none⟩ = _ := HP.at 8 _ rfl; have z9 : w9.cell? ⟨w.heap.size, 9, none⟩ = _ := HP.at 9 _ rfl; have z10 : w9.cell? ⟨w.heap.size, 10, none⟩ = _ := HP.at 10 _ rfl; have z11 : w9.cell? ⟨w.heap.size, 11, none⟩ = _ := HP.at 11 _ rfl
        refine bodyPost_ret (v := .tuple #[.agg #[.int .i64 q1, .int .i64 q2, .int .i64 q3, .int .i64 q4, .int .i64 q5, .int .i64 q6, .int .i64 q7, .int .i64 q8, .int .i64 q9, .int .i64 q10, .int .i64 q11, .int .i64 q12], .bool true]) (by simp [results, Try.results65, go_sem, z0, z1, z2, z3, z4, z5, z6, z7, z8, z9, z10, z11]) rfl ?_
        exact ⟨rfl, HGP⟩
      · have he2 := he
        have HK2 := Lib.hid (HK1.out he2)
        clear HY HZ HY1 HK1 HK he2
        go_wp2_with (go_at_call 44; ((with_reducible refine (CX _).mono ?_); rintro e w5 ⟨rfl, hg⟩; have HO5 := Lib.hid (HO1.out.keep hg); have HG5 := Lib.hid (grew_trans HG.out (own_back hg)); clear hg CX))
        go_roundw
        case rel => exact ⟨j + 1, by go_num, by omega, HK2.out, HO5.out, HG5.out⟩
        case measure => simp only [intOf]; omega
    · obtain rfl : j = n := by omega
      obtain ⟨rfl, rfl⟩ := HZ.out (fun i hi => HK.out i (by rw [HL.out] at hi; exact hi))
      clear HY HZ HK
      have HO1 := Lib.hid (HO.out.keep (grew_alloc wr #[.int .i64 0, .int .i64 0, .int .i64 0, .int .i64 0, .int .i64 0, .int .i64 0, .int .i64 0, .int .i64 0, .int .i64 0, .int .i64 0, .int .i64 0, .int .i64 0] 49))
      have r0 : (wr.alloc (.cells #[.int .i64 0, .int .i64 0, .int .i64 0, .int .i64 0, .int .i64 0, .int .i64 0, .int .i64 0, .int .i64 0, .int .i64 0, .int .i64 0, .int .i64 0, .int .i64 0] 49)).cell? ⟨w.heap.size, 0, none⟩ = some (.int .i64 0) := HO1.out.at 0 _ rfl; have r1 : (wr.alloc (.cells #[.int .i64 0, .int .i64 0, .int .i64 0, .int .i64 0, .int .i64 0, .int .i64 0, .int .i64 0, .int .i64 0, .int .i64 0, .int .i64 0, .int .i64 0, .int .i64 0] 49)).cell? ⟨w.heap.size, 1, none⟩ = some (.int .i64 0) := HO1.out.at 1 _ rfl; have r2 : (wr.alloc (.cells #[.int .i64 0, .int .i64 0, .int .i64 0, .int .i64 0, .int .i64 0, .int .i64 0, .int .i64 0, .int .i64 0, .int .i64 0, .int .i64 0, .int .i64 0, .int .i64 0] 49)).cell? ⟨w.heap.size, 2, none⟩ = some (.int .i64 0) := HO1.out.at 2 _ rfl; have r3 : (wr.alloc (.cells #[.int .i64 0, .int .i64 0, .int .i64 0, .int .i64 0, .int .i64 0, .int .i64 0, .int .i64 0, .int .i64 0, .int .i64 0, .int .i64 0, .int .i64 0, .int .i64 0] 49)).cell? ⟨w.heap.size, 3, none⟩ = some (.int .i64 0) := HO1.out.at 3 _ rfl; have r4 : (wr.alloc (.cells #[.int .i64 0, .int .i64 0, .int .i64 0, .int .i64 0, .int .i64 0, .int .i64 0, .int .i64 0, .int .i64 0, .int .i64 0, .int .i64 0, .int .i64 0, .int .i64 0] 49)).cell? ⟨w.heap.size, 4, none⟩ = some (.int .i64 0) := HO1.out.at 4 _ rfl; have r5 : (wr.alloc (.cells #[.int .i64 0, .int .i64 0, .int .i64 0, .int .i64 0, .int .i64 0, .int .i64 0, .int .i64 0, .int .i64 0, .int .i64 0, .int .i64 0, .int .i64 0, .int .i64 0] 49)).cell? ⟨w.heap.size, 5, none⟩ = some (.int .i64 0) := HO1.out.at 5 _ rfl; have r6 : (wr.alloc (.cells #[.int .i64 0, .int .i64 0, .int .i64 0, .int .i64 0, .int .i64 0, .int .i64 0, .int .i64 0, .int .i64 0, .int .i64 0, .int .i64 0, .int .i64 0, .int .i64 0] 49)).cell? ⟨w.heap.size, 6, none⟩ = some (.int .i64 0) := HO1.out.at 6 _ rfl; have r7 : (wr.alloc (.cells #[.int .i64 0, .int .i64 0, .int .i64 0, .int .i64 0, .int .i64 0, .int .i64 0, .int .i64 0, .int .i64 0, .int .i64 0, .int .i64 0, .int .i64 0, .int .i64 0] 49)).cell? ⟨w.heap.size, 7, none⟩ = some (.int .i64 0) := HO1.out.at 7 _ rfl; have r8 : (wr.alloc (.cells #[.int .i64 0, .int .i64 0, .int .i64 0, .int .i64 0, .int .i64 0, .int .i64 0, .int .i64 0, .int .i64 0, .int .i64 0, .int .i64 0, .int .i64 0, .int .i64 0] 49)).cell? ⟨w.heap.size, 8, none⟩ = some (.int .i64 0) := HO1.out.at 8 _ rfl; have r9 : (wr.alloc (.cells #[.int .i64 0, .int .i64 0, .int .i64 0, .int .i64 0, .int .i64 0, .int .i64 0, .int .i64 0, .int .i64 0, .int .i64 0, .int .i64 0, .int .i64 0, .int .i64 0] 49)).cell? ⟨w.heap.size, 9, none⟩ = some (.int .i64 0) := HO1.out.at 9 _ rfl; have r10 : (wr.alloc (.cells #[.int .i64 0, .int .i64 0, .int .i64 0, .int .i64 0, .int .i64 0, .int .i64 0, .int .i64 0, .int .i64 0, .int .i64 0, .int .i64 0, .int .i64 0, .int .i64 0] 49)).cell? ⟨w.heap.size, 10, none⟩ = some (.int .i64 0) := HO1.out.at 10 _ rfl; have r11 : (wr.alloc (.cells #[.int .i64 0, .int .i64 0, .int .i64 0, .int .i64 0, .int .i64 0, .int .i64 0, .int .i64 0, .int .i64 0, .int .i64 0, .int .i64 0, .int .i64 0, .int .i64 0] 49)).cell? ⟨w.heap.size, 11, none⟩ = some (.int .i64 0) := HO1.out.at 11 _ rfl
      have f0 : (wr.alloc (.cells #[.int .i64 0, .int .i64 0, .int .i64 0, .int .i64 0, .int .i64 0, .int .i64 0, .int .i64 0, .int .i64 0, .int .i64 0, .int .i64 0, .int .i64 0, .int .i64 0] 49)).frozen? ⟨w.heap.size, 0, none⟩ = false := HO1.out.fr 0 (by decide); have f1 : (wr.alloc (.cells #[.int .i64 0, .int .i64 0, .int .i64 0, .int .i64 0, .int .i64 0, .int .i64 0, .int .i64 0, .int .i64 0, .int .i64 0, .int .i64 0, .int .i64 0, .int .i64 0] 49)).frozen? ⟨w.heap.size, 1, none⟩ = false := HO1.out.fr 1 (by decide); have f2 : (wr.alloc (.cells #[.int .i64 0, .int .i64 0, .int .i64 0, .int .i64 0, .int .i64 0, .int .i64 0, .int .i64 0, .int .i64 0, .int .i64 0, .int .i64 0, .int .i64 0, .int .i64 0] 49)).frozen? ⟨w.heap.size, 2, none⟩ = false := HO1.out.fr 2 (by decide); have f3 : (wr.alloc (.cells #[.int .i64 0, .int .i64 0, .int .i64 0, .int .i64 0, .int .i64 0, .int .i64 0, .int .i64 0, .int .i64 0, .int .i64 0, .int .i64 0, .int .i64 0, .int .i64 0] 49)).frozen? ⟨w.heap.size, 3, none⟩ = false := HO1.out.fr 3 (by decide); have f4 : (wr.alloc (.cells #[.int .i64 0, .int .i64 0, .int .i64 0, .int .i64 0, .int .i64 0, .int .i64 0, .int .i64 0, .int .i64 0, .int .i64 0, .int .i64 0, .int .i64 0, .int .i64 0] 49)).frozen? ⟨w.heap.size, 4, none⟩ = false := HO1.out.fr 4 (by decide); have f5 : (wr.alloc (.cells #[.int .i64 0, .int .i64 0, .int .i64 0, .int .i64 0, .int .i64 0, .int .i64 0, .int .i64 0, .int .i64 0, .int .i64 0, .int .i64 0, .int .i64 0, .int .i64 0] 49)).frozen? ⟨w.heap.size, 5, none⟩ = false := HO1.out.fr 5 (by decide); have f6 : (wr.alloc (.cells #[.int .i64 0, .int .i64 0, .int .i64 0, .int .i64 0, .int .i64 0, .int .i64 0, .int .i64 0, .int .i64 0, .int .i64 0, .int .i64 0, .int .i64 0, .int .i64 0] 49)).frozen? ⟨w.heap.size, 6, none⟩ = false := HO1.out.fr 6 (by decide); have f7 : (wr.alloc (.cells #[.int .i64 0, .int .i64 0, .int .i64 0, .int .i64 0, .int .i64 0, .int .i64 0, .int .i64 0, .int .i64 0, .int .i64 0, .int .i64 0, .int .i64 0, .int .i64 0] 49)).frozen? ⟨w.heap.size, 7, none⟩ = false := HO1.out.fr 7 (by decide); have f8 : (wr.alloc (.cells #[.int .i64 0, .int .i64 0, .int .i64 0, .int .i64 0, .int .i64 0, .int .i64 0, .int .i64 0, .int .i64 0, .int .i64 0, .int .i64 0, .int .i64 0, .int .i64 0] 49)).frozen? ⟨w.heap.size, 8, none⟩ = false := HO1.out.fr 8 (by decide); have f9 : (wr.alloc (.cells #[.int .i64 0, .int .i64 0, .int .i64 0, .int .i64 0, .int .i64 0, .int .i64 0, .int .i64 0, .int .i64 0, .int .i64 0, .int .i64 0, .int .i64 0, .int .i64 0] 49)).frozen? ⟨w.heap.size, 9, none⟩ = false := HO1.out.fr 9 (by decide); have f10 : (wr.alloc (.cells #[.int .i64 0, .int .i64 0, .int .i64 0, .int .i64 0, .int .i64 0, .int .i64 0, .int .i64 0, .int .i64 0, .int .i64 0, .int .i64 0, .int .i64 0, .int .i64 0] 49)).frozen? ⟨w.heap.size, 10, none⟩ = false := HO1.out.fr 10 (by decide); have f11 : (wr.alloc (.cells #[.int .i64 0, .int .i64 0, .int .i64 0, .int .i64 0, .int .i64 0, .int .i64 0, .int .i64 0, .int .i64 0, .int .i64 0, .int .i64 0, .int .i64 0, .int .i64 0] 49)).frozen? ⟨w.heap.size, 11, none⟩ = false := HO1.out.fr 11 (by decide)
      go_wp2
      have HG1 := Lib.hid (grew_trans HG.out (grew_alloc wr #[.int .i64 0, .int .i64 0, .int .i64 0, .int .i64 0, .int .i64 0, .int .i64 0, .int .i64 0, .int .i64 0, .int .i64 0, .int .i64 0, .int .i64 0, .int .i64 0] 49))
      have HP := HO1.out.all [.int .i64 0, .int .i64 0, .int .i64 0, .int .i64 0, .int .i64 0, .int .i64 0, .int .i64 0, .int .i64 0, .int .i64 0, .int .i64 0, .int .i64 0, .int .i64 0] rfl
      have HGP := grew_put w.heap.size (Nat.le_refl _) [.int .i64 0, .int .i64 0, .int .i64 0, .int .i64 0, .int .i64 0, .int .i64 0, .int .i64 0, .int .i64 0, .int .i64 0, .int .i64 0, .int .i64 0, .int .i64 0] 0 _ HG1.out
      change bodyPost _ _ _ _ _ (putC (wr.alloc (.cells #[.int .i64 0, .int .i64 0, .int .i64 0, .int .i64 0, .int .i64 0, .int .i64 0, .int .i64 0, .int .i64 0, .int .i64 0, .int .i64 0, .int .i64 0, .int .i64 0] 49)) w.heap.size 0 [.int .i64 0, .int .i64 0, .int .i64 0, .int .i64 0, .int .i64 0, .int .i64 0, .int .i64 0, .int .i64 0, .int .i64 0, .int .i64 0, .int .i64 0, .int .i64 0])
      generalize putC (wr.alloc (.cells #[.int .i64 0, .int .i64 0, .int .i64 0, .int .i64 0, .int .i64 0, .int .i64 0, .int .i64 0, .int .i64 0, .int .i64 0, .int .i64 0, .int .i64 0, .int .i64 0] 49)) w.heap.size 0 [.int .i64 0, .int .i64 0, .int .i64 0, .int .i64 0, .int .i64 0, .int .i64 0, .int .i64 0, .int .i64 0, .int .i64 0, .int .i64 0, .int .i64 0, .int .i64 0] = w9 at *
      have z0 : w9.cell? ⟨w.heap.size, 0, none⟩ = _ := HP.at 0 _ rfl; have z1 : w9.cell? ⟨w.heap.size, 1, none⟩ = _ := HP.at 1 _ rfl; have z2 : w9.cell? ⟨w.heap.size, 2, none⟩ = _ := HP.at 2 _ rfl; have z3 : w9.cell? ⟨w.heap.size, 3, none⟩ = _ := HP.at 3 _ rfl; have z4 : w9.cell? ⟨w.heap.size, 4, none⟩ = _ := HP.at 4 _ rfl; have z5 : w9.cell? ⟨w.heap.size, 5, none⟩ = _ := HP.at 5 _ rfl; have z6 : w9.cell? ⟨w.heap.size, 6, none⟩ = _ := HP.at 6 _ rfl; have z7 : w9.cell? ⟨w.heap.size, 7, none⟩ = _ := HP.at 7 _ rfl; have z8 : w9.cell? ⟨w.heap.size, 8, none⟩ = _ := HP.at 8 _ rfl; have z9 : w9.cell? ⟨w.heap.size, 9, none⟩ = _ := HP.at 9 _ rfl; have z10 : w9.cell? ⟨w.heap.size, 10, none⟩ = _ := HP.at 10 _ rfl; have z11 : w9.cell? ⟨w.heap.size, 11, none⟩ = _ := HP.at 11 _ rfl
      refine bodyPost_ret (v := .tuple #[.agg #[.int .i64 0, .int .i64 0, .int .i64 0, .int .i64 0, .int .i64 0, .int .i64 0, .int .i64 0, .int .i64 0, .int .i64 0, .int .i64 0, .int .i64 0, .int .i64 0], .bool false]) (by simp [results, Try.results65, go_sem, z0, z1, z2, z3, z4, z5, z6, z7, z8, z9, z10, z11]) rfl ?_
      exact ⟨rfl, HGP⟩
end Go.Proofs.Ytmlfijapglhjfaa.NumK
