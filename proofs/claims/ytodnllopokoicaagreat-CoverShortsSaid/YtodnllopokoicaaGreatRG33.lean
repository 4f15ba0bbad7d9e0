/- ledger.Check and ledger.add. -/
import Derived.Test.YtodnllopokoicaaGreatRG27
import Derived.Test.YtodnllopokoicaaGreatRG32
import Derived.Test.YtodnllopokoicaaGreatRG9
import Derived.Test.YtodnllopokoicaaGreatRG1
import Derived.Test.YtodnllopokoicaaGreatRG2
namespace Go.Proofs.YtodnllopokoicaaGreat.NumK
open Go.RowKit

set_option maxRecDepth 100000 in
theorem lcheck_any (last : Int) (A : Option Addr) (n c : Nat) (l : List Lg) (w : World) (h : RowE enLg w A n l) (hn : n ≤ 90000) :
    Calls Tryz.prog 21 #[ldV last A n c] w fun e w' => e = .returned (.int .i64 (if ledgerB last l then 0 else 14)) ∧ Grew w w' := by
  have HI := Lib.hid h
  have CR := fun w h => bright_any A n c l w h (by omega)
  have CE := fun w h hr => leven_any A n c l w h (rightB_may hr) hn
  have HV : Hid ((if ledgerB last l then (0 : Int) else 14) = if decide (0 ≤ last) && rightLg l && evenL l then 0 else 14) := rfl
  generalize (if ledgerB last l then (0 : Int) else 14) = V at *
  generalize rightLg l = r at *
  clear h
  unfold ldV
  by_cases h0 : last < 0
  · have HR : Hid (V = 14) := by show _ = _; rw [HV.out, decide_eq_false (by omega : ¬ 0 ≤ last)]; rfl
    clear CR CE HV
    go_enter Tryz.func21, Tryz.ntmps21
    go_wp2
    go_ret
    exact ⟨ret_i HR.out.symm, grew_alloc _ _ _⟩
  · have HV1 : Hid (V = if r && evenL l then 0 else 14) := by show _ = _; rw [HV.out, decide_eq_true (by omega : 0 ≤ last)]; rfl
    clear HV
    cases r
    · have HR : Hid (V = 14) := by show _ = _; rw [HV1.out]; rfl
      clear CE HV1
      go_enter Tryz.func21, Tryz.ntmps21
      go_wp2_with (go_at_call 55; ((with_reducible refine (CR _ (HI.out.keep (grew_alloc _ _ _))).mono ?_); rintro e w1 ⟨rfl, hg⟩; have HG1 := Lib.hid (own_back hg); clear hg CR))
      go_ret
      exact ⟨ret_i HR.out.symm, HG1.out⟩
    · have CE2 := fun w h => CE w h rfl
      clear CE
      generalize evenL l = ev at *
      cases ev
      · have HR : Hid (V = 14) := by show _ = _; rw [HV1.out]; rfl
        clear HV1
        go_enter Tryz.func21, Tryz.ntmps21
        go_wp2_with (first
          | (go_at_call 55; ((with_reducible refine (CR _ (HI.out.keep (grew_alloc _ _ _))).mono ?_); rintro e w1 ⟨rfl, hg⟩; have d1 : w1.cell? ⟨w.heap.size, 1, none⟩ = some (.slice A n c) := own_cell hg 1; have HG1 := Lib.hid (own_back hg); clear hg CR))
          | (go_at_call 56; ((with_reducible refine (CE2 _ (HI.out.keep HG1.out)).mono ?_); rintro e w2 ⟨rfl, hg⟩; have HG2 := Lib.hid (grew_trans HG1.out hg); clear hg CE2)))
        go_ret
        exact ⟨ret_i HR.out.symm, HG2.out⟩
      · have HR : Hid (V = 0) := by show _ = _; rw [HV1.out]; rfl
        clear HV1
        go_enter Tryz.func21, Tryz.ntmps21
        go_wp2_with (first
          | (go_at_call 55; ((with_reducible refine (CR _ (HI.out.keep (grew_alloc _ _ _))).mono ?_); rintro e w1 ⟨rfl, hg⟩; have d1 : w1.cell? ⟨w.heap.size, 1, none⟩ = some (.slice A n c) := own_cell hg 1; have HG1 := Lib.hid (own_back hg); clear hg CR))
          | (go_at_call 56; ((with_reducible refine (CE2 _ (HI.out.keep HG1.out)).mono ?_); rintro e w2 ⟨rfl, hg⟩; have HG2 := Lib.hid (grew_trans HG1.out hg); clear hg CE2)))
        go_ret
        exact ⟨ret_i HR.out.symm, HG2.out⟩

/-! ### add -/
def addL (l m : List Lg) : List Lg := if addLgE l m = 0 then joinF (sumA (l ++ m)) 108 else []
end Go.Proofs.YtodnllopokoicaaGreat.NumK
namespace Go.Proofs.YtodnllopokoicaaGreat.NumK
open Go.RowKit
set_option linter.unusedVariables false

set_option maxRecDepth 100000 in
set_option maxHeartbeats 2000000 in
theorem firstAs_any (A : Option Addr) (n c : Nat) (l : List As) (m : Int) (w : World) (h : RowE enAs w A n l) (hn : n ≤ 1000000) :
    Calls Tryz.prog 69 #[.slice A n c, .func (.func 64) #[] #[], .int .i64 m] w fun e w' => e = .returned (.tuple #[vAs (findL noAs as0 l m), .bool (hasL noAs l m)]) ∧ Grew w w' := by
  have HI := Lib.hid h
  have HL := Lib.hid h.len
  have HY := Lib.hid (find_yes noAs as0 l m)
  have HZ := Lib.hid (find_no noAs as0 l m)
  generalize findL noAs as0 l m = F at *
  generalize hasL noAs l m = B at *
  clear h
  dsimp only [vAs]
  go_enter Tryz.func69, Tryz.ntmps69
  go_wp2
  go_loopw [13] (fun v wr => ∃ j : Nat, v = .int .i64 j ∧ j ≤ n ∧ Hid (∀ i, i < j → noAs (l.getD i as0) ≠ m) ∧ Hid (OwnC wr w.heap.size [.int .i64 0, .int .i64 0, .int .i64 0, .int .i64 0]) ∧ Hid (Grew w wr)) (fun v _ => n - (intOf v).toNat)
  case atStart => exact ⟨0, rfl, by omega, (by intro i hi; omega), OwnC.new _ _ _ _ rfl, grew_alloc _ _ _⟩
  case round =>
    obtain ⟨j, rfl, hj, HK, HO, HG⟩ := hrel
    by_cases hlt : j < n
    · obtain ⟨b, o, rfl, hb, hc⟩ := (HI.out.keep HG.out).as hlt
      obtain ⟨a0, a1, a2, a3⟩ := hc j hlt
      clear hc hb
      have HY1 := Lib.hid (HY.out j (by rw [HL.out]; exact hlt) HK.out)
      have HK1 : Hid (noAs (l.getD j as0) ≠ m → ∀ i, i < j + 1 → noAs (l.getD i as0) ≠ m) := fun h i hi => by
        rcases Nat.lt_or_ge i j with h1 | h1
        · exact HK.out i h1
        · obtain rfl : i = j := by omega
          exact h
      have CX := fun w => assetNo_any (l.getD j as0) w
      have i0 : (0 : Int) ≤ (j : Int) := by omega
      have i1 : (j : Int) < (n : Int) := by omega
      generalize noAs (l.getD j as0) = nx at *
      generalize l.getD j as0 = x at *
      obtain ⟨q1, q2, q3, q4⟩ := x
      dsimp only at a0 a1 a2 a3 
      dsimp only [vAs] at CX
      have HO1 := Lib.hid (HO.out.keep (grew_alloc wr #[.int .i64 q1, .int .i64 q2, .int .i64 q3, .int .i64 q4] 76))
      by_cases he : nx = m
      · subst he
        obtain ⟨rfl, rfl⟩ := HY1.out rfl
        clear HY HZ HY1 HK1 HK HO
        go_wp2_with (go_at_call 64; ((with_reducible refine (CX _).mono ?_); rintro e w5 ⟨rfl, hg⟩; have x0 : w5.cell? ⟨wr.heap.size, 0, none⟩ = some (.int .i64 q1) := own_cell hg 0; have x1 : w5.cell? ⟨wr.heap.size, 1, none⟩ = some (.int .i64 q2) := own_cell hg 1; have x2 : w5.cell? ⟨wr.heap.size, 2, none⟩ = some (.int .i64 q3) := own_cell hg 2; have x3 : w5.cell? ⟨wr.heap.size, 3, none⟩ = some (.int .i64 q4) := own_cell hg 3; have HO5 := Lib.hid (HO1.out.keep hg); have r0 : w5.cell? ⟨w.heap.size, 0, none⟩ = some (.int .i64 0) := HO5.out.at 0 _ rfl; have r1 : w5.cell? ⟨w.heap.size, 1, none⟩ = some (.int .i64 0) := HO5.out.at 1 _ rfl; have r2 : w5.cell? ⟨w.heap.size, 2, none⟩ = some (.int .i64 0) := HO5.out.at 2 _ rfl; have r3 : w5.cell? ⟨w.heap.size, 3, none⟩ = some (.int .i64 0) := HO5.out.at 3 _ rfl; have f0 : w5.frozen? ⟨w.heap.size, 0, none⟩ = false := HO5.out.fr 0 (by decide); have f1 : w5.frozen? ⟨w.heap.size, 1, none⟩ = false := HO5.out.fr 1 (by decide); have f2 : w5.frozen? ⟨w.heap.size, 2, none⟩ = false := HO5.out.fr 2 (by decide); have f3 : w5.frozen? ⟨w.heap.size, 3, none⟩ = false := HO5.out.fr 3 (by decide); have HG5 := Lib.hid (grew_trans HG.out (own_back hg)); clear hg CX))
        have HP := HO5.out.all [.int .i64 q1, .int .i64 q2, .int .i64 q3, .int .i64 q4] rfl
        have HGP := grew_put w.heap.size (Nat.le_refl _) [.int .i64 q1, .int .i64 q2, .int .i64 q3, .int .i64 q4] 0 _ HG5.out
        change bodyPost _ _ _ _ _ (putC w5 w.heap.size 0 [.int .i64 q1, .int .i64 q2, .int .i64 q3, .int .i64 q4])
        generalize putC w5 w.heap.size 0 [.int .i64 q1, .int .i64 q2, .int .i64 q3, .int .i64 q4] = w9 at *
        have z0 : w9.cell? ⟨w.heap.size, 0, none⟩ = _ := HP.at 0 _ rfl; have z1 : w9.cell? ⟨w.heap.size, 1, none⟩ = _ := HP.at 1 _ rfl; have z2 : w9.cell? ⟨w.heap.size, 2, none⟩ = _ := HP.at 2 _ rfl; have z3 : w9.cell? ⟨w.heap.size, 3, none⟩ = _ := HP.at 3 _ rfl
        refine bodyPost_ret (v := .tuple #[.agg #[.int .i64 q1, .int .i64 q2, .int .i64 q3, .int .i64 q4], .bool true]) (by simp [results, Tryz.results69, go_sem, z0, z1, z2, z3]) rfl ?_
        exact ⟨rfl, HGP⟩
      · have he2 := he
        have HK2 := Lib.hid (HK1.out he2)
        clear HY HZ HY1 HK1 HK he2
        go_wp2_with (go_at_call 64; ((with_reducible refine (CX _).mono ?_); rintro e w5 ⟨rfl, hg⟩; have HO5 := Lib.hid (HO1.out.keep hg); have HG5 := Lib.hid (grew_trans HG.out (own_back hg)); clear hg CX))
        go_roundw
        case rel => exact ⟨j + 1, by go_num, by omega, HK2.out, HO5.out, HG5.out⟩
        case measure => simp only [intOf]; omega
    · obtain rfl : j = n := by omega
      obtain ⟨rfl, rfl⟩ := HZ.out (fun i hi => HK.out i (by rw [HL.out] at hi; exact hi))
      clear HY HZ HK
      have HO1 := Lib.hid (HO.out.keep (grew_alloc wr #[.int .i64 0, .int .i64 0, .int .i64 0, .int .i64 0] 76))
      have r0 : (wr.alloc (.cells #[.int .i64 0, .int .i64 0, .int .i64 0, .int .i64 0] 76)).cell? ⟨w.heap.size, 0, none⟩ = some (.int .i64 0) := HO1.out.at 0 _ rfl; have r1 : (wr.alloc (.cells #[.int .i64 0, .int .i64 0, .int .i64 0, .int .i64 0] 76)).cell? ⟨w.heap.size, 1, none⟩ = some (.int .i64 0) := HO1.out.at 1 _ rfl; have r2 : (wr.alloc (.cells #[.int .i64 0, .int .i64 0, .int .i64 0, .int .i64 0] 76)).cell? ⟨w.heap.size, 2, none⟩ = some (.int .i64 0) := HO1.out.at 2 _ rfl; have r3 : (wr.alloc (.cells #[.int .i64 0, .int .i64 0, .int .i64 0, .int .i64 0] 76)).cell? ⟨w.heap.size, 3, none⟩ = some (.int .i64 0) := HO1.out.at 3 _ rfl
      have f0 : (wr.alloc (.cells #[.int .i64 0, .int .i64 0, .int .i64 0, .int .i64 0] 76)).frozen? ⟨w.heap.size, 0, none⟩ = false := HO1.out.fr 0 (by decide); have f1 : (wr.alloc (.cells #[.int .i64 0, .int .i64 0, .int .i64 0, .int .i64 0] 76)).frozen? ⟨w.heap.size, 1, none⟩ = false := HO1.out.fr 1 (by decide); have f2 : (wr.alloc (.cells #[.int .i64 0, .int .i64 0, .int .i64 0, .int .i64 0] 76)).frozen? ⟨w.heap.size, 2, none⟩ = false := HO1.out.fr 2 (by decide); have f3 : (wr.alloc (.cells #[.int .i64 0, .int .i64 0, .int .i64 0, .int .i64 0] 76)).frozen? ⟨w.heap.size, 3, none⟩ = false := HO1.out.fr 3 (by decide)
      go_wp2
      have HG1 := Lib.hid (grew_trans HG.out (grew_alloc wr #[.int .i64 0, .int .i64 0, .int .i64 0, .int .i64 0] 76))
      have HP := HO1.out.all [.int .i64 0, .int .i64 0, .int .i64 0, .int .i64 0] rfl
      have HGP := grew_put w.heap.size (Nat.le_refl _) [.int .i64 0, .int .i64 0, .int .i64 0, .int .i64 0] 0 _ HG1.out
      change bodyPost _ _ _ _ _ (putC (wr.alloc (.cells #[.int .i64 0, .int .i64 0, .int .i64 0, .int .i64 0] 76)) w.heap.size 0 [.int .i64 0, .int .i64 0, .int .i64 0, .int .i64 0])
      generalize putC (wr.alloc (.cells #[.int .i64 0, .int .i64 0, .int .i64 0, .int .i64 0] 76)) w.heap.size 0 [.int .i64 0, .int .i64 0, .int .i64 0, .int .i64 0] = w9 at *
      have z0 : w9.cell? ⟨w.heap.size, 0, none⟩ = _ := HP.at 0 _ rfl; have z1 : w9.cell? ⟨w.heap.size, 1, none⟩ = _ := HP.at 1 _ rfl; have z2 : w9.cell? ⟨w.heap.size, 2, none⟩ = _ := HP.at 2 _ rfl; have z3 : w9.cell? ⟨w.heap.size, 3, none⟩ = _ := HP.at 3 _ rfl
      refine bodyPost_ret (v := .tuple #[.agg #[.int .i64 0, .int .i64 0, .int .i64 0, .int .i64 0], .bool false]) (by simp [results, Tryz.results69, go_sem, z0, z1, z2, z3]) rfl ?_
      exact ⟨rfl, HGP⟩
end Go.Proofs.YtodnllopokoicaaGreat.NumK
namespace Go.Proofs.YtodnllopokoicaaGreat.NumK
open Go.RowKit
set_option linter.unusedVariables false

set_option maxRecDepth 100000 in
theorem pfindAs_any (A1 A2 A3 : Option Addr) (n1 n2 n3 c1 c2 c3 : Nat) (l : List As) (m : Int) (w : World) (h : RowE enAs w A3 n3 l) (_hn : n3 ≤ 1000000)
    (hC : ∀ w, RowE enAs w A3 n3 l → Calls Tryz.prog 69 #[.slice A3 n3 c3, .func (.func 64) #[] #[], .int .i64 m] w fun e w' => e = .returned (.tuple #[vAs (findL noAs as0 l m), .bool (hasL noAs l m)]) ∧ Grew w w') :
    Calls Tryz.prog 25 #[.agg #[.slice A1 n1 c1, .slice A2 n2 c2, .slice A3 n3 c3], .int .i64 m] w fun e w' => e = .returned (.tuple #[vAs (findL noAs as0 l m), .bool (hasL noAs l m)]) ∧ Grew w w' := by
  have HI := Lib.hid h
  have CF := fun w' (g : Grew w w') => hC w' (h.keep g)
  generalize findL noAs as0 l m = F at *
  generalize hasL noAs l m = B at *
  clear h
  obtain ⟨q1, q2, q3, q4⟩ := F
  dsimp only [vAs] at CF ⊢
  have HO : Hid (OwnC ((w.alloc (.cells #[.slice A1 n1 c1, .slice A2 n2 c2, .slice A3 n3 c3] 28)).alloc (.cells #[.int .i64 0, .int .i64 0, .int .i64 0, .int .i64 0] 76)) (w.heap.size + 1) [.int .i64 0, .int .i64 0, .int .i64 0, .int .i64 0]) := OwnC.new _ _ _ _ (by simp)
  go_enter Tryz.func25, Tryz.ntmps25
  go_wp2_with (go_at_call 69; ((with_reducible refine (CF _ (grew_trans (grew_alloc _ _ _) (grew_alloc _ _ _))).mono ?_); rintro e w5 ⟨rfl, hg⟩; have HO5 := Lib.hid (HO.out.keep hg); have HG5 : Hid (Grew w w5) := grew_trans (grew_trans (grew_alloc _ _ _) (grew_alloc _ _ _)) hg; have r0 : w5.cell? ⟨w.heap.size + 1, 0, none⟩ = some (.int .i64 0) := HO5.out.at 0 _ rfl; have r1 : w5.cell? ⟨w.heap.size + 1, 1, none⟩ = some (.int .i64 0) := HO5.out.at 1 _ rfl; have r2 : w5.cell? ⟨w.heap.size + 1, 2, none⟩ = some (.int .i64 0) := HO5.out.at 2 _ rfl; have r3 : w5.cell? ⟨w.heap.size + 1, 3, none⟩ = some (.int .i64 0) := HO5.out.at 3 _ rfl; have f0 : w5.frozen? ⟨w.heap.size + 1, 0, none⟩ = false := HO5.out.fr 0 (by decide); have f1 : w5.frozen? ⟨w.heap.size + 1, 1, none⟩ = false := HO5.out.fr 1 (by decide); have f2 : w5.frozen? ⟨w.heap.size + 1, 2, none⟩ = false := HO5.out.fr 2 (by decide); have f3 : w5.frozen? ⟨w.heap.size + 1, 3, none⟩ = false := HO5.out.fr 3 (by decide); clear hg CF))
  have HP := HO5.out.all [.int .i64 q1, .int .i64 q2, .int .i64 q3, .int .i64 q4] rfl
  have HGP := grew_put (w.heap.size + 1) (Nat.le_succ _) [.int .i64 q1, .int .i64 q2, .int .i64 q3, .int .i64 q4] 0 _ HG5.out
  change bodyPost _ _ _ _ _ (putC w5 (w.heap.size + 1) 0 [.int .i64 q1, .int .i64 q2, .int .i64 q3, .int .i64 q4])
  generalize putC w5 (w.heap.size + 1) 0 [.int .i64 q1, .int .i64 q2, .int .i64 q3, .int .i64 q4] = w9 at *
  have z0 : w9.cell? ⟨w.heap.size + 1, 0, none⟩ = _ := HP.at 0 _ rfl; have z1 : w9.cell? ⟨w.heap.size + 1, 1, none⟩ = _ := HP.at 1 _ rfl; have z2 : w9.cell? ⟨w.heap.size + 1, 2, none⟩ = _ := HP.at 2 _ rfl; have z3 : w9.cell? ⟨w.heap.size + 1, 3, none⟩ = _ := HP.at 3 _ rfl
  refine bodyPost_ret (v := .tuple #[.agg #[.int .i64 q1, .int .i64 q2, .int .i64 q3, .int .i64 q4], .bool B]) (by simp [results, Tryz.results25, go_sem, z0, z1, z2, z3]) rfl ?_
  exact ⟨rfl, HGP⟩
end Go.Proofs.YtodnllopokoicaaGreat.NumK
