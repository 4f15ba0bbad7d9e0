/-
  For every key, side and fills: there are two legs a fill, the bidder's at his price and the closed one's, which add up to 0 in quantity and cost; what may not be is refused with nothing; more than 300 fills the statement lets by.
-/
import Derived.Test.YtahioajpmlochaaRG11
import Derived.Test.YtahioajpmlochaaRG13
import Derived.Test.YtahioajpmlochaaRG15
import Derived.Test.YtahioajpmlochaaRows
import Derived.WalkKit
import Derived.ProofKit
import Derived.OpenShut
import Derived.ShutString
import Derived.ChangeOld
import Derived.Below
import Derived.Carry
namespace Go.Proofs.Ytahioajpmlochaa.NumK
open Go.RowKit
set_option linter.unusedVariables false

theorem legsF_at (k : Ky) (s : Int) : ∀ (fs : List Fi) (i : Nat), i < fs.length → (legsF k s fs).getD (2 * i) po0 = ((fs.getD i fi0).1, k.2, s * (fs.getD i fi0).2.1, s * ((fs.getD i fi0).2.1 * (fs.getD i fi0).2.2)) ∧
    (legsF k s fs).getD (2 * i + 1) po0 = (k.1, k.2, -(s * (fs.getD i fi0).2.1), -(s * ((fs.getD i fi0).2.1 * (fs.getD i fi0).2.2)))
  | [], i, h => absurd h (Nat.not_lt_zero _)
  | f :: fs, 0, h => by rw [legsF_cons]; exact ⟨rfl, rfl⟩
  | f :: fs, i + 1, h => by
    have ih := legsF_at k s fs i (by simpa using h)
    rw [legsF_cons]
    rw [show 2 * (i + 1) = 2 * i + 1 + 1 by omega]
    simp only [List.getD_cons_succ]
    exact ih
theorem legsE_ok {fs : List Fi} (h : legsE fs = 0) {i : Nat} (hi : i < fs.length) : okFi (fs.getD i fi0) = true ∧ okMu (fs.getD i fi0) = true := by
  unfold legsE at h
  split at h
  · next h1 =>
    split at h
    · next h2 => exact ⟨List.all_eq_true.1 h1 _ (getD_mem fs fi0 i hi), List.all_eq_true.1 h2 _ (getD_mem fs fi0 i hi)⟩
    · cases h
  · cases h

set_option maxRecDepth 100000 in
set_option maxHeartbeats 8000000 in
theorem auctionLegs_walk (k : Ky) (long : Bool) (C : Option Addr) (m e : Nat) (fs : List Fi) (w : World) (h2 : RowE enD3 w C m fs) :
    Calls Try.prog 5 #[.agg #[.int .i64 k.1, .int .i64 k.2], .bool long, .slice C m e] w fun e w' => e = .returned (.bool true) ∧ Grew w w' := by
  have HFI := Lib.hid h2
  have HFL := Lib.hid h2.len
  have CW := fun w => wakes19_any w
  clear h2
  have HLE := Lib.hid (fun (h : legsE fs = 0) i hi => @legsE_ok fs h i hi)
  have HLN := Lib.hid (@legsL_no k long fs)
  have HLY : Hid (legsE fs = 0 → legsL k long fs = legsF k (sg long) fs) := fun h => by unfold legsL; rw [if_pos h]
  have HLA := Lib.hid (legsF_at k (sg long) fs)
  have HLL := Lib.hid (legsF_len k (sg long) fs)
  have HLR : Hid (legsE fs = 0 ∨ legsE fs = 1 ∨ legsE fs = 3) := by show _ ∨ _; unfold legsE; split; split; exact Or.inl rfl; exact Or.inr (Or.inl rfl); exact Or.inr (Or.inr rfl)
  have CL := fun w (h : RowE enD3 w C m fs) (hm : m ≤ 300) => flegs_any k long C m e fs w h (by omega)
  unfold FlPost at CL
  obtain ⟨k1, k2⟩ := k
  dsimp only at CL HLA ⊢
  have HX0 : Hid (OwnC (w.alloc (.cells #[.int .i64 k1, .int .i64 k2] 24)) w.heap.size [.int .i64 k1, .int .i64 k2]) := OwnC.new w [.int .i64 k1, .int .i64 k2] _ _ rfl
  have HG0 : Hid (Grew w (w.alloc (.cells #[.int .i64 k1, .int .i64 k2] 24))) := grew_alloc _ _ _
  go_enter Try.func5, Try.ntmps5
  go_upto_region 1 with (fail)
  generalize w.alloc (.cells #[.int .i64 k1, .int .i64 k2] 24) = w0 at *
  generalize w.heap.size = N0 at *
  by_cases hm : m > 300
  · have j2 : (m : Int) > 300 := by omega
    clear CW CL
    go_wp2
    go_ret
    exact ⟨rfl, HG0.out⟩
  · have j2 : ¬ (m : Int) > 300 := by omega
    have CL := CL w0 (HFI.out.keep HG0.out) (by omega)
    have x0 := HX0.out.at 0 _ rfl
    have x1 := HX0.out.at 1 _ rfl
    go_upto_region 4 with (go_at_call 15; ((with_reducible refine CL.mono ?_); rintro e w1 ⟨v, rfl, ho, hg⟩; have HOP := Lib.hid ho; have HG1 := Lib.hid hg; clear ho hg CL x0 x1))
    obtain ⟨AP, cp, rfl, hrp, -⟩ := HOP.out.form
    have HRP := Lib.hid hrp
    have HX1 := Lib.hid (HX0.out.keep HG1.out)
    clear hrp HX0 HOP
    by_cases hz : legsE fs = 0
    · have HLE2 := Lib.hid (HLE.out hz)
      rw [HLY.out hz] at HRP ⊢
      rw [HLL.out, HFL.out] at HRP ⊢
      rw [hz]
      have HFW : Hid (RowE enD3 w1 C m fs) := HFI.out.keep (grew_trans HG0.out HG1.out)
      have HGA := Lib.hid (grew_trans HG0.out HG1.out)
      cases long
      · clear HLE HLN HLY HLR hz HG0 HG1 HFI
        generalize legsF (k1, k2) (sg false) fs = ls at *
        have e1 : IntKind.i64.wrap (2 * (m : Int)) = 2 * (m : Int) := by rw [IntKind.wrap_i64]; omega
        have HLB : Hid (∀ i, i < m → ls.getD (2 * i) po0 = ((fs.getD i fi0).1, k2, -(fs.getD i fi0).2.1, -((fs.getD i fi0).2.1 * (fs.getD i fi0).2.2)) ∧ ls.getD (2 * i + 1) po0 = (k1, k2, (fs.getD i fi0).2.1, ((fs.getD i fi0).2.1 * (fs.getD i fi0).2.2))) := fun i hi => by
          obtain ⟨h1, h2⟩ := HLA.out i (by rw [HFL.out]; exact hi)
          have e : sg false = -1 := rfl
          rw [h1, h2, e]
          rw [Int.neg_one_mul, Int.neg_one_mul, Int.neg_neg, Int.neg_neg]; exact ⟨rfl, rfl⟩
        clear HLA HLL
        go_wp2_with (fail)
        go_loopw [9, 10, 11] (fun v9 v10 v11 wr => ∃ i : Nat, v9 = .int .i64 i ∧ i ≤ m ∧ Hid (Grew w1 wr)) (fun v9 _ _ _ => m - (intOf v9).toNat)
        case atStart => exact ⟨0, rfl, by omega, grew_refl _⟩
        case round =>
          obtain ⟨i, rfl, hi, HG⟩ := hrel
          by_cases hlt : i < m
          · obtain ⟨h1, h2⟩ := HLB.out i hlt
            obtain ⟨b, o, rfl, hb, hc⟩ := (HRP.out.keep HG.out).po (j := 2 * i) (by omega)
            have ha := hc (2 * i) (by omega)
            have hbb := hc (2 * i + 1) (by omega)
            rw [h1] at ha
            rw [h2] at hbb
            obtain ⟨b2, o2, rfl, hb2, hc2⟩ := (HFW.out.keep HG.out).rD3 hlt
            obtain ⟨f0, f1, f2⟩ := hc2 i hlt
            obtain ⟨hk1, hk2⟩ := HLE2.out i (by rw [HFL.out]; exact hlt)
            have hk3 := (okFi_iff _).1 hk1
            have hk4 : -4611686018427387904 ≤ (fs.getD i fi0).2.1 * (fs.getD i fi0).2.2 ∧ (fs.getD i fi0).2.1 * (fs.getD i fi0).2.2 ≤ 4611686018427387904 := (isMoney_iff _).1 hk2
            clear hc hc2 h1 h2 hk1 hk2
            generalize fs.getD i fi0 = x at *
            obtain ⟨q1, q2, q3⟩ := x
            dsimp only at ha hbb f0 f1 f2 hk3 hk4
            obtain ⟨P, hP⟩ : ∃ P, P = q2 * q3 := ⟨_, rfl⟩
            rw [← hP] at ha hbb hk4
            have HP := Lib.hid hP
            clear hP
            obtain ⟨a0, a1, a2, a3⟩ := ha
            obtain ⟨b0, b1, b2', b3⟩ := hbb
            dsimp only at a0 a1 a2 a3 b0 b1 b2' b3
            obtain ⟨⟨hq0, hq9⟩, -, -⟩ := hk3
            obtain ⟨hp0, hp9⟩ := hk4
            have i0 : (0 : Int) ≤ 2 * (i : Int) := by omega
            have i1 : 2 * (i : Int) < ((2 * m : Nat) : Int) := by omega
            have i2 : 2 * (i : Int) < 2 * (m : Int) := by omega
            have i3 : (0 : Int) ≤ 2 * (i : Int) + 1 := by omega
            have i4 : 2 * (i : Int) + 1 < ((2 * m : Nat) : Int) := by omega
            have i5 : 2 * (i : Int) + 1 < 2 * (m : Int) := by omega
            have i6 : IntKind.i64.wrap (2 * (i : Int)) = 2 * (i : Int) := by rw [IntKind.wrap_i64]; omega
            have i7 : IntKind.i64.wrap (2 * (i : Int) + 1) = 2 * (i : Int) + 1 := by rw [IntKind.wrap_i64]; omega
            have i8 : (2 * (i : Int)).toNat = 2 * i := by omega
            have i9 : (2 * (i : Int) + 1).toNat = 2 * i + 1 := by omega
            go_upto_region 11 with (fail)
            go_cut [10, 11] (fun s10 s11 wx => ∃ NA NB : Nat, s10 = .pointer (some ⟨NA, 0, none⟩) ∧ s11 = .pointer (some ⟨NB, 0, none⟩) ∧ Hid (OwnC wx NA [.int .i64 q1, .int .i64 k2, .int .i64 (-q2), .int .i64 (-P)]) ∧ Hid (OwnC wx NB [.int .i64 k1, .int .i64 k2, .int .i64 (q2), .int .i64 (P)]) ∧ Hid (Grew wr wx))
            case first =>
              go_big_region
              all_goals
                (go_wp2
                 go_meet
                 case rel =>
                   first
                     | exact ⟨_, _, rfl, rfl, (OwnC.new _ [.int .i64 q1, .int .i64 k2, .int .i64 (-q2), .int .i64 (-P)] _ _ (by simp)).drew, ((OwnC.new _ [.int .i64 k1, .int .i64 k2, .int .i64 (q2), .int .i64 (P)] _ _ rfl).keep (grew_alloc _ _ _)).drew, grew_trans (grew_trans (grew_alloc _ _ _) (grew_alloc _ _ _)) (grew_drew (grew_refl _))⟩
                     | exact ⟨_, _, rfl, rfl, ((OwnC.new _ [.int .i64 q1, .int .i64 k2, .int .i64 (-q2), .int .i64 (-P)] _ _ rfl).keep (grew_alloc _ _ _)).drew, (OwnC.new _ [.int .i64 k1, .int .i64 k2, .int .i64 (q2), .int .i64 (P)] _ _ (by simp)).drew, grew_trans (grew_trans (grew_alloc _ _ _) (grew_alloc _ _ _)) (grew_drew (grew_refl _))⟩)
            case rest =>
              rename World => w5
              obtain ⟨NA, NB, rfl, rfl, HNA, HNB, HG5⟩ := hcut
              have HX5 := Lib.hid (HX1.out.keep (grew_trans HG.out HG5.out))
              have HG6 := Lib.hid (grew_trans HG.out HG5.out)
              have CK := fun w' (g : Grew w5 w') => keepKey_yes k1 k2 w'
              have y0 := grew_every (w := w5) (S := fun w' => w'.cell? ⟨NA, 0, none⟩ = some (.int .i64 q1)) (fun w' g => (HNA.out.keep g).at 0 _ rfl)
              have y1 := grew_every (w := w5) (S := fun w' => w'.cell? ⟨NA, 1, none⟩ = some (.int .i64 k2)) (fun w' g => (HNA.out.keep g).at 1 _ rfl)
              have y2 := grew_every (w := w5) (S := fun w' => w'.cell? ⟨NA, 2, none⟩ = some (.int .i64 (-q2))) (fun w' g => (HNA.out.keep g).at 2 _ rfl)
              have y3 := grew_every (w := w5) (S := fun w' => w'.cell? ⟨NA, 3, none⟩ = some (.int .i64 (-P))) (fun w' g => (HNA.out.keep g).at 3 _ rfl)
              have z0 := grew_every (w := w5) (S := fun w' => w'.cell? ⟨NB, 0, none⟩ = some (.int .i64 k1)) (fun w' g => (HNB.out.keep g).at 0 _ rfl)
              have z1 := grew_every (w := w5) (S := fun w' => w'.cell? ⟨NB, 1, none⟩ = some (.int .i64 k2)) (fun w' g => (HNB.out.keep g).at 1 _ rfl)
              have z2 := grew_every (w := w5) (S := fun w' => w'.cell? ⟨NB, 2, none⟩ = some (.int .i64 (q2))) (fun w' g => (HNB.out.keep g).at 2 _ rfl)
              have z3 := grew_every (w := w5) (S := fun w' => w'.cell? ⟨NB, 3, none⟩ = some (.int .i64 (P))) (fun w' g => (HNB.out.keep g).at 3 _ rfl)
              have g0 := grew_every (w := w5) (S := fun w' => w'.cell? ⟨b2, o2 + i * 3, none⟩ = some (.int .i64 q1)) (fun w' g => (grew_cell (grew_trans HG5.out g) (p := ⟨b2, _, none⟩) hb2).trans f0)
              have g1 := grew_every (w := w5) (S := fun w' => w'.cell? ⟨b2, o2 + i * 3 + 1, none⟩ = some (.int .i64 q2)) (fun w' g => (grew_cell (grew_trans HG5.out g) (p := ⟨b2, _, none⟩) hb2).trans f1)
              have g2 := grew_every (w := w5) (S := fun w' => w'.cell? ⟨b2, o2 + i * 3 + 2, none⟩ = some (.int .i64 q3)) (fun w' g => (grew_cell (grew_trans HG5.out g) (p := ⟨b2, _, none⟩) hb2).trans f2)
              have x0 := grew_every (w := w5) (S := fun w' => w'.cell? ⟨N0, 0, none⟩ = some (.int .i64 k1)) (fun w' g => (HX5.out.keep g).at 0 _ rfl)
              have x1 := grew_every (w := w5) (S := fun w' => w'.cell? ⟨N0, 1, none⟩ = some (.int .i64 k2)) (fun w' g => (HX5.out.keep g).at 1 _ rfl)
              have ii0 : (0 : Int) ≤ (i : Int) := by omega
              have ii1 : (i : Int) < (m : Int) := by omega
              have m0 : IntKind.i64.wrap 0 = 0 := rfl
              have m1 : -q2 + q2 = 0 := by omega
              have m2 : -P + P = 0 := by omega
              have m3 : decide (-q2 > 0) = false := decide_eq_false (by omega)
              have m31 : decide (0 < -q2) = false := decide_eq_false (by omega)
              have m32 : decide (q2 < 0) = false := decide_eq_false (by omega)
              have m5 : -q2 * q3 = -P := by rw [HP.out, Int.neg_mul]
              have m6 : IntKind.i64.wrap (-P) = -P := by rw [IntKind.wrap_i64]; omega
              clear a0 a1 a2 a3 b0 b1 b2' b3 f0 f1 f2 hb hb2 HNA HNB HX5
              go_wp2_with (fail)
              refine wp_region_grew (by kernel_rfl) (by kernel_rfl) ?_
              dsimp only [List.append]
              repeat (go_big_quiet_step (with_reducible exact calls_every CK))
              refine wpQuiet_nil ?_
              intro w8 hw'
              have hg := grew_of hw'
              have HG8 := Lib.hid (grew_trans HG6.out hg)
              clear hw' hg y0 y1 y2 y3 z0 z1 z2 z3 g0 g1 g2 x0 x1
              go_wp2
              go_roundw
              case rel => exact ⟨i + 1, by go_num, by omega, HG8.out⟩
              case measure => simp only [intOf]; omega
          · obtain rfl : i = m := by omega
            go_wp2_with (go_at_call 19; ((with_reducible refine (CW _).mono ?_); rintro e w9 ⟨rfl, hg⟩))
            go_ret
            exact ⟨rfl, grew_trans HGA.out (grew_trans HG.out hg)⟩
      · clear HLE HLN HLY HLR hz HG0 HG1 HFI
        generalize legsF (k1, k2) (sg true) fs = ls at *
        have e1 : IntKind.i64.wrap (2 * (m : Int)) = 2 * (m : Int) := by rw [IntKind.wrap_i64]; omega
        have HLB : Hid (∀ i, i < m → ls.getD (2 * i) po0 = ((fs.getD i fi0).1, k2, (fs.getD i fi0).2.1, ((fs.getD i fi0).2.1 * (fs.getD i fi0).2.2)) ∧ ls.getD (2 * i + 1) po0 = (k1, k2, -(fs.getD i fi0).2.1, -((fs.getD i fi0).2.1 * (fs.getD i fi0).2.2))) := fun i hi => by
          obtain ⟨h1, h2⟩ := HLA.out i (by rw [HFL.out]; exact hi)
          have e : sg true = 1 := rfl
          rw [h1, h2, e]
          rw [Int.one_mul, Int.one_mul]; exact ⟨rfl, rfl⟩
        clear HLA HLL
        go_wp2_with (fail)
        go_loopw [9, 10, 11] (fun v9 v10 v11 wr => ∃ i : Nat, v9 = .int .i64 i ∧ i ≤ m ∧ Hid (Grew w1 wr)) (fun v9 _ _ _ => m - (intOf v9).toNat)
        case atStart => exact ⟨0, rfl, by omega, grew_refl _⟩
        case round =>
          obtain ⟨i, rfl, hi, HG⟩ := hrel
          by_cases hlt : i < m
          · obtain ⟨h1, h2⟩ := HLB.out i hlt
            obtain ⟨b, o, rfl, hb, hc⟩ := (HRP.out.keep HG.out).po (j := 2 * i) (by omega)
            have ha := hc (2 * i) (by omega)
            have hbb := hc (2 * i + 1) (by omega)
            rw [h1] at ha
            rw [h2] at hbb
            obtain ⟨b2, o2, rfl, hb2, hc2⟩ := (HFW.out.keep HG.out).rD3 hlt
            obtain ⟨f0, f1, f2⟩ := hc2 i hlt
            obtain ⟨hk1, hk2⟩ := HLE2.out i (by rw [HFL.out]; exact hlt)
            have hk3 := (okFi_iff _).1 hk1
            have hk4 : -4611686018427387904 ≤ (fs.getD i fi0).2.1 * (fs.getD i fi0).2.2 ∧ (fs.getD i fi0).2.1 * (fs.getD i fi0).2.2 ≤ 4611686018427387904 := (isMoney_iff _).1 hk2
            clear hc hc2 h1 h2 hk1 hk2
            generalize fs.getD i fi0 = x at *
            obtain ⟨q1, q2, q3⟩ := x
            dsimp only at ha hbb f0 f1 f2 hk3 hk4
            obtain ⟨P, hP⟩ : ∃ P, P = q2 * q3 := ⟨_, rfl⟩
            rw [← hP] at ha hbb hk4
            have HP := Lib.hid hP
            clear hP
            obtain ⟨a0, a1, a2, a3⟩ := ha
            obtain ⟨b0, b1, b2', b3⟩ := hbb
            dsimp only at a0 a1 a2 a3 b0 b1 b2' b3
            obtain ⟨⟨hq0, hq9⟩, -, -⟩ := hk3
            obtain ⟨hp0, hp9⟩ := hk4
            have i0 : (0 : Int) ≤ 2 * (i : Int) := by omega
            have i1 : 2 * (i : Int) < ((2 * m : Nat) : Int) := by omega
            have i2 : 2 * (i : Int) < 2 * (m : Int) := by omega
            have i3 : (0 : Int) ≤ 2 * (i : Int) + 1 := by omega
            have i4 : 2 * (i : Int) + 1 < ((2 * m : Nat) : Int) := by omega
            have i5 : 2 * (i : Int) + 1 < 2 * (m : Int) := by omega
            have i6 : IntKind.i64.wrap (2 * (i : Int)) = 2 * (i : Int) := by rw [IntKind.wrap_i64]; omega
            have i7 : IntKind.i64.wrap (2 * (i : Int) + 1) = 2 * (i : Int) + 1 := by rw [IntKind.wrap_i64]; omega
            have i8 : (2 * (i : Int)).toNat = 2 * i := by omega
            have i9 : (2 * (i : Int) + 1).toNat = 2 * i + 1 := by omega
            go_upto_region 11 with (fail)
            go_cut [10, 11] (fun s10 s11 wx => ∃ NA NB : Nat, s10 = .pointer (some ⟨NA, 0, none⟩) ∧ s11 = .pointer (some ⟨NB, 0, none⟩) ∧ Hid (OwnC wx NA [.int .i64 q1, .int .i64 k2, .int .i64 (q2), .int .i64 (P)]) ∧ Hid (OwnC wx NB [.int .i64 k1, .int .i64 k2, .int .i64 (-q2), .int .i64 (-P)]) ∧ Hid (Grew wr wx))
            case first =>
              go_big_region
              all_goals
                (go_wp2
                 go_meet
                 case rel =>
                   first
                     | exact ⟨_, _, rfl, rfl, (OwnC.new _ [.int .i64 q1, .int .i64 k2, .int .i64 (q2), .int .i64 (P)] _ _ (by simp)).drew, ((OwnC.new _ [.int .i64 k1, .int .i64 k2, .int .i64 (-q2), .int .i64 (-P)] _ _ rfl).keep (grew_alloc _ _ _)).drew, grew_trans (grew_trans (grew_alloc _ _ _) (grew_alloc _ _ _)) (grew_drew (grew_refl _))⟩
                     | exact ⟨_, _, rfl, rfl, ((OwnC.new _ [.int .i64 q1, .int .i64 k2, .int .i64 (q2), .int .i64 (P)] _ _ rfl).keep (grew_alloc _ _ _)).drew, (OwnC.new _ [.int .i64 k1, .int .i64 k2, .int .i64 (-q2), .int .i64 (-P)] _ _ (by simp)).drew, grew_trans (grew_trans (grew_alloc _ _ _) (grew_alloc _ _ _)) (grew_drew (grew_refl _))⟩)
            case rest =>
              rename World => w5
              obtain ⟨NA, NB, rfl, rfl, HNA, HNB, HG5⟩ := hcut
              have HX5 := Lib.hid (HX1.out.keep (grew_trans HG.out HG5.out))
              have HG6 := Lib.hid (grew_trans HG.out HG5.out)
              have CK := fun w' (g : Grew w5 w') => keepKey_yes k1 k2 w'
              have y0 := grew_every (w := w5) (S := fun w' => w'.cell? ⟨NA, 0, none⟩ = some (.int .i64 q1)) (fun w' g => (HNA.out.keep g).at 0 _ rfl)
              have y1 := grew_every (w := w5) (S := fun w' => w'.cell? ⟨NA, 1, none⟩ = some (.int .i64 k2)) (fun w' g => (HNA.out.keep g).at 1 _ rfl)
              have y2 := grew_every (w := w5) (S := fun w' => w'.cell? ⟨NA, 2, none⟩ = some (.int .i64 (q2))) (fun w' g => (HNA.out.keep g).at 2 _ rfl)
              have y3 := grew_every (w := w5) (S := fun w' => w'.cell? ⟨NA, 3, none⟩ = some (.int .i64 (P))) (fun w' g => (HNA.out.keep g).at 3 _ rfl)
              have z0 := grew_every (w := w5) (S := fun w' => w'.cell? ⟨NB, 0, none⟩ = some (.int .i64 k1)) (fun w' g => (HNB.out.keep g).at 0 _ rfl)
              have z1 := grew_every (w := w5) (S := fun w' => w'.cell? ⟨NB, 1, none⟩ = some (.int .i64 k2)) (fun w' g => (HNB.out.keep g).at 1 _ rfl)
              have z2 := grew_every (w := w5) (S := fun w' => w'.cell? ⟨NB, 2, none⟩ = some (.int .i64 (-q2))) (fun w' g => (HNB.out.keep g).at 2 _ rfl)
              have z3 := grew_every (w := w5) (S := fun w' => w'.cell? ⟨NB, 3, none⟩ = some (.int .i64 (-P))) (fun w' g => (HNB.out.keep g).at 3 _ rfl)
              have g0 := grew_every (w := w5) (S := fun w' => w'.cell? ⟨b2, o2 + i * 3, none⟩ = some (.int .i64 q1)) (fun w' g => (grew_cell (grew_trans HG5.out g) (p := ⟨b2, _, none⟩) hb2).trans f0)
              have g1 := grew_every (w := w5) (S := fun w' => w'.cell? ⟨b2, o2 + i * 3 + 1, none⟩ = some (.int .i64 q2)) (fun w' g => (grew_cell (grew_trans HG5.out g) (p := ⟨b2, _, none⟩) hb2).trans f1)
              have g2 := grew_every (w := w5) (S := fun w' => w'.cell? ⟨b2, o2 + i * 3 + 2, none⟩ = some (.int .i64 q3)) (fun w' g => (grew_cell (grew_trans HG5.out g) (p := ⟨b2, _, none⟩) hb2).trans f2)
              have x0 := grew_every (w := w5) (S := fun w' => w'.cell? ⟨N0, 0, none⟩ = some (.int .i64 k1)) (fun w' g => (HX5.out.keep g).at 0 _ rfl)
              have x1 := grew_every (w := w5) (S := fun w' => w'.cell? ⟨N0, 1, none⟩ = some (.int .i64 k2)) (fun w' g => (HX5.out.keep g).at 1 _ rfl)
              have ii0 : (0 : Int) ≤ (i : Int) := by omega
              have ii1 : (i : Int) < (m : Int) := by omega
              have m0 : IntKind.i64.wrap 0 = 0 := rfl
              have m1 : q2 + -q2 = 0 := by omega
              have m2 : P + -P = 0 := by omega
              have m5 : q2 * q3 = P := HP.out.symm
              have m6 : IntKind.i64.wrap P = P := by rw [IntKind.wrap_i64]; omega
              clear a0 a1 a2 a3 b0 b1 b2' b3 f0 f1 f2 hb hb2 HNA HNB HX5
              go_wp2_with (fail)
              refine wp_region_grew (by kernel_rfl) (by kernel_rfl) ?_
              dsimp only [List.append]
              repeat (go_big_quiet_step (with_reducible exact calls_every CK))
              refine wpQuiet_nil ?_
              intro w8 hw'
              have hg := grew_of hw'
              have HG8 := Lib.hid (grew_trans HG6.out hg)
              clear hw' hg y0 y1 y2 y3 z0 z1 z2 z3 g0 g1 g2 x0 x1
              go_wp2
              go_roundw
              case rel => exact ⟨i + 1, by go_num, by omega, HG8.out⟩
              case measure => simp only [intOf]; omega
          · obtain rfl : i = m := by omega
            go_wp2_with (go_at_call 19; ((with_reducible refine (CW _).mono ?_); rintro e w9 ⟨rfl, hg⟩))
            go_ret
            exact ⟨rfl, grew_trans HGA.out (grew_trans HG.out hg)⟩
    · have hle : (legsE fs == 0) = false := by simpa using hz
      have hle2 : (legsE fs != 0) = true := by simpa using hz
      rw [HLN.out hz] at ⊢
      have HGA := Lib.hid (grew_trans HG0.out HG1.out)
      have l0 : (([] : List Po).length : Int) = 0 := rfl
      generalize legsE fs = le at *
      go_wp2_with (go_at_call 19; ((with_reducible refine (CW _).mono ?_); rintro e w9 ⟨rfl, hg⟩))
      go_ret
      exact ⟨rfl, grew_trans HGA.out hg⟩
end Go.Proofs.Ytahioajpmlochaa.NumK
namespace Go.Proofs.Ytahioajpmlochaa.NumK
open Go.RowKit
theorem auctionLegs_row (w : World) {C : Option Addr} {m e : Nat} {cs : Array Value} {k : Int × Int} (long : Bool) {fs : List D3} (hy : spKy2.rd w cs.toList k) (h2 : Row spFi3 w C m fs) :
    Calls Try.prog 5 #[.agg cs, .bool long, .slice C m e] w fun e w' => e = .returned (.bool true) ∧ Grew w w' := by
  rw [ky2_of hy]
  exact auctionLegs_walk k long C m e fs w (fis_row h2)
end Go.Proofs.Ytahioajpmlochaa.NumK
namespace Go.Proofs.Ytahioajpmlochaa.auctionLegs
open Go.ChangeShapes Go.WideShapes Go.ChangeAt Go.RowKit
set_option linter.unusedVariables false

theorem own : ownKnob Try.prog.godebug = none := by kernel_rfl
theorem laidOut : laidOutB Try.prog = true := by kernel_rfl

set_option maxRecDepth 100000 in
theorem lifted (os : Os) (started : os.Started) (H : Type) (enc : TypeId × Value → H) :
    ReturnsInHanded {} Try.checked os 5 .any (Rows.auctionLegsSpec.pre6 enc Try.prog Try.f5 Rows.auctionLegsRow.domain false) (Rows.auctionLegsSpec.post enc Try.prog Try.f5 false true false false) := by
  refine returnsInHanded_of_change (C := Try.checked) own started (by kernel_rfl) Try.func5
    (ChangeSpec.witness6 (enc := enc) (C := Try.checked) false ⟨#[], #[.agg #[.int .i64 0, .int .i64 0], .bool false, .slice none 0 0], []⟩ 8 (by kernel_rfl) (by kernel_rfl) (by kernel_rfl) (by kernel_rfl)) ?_
  intro W base args ds gs before hval0 hW hcnd _
  have hval : ∀ (j : Nat) t v, Try.f5.params[j]? = some t → args[j]? = some v → Value.okWide Try.prog W .any base t v := hval0
  have hW' := hW
  obtain ⟨p, q, hA0, hV, rfl, hfz, hnd⟩ := hW
  have hA : DataW.TrodAll enc Try.prog W 0 (fun _ => true) true Try.f5.params.toList args.toList ds p := hA0
  skip
  rw [Try.params5] at hA hval
  obtain ⟨v0, vs0, d0, ds0, p0, q0, hargs, rfl, rfl, h0, r0⟩ := trodAll_cons hA
  obtain ⟨v1, vs1, d1, ds1, p1, q1, rfl, rfl, rfl, h1, r1⟩ := trodAll_cons r0
  obtain ⟨v2, vs2, d2, ds2, p2, q2, rfl, rfl, rfl, h2, r2⟩ := trodAll_cons r1
  obtain ⟨rfl, rfl, rfl⟩ := trodAll_nil r2
  obtain rfl : args = #[v0, v1, v2] := by cases args; simp_all
  obtain ⟨rfl, rfl⟩ := trodVars_none hV
  have k0 := h0
  have lt0 : ∀ x ∈ p0, x.block < W.heap.size := by obtain ⟨m, hm⟩ := k0; exact DataW.trod_lt m _ _ _ hm
  obtain ⟨cs0, x0, rfl, e0⟩ := NumK.arg_struct Try.underlying24 NumK.opens_ky2 (hval 0 24 v0 rfl rfl) h0
  obtain ⟨b1, rfl, rfl, rfl⟩ := open_bool Try.underlying4 (hval 1 4 v1 rfl rfl) h1
  have k2 := h2
  have lt2 : ∀ x ∈ p2, x.block < W.heap.size := by obtain ⟨m, hm⟩ := k2; exact DataW.trod_lt m _ _ _ hm
  obtain ⟨A2, len2, cap2, l2, rfl, ro2, n2, c2, m2⟩ := NumK.arg_slice Try.underlying25 NumK.opens_fis (hval 2 25 v2 rfl rfl) h2
  clear hA0 hval0
  refine (NumK.auctionLegs_row W b1 e0 ro2).mono fun e W' ⟨he, bel⟩ => ?_
  subst he
  exact ⟨_, rfl, _, _, _, [], _, [], hW', trodAll_mk1 (shut_bool Try.underlying4 _), (trodAll_cons_mk (Below.trod laidOut (by kernel_rfl) (of_decide_eq_true (by kernel_rfl)) k0 bel lt0) (trodAll_cons_mk (shut_bool Try.underlying4 b1) (trodAll_cons_mk (Below.trod laidOut (by kernel_rfl) (of_decide_eq_true (by kernel_rfl)) k2 bel lt2) trodAll_mk0))), rfl, bel.frame _, fun h => by cases h⟩

theorem over : Rows.auctionLegsRow.holds Try.pinned (OpenSpec.ofChange Rows.auctionLegsSpec) :=
  OpenClaim.holds_of_wide 5 Try.f5 rfl rfl rfl rfl rfl rfl rfl ⟨rfl, rfl, rfl, rfl, rfl⟩ rfl rfl rfl rfl rfl (by kernel_rfl) Try.func5 (by kernel_rfl)
    (of_decide_eq_true (by kernel_rfl)) (by unfold Func.isWrapper; first | (rw [if_pos (by decide +kernel)]; kernel_rfl) | (rw [if_neg (by decide +kernel)]; exact ⟨rfl, rfl⟩))
    (fun os started H enc _ => lifted os started H enc)

/-! ### the statement -/
theorem proved : Rows.AuctionLegsSaid := over
end Go.Proofs.Ytahioajpmlochaa.auctionLegs
