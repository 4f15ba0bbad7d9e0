/- Package cover's small functions, and the reference's: pledges in memory, which may be, their order, the worth of collateral. -/
import Derived.Test.YtodnllopokoicaaGreatRH13
import Derived.Test.YtodnllopokoicaaGreatRH14
import Derived.Test.YtodnllopokoicaaGreatRH16
import Derived.Test.YtodnllopokoicaaGreatRH4
import Derived.Test.YtodnllopokoicaaGreatRH17
import Derived.Test.YtodnllopokoicaaGreatRH2
namespace Go.Proofs.YtodnllopokoicaaGreat.NumK
open Go.RowKit
set_option linter.unusedVariables false

def enPg : En Pg := ⟨3, fun x => [.int .i64 x.1, .int .i64 x.2.1, .int .i64 x.2.2], fun _ => rfl, fun a v hv => by
  simp at hv; rcases hv with rfl | rfl | rfl <;> rfl, by decide⟩
abbrev vPg (x : Pg) : Value := .agg #[.int .i64 x.1, .int .i64 x.2.1, .int .i64 x.2.2]
theorem info_pg : (Tryz.prog.info? 74).map (fun i => (i.zero, i.size, i.bytes)) = some (some (vPg pg0), 3, 24) := by kernel_rfl
/-- The cells at a place are such a one's. -/
def CPg (w : World) (b p : Nat) (x : Pg) : Prop :=
  w.cell? ⟨b, p, none⟩ = some (.int .i64 x.1) ∧ w.cell? ⟨b, p + 1, none⟩ = some (.int .i64 x.2.1) ∧ w.cell? ⟨b, p + 2, none⟩ = some (.int .i64 x.2.2)
theorem CPg.keep {w w' : World} {b p : Nat} {x : Pg} (h : CPg w b p x) (g : Grew w w') (hb : b < w.heap.size) : CPg w' b p x :=
  ⟨(grew_cell g (p := ⟨b, _, none⟩) hb).trans h.1, (grew_cell g (p := ⟨b, _, none⟩) hb).trans h.2.1, (grew_cell g (p := ⟨b, _, none⟩) hb).trans h.2.2⟩
theorem RowE.pg {w : World} {n : Nat} {l : List Pg} {A : Option Addr} (h : RowE enPg w A n l) {j : Nat} (hj : j < n) : ∃ b o, A = some ⟨b, o, none⟩ ∧ b < w.heap.size ∧ ∀ j, j < n → CPg w b (o + j * 3) (l.getD j pg0) := by
  have hl := h.len
  obtain ⟨b, o, e, hb, hc⟩ := h.at (by omega)
  refine ⟨b, o, e, hb, fun j hj => ?_⟩
  have hj' : j < l.length := by omega
  rw [getD_at l pg0 j hj']
  exact ⟨hc j hj' 0 (by decide), hc j hj' 1 (by decide), hc j hj' 2 (by decide)⟩

/-! ### numbers -/
theorem cwithin_any (n lo hi : Int) (w : World) : Calls Tryz.prog 67 #[.int .i64 n, .int .i64 lo, .int .i64 hi] w fun e w' => e = .returned (.bool (wi n lo hi)) ∧ w = w' := by
  by_cases h1 : lo ≤ n <;> by_cases h2 : n ≤ hi
  all_goals
    (have HR : Hid (wi n lo hi = (decide (lo ≤ n) && decide (n ≤ hi))) := rfl
     generalize wi n lo hi = R at *
     simp only [h1, h2, decide_true, decide_false, Bool.and_true, Bool.and_false] at HR
     go_enter Tryz.func67, Tryz.ntmps67
     go_wp2
     go_ret
     exact ⟨ret_b HR.out.symm, rfl⟩)
theorem cpermitted_any (a b : Int) (w : World) : Calls Tryz.prog 66 #[.int .i64 a, .int .i64 b] w fun e w' => e = .returned (.bool (okPK a b)) ∧ w = w' := by
  have HV : Hid (okPK a b = (wi a 1 16 && wi b 1 6)) := rfl
  have C1 := fun w => cwithin_any a 1 16 w
  have C2 := fun w => cwithin_any b 1 6 w
  generalize okPK a b = V at *
  generalize wi a 1 16 = R1 at *
  generalize wi b 1 6 = R2 at *
  cases R1
  · have HF : Hid (V = false) := by show _ = _; rw [HV.out]; rfl
    clear HV
    go_enter Tryz.func66, Tryz.ntmps66
    go_wp2_with (go_at_call 67; ((with_reducible refine (C1 _).mono ?_); rintro e w1 ⟨rfl, rfl⟩))
    go_ret
    exact ⟨ret_b HF.out.symm, rfl⟩
  · have HF : Hid (V = R2) := by show _ = _; rw [HV.out]; rfl
    clear HV
    go_enter Tryz.func66, Tryz.ntmps66
    go_wp2_with (first
      | (go_at_call 67; ((with_reducible refine (C1 _).mono ?_); rintro e w1 ⟨rfl, rfl⟩))
      | (go_at_call 67; ((with_reducible refine (C2 _).mono ?_); rintro e w1 ⟨rfl, rfl⟩)))
    go_ret
    exact ⟨ret_b HF.out.symm, rfl⟩
theorem r15asset_any (n : Int) (w : World) : Calls Tryz.prog 82 #[.int .i64 n] w fun e w' => e = .returned (.bool (wi n 1 6)) ∧ w = w' := by
  have CW := fun w => gwithin_any n 1 6 w
  generalize wi n 1 6 = R at *
  go_enter Tryz.func82, Tryz.ntmps82
  go_wp2_with (go_at_call 83; ((with_reducible refine (CW _).mono ?_); rintro e w1 ⟨rfl, rfl⟩))
  go_ret
  exact ⟨rfl, rfl⟩

/-! ### their order -/
def orI (x y : Int) : Int := if x ≠ 0 then x else y
theorem or_any (A : Option Addr) (c : Nat) (x y : Int) (w : World) (h : Ints w A 2 [x, y]) :
    Calls Tryz.prog 119 #[.slice A 2 c] w fun e w' => e = .returned (.int .i64 (orI x y)) ∧ w = w' := by
  have HV : Hid (orI x y = if x ≠ 0 then x else y) := rfl
  generalize orI x y = V at *
  obtain ⟨b, o, rfl, hb, hc⟩ := h.2 (by decide)
  have HA0 : Hid (w.cell? ⟨b, o, none⟩ = some (.int .i64 x)) := hc 0 (by decide)
  have HA1 : Hid (w.cell? ⟨b, o + 1, none⟩ = some (.int .i64 y)) := hc 1 (by decide)
  clear hc h
  go_enter Tryz.func119, Tryz.ntmps119
  go_wp2
  go_loop [5, 8] (fun v5 v8 => ∃ j : Nat, v8 = .int .i64 j ∧ Hid (j = 0 ∨ (j = 1 ∧ x = 0) ∨ (j = 2 ∧ x = 0 ∧ y = 0))) (fun _ v8 => 2 - (intOf v8).toNat)
  case atStart => exact ⟨0, rfl, .inl rfl⟩
  case round =>
    obtain ⟨j, rfl, HS⟩ := hrel
    rcases HS.out with rfl | ⟨rfl, rfl⟩ | ⟨rfl, rfl, rfl⟩
    · have a0 := HA0.out
      clear HS HA0 HA1
      by_cases h1 : x = 0
      · subst h1
        clear HV
        go_wp2
        go_round
        case rel => exact ⟨1, by go_num, .inr (.inl ⟨rfl, by trivial⟩)⟩
        case measure => simp only [intOf]; omega
      · have HF : Hid (V = x) := by show _ = _; rw [HV.out, if_pos h1]
        have d1 : (x == 0) = false := by simpa using h1
        clear HV h1
        go_wp2
        go_ret
        exact ⟨ret_i HF.out.symm, by first | rfl | trivial⟩
    · have a1 := HA1.out
      have HF : Hid (V = y) := by show _ = _; rw [HV.out, if_neg (by simp)]
      clear HS HA0 HA1 HV
      by_cases h1 : y = 0
      · subst h1
        clear HF
        go_wp2
        go_round
        case rel => exact ⟨2, by go_num, .inr (.inr ⟨rfl, by trivial⟩)⟩
        case measure => simp only [intOf]; omega
      · have d1 : (y == 0) = false := by simpa using h1
        clear h1
        go_wp2
        go_ret
        exact ⟨ret_i HF.out.symm, by first | rfl | trivial⟩
    · have HF : Hid (V = 0) := by show _ = _; rw [HV.out, if_neg (by simp)]
      clear HS HA0 HA1 HV
      go_wp2
      go_ret
      exact ⟨ret_i HF.out.symm, by first | rfl | trivial⟩

/-- As Who and Asset say. -/
def ordP (x y : Pg) : Int := orI (cmpI x.1 y.1) (cmpI x.2.1 y.2.1)
theorem ordP_lt (x y : Pg) : ordP x y < 0 ↔ x.1 < y.1 ∨ x.1 = y.1 ∧ x.2.1 < y.2.1 := by
  unfold ordP orI cmpI
  repeat' split
  all_goals omega
theorem ordP_eq (x y : Pg) : ordP x y = 0 ↔ x.1 = y.1 ∧ x.2.1 = y.2.1 := by
  unfold ordP orI cmpI
  repeat' split
  all_goals omega
/-- Where both may be: as their numbers. -/
theorem ordP_no {x y : Pg} (hx : okPK x.1 x.2.1 = true) (hy : okPK y.1 y.2.1 = true) : (ordP x y < 0 ↔ noPg x < noPg y) ∧ (ordP x y = 0 ↔ noPg x = noPg y) := by
  have h1 := (okPK_iff _ _).1 hx
  have h2 := (okPK_iff _ _).1 hy
  rw [ordP_lt, ordP_eq]
  unfold noPg
  omega
set_option maxRecDepth 100000 in
set_option maxHeartbeats 2000000 in
theorem order_any (x y : Pg) (w : World) : Calls Tryz.prog 68 #[vPg x, vPg y] w fun e w' => e = .returned (.int .i64 (ordP x y)) ∧ Grew w w' := by
  have C1 := fun w => compare_any x.1 y.1 w
  have C2 := fun w => compare_any x.2.1 y.2.1 w
  have HV : Hid (ordP x y = orI (cmpI x.1 y.1) (cmpI x.2.1 y.2.1)) := rfl
  generalize ordP x y = V at *
  generalize cmpI x.1 y.1 = R1 at *
  generalize cmpI x.2.1 y.2.1 = R2 at *
  have C3 := fun (w : World) => or_any (some ⟨w.heap.size, 0, none⟩) 2 R1 R2 (w.alloc (.cells #[.int .i64 R1, .int .i64 R2] 3)).drew (Ints.keep (ints2' w R1 R2 _ _ rfl) (grew_drew (grew_refl _)))
  rw [← HV.out] at C3
  clear HV
  obtain ⟨q1, q2, q3⟩ := x
  obtain ⟨p1, p2, p3⟩ := y
  dsimp only [vPg] at *
  have HX : Hid (OwnC ((w.alloc (.cells #[.int .i64 q1, .int .i64 q2, .int .i64 q3] 74)).alloc (.cells #[.int .i64 p1, .int .i64 p2, .int .i64 p3] 74)) w.heap.size [.int .i64 q1, .int .i64 q2, .int .i64 q3]) := (OwnC.new w [.int .i64 q1, .int .i64 q2, .int .i64 q3] _ _ rfl).keep (grew_alloc _ _ _)
  have HY : Hid (OwnC ((w.alloc (.cells #[.int .i64 q1, .int .i64 q2, .int .i64 q3] 74)).alloc (.cells #[.int .i64 p1, .int .i64 p2, .int .i64 p3] 74)) (w.heap.size + 1) [.int .i64 p1, .int .i64 p2, .int .i64 p3]) := OwnC.new _ [.int .i64 p1, .int .i64 p2, .int .i64 p3] _ _ (by simp)
  have HG : Hid (Grew w ((w.alloc (.cells #[.int .i64 q1, .int .i64 q2, .int .i64 q3] 74)).alloc (.cells #[.int .i64 p1, .int .i64 p2, .int .i64 p3] 74))) := grew_trans (grew_alloc _ _ _) (grew_alloc _ _ _)
  go_enter Tryz.func68, Tryz.ntmps68
  go_upto_region 1 with (fail)
  generalize ((w.alloc (.cells #[.int .i64 q1, .int .i64 q2, .int .i64 q3] 74)).alloc (.cells #[.int .i64 p1, .int .i64 p2, .int .i64 p3] 74)) = w0 at *
  generalize w.heap.size + 1 = N1 at *
  have HK : Hid (∀ w', Grew w0 w' → (w'.cell? ⟨w.heap.size, 0, none⟩ = some (.int .i64 q1) ∧ w'.cell? ⟨w.heap.size, 1, none⟩ = some (.int .i64 q2) ∧ w'.cell? ⟨N1, 0, none⟩ = some (.int .i64 p1) ∧ w'.cell? ⟨N1, 1, none⟩ = some (.int .i64 p2))) := fun w' g => ⟨(HX.out.keep g).at 0 _ rfl, (HX.out.keep g).at 1 _ rfl, (HY.out.keep g).at 0 _ rfl, (HY.out.keep g).at 1 _ rfl⟩
  generalize w.heap.size = N0 at *
  clear HX HY
  go_region_held3 (fun w' => w'.cell? ⟨N0, 0, none⟩ = some (.int .i64 q1) ∧ w'.cell? ⟨N0, 1, none⟩ = some (.int .i64 q2) ∧ w'.cell? ⟨N1, 0, none⟩ = some (.int .i64 p1) ∧ w'.cell? ⟨N1, 1, none⟩ = some (.int .i64 p2))
    (first
      | (with_reducible exact HK.out _ (grew_drew (grew_refl _)))
      | (with_reducible exact HK.out _ (grew_drew (grew_alloc _ _ _))))
    (first
      | (go_at_call 120; ((with_reducible refine (C1 _).mono ?_); rintro e w1 ⟨rfl, rfl⟩))
      | (go_at_call 120; ((with_reducible refine (C2 _).mono ?_); rintro e w1 ⟨rfl, rfl⟩))
      | (go_at_call 119; ((with_reducible refine (C3 _).mono ?_); rintro e w1 ⟨rfl, rfl⟩)))
  go_wp2
  go_ret
  exact ⟨rfl, grew_trans HG.out (grew_drew (grew_alloc _ _ _))⟩
end Go.Proofs.YtodnllopokoicaaGreat.NumK
