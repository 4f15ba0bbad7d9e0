/- Legs: how they lie in memory; whether each is an account's and money. -/
import Derived.Test.YtmbhkeppikaeaaaAcA
import Derived.Test.YtmbhkeppikaeaaaAcB
import Derived.Test.YtmbhkeppikaeaaaRight
import Derived.Test.YtmbhkeppikaeaaaRefOf
namespace Go.Proofs.Ytmbhkeppikaeaaa.NumK
open Go.RowKit

/-- The account, the amount. -/
abbrev Lg := Ac × Int
def legV (k m c n : Int) : Value := .agg #[.int .i64 k, .int .i64 m, .int .i64 c, .int .i64 n]
def enLg : En Lg := ⟨4, fun l => [.int .i64 l.1.1, .int .i64 l.1.2.1, .int .i64 l.1.2.2, .int .i64 l.2], fun _ => rfl, fun a v hv => by
  simp at hv; rcases hv with rfl | rfl | rfl | rfl <;> rfl, by decide⟩
abbrev lg0 : Lg := ((0, 0, 0), 0)
theorem info_lg : (Try.prog.info? 40).map (fun i => (i.zero, i.size, i.bytes)) = some (some (legV 0 0 0 0), 4, 32) := by kernel_rfl

/-- A leg of a row, cell by cell. -/
theorem RowE.lg {w : World} {n : Nat} {l : List Lg} {A : Option Addr} (h : RowE enLg w A n l) {j : Nat} (hj : j < n) :
    ∃ b o, A = some ⟨b, o, none⟩ ∧ b < w.heap.size ∧ w.cell? ⟨b, o + j * 4, none⟩ = some (.int .i64 (l.getD j lg0).1.1) ∧ w.cell? ⟨b, o + j * 4 + 1, none⟩ = some (.int .i64 (l.getD j lg0).1.2.1)
      ∧ w.cell? ⟨b, o + j * 4 + 2, none⟩ = some (.int .i64 (l.getD j lg0).1.2.2) ∧ w.cell? ⟨b, o + j * 4 + 3, none⟩ = some (.int .i64 (l.getD j lg0).2) := by
  have hl := h.len
  obtain ⟨b, o, e, hb, hc⟩ := h.at (by omega)
  have hj' : j < l.length := by omega
  have e1 : l.getD j lg0 = l[j] := by simp [List.getD, hj']
  rw [e1]
  exact ⟨b, o, e, hb, hc j hj' 0 (by decide), hc j hj' 1 (by decide), hc j hj' 2 (by decide), hc j hj' 3 (by decide)⟩

def okL (x : Lg) : Bool := rightA x.1.1 x.1.2.1 x.1.2.2 && isMoney x.2
def mayL (l : List Lg) : Bool := l.all okL
theorem may_no (l : List Lg) (j : Nat) (h : j < l.length) (h2 : okL (l.getD j lg0) = false) : false = mayL l := by
  symm
  unfold mayL
  rw [List.all_eq_false]
  exact ⟨l.getD j lg0, by rw [show l.getD j lg0 = l[j] by simp [List.getD, h]]; exact List.getElem_mem h, by rw [h2]; decide⟩
theorem may_succ (l : List Lg) (j : Nat) (h : j < l.length) : mayL (l.take (j + 1)) = (mayL (l.take j) && okL (l.getD j lg0)) := by
  unfold mayL
  rw [take_snoc l j lg0 h, List.all_append]; simp

theorem num1 (n : Int) (w : World) (N : Nat) (hN : w.heap.size = N) :
    Calls Try.prog 36 #[.slice (some ⟨N, 0, none⟩) 1 1] (w.alloc (.cells #[.int .i64 n] 3)) fun e w' => e = .returned (.bool (isMoney n)) ∧ (w.alloc (.cells #[.int .i64 n] 3)) = w' := by
  subst hN
  have C := right_any (some ⟨w.heap.size, 0, none⟩) 1 1 [n] _ (ints1 w n 3) (by omega)
  rwa [show [n].all isMoney = isMoney n by simp] at C

set_option maxRecDepth 100000 in
theorem legsRight_any (A : Option Addr) (n c : Nat) (l : List Lg) (w : World) (h : RowE enLg w A n l) (hn : n ≤ 9223372036854775807) :
    Calls Try.prog 22 #[.slice A n c] w fun e w' => e = .returned (.bool (mayL l)) ∧ Grew w w' := by
  have HI := Lib.hid h
  have HL := Lib.hid h.len
  clear h
  go_enter Try.func22, Try.ntmps22
  go_wp2
  go_loopw [7] (fun v7 wr => ∃ j : Nat, v7 = .int .i64 j ∧ j ≤ n ∧ Hid (mayL (l.take j) = true) ∧ Hid (Grew w wr)) (fun v7 _ => n - (intOf v7).toNat)
  case atStart => exact ⟨0, rfl, by omega, rfl, grew_refl _⟩
  case round =>
    obtain ⟨j, rfl, hj, HM, HG⟩ := hrel
    by_cases hlt : j < n
    · obtain ⟨b, o, rfl, hb, a1, a2, a3, a4⟩ := (HI.out.keep HG.out).lg hlt
      have HS := Lib.hid (may_succ l j (by rw [HL.out]; exact hlt))
      have HN : Hid (okL (l.getD j lg0) = false → false = mayL l) := may_no l j (by rw [HL.out]; exact hlt)
      have CR := fun w => aright_any (l.getD j lg0).1.1 (l.getD j lg0).1.2.1 (l.getD j lg0).1.2.2 w
      have C1 := fun w N hN => num1 (l.getD j lg0).2 w N hN
      have HO : Hid (okL (l.getD j lg0) = (rightA (l.getD j lg0).1.1 (l.getD j lg0).1.2.1 (l.getD j lg0).1.2.2 && isMoney (l.getD j lg0).2)) := rfl
      have i1 : (j : Int) < (n : Int) := by omega
      clear hb
      generalize okL (l.getD j lg0) = ok at *
      unfold acV at CR
      generalize rightA (l.getD j lg0).1.1 (l.getD j lg0).1.2.1 (l.getD j lg0).1.2.2 = R at *
      generalize isMoney (l.getD j lg0).2 = M at *
      generalize (l.getD j lg0).1.1 = q1 at *
      generalize (l.getD j lg0).1.2.1 = q2 at *
      generalize (l.getD j lg0).1.2.2 = q3 at *
      generalize (l.getD j lg0).2 = q4 at *
      cases R
      · have HF := Lib.hid (HN.out (by rw [HO.out]; rfl))
        clear HN HS HO C1
        go_wp2_with (go_at_call 35; ((with_reducible refine (CR _).mono ?_); rintro e w1 ⟨rfl, hg⟩; have HG1 := Lib.hid (grew_trans HG.out (own_back hg)); clear hg))
        go_ret
        exact ⟨ret_b HF.out, HG1.out⟩
      · cases M
        · have HF := Lib.hid (HN.out (by rw [HO.out]; rfl))
          clear HN HS HO
          go_wp2_with (first
            | (go_at_call 35; ((with_reducible refine (CR _).mono ?_); rintro e w1 ⟨rfl, hg⟩; have d4 : w1.cell? ⟨wr.heap.size, 3, none⟩ = some (.int .i64 q4) := own_cell hg 3; have HG1 := Lib.hid (grew_trans HG.out (own_back hg)); clear hg))
            | (go_at_call 36; ((with_reducible refine (C1 _ _ rfl).mono ?_); rintro e w2 ⟨rfl, rfl⟩)))
          go_ret
          exact ⟨ret_b HF.out, grew_trans HG1.out (grew_alloc _ _ _)⟩
        · have HM2 : Hid (mayL (l.take (j + 1)) = true) := by show _ = _; rw [HS.out, HM.out, HO.out]; rfl
          clear HN HS HO
          go_wp2_with (first
            | (go_at_call 35; ((with_reducible refine (CR _).mono ?_); rintro e w1 ⟨rfl, hg⟩; have d4 : w1.cell? ⟨wr.heap.size, 3, none⟩ = some (.int .i64 q4) := own_cell hg 3; have HG1 := Lib.hid (grew_trans HG.out (own_back hg)); clear hg))
            | (go_at_call 36; ((with_reducible refine (C1 _ _ rfl).mono ?_); rintro e w2 ⟨rfl, rfl⟩)))
          go_roundw
          case rel => exact ⟨j + 1, by go_num, by omega, HM2, grew_trans HG1.out (grew_alloc _ _ _)⟩
          case measure => simp only [intOf]; omega
    · obtain rfl : j = n := by omega
      have HE : Hid (true = mayL l) := by
        have := HM.out
        rw [List.take_of_length_le (by rw [HL.out]; exact Nat.le_refl _)] at this
        exact this.symm
      go_wp2
      go_ret
      exact ⟨ret_b HE.out, HG.out⟩
end Go.Proofs.Ytmbhkeppikaeaaa.NumK
