/- Falls in memory; keep's Fall, Falls, Dues, Clock, Calls, Bids. -/
import Derived.Test.YtaipgcckafbgeaaRG4
import Derived.Test.YtaipgcckafbgeaaRG3
import Derived.Test.YtaipgcckafbgeaaRG2
import Derived.Deep.CutBlock
import Derived.Test.YtaipgcckafbgeaaRG1
import Derived.Lib.AppendZerosOnto
import Derived.Lib.Walk
import Derived.Lib.SliceRun
import Derived.Deep.RegionHeld3
namespace Go.Proofs.Ytaipgcckafbgeaa.NumK
open Go.RowKit
set_option linter.unusedVariables false

/-- Three ints; eight; four; five. -/
abbrev D3 := Int × Int × Int
abbrev F8 := Int × Int × Int × Int × Int × Int × Int × Int
abbrev C4 := Int × Int × Int × Int
abbrev B5 := Int × Int × Int × Int × Int
def enD3 : En D3 := ⟨3, fun x => [.int .i64 x.1, .int .i64 x.2.1, .int .i64 x.2.2], fun _ => rfl, fun a v hv => by
  simp at hv; rcases hv with rfl | rfl | rfl <;> rfl, by decide⟩
def enF8 : En F8 := ⟨8, fun x => [.int .i64 x.1, .int .i64 x.2.1, .int .i64 x.2.2.1, .int .i64 x.2.2.2.1, .int .i64 x.2.2.2.2.1, .int .i64 x.2.2.2.2.2.1, .int .i64 x.2.2.2.2.2.2.1, .int .i64 x.2.2.2.2.2.2.2], fun _ => rfl, fun a v hv => by
  simp at hv; rcases hv with rfl | rfl | rfl | rfl | rfl | rfl | rfl | rfl <;> rfl, by decide⟩
def enC4 : En C4 := ⟨4, fun x => [.int .i64 x.1, .int .i64 x.2.1, .int .i64 x.2.2.1, .int .i64 x.2.2.2], fun _ => rfl, fun a v hv => by
  simp at hv; rcases hv with rfl | rfl | rfl | rfl <;> rfl, by decide⟩
def enB5 : En B5 := ⟨5, fun x => [.int .i64 x.1, .int .i64 x.2.1, .int .i64 x.2.2.1, .int .i64 x.2.2.2.1, .int .i64 x.2.2.2.2], fun _ => rfl, fun a v hv => by
  simp at hv; rcases hv with rfl | rfl | rfl | rfl | rfl <;> rfl, by decide⟩

def CD3 (w : World) (b p : Nat) (x : D3) : Prop := w.cell? ⟨b, p, none⟩ = some (.int .i64 x.1) ∧ w.cell? ⟨b, p + 1, none⟩ = some (.int .i64 x.2.1) ∧ w.cell? ⟨b, p + 2, none⟩ = some (.int .i64 x.2.2)
def CF8 (w : World) (b p : Nat) (x : F8) : Prop := w.cell? ⟨b, p, none⟩ = some (.int .i64 x.1) ∧ w.cell? ⟨b, p + 1, none⟩ = some (.int .i64 x.2.1) ∧ w.cell? ⟨b, p + 2, none⟩ = some (.int .i64 x.2.2.1) ∧ w.cell? ⟨b, p + 3, none⟩ = some (.int .i64 x.2.2.2.1) ∧ w.cell? ⟨b, p + 4, none⟩ = some (.int .i64 x.2.2.2.2.1) ∧ w.cell? ⟨b, p + 5, none⟩ = some (.int .i64 x.2.2.2.2.2.1) ∧ w.cell? ⟨b, p + 6, none⟩ = some (.int .i64 x.2.2.2.2.2.2.1) ∧ w.cell? ⟨b, p + 7, none⟩ = some (.int .i64 x.2.2.2.2.2.2.2)
def CC4 (w : World) (b p : Nat) (x : C4) : Prop := w.cell? ⟨b, p, none⟩ = some (.int .i64 x.1) ∧ w.cell? ⟨b, p + 1, none⟩ = some (.int .i64 x.2.1) ∧ w.cell? ⟨b, p + 2, none⟩ = some (.int .i64 x.2.2.1) ∧ w.cell? ⟨b, p + 3, none⟩ = some (.int .i64 x.2.2.2)
theorem RowE.rC4 {w : World} {n : Nat} {l : List C4} {A : Option Addr} (h : RowE enC4 w A n l) {j : Nat} (hj : j < n) : ∃ b o, A = some ⟨b, o, none⟩ ∧ b < w.heap.size ∧ ∀ j, j < n → CC4 w b (o + j * 4) (l.getD j (0, 0, 0, 0)) := by
  have hl := h.len
  obtain ⟨b, o, e, hb, hc⟩ := h.at (by omega)
  refine ⟨b, o, e, hb, fun j hj => ?_⟩
  have hj' : j < l.length := by omega
  rw [getD_at l (0, 0, 0, 0) j hj']
  exact ⟨hc j hj' 0 (by decide), hc j hj' 1 (by decide), hc j hj' 2 (by decide), hc j hj' 3 (by decide)⟩

def CB5 (w : World) (b p : Nat) (x : B5) : Prop := w.cell? ⟨b, p, none⟩ = some (.int .i64 x.1) ∧ w.cell? ⟨b, p + 1, none⟩ = some (.int .i64 x.2.1) ∧ w.cell? ⟨b, p + 2, none⟩ = some (.int .i64 x.2.2.1) ∧ w.cell? ⟨b, p + 3, none⟩ = some (.int .i64 x.2.2.2.1) ∧ w.cell? ⟨b, p + 4, none⟩ = some (.int .i64 x.2.2.2.2)
theorem RowE.rB5 {w : World} {n : Nat} {l : List B5} {A : Option Addr} (h : RowE enB5 w A n l) {j : Nat} (hj : j < n) : ∃ b o, A = some ⟨b, o, none⟩ ∧ b < w.heap.size ∧ ∀ j, j < n → CB5 w b (o + j * 5) (l.getD j (0, 0, 0, 0, 0)) := by
  have hl := h.len
  obtain ⟨b, o, e, hb, hc⟩ := h.at (by omega)
  refine ⟨b, o, e, hb, fun j hj => ?_⟩
  have hj' : j < l.length := by omega
  rw [getD_at l (0, 0, 0, 0, 0) j hj']
  exact ⟨hc j hj' 0 (by decide), hc j hj' 1 (by decide), hc j hj' 2 (by decide), hc j hj' 3 (by decide), hc j hj' 4 (by decide)⟩

set_option maxRecDepth 100000 in
theorem kdue_yes (q1 q2 q3 : Int) (w : World) : Calls Try.prog 36 #[.agg #[.int .i64 q1, .int .i64 q2, .int .i64 q3], .agg #[.int .i64 q1, .int .i64 q2, .int .i64 q3]] w fun e w' => e = .returned (.bool true) ∧ Grew w w' := by
  go_enter Try.func36, Try.ntmps36
  go_wp2
  go_ret
  exact ⟨rfl, grew_trans (grew_alloc _ _ _) (grew_alloc _ _ _)⟩

set_option maxRecDepth 100000 in
set_option maxHeartbeats 2000000 in
theorem kcalls_yes (A B : Option Addr) (n c d : Nat) (l : List C4) (w : World) (h : RowE enC4 w A n l) (h2 : RowE enC4 w B n l) (hn : n ≤ 9000000000000000000) :
    Calls Try.prog 15 #[.slice A n c, .slice B n d] w fun e w' => e = .returned (.bool true) ∧ Grew w w' := by
  have HI := Lib.hid h
  have HJ := Lib.hid h2
  clear h h2
  go_enter Try.func15, Try.ntmps15
  go_wp2
  go_loopw [5] (fun v wr => ∃ j : Nat, v = .int .i64 j ∧ j ≤ n ∧ Hid (Grew w wr)) (fun v _ => n - (intOf v).toNat)
  case atStart => exact ⟨0, rfl, by omega, grew_refl _⟩
  case round =>
    obtain ⟨j, rfl, hj, HG⟩ := hrel
    by_cases hlt : j < n
    · obtain ⟨b, o, rfl, hb, hc⟩ := (HI.out.keep HG.out).rC4 hlt
      obtain ⟨b2, o2, rfl, hb2, hc2⟩ := (HJ.out.keep HG.out).rC4 hlt
      obtain ⟨a0, a1, a2, a3⟩ := hc j hlt
      obtain ⟨e0, e1, e2, e3⟩ := hc2 j hlt
      clear hc hc2
      have i0 : (0 : Int) ≤ (j : Int) := by omega
      have i1 : (j : Int) < (n : Int) := by omega
      generalize l.getD j (0, 0, 0, 0) = x at *
      obtain ⟨q1, q2, q3, q4⟩ := x
      dsimp only at a0 a1 a2 a3 e0 e1 e2 e3
      have CX := fun w' (g : Grew wr w') => kdue_yes q1 q2 q3 w'
      have x0 : ∀ p : GrewTo wr, p.to.cell? ⟨b, o + j * 4, none⟩ = _ := fun p => (grew_cell p.h (p := ⟨b, _, none⟩) hb).trans a0; have x1 : ∀ p : GrewTo wr, p.to.cell? ⟨b, o + j * 4 + 1, none⟩ = _ := fun p => (grew_cell p.h (p := ⟨b, _, none⟩) hb).trans a1; have x2 : ∀ p : GrewTo wr, p.to.cell? ⟨b, o + j * 4 + 2, none⟩ = _ := fun p => (grew_cell p.h (p := ⟨b, _, none⟩) hb).trans a2; have x3 : ∀ p : GrewTo wr, p.to.cell? ⟨b, o + j * 4 + 3, none⟩ = _ := fun p => (grew_cell p.h (p := ⟨b, _, none⟩) hb).trans a3
      have y0 : ∀ p : GrewTo wr, p.to.cell? ⟨b2, o2 + j * 4, none⟩ = _ := fun p => (grew_cell p.h (p := ⟨b2, _, none⟩) hb2).trans e0; have y1 : ∀ p : GrewTo wr, p.to.cell? ⟨b2, o2 + j * 4 + 1, none⟩ = _ := fun p => (grew_cell p.h (p := ⟨b2, _, none⟩) hb2).trans e1; have y2 : ∀ p : GrewTo wr, p.to.cell? ⟨b2, o2 + j * 4 + 2, none⟩ = _ := fun p => (grew_cell p.h (p := ⟨b2, _, none⟩) hb2).trans e2; have y3 : ∀ p : GrewTo wr, p.to.cell? ⟨b2, o2 + j * 4 + 3, none⟩ = _ := fun p => (grew_cell p.h (p := ⟨b2, _, none⟩) hb2).trans e3
      clear a0 a1 a2 a3 e0 e1 e2 e3 hb hb2
      go_wp2_with fail
      refine wp_region_grew (by kernel_rfl) (by kernel_rfl) ?_
      repeat (go_big_quiet_step (with_reducible exact calls_every CX))
      refine wpQuiet_nil ?_
      intro w5 hw'
      have HG5 := Lib.hid (grew_of hw')
      clear hw' x0 y0 x1 y1 x2 y2 x3 y3
      go_wp2
      go_roundw
      case rel => exact ⟨j + 1, by go_num, by omega, grew_trans HG.out HG5.out⟩
      case measure => simp only [intOf]; omega
    · obtain rfl : j = n := by omega
      go_wp2
      go_ret
      exact ⟨rfl, HG.out⟩

end Go.Proofs.Ytaipgcckafbgeaa.NumK
namespace Go.Proofs.Ytaipgcckafbgeaa.NumK
open Go.RowKit
set_option linter.unusedVariables false

abbrev vCa (x : Ca) : Value := .agg #[.int .i64 x.1, .int .i64 x.2.1, .int .i64 x.2.2.1, .int .i64 x.2.2.2]
abbrev vDe (x : Du) : Value := .agg #[.int .i64 x.1, .int .i64 x.2.1, .int .i64 x.2.2]
theorem info_ca : (Try.prog.info? 32).map (fun i => (i.zero, i.size, i.bytes)) = some (some (vCa ca0), 4, 32) := by kernel_rfl
theorem RowE.ca {w : World} {n : Nat} {l : List Ca} {A : Option Addr} (h : RowE enC4 w A n l) {j : Nat} (hj : j < n) : ∃ b o, A = some ⟨b, o, none⟩ ∧ b < w.heap.size ∧ ∀ j, j < n → CC4 w b (o + j * 4) (l.getD j ca0) := RowE.rC4 h hj

/-! ### numbers -/
theorem clwithin_any (n lo hi : Int) (w : World) : Calls Try.prog 26 #[.int .i64 n, .int .i64 lo, .int .i64 hi] w fun e w' => e = .returned (.bool (wi n lo hi)) ∧ w = w' := by
  by_cases h1 : lo ≤ n <;> by_cases h2 : n ≤ hi
  all_goals
    (have HR : Hid (wi n lo hi = (decide (lo ≤ n) && decide (n ≤ hi))) := rfl
     generalize wi n lo hi = R at *
     simp only [h1, h2, decide_true, decide_false, Bool.and_true, Bool.and_false] at HR
     go_enter Try.func26, Try.ntmps26
     go_wp2
     go_ret
     exact ⟨ret_b HR.out.symm, rfl⟩)
set_option maxRecDepth 100000 in
theorem clpermitted_any (d : Du) (w : World) : Calls Try.prog 25 #[vDe d] w fun e w' => e = .returned (.bool (okDu d)) ∧ Grew w w' := by
  obtain ⟨q1, q2, q3⟩ := d
  have HV : Hid (okDu (q1, q2, q3) = ((wi q1 1 16 && wi q2 0 2) && wi q3 0 4611686018427387904)) := rfl
  have C1 := fun w => clwithin_any q1 1 16 w
  have C2 := fun w => clwithin_any q2 0 2 w
  have C3 := fun w => clwithin_any q3 0 4611686018427387904 w
  generalize okDu (q1, q2, q3) = V at *
  generalize wi q1 1 16 = R1 at *
  generalize wi q2 0 2 = R2 at *
  generalize wi q3 0 4611686018427387904 = R3 at *
  dsimp only [vDe]
  have H : (R1 = false) ∨ (R1 = true ∧ R2 = false) ∨ (R1 = true ∧ R2 = true) := by cases R1 <;> cases R2 <;> simp
  rcases H with rfl | ⟨rfl, rfl⟩ | ⟨rfl, rfl⟩
  · have HF : Hid (V = false) := by show _ = _; rw [HV.out]; rfl
    clear HV
    go_enter Try.func25, Try.ntmps25
    go_wp2_with (go_at_call 26; ((with_reducible refine (C1 _).mono ?_); rintro e w1 ⟨rfl, rfl⟩))
    go_ret
    exact ⟨ret_b HF.out.symm, grew_alloc _ _ _⟩
  · have HF : Hid (V = false) := by show _ = _; rw [HV.out]; rfl
    clear HV
    go_enter Try.func25, Try.ntmps25
    go_wp2_with (first
      | (go_at_call 26; ((with_reducible refine (C1 _).mono ?_); rintro e w1 ⟨rfl, rfl⟩))
      | (go_at_call 26; ((with_reducible refine (C2 _).mono ?_); rintro e w1 ⟨rfl, rfl⟩)))
    go_ret
    exact ⟨ret_b HF.out.symm, grew_alloc _ _ _⟩
  · have HF : Hid (V = R3) := by show _ = _; rw [HV.out]; rfl
    clear HV
    go_enter Try.func25, Try.ntmps25
    go_wp2_with (first
      | (go_at_call 26; ((with_reducible refine (C1 _).mono ?_); rintro e w1 ⟨rfl, rfl⟩))
      | (go_at_call 26; ((with_reducible refine (C2 _).mono ?_); rintro e w1 ⟨rfl, rfl⟩))
      | (go_at_call 26; ((with_reducible refine (C3 _).mono ?_); rintro e w1 ⟨rfl, rfl⟩)))
    go_ret
    exact ⟨ret_b HF.out.symm, grew_alloc _ _ _⟩

/-! ### their order -/
/-- A call and a due: as Who and Cur say. -/
def ordC (x : Ca) (d : Du) : Int := orI (cmpI x.1 d.1) (cmpI x.2.1 d.2.1)
def noDu (d : Du) : Int := d.1 * 4 + d.2.1
theorem ordC_lt (x : Ca) (d : Du) : ordC x d < 0 ↔ x.1 < d.1 ∨ x.1 = d.1 ∧ x.2.1 < d.2.1 := by
  unfold ordC orI cmpI
  repeat' split
  all_goals omega
theorem ordC_eq (x : Ca) (d : Du) : ordC x d = 0 ↔ x.1 = d.1 ∧ x.2.1 = d.2.1 := by
  unfold ordC orI cmpI
  repeat' split
  all_goals omega
/-- Where both may be: as their numbers. -/
theorem ordC_no {x : Ca} {d : Du} (hx : okCK x.1 x.2.1 = true) (hy : okCK d.1 d.2.1 = true) : (ordC x d < 0 ↔ noCa x < noDu d) ∧ (ordC x d = 0 ↔ noCa x = noDu d) := by
  have h1 := (okCK_iff _ _).1 hx
  have h2 := (okCK_iff _ _).1 hy
  rw [ordC_lt, ordC_eq]
  unfold noCa noDu
  omega
set_option maxRecDepth 100000 in
set_option maxHeartbeats 2000000 in
theorem clorder_any (x : Ca) (y : Du) (w : World) : Calls Try.prog 27 #[vCa x, vDe y] w fun e w' => e = .returned (.int .i64 (ordC x y)) ∧ Grew w w' := by
  have C1 := fun w => compare_any x.1 y.1 w
  have C2 := fun w => compare_any x.2.1 y.2.1 w
  have HV : Hid (ordC x y = orI (cmpI x.1 y.1) (cmpI x.2.1 y.2.1)) := rfl
  generalize ordC x y = V at *
  generalize cmpI x.1 y.1 = R1 at *
  generalize cmpI x.2.1 y.2.1 = R2 at *
  have C3 := fun (w : World) => or_any (some ⟨w.heap.size, 0, none⟩) 2 R1 R2 (w.alloc (.cells #[.int .i64 R1, .int .i64 R2] 3)).drew (Ints.keep (ints2' w R1 R2 _ _ rfl) (grew_drew (grew_refl _)))
  rw [← HV.out] at C3
  clear HV
  obtain ⟨q1, q2, q3, q4⟩ := x
  obtain ⟨p1, p2, p3⟩ := y
  dsimp only [vCa, vDe] at *
  have HX : Hid (OwnC ((w.alloc (.cells #[.int .i64 q1, .int .i64 q2, .int .i64 q3, .int .i64 q4] 32)).alloc (.cells #[.int .i64 p1, .int .i64 p2, .int .i64 p3] 24)) w.heap.size [.int .i64 q1, .int .i64 q2, .int .i64 q3, .int .i64 q4]) := (OwnC.new w [.int .i64 q1, .int .i64 q2, .int .i64 q3, .int .i64 q4] _ _ rfl).keep (grew_alloc _ _ _)
  have HY : Hid (OwnC ((w.alloc (.cells #[.int .i64 q1, .int .i64 q2, .int .i64 q3, .int .i64 q4] 32)).alloc (.cells #[.int .i64 p1, .int .i64 p2, .int .i64 p3] 24)) (w.heap.size + 1) [.int .i64 p1, .int .i64 p2, .int .i64 p3]) := OwnC.new _ [.int .i64 p1, .int .i64 p2, .int .i64 p3] _ _ (by simp)
  have HG : Hid (Grew w ((w.alloc (.cells #[.int .i64 q1, .int .i64 q2, .int .i64 q3, .int .i64 q4] 32)).alloc (.cells #[.int .i64 p1, .int .i64 p2, .int .i64 p3] 24))) := grew_trans (grew_alloc _ _ _) (grew_alloc _ _ _)
  go_enter Try.func27, Try.ntmps27
  go_upto_region 1 with (fail)
  generalize ((w.alloc (.cells #[.int .i64 q1, .int .i64 q2, .int .i64 q3, .int .i64 q4] 32)).alloc (.cells #[.int .i64 p1, .int .i64 p2, .int .i64 p3] 24)) = w0 at *
  generalize w.heap.size + 1 = N1 at *
  have HK : Hid (∀ w', Grew w0 w' → (w'.cell? ⟨w.heap.size, 0, none⟩ = some (.int .i64 q1) ∧ w'.cell? ⟨w.heap.size, 1, none⟩ = some (.int .i64 q2) ∧ w'.cell? ⟨N1, 0, none⟩ = some (.int .i64 p1) ∧ w'.cell? ⟨N1, 1, none⟩ = some (.int .i64 p2))) := fun w' g => ⟨(HX.out.keep g).at 0 _ rfl, (HX.out.keep g).at 1 _ rfl, (HY.out.keep g).at 0 _ rfl, (HY.out.keep g).at 1 _ rfl⟩
  generalize w.heap.size = N0 at *
  clear HX HY
  go_region_held3 (fun w' => w'.cell? ⟨N0, 0, none⟩ = some (.int .i64 q1) ∧ w'.cell? ⟨N0, 1, none⟩ = some (.int .i64 q2) ∧ w'.cell? ⟨N1, 0, none⟩ = some (.int .i64 p1) ∧ w'.cell? ⟨N1, 1, none⟩ = some (.int .i64 p2))
    (first
      | (with_reducible exact HK.out _ (grew_drew (grew_refl _)))
      | (with_reducible exact HK.out _ (grew_drew (grew_alloc _ _ _))))
    (first
      | (go_at_call 39; ((with_reducible refine (C1 _).mono ?_); rintro e w1 ⟨rfl, rfl⟩))
      | (go_at_call 39; ((with_reducible refine (C2 _).mono ?_); rintro e w1 ⟨rfl, rfl⟩))
      | (go_at_call 38; ((with_reducible refine (C3 _).mono ?_); rintro e w1 ⟨rfl, rfl⟩)))
  go_wp2
  go_ret
  exact ⟨rfl, grew_trans HG.out (grew_drew (grew_alloc _ _ _))⟩
end Go.Proofs.Ytaipgcckafbgeaa.NumK
namespace Go.Proofs.Ytaipgcckafbgeaa.NumK
open Go.RowKit
set_option linter.unusedVariables false

def chkC (l : List Ca) : Int := if rightCa l = true then 0 else 14
theorem steps_ca {l : List Ca} {j : Nat} (h : (List.range j).all (stepOK okCa noCa ca0 l) = true) {i : Nat} (hi : i < j) : okCa (l.getD i ca0) = true := by
  have := (List.all_eq_true.1 h) i (List.mem_range.2 hi)
  unfold stepOK at this
  rw [Bool.and_eq_true] at this
  exact this.1
theorem okCa_du (q1 q2 q3 q4 : Int) : okCa (q1, q2, q3, q4) = (okDu (q1, q2, q3) && !decide (q3 = 0) && wi q4 0 1099511627776) := by
  unfold okCa okDu
  simp only
  cases okCK q1 q2 <;> simp only [Bool.false_and, Bool.true_and]
  congr 1
  rw [Bool.eq_iff_iff, Bool.and_eq_true, wi_iff, wi_iff, Bool.not_eq_true', decide_eq_false_iff_not]
  omega

set_option maxRecDepth 100000 in
theorem rdless_any (x y : Du) (w : World) : Calls Try.prog 31 #[vDe x, vDe y] w fun e w' => e = .returned (.bool (decide (x.1 < y.1 ∨ (x.1 = y.1 ∧ x.2.1 < y.2.1)))) ∧ Grew w w' := by
  obtain ⟨x1, x2, x3⟩ := x
  obtain ⟨y1, y2, y3⟩ := y
  have h1 : x1 < y1 ∨ ¬ x1 < y1 := by omega
  have h2 : x1 = y1 ∨ ¬ x1 = y1 := by omega
  have h3 : x2 < y2 ∨ ¬ x2 < y2 := by omega
  dsimp only [vDe]
  have HV : Hid (decide (x1 < y1 ∨ (x1 = y1 ∧ x2 < y2)) = decide (x1 < y1 ∨ (x1 = y1 ∧ x2 < y2))) := rfl
  generalize hv : decide (x1 < y1 ∨ (x1 = y1 ∧ x2 < y2)) = V at HV ⊢
  have HV := Lib.hid hv
  clear hv
  go_enter Try.func31, Try.ntmps31
  rcases h1 with h1 | h1
  · obtain rfl : V = true := by have := HV.out; simp [h1] at this; exact this
    clear HV h2 h3
    go_wp2
    go_ret
    exact ⟨rfl, grew_trans (grew_alloc _ _ _) (grew_alloc _ _ _)⟩
  · rcases h2 with h2 | h2
    · subst h2
      rcases h3 with h3 | h3
      · obtain rfl : V = true := by have := HV.out; simp [h3] at this; exact this
        clear HV
        go_wp2
        go_ret
        exact ⟨rfl, grew_trans (grew_alloc _ _ _) (grew_alloc _ _ _)⟩
      · obtain rfl : V = false := by have := HV.out; simp [h3] at this; exact this
        clear HV
        go_wp2
        go_ret
        exact ⟨rfl, grew_trans (grew_alloc _ _ _) (grew_alloc _ _ _)⟩
    · obtain rfl : V = false := by have := HV.out; simp [h1, h2] at this; exact this
      have d0 : (x1 == y1) = false := by simpa using h2
      clear HV h2 h3
      go_wp2
      go_ret
      exact ⟨rfl, grew_trans (grew_alloc _ _ _) (grew_alloc _ _ _)⟩

set_option maxRecDepth 100000 in
set_option maxHeartbeats 4000000 in
theorem clcheck_any (A : Option Addr) (n c : Nat) (l : List Ca) (w : World) (h : RowE enC4 w A n l) (hn : n ≤ 1000000) :
    Calls Try.prog 9 #[.slice A n c] w fun e w' => e = .returned (.int .i64 (chkC l)) ∧ Grew w w' := by
  have HI := Lib.hid h
  have HL := Lib.hid h.len
  have HR : Hid (chkC l = if (List.range n).all (stepOK okCa noCa ca0 l) = true then 0 else 14) := by show _ = _; rw [← h.len]; rfl
  generalize chkC l = R at *
  clear h
  go_enter Try.func9, Try.ntmps9
  go_wp2
  go_loopw [7] (fun v wr => ∃ j : Nat, v = .int .i64 j ∧ j ≤ n ∧ Hid ((List.range j).all (stepOK okCa noCa ca0 l) = true) ∧ Hid (Grew w wr)) (fun v _ => n - (intOf v).toNat)
  case atStart => exact ⟨0, rfl, by omega, rfl, grew_refl _⟩
  case round =>
    obtain ⟨j, rfl, hj, HM, HG⟩ := hrel
    by_cases hlt : j < n
    · obtain ⟨b, o, rfl, hb, hc⟩ := (HI.out.keep HG.out).ca hlt
      have HN := Lib.hid (range_all_no (stepOK okCa noCa ca0 l) j n hlt)
      have HY := Lib.hid (range_all_succ (stepOK okCa noCa ca0 l) j)
      have HST : Hid (stepOK okCa noCa ca0 l j = (okCa (l.getD j ca0) && (decide (j = 0) || decide (noCa (l.getD (j - 1) ca0) < noCa (l.getD j ca0))))) := rfl
      have HP : Hid (0 < j → okCa (l.getD (j - 1) ca0) = true) := fun h0 => steps_ca HM.out (by omega)
      obtain ⟨a0, a1, a2, a3⟩ := hc j hlt
      have HPB : Hid (0 < j → CC4 wr b (o + (j - 1) * 4) (l.getD (j - 1) ca0)) := fun h0 => hc (j - 1) (by omega)
      have HB := Lib.hid hb
      clear hc hb
      have i0 : (0 : Int) ≤ (j : Int) := by omega
      have i1 : (j : Int) < (n : Int) := by omega
      generalize stepOK okCa noCa ca0 l j = st at *
      generalize l.getD j ca0 = x at *
      generalize l.getD (j - 1) ca0 = p at *
      obtain ⟨q1, q2, q3, q4⟩ := x
      have HOK := Lib.hid (okCa_du q1 q2 q3 q4)
      have HNO : Hid (okCK p.1 p.2.1 = true → okCK q1 q2 = true → (ordC p (q1, q2, q3) < 0 ↔ noCa p < noCa (q1, q2, q3, q4))) := fun h1 h2 => (ordC_no (d := (q1, q2, q3)) h1 h2).1
      have HQK : Hid (okDu (q1, q2, q3) = true → okCK q1 q2 = true) := fun h => ((okDu_iff _).1 h).1
      have CO := fun w => clorder_any p (q1, q2, q3) w
      have C1 := fun w => clpermitted_any (q1, q2, q3) w
      have C2 := fun w => clwithin_any q4 0 1099511627776 w
      dsimp only [vCa, vDe] at a0 a1 a2 a3 CO C1
      generalize okDu (q1, q2, q3) = R1 at *
      generalize wi q4 0 1099511627776 = R2 at *
      generalize ordC p (q1, q2, q3) = O at *
      have HX0 : Hid (OwnC (wr.alloc (.cells #[.int .i64 q1, .int .i64 q2, .int .i64 q3, .int .i64 q4] 32)) wr.heap.size [.int .i64 q1, .int .i64 q2, .int .i64 q3, .int .i64 q4]) := OwnC.new wr [.int .i64 q1, .int .i64 q2, .int .i64 q3, .int .i64 q4] _ _ rfl
      have HG0 : Hid (Grew wr (wr.alloc (.cells #[.int .i64 q1, .int .i64 q2, .int .i64 q3, .int .i64 q4] 32))) := grew_alloc _ _ _
      go_upto_region 4 with (fail)
      generalize (wr.alloc (.cells #[.int .i64 q1, .int .i64 q2, .int .i64 q3, .int .i64 q4] 32)) = w3 at *
      have HB3 : Hid (∀ (w' : World) (q : Addr), Grew w3 w' → q.block = b → w'.cell? q = wr.cell? q) := fun w' q g e => grew_cell (grew_trans HG0.out g) (by rw [e]; exact HB.out)
      generalize wr.heap.size = N at *
      have HG3 := Lib.hid (grew_trans HG.out HG0.out)
      have x0 := grew_every (w := w3) (S := fun w' => w'.cell? ⟨N, 0, none⟩ = some (.int .i64 q1)) (fun w' g => (HX0.out.keep g).at 0 _ rfl)
      have x1 := grew_every (w := w3) (S := fun w' => w'.cell? ⟨N, 1, none⟩ = some (.int .i64 q2)) (fun w' g => (HX0.out.keep g).at 1 _ rfl)
      have x2 := grew_every (w := w3) (S := fun w' => w'.cell? ⟨N, 2, none⟩ = some (.int .i64 q3)) (fun w' g => (HX0.out.keep g).at 2 _ rfl)
      have x3 := grew_every (w := w3) (S := fun w' => w'.cell? ⟨N, 3, none⟩ = some (.int .i64 q4)) (fun w' g => (HX0.out.keep g).at 3 _ rfl)
      have D1 := fun w' (g : Grew w3 w') => C1 w'
      have D2 := calls_pure (w := w3) C2
      clear C1 C2
      have H : (R1 = false) ∨ (R1 = true ∧ q3 = 0) ∨ (R1 = true ∧ q3 ≠ 0 ∧ R2 = false) ∨ (R1 = true ∧ q3 ≠ 0 ∧ R2 = true) := by cases R1 <;> cases R2 <;> simp <;> omega
      rcases H with rfl | ⟨rfl, rfl⟩ | ⟨rfl, hq3, rfl⟩ | ⟨rfl, hq3, rfl⟩
      · have HF : Hid (R = 14) := by show _ = _; rw [HR.out, if_neg]; rw [← HN.out (by rw [HST.out, HOK.out]; simp)]; decide
        clear HN HY HST HOK HNO HPB HM HR HP HQK CO a0 a1 a2 a3
        refine wp_region_grew (by kernel_rfl) (by kernel_rfl) ?_
        repeat (go_big_quiet_step (first | (with_reducible exact calls_every D1) | (with_reducible exact calls_every D2)))
        refine wpQuiet_nil ?_
        intro w5 hw'
        have HG5 := Lib.hid (grew_of hw')
        clear hw' x0 x1 x2 x3
        go_wp2
        go_ret
        exact ⟨ret_i HF.out.symm, grew_trans HG3.out HG5.out⟩
      · have HF : Hid (R = 14) := by show _ = _; rw [HR.out, if_neg]; rw [← HN.out (by rw [HST.out, HOK.out]; simp)]; decide
        clear HN HY HST HOK HNO HPB HM HR HP HQK CO a0 a1 a2 a3
        refine wp_region_grew (by kernel_rfl) (by kernel_rfl) ?_
        repeat (go_big_quiet_step (first | (with_reducible exact calls_every D1) | (with_reducible exact calls_every D2)))
        refine wpQuiet_nil ?_
        intro w5 hw'
        have HG5 := Lib.hid (grew_of hw')
        clear hw' x0 x1 x2 x3
        go_wp2
        go_ret
        exact ⟨ret_i HF.out.symm, grew_trans HG3.out HG5.out⟩
      · have d3 : (q3 == 0) = false := by simpa using hq3
        have HF : Hid (R = 14) := by show _ = _; rw [HR.out, if_neg]; rw [← HN.out (by rw [HST.out, HOK.out]; simp)]; decide
        clear HN HY HST HOK HNO HPB HM HR HP HQK CO a0 a1 a2 a3
        refine wp_region_grew (by kernel_rfl) (by kernel_rfl) ?_
        repeat (go_big_quiet_step (first | (with_reducible exact calls_every D1) | (with_reducible exact calls_every D2)))
        refine wpQuiet_nil ?_
        intro w5 hw'
        have HG5 := Lib.hid (grew_of hw')
        clear hw' x0 x1 x2 x3
        go_wp2
        go_ret
        exact ⟨ret_i HF.out.symm, grew_trans HG3.out HG5.out⟩
      · have d3 : (q3 == 0) = false := by simpa using hq3
        cases j with
        | zero =>
          have HM2 : Hid ((List.range 1).all (stepOK okCa noCa ca0 l) = true) := by show _ = _; have h := HY.out; rw [HST.out, HOK.out] at h; rw [h]; simp [hq3]
          clear HN HY HST HM HPB HNO HP HOK CO HQK HR a0 a1 a2 a3
          refine wp_region_grew (by kernel_rfl) (by kernel_rfl) ?_
          repeat (go_big_quiet_step (first | (with_reducible exact calls_every D1) | (with_reducible exact calls_every D2)))
          refine wpQuiet_nil ?_
          intro w5 hw'
          have HG5 := Lib.hid (grew_of hw')
          clear hw' x0 x1 x2 x3
          go_wp2
          go_roundw
          case rel => exact ⟨1, by go_num, by omega, HM2.out, grew_trans HG3.out HG5.out⟩
          case measure => simp only [intOf]; omega
        | succ i =>
          obtain ⟨e0, e1, e2, e3⟩ := HPB.out (by omega)
          rw [show i + 1 - 1 = i from rfl] at e0 e1 e2 e3
          have HNO2 := Lib.hid (HNO.out (by have := (okCa_iff p).1 (HP.out (by omega)); exact this.1) (HQK.out rfl))
          have HST2 : Hid (st = decide (noCa p < noCa (q1, q2, q3, q4))) := by show _ = _; rw [HST.out, HOK.out]; simp [hq3]
          have q5 : IntKind.i64.wrap (((i + 1 : Nat) : Int) - 1) = (i : Int) := by rw [IntKind.wrap_i64]; omega
          have q6 : (0 : Int) < ((i + 1 : Nat) : Int) := by omega
          have q7 : (i : Int) < (n : Int) := by omega
          have q8 : (0 : Int) ≤ (i : Int) := by omega
          clear HNO HP HST HOK HQK
          generalize noCa p = np at *
          generalize noCa (q1, q2, q3, q4) = nq at *
          obtain ⟨p1, p2, p3, p4⟩ := p
          dsimp only at e0 e1 e2 e3 CO
          have CL := fun w' (g : Grew w3 w') => CO w'
          have z0 := grew_every (w := w3) (S := fun w' => w'.cell? ⟨b, o + i * 4, none⟩ = some (.int .i64 p1)) (fun w' g => (HB3.out w' ⟨b, _, none⟩ g rfl).trans e0)
          have z1 := grew_every (w := w3) (S := fun w' => w'.cell? ⟨b, o + i * 4 + 1, none⟩ = some (.int .i64 p2)) (fun w' g => (HB3.out w' ⟨b, _, none⟩ g rfl).trans e1)
          have z2 := grew_every (w := w3) (S := fun w' => w'.cell? ⟨b, o + i * 4 + 2, none⟩ = some (.int .i64 p3)) (fun w' g => (HB3.out w' ⟨b, _, none⟩ g rfl).trans e2)
          have z3 := grew_every (w := w3) (S := fun w' => w'.cell? ⟨b, o + i * 4 + 3, none⟩ = some (.int .i64 p4)) (fun w' g => (HB3.out w' ⟨b, _, none⟩ g rfl).trans e3)
          clear HPB e0 e1 e2 e3 CO a0 a1 a2 a3
          by_cases hO : O < 0
          · have HM2 := Lib.hid (HY.out.trans (by rw [HST2.out, HM.out, decide_eq_true (HNO2.out.1 hO)]))
            have d1 : ¬ O ≥ 0 := by omega
            clear HN HY HST2 HM HNO2 hO
            refine wp_region_grew (by kernel_rfl) (by kernel_rfl) ?_
            repeat (go_big_quiet_step (first | (with_reducible exact calls_every D1) | (with_reducible exact calls_every D2) | (with_reducible exact calls_every CL)))
            refine wpQuiet_nil ?_
            intro w5 hw'
            have HG5 := Lib.hid (grew_of hw')
            clear hw' x0 x1 x2 x3 z0 z1 z2 z3
            go_wp2
            go_roundw
            case rel => exact ⟨i + 1 + 1, by go_num, by omega, HM2.out, grew_trans HG3.out HG5.out⟩
            case measure => simp only [intOf]; omega
          · have HF : Hid (R = 14) := by show _ = _; rw [HR.out, if_neg]; rw [← HN.out (by rw [HST2.out]; exact decide_eq_false (fun h => hO (HNO2.out.2 h)))]; decide
            have d1 : O ≥ 0 := by omega
            clear HN HY HST2 HM HNO2 hO HR
            refine wp_region_grew (by kernel_rfl) (by kernel_rfl) ?_
            repeat (go_big_quiet_step (first | (with_reducible exact calls_every D1) | (with_reducible exact calls_every D2) | (with_reducible exact calls_every CL)))
            refine wpQuiet_nil ?_
            intro w5 hw'
            have HG5 := Lib.hid (grew_of hw')
            clear hw' x0 x1 x2 x3 z0 z1 z2 z3
            go_wp2
            go_ret
            exact ⟨ret_i HF.out.symm, grew_trans HG3.out HG5.out⟩
    · obtain rfl : j = n := by omega
      have HF : Hid (R = 0) := by show _ = _; rw [HR.out, if_pos HM.out]
      clear HR HM
      go_wp2
      go_ret
      exact ⟨ret_i HF.out.symm, HG.out⟩

set_option maxRecDepth 100000 in
set_option maxHeartbeats 4000000 in
theorem rcalls_any (A : Option Addr) (n c : Nat) (l : List Ca) (w : World) (h : RowE enC4 w A n l) (hn : n ≤ 1000000) :
    Calls Try.prog 10 #[.slice A n c] w fun e w' => e = .returned (.bool (rightCa l)) ∧ Grew w w' := by
  have HI := Lib.hid h
  have HL := Lib.hid h.len
  have HR : Hid (rightCa l = (List.range n).all (stepOK okCa noCa ca0 l)) := by show _ = _; rw [← h.len]; rfl
  generalize rightCa l = R at *
  clear h
  go_enter Try.func10, Try.ntmps10
  go_wp2
  go_loopw [3] (fun v wr => ∃ j : Nat, v = .int .i64 j ∧ j ≤ n ∧ Hid ((List.range j).all (stepOK okCa noCa ca0 l) = true) ∧ Hid (Grew w wr)) (fun v _ => n - (intOf v).toNat)
  case atStart => exact ⟨0, rfl, by omega, rfl, grew_refl _⟩
  case round =>
    obtain ⟨j, rfl, hj, HM, HG⟩ := hrel
    by_cases hlt : j < n
    · obtain ⟨b, o, rfl, hb, hc⟩ := (HI.out.keep HG.out).ca hlt
      have HN := Lib.hid (range_all_no (stepOK okCa noCa ca0 l) j n hlt)
      have HY := Lib.hid (range_all_succ (stepOK okCa noCa ca0 l) j)
      have HST : Hid (stepOK okCa noCa ca0 l j = (okCa (l.getD j ca0) && (decide (j = 0) || decide (noCa (l.getD (j - 1) ca0) < noCa (l.getD j ca0))))) := rfl
      have HP : Hid (0 < j → okCa (l.getD (j - 1) ca0) = true) := fun h0 => steps_ca HM.out (by omega)
      obtain ⟨a0, a1, a2, a3⟩ := hc j hlt
      have HPB : Hid (0 < j → CC4 wr b (o + (j - 1) * 4) (l.getD (j - 1) ca0)) := fun h0 => hc (j - 1) (by omega)
      have HB := Lib.hid hb
      clear hc hb
      have i0 : (0 : Int) ≤ (j : Int) := by omega
      have i1 : (j : Int) < (n : Int) := by omega
      generalize stepOK okCa noCa ca0 l j = st at *
      generalize l.getD j ca0 = x at *
      generalize l.getD (j - 1) ca0 = p at *
      obtain ⟨q1, q2, q3, q4⟩ := x
      have HOK : Hid (okCa (q1, q2, q3, q4) = (wi q1 1 16 && wi q2 0 2 && wi q3 1 4611686018427387904 && wi q4 0 1099511627776)) := rfl
      have HNO : Hid (okCK p.1 p.2.1 = true → okCK q1 q2 = true → (ordC p (q1, q2, q3) < 0 ↔ noCa p < noCa (q1, q2, q3, q4))) := fun h1 h2 => (ordC_no (d := (q1, q2, q3)) h1 h2).1
      have HQK : Hid (okCK q1 q2 = (wi q1 1 16 && wi q2 0 2)) := rfl
      have CO := fun w => rdless_any (p.1, p.2.1, p.2.2.1) (q1, q2, q3) w
      dsimp only [vDe] at a0 a1 a2 a3 CO
      have C1 := fun w => rwho_any q1 w
      have C2 := fun w => rcur_any q2 w
      have C3 := fun w => gwithin_any q3 1 4611686018427387904 w
      have C4 := fun w => gwithin_any q4 0 1099511627776 w
      generalize wi q1 1 16 = R1 at *
      generalize wi q2 0 2 = R2 at *
      generalize wi q3 1 4611686018427387904 = R3 at *
      generalize wi q4 0 1099511627776 = R4 at *
      have HX0 : Hid (OwnC (wr.alloc (.cells #[.int .i64 q1, .int .i64 q2, .int .i64 q3, .int .i64 q4] 32)) wr.heap.size [.int .i64 q1, .int .i64 q2, .int .i64 q3, .int .i64 q4]) := OwnC.new wr [.int .i64 q1, .int .i64 q2, .int .i64 q3, .int .i64 q4] _ _ rfl
      have HG0 : Hid (Grew wr (wr.alloc (.cells #[.int .i64 q1, .int .i64 q2, .int .i64 q3, .int .i64 q4] 32))) := grew_alloc _ _ _
      go_upto_region 5 with (fail)
      generalize (wr.alloc (.cells #[.int .i64 q1, .int .i64 q2, .int .i64 q3, .int .i64 q4] 32)) = w3 at *
      have HB3 : Hid (∀ (w' : World) (q : Addr), Grew w3 w' → q.block = b → w'.cell? q = wr.cell? q) := fun w' q g e => grew_cell (grew_trans HG0.out g) (by rw [e]; exact HB.out)
      generalize wr.heap.size = N at *
      have HG3 := Lib.hid (grew_trans HG.out HG0.out)
      have x0 := grew_every (w := w3) (S := fun w' => w'.cell? ⟨N, 0, none⟩ = some (.int .i64 q1)) (fun w' g => (HX0.out.keep g).at 0 _ rfl)
      have x1 := grew_every (w := w3) (S := fun w' => w'.cell? ⟨N, 1, none⟩ = some (.int .i64 q2)) (fun w' g => (HX0.out.keep g).at 1 _ rfl)
      have x2 := grew_every (w := w3) (S := fun w' => w'.cell? ⟨N, 2, none⟩ = some (.int .i64 q3)) (fun w' g => (HX0.out.keep g).at 2 _ rfl)
      have x3 := grew_every (w := w3) (S := fun w' => w'.cell? ⟨N, 3, none⟩ = some (.int .i64 q4)) (fun w' g => (HX0.out.keep g).at 3 _ rfl)
      have D1 := calls_pure (w := w3) C1
      have D2 := calls_pure (w := w3) C2
      have D3 := calls_pure (w := w3) C3
      have D4 := calls_pure (w := w3) C4
      clear C1 C2 C3 C4
      have H : (R1 = false) ∨ (R1 = true ∧ R2 = false) ∨ (R1 = true ∧ R2 = true ∧ R3 = false) ∨ (R1 = true ∧ R2 = true ∧ R3 = true ∧ R4 = false) ∨ (R1 = true ∧ R2 = true ∧ R3 = true ∧ R4 = true) := by cases R1 <;> cases R2 <;> cases R3 <;> cases R4 <;> simp
      rcases H with rfl | ⟨rfl, rfl⟩ | ⟨rfl, rfl, rfl⟩ | ⟨rfl, rfl, rfl, rfl⟩ | ⟨rfl, rfl, rfl, rfl⟩
      · have HF : Hid (R = false) := by show _ = _; rw [HR.out, ← HN.out (by rw [HST.out, HOK.out]; rfl)]
        clear HN HY HST HOK HNO HPB HM HR HP HQK CO a0 a1 a2 a3
        refine wp_region_grew (by kernel_rfl) (by kernel_rfl) ?_
        repeat (go_big_quiet_step (first | (with_reducible exact calls_every D1)))
        refine wpQuiet_nil ?_
        intro w5 hw'
        have HG5 := Lib.hid (grew_of hw')
        clear hw' x0 x1 x2 x3
        go_wp2
        go_ret
        exact ⟨ret_b HF.out.symm, grew_trans HG3.out HG5.out⟩
      · have HF : Hid (R = false) := by show _ = _; rw [HR.out, ← HN.out (by rw [HST.out, HOK.out]; rfl)]
        clear HN HY HST HOK HNO HPB HM HR HP HQK CO a0 a1 a2 a3
        refine wp_region_grew (by kernel_rfl) (by kernel_rfl) ?_
        repeat (go_big_quiet_step (first | (with_reducible exact calls_every D1) | (with_reducible exact calls_every D2)))
        refine wpQuiet_nil ?_
        intro w5 hw'
        have HG5 := Lib.hid (grew_of hw')
        clear hw' x0 x1 x2 x3
        go_wp2
        go_ret
        exact ⟨ret_b HF.out.symm, grew_trans HG3.out HG5.out⟩
      · have HF : Hid (R = false) := by show _ = _; rw [HR.out, ← HN.out (by rw [HST.out, HOK.out]; rfl)]
        clear HN HY HST HOK HNO HPB HM HR HP HQK CO a0 a1 a2 a3
        refine wp_region_grew (by kernel_rfl) (by kernel_rfl) ?_
        repeat (go_big_quiet_step (first | (with_reducible exact calls_every D1) | (with_reducible exact calls_every D2) | (with_reducible exact calls_every D3)))
        refine wpQuiet_nil ?_
        intro w5 hw'
        have HG5 := Lib.hid (grew_of hw')
        clear hw' x0 x1 x2 x3
        go_wp2
        go_ret
        exact ⟨ret_b HF.out.symm, grew_trans HG3.out HG5.out⟩
      · have HF : Hid (R = false) := by show _ = _; rw [HR.out, ← HN.out (by rw [HST.out, HOK.out]; rfl)]
        clear HN HY HST HOK HNO HPB HM HR HP HQK CO a0 a1 a2 a3
        refine wp_region_grew (by kernel_rfl) (by kernel_rfl) ?_
        repeat (go_big_quiet_step (first | (with_reducible exact calls_every D1) | (with_reducible exact calls_every D2) | (with_reducible exact calls_every D3) | (with_reducible exact calls_every D4)))
        refine wpQuiet_nil ?_
        intro w5 hw'
        have HG5 := Lib.hid (grew_of hw')
        clear hw' x0 x1 x2 x3
        go_wp2
        go_ret
        exact ⟨ret_b HF.out.symm, grew_trans HG3.out HG5.out⟩
      · cases j with
        | zero =>
          have HM2 := Lib.hid (HY.out.trans (by rw [HST.out, HOK.out]))
          clear HN HY HST HM HPB HNO HP HOK CO HQK HR a0 a1 a2 a3
          refine wp_region_grew (by kernel_rfl) (by kernel_rfl) ?_
          repeat (go_big_quiet_step (first | (with_reducible exact calls_every D1) | (with_reducible exact calls_every D2) | (with_reducible exact calls_every D3) | (with_reducible exact calls_every D4)))
          refine wpQuiet_nil ?_
          intro w5 hw'
          have HG5 := Lib.hid (grew_of hw')
          clear hw' x0 x1 x2 x3
          go_wp2
          go_roundw
          case rel => exact ⟨1, by go_num, by omega, HM2.out, grew_trans HG3.out HG5.out⟩
          case measure => simp only [intOf]; omega
        | succ i =>
          obtain ⟨e0, e1, e2, e3⟩ := HPB.out (by omega)
          rw [show i + 1 - 1 = i from rfl] at e0 e1 e2 e3
          have HNO2 := Lib.hid (HNO.out (by have := (okCa_iff p).1 (HP.out (by omega)); exact this.1) (HQK.out))
          have HST2 : Hid (st = decide (noCa p < noCa (q1, q2, q3, q4))) := by show _ = _; rw [HST.out, HOK.out]; simp
          have q5 : IntKind.i64.wrap (((i + 1 : Nat) : Int) - 1) = (i : Int) := by rw [IntKind.wrap_i64]; omega
          have q6 : (0 : Int) < ((i + 1 : Nat) : Int) := by omega
          have q7 : (i : Int) < (n : Int) := by omega
          have q8 : (0 : Int) ≤ (i : Int) := by omega
          clear HNO HP HST HOK HQK
          rw [ordC_lt] at HNO2
          generalize noCa p = np at *
          generalize noCa (q1, q2, q3, q4) = nq at *
          obtain ⟨p1, p2, p3, p4⟩ := p
          dsimp only at e0 e1 e2 e3 CO HNO2
          generalize hO : decide (p1 < q1 ∨ (p1 = q1 ∧ p2 < q2)) = O at CO
          have CL := fun w' (g : Grew w3 w') => CO w'
          have z0 := grew_every (w := w3) (S := fun w' => w'.cell? ⟨b, o + i * 4, none⟩ = some (.int .i64 p1)) (fun w' g => (HB3.out w' ⟨b, _, none⟩ g rfl).trans e0)
          have z1 := grew_every (w := w3) (S := fun w' => w'.cell? ⟨b, o + i * 4 + 1, none⟩ = some (.int .i64 p2)) (fun w' g => (HB3.out w' ⟨b, _, none⟩ g rfl).trans e1)
          have z2 := grew_every (w := w3) (S := fun w' => w'.cell? ⟨b, o + i * 4 + 2, none⟩ = some (.int .i64 p3)) (fun w' g => (HB3.out w' ⟨b, _, none⟩ g rfl).trans e2)
          have z3 := grew_every (w := w3) (S := fun w' => w'.cell? ⟨b, o + i * 4 + 3, none⟩ = some (.int .i64 p4)) (fun w' g => (HB3.out w' ⟨b, _, none⟩ g rfl).trans e3)
          clear HPB e0 e1 e2 e3 CO a0 a1 a2 a3
          cases O
          case true =>
            have HM2 := Lib.hid (HY.out.trans (by rw [HST2.out, HM.out, decide_eq_true (HNO2.out.1 (of_decide_eq_true hO))]))
            clear HN HY HST2 HM HNO2 hO
            refine wp_region_grew (by kernel_rfl) (by kernel_rfl) ?_
            repeat (go_big_quiet_step (first | (with_reducible exact calls_every D1) | (with_reducible exact calls_every D2) | (with_reducible exact calls_every D3) | (with_reducible exact calls_every D4) | (with_reducible exact calls_every CL)))
            refine wpQuiet_nil ?_
            intro w5 hw'
            have HG5 := Lib.hid (grew_of hw')
            clear hw' x0 x1 x2 x3 z0 z1 z2 z3
            go_wp2
            go_roundw
            case rel => exact ⟨i + 1 + 1, by go_num, by omega, HM2.out, grew_trans HG3.out HG5.out⟩
            case measure => simp only [intOf]; omega
          case false =>
            have HF : Hid (R = false) := by show _ = _; rw [HR.out, ← HN.out (by rw [HST2.out]; exact decide_eq_false (fun h => of_decide_eq_false hO (HNO2.out.2 h)))]
            clear HN HY HST2 HM HNO2 hO HR
            refine wp_region_grew (by kernel_rfl) (by kernel_rfl) ?_
            repeat (go_big_quiet_step (first | (with_reducible exact calls_every D1) | (with_reducible exact calls_every D2) | (with_reducible exact calls_every D3) | (with_reducible exact calls_every D4) | (with_reducible exact calls_every CL)))
            refine wpQuiet_nil ?_
            intro w5 hw'
            have HG5 := Lib.hid (grew_of hw')
            clear hw' x0 x1 x2 x3 z0 z1 z2 z3
            go_wp2
            go_ret
            exact ⟨ret_b HF.out.symm, grew_trans HG3.out HG5.out⟩
    · obtain rfl : j = n := by omega
      have HF : Hid (R = true) := by show _ = _; rw [HR.out, HM.out]
      clear HR HM
      go_wp2
      go_ret
      exact ⟨ret_b HF.out.symm, HG.out⟩
end Go.Proofs.Ytaipgcckafbgeaa.NumK
namespace Go.Proofs.Ytaipgcckafbgeaa.NumK
open Go.RowKit
set_option linter.unusedVariables false

theorem findC_at {w c : Int} : ∀ (l : List Ca) (j : Nat), j < l.length → (∀ i, i < j → isC w c (l.getD i ca0) = false) → isC w c (l.getD j ca0) = true → findC l w c = some (l.getD j ca0)
  | [], j, hj, _, _ => absurd hj (Nat.not_lt_zero _)
  | x :: l, 0, hj, _, h => by
    have h : isC w c x = true := h
    unfold findC
    rw [List.find?_cons, h]; rfl
  | x :: l, j + 1, hj, hb, h => by
    have h0 : isC w c x = false := hb 0 (by omega)
    have := findC_at l j (by simpa using hj) (fun i hi => hb (i + 1) (by omega)) h
    unfold findC at this ⊢
    rw [List.find?_cons, h0]; exact this
theorem findC_none {w c : Int} {l : List Ca} (h : ∀ i, i < l.length → isC w c (l.getD i ca0) = false) : findC l w c = none := by
  unfold findC
  rw [List.find?_eq_none]
  intro x hx
  obtain ⟨i, hi, rfl⟩ := List.getElem_of_mem hx
  have := h i hi
  rw [getD_at l ca0 i hi] at this
  rw [this]; decide
theorem ofC_at {w c : Int} (l : List Ca) (j : Nat) (h1 : j < l.length) (h2 : ∀ i, i < j → isC w c (l.getD i ca0) = false) (h3 : isC w c (l.getD j ca0) = true) : ofC l w c = (l.getD j ca0).2.2.1 := by
  unfold ofC; rw [findC_at l j h1 h2 h3]; rfl
theorem ofC_none {w c : Int} {l : List Ca} (h : ∀ i, i < l.length → isC w c (l.getD i ca0) = false) : ofC l w c = 0 := by
  unfold ofC; rw [findC_none h]; rfl
theorem isC_no2 {w c : Int} {x : Ca} (h : ¬ (x.1 = w ∧ x.2.1 = c)) : isC w c x = false := by rw [← Bool.not_eq_true, isC_iff]; exact h
/-- What is told as a call's place. -/
def PlaceC (l : List Ca) (w c : Int) (r : Int) : Prop := (r = -1 ∧ findC l w c = none) ∨ ∃ i : Nat, r = i ∧ i < l.length ∧ findC l w c = some (l.getD i ca0)

/-- The place itself. -/
def placeC (w c : Int) : List Ca → Int
  | [] => -1
  | x :: l => if isC w c x = true then 0 else (if placeC w c l < 0 then -1 else placeC w c l + 1)
theorem placeC_at {w c : Int} : ∀ (l : List Ca) (j : Nat), j < l.length → (∀ i, i < j → isC w c (l.getD i ca0) = false) → isC w c (l.getD j ca0) = true → placeC w c l = j
  | [], j, hj, _, _ => absurd hj (Nat.not_lt_zero _)
  | x :: l, 0, hj, _, h => by
    have h : isC w c x = true := h
    unfold placeC
    rw [if_pos h]; rfl
  | x :: l, j + 1, hj, hb, h => by
    have h0 : isC w c x = false := hb 0 (by omega)
    have := placeC_at l j (by simpa using hj) (fun i hi => hb (i + 1) (by omega)) h
    unfold placeC
    rw [if_neg (by rw [h0]; decide), this, if_neg (by omega)]
    omega
theorem placeC_none {w c : Int} : ∀ {l : List Ca}, (∀ i, i < l.length → isC w c (l.getD i ca0) = false) → placeC w c l = -1
  | [], _ => rfl
  | x :: l, h => by
    have h0 : isC w c x = false := h 0 (by simp)
    have := placeC_none (l := l) (fun i hi => h (i + 1) (by simpa using hi))
    unfold placeC
    rw [if_neg (by rw [h0]; decide), this, if_pos (by decide)]
theorem placeC_P (w c : Int) : ∀ l : List Ca, PlaceC l w c (placeC w c l)
  | [] => Or.inl ⟨rfl, rfl⟩
  | x :: l => by
    unfold placeC
    by_cases h : isC w c x = true
    · rw [if_pos h]; exact Or.inr ⟨0, rfl, by simp, by unfold findC; rw [List.find?_cons, h]; rfl⟩
    · rw [if_neg h]
      have hf : findC (x :: l) w c = findC l w c := by
        unfold findC
        rw [List.find?_cons]
        have h0 : isC w c x = false := by simpa using h
        rw [h0]
      rcases placeC_P w c l with ⟨h1, h2⟩ | ⟨i, h1, h2, h3⟩
      · rw [h1, if_pos (by decide)]; exact Or.inl ⟨rfl, by rw [hf]; exact h2⟩
      · rw [h1, if_neg (by omega)]; exact Or.inr ⟨i + 1, by omega, by simpa using h2, by rw [hf]; exact h3⟩

set_option maxRecDepth 100000 in
set_option maxHeartbeats 2000000 in
theorem clof_any (A : Option Addr) (n c : Nat) (l : List Ca) (w1 a1 : Int) (w : World) (h : RowE enC4 w A n l) (hn : n ≤ 1000000) :
    Calls Try.prog 12 #[.int .i64 w1, .int .i64 a1, .slice A n c] w fun e w' => e = .returned (.int .i64 (ofC l w1 a1)) ∧ Grew w w' := by
  have HI := Lib.hid h
  have HL := Lib.hid h.len
  have HY := Lib.hid (@ofC_at w1 a1 l)
  have HZ := Lib.hid (@ofC_none w1 a1 l)
  generalize ofC l w1 a1 = R at *
  clear h
  go_enter Try.func12, Try.ntmps12
  go_wp2
  go_loopw [11] (fun v wr => ∃ j : Nat, v = .int .i64 j ∧ j ≤ n ∧ Hid (∀ i, i < j → isC w1 a1 (l.getD i ca0) = false) ∧ Hid (Grew w wr)) (fun v _ => n - (intOf v).toNat)
  case atStart => exact ⟨0, rfl, by omega, (by intro i hi; omega), grew_refl _⟩
  case round =>
    obtain ⟨j, rfl, hj, HM, HG⟩ := hrel
    by_cases hlt : j < n
    · obtain ⟨b, o, rfl, hb, hc⟩ := (HI.out.keep HG.out).ca hlt
      obtain ⟨b0, b1, b2, b3⟩ := hc j hlt
      clear hc hb
      have HY1 := Lib.hid (HY.out j (by rw [HL.out]; exact hlt) HM.out)
      have HM1 : Hid (isC w1 a1 (l.getD j ca0) = false → ∀ i, i < j + 1 → isC w1 a1 (l.getD i ca0) = false) := fun h i hi => by
        rcases Nat.lt_or_ge i j with h1 | h1
        · exact HM.out i h1
        · obtain rfl : i = j := by omega
          exact h
      have i0 : (0 : Int) ≤ (j : Int) := by omega
      have i1 : (j : Int) < (n : Int) := by omega
      generalize l.getD j ca0 = x at *
      obtain ⟨q1, q2, q3, q4⟩ := x
      dsimp only at b0 b1 b2 b3 HY1
      by_cases h1 : q1 = w1 ∧ q2 = a1
      · obtain ⟨rfl, rfl⟩ := h1
        have HF := Lib.hid (HY1.out ((isC_iff _ _ _).2 ⟨rfl, rfl⟩))
        clear HY HZ HY1 HM1 HM
        go_wp2
        go_ret
        exact ⟨ret_i HF.out.symm, grew_trans HG.out (grew_alloc _ _ _)⟩
      · have HM2 := Lib.hid (HM1.out (isC_no2 h1))
        clear HY HZ HY1 HM1 HM
        by_cases h2 : q1 = w1
        · subst h2
          have d1 : (q2 == a1) = false := by rw [beq_eq_false_iff_ne]; exact fun h => h1 ⟨rfl, h⟩
          clear h1
          go_wp2
          go_roundw
          case rel => exact ⟨j + 1, by go_num, by omega, HM2.out, grew_trans HG.out (grew_alloc _ _ _)⟩
          case measure => simp only [intOf]; omega
        · have d1 : (q1 == w1) = false := by rw [beq_eq_false_iff_ne]; exact h2
          clear h1 h2
          go_wp2
          go_roundw
          case rel => exact ⟨j + 1, by go_num, by omega, HM2.out, grew_trans HG.out (grew_alloc _ _ _)⟩
          case measure => simp only [intOf]; omega
    · obtain rfl : j = n := by omega
      have HF := Lib.hid (HZ.out (fun i hi => HM.out i (by rw [HL.out] at hi; exact hi)))
      clear HY HZ HM
      go_wp2
      go_ret
      exact ⟨ret_i HF.out.symm, HG.out⟩

set_option maxRecDepth 100000 in
set_option maxHeartbeats 2000000 in
theorem rcalledV_any (A : Option Addr) (n c : Nat) (l : List Ca) (w1 a1 : Int) (w : World) (h : RowE enC4 w A n l) (hn : n ≤ 1000000) :
    Calls Try.prog 11 #[.int .i64 w1, .int .i64 a1, .slice A n c] w fun e w' => e = .returned (.int .i64 (placeC w1 a1 l)) ∧ Grew w w' := by
  have HI := Lib.hid h
  have HL := Lib.hid h.len
  have HY := Lib.hid (@placeC_at w1 a1 l)
  have HZ := Lib.hid (@placeC_none w1 a1 l)
  generalize placeC w1 a1 l = R at *
  clear h
  go_enter Try.func11, Try.ntmps11
  go_wp2
  go_loopw [7] (fun v wr => ∃ j : Nat, v = .int .i64 j ∧ j ≤ n ∧ Hid (∀ i, i < j → isC w1 a1 (l.getD i ca0) = false) ∧ Hid (Grew w wr)) (fun v _ => n - (intOf v).toNat)
  case atStart => exact ⟨0, rfl, by omega, (by intro i hi; omega), grew_refl _⟩
  case round =>
    obtain ⟨j, rfl, hj, HM, HG⟩ := hrel
    by_cases hlt : j < n
    · obtain ⟨b, o, rfl, hb, hc⟩ := (HI.out.keep HG.out).ca hlt
      obtain ⟨b0, b1, b2, b3⟩ := hc j hlt
      clear hc hb
      have HY1 := Lib.hid (HY.out j (by rw [HL.out]; exact hlt) HM.out)
      have HM1 : Hid (isC w1 a1 (l.getD j ca0) = false → ∀ i, i < j + 1 → isC w1 a1 (l.getD i ca0) = false) := fun h i hi => by
        rcases Nat.lt_or_ge i j with h1 | h1
        · exact HM.out i h1
        · obtain rfl : i = j := by omega
          exact h
      have i0 : (0 : Int) ≤ (j : Int) := by omega
      have i1 : (j : Int) < (n : Int) := by omega
      generalize l.getD j ca0 = x at *
      obtain ⟨q1, q2, q3, q4⟩ := x
      dsimp only at b0 b1 b2 b3 HY1
      by_cases h1 : q1 = w1 ∧ q2 = a1
      · obtain ⟨rfl, rfl⟩ := h1
        have HF := Lib.hid (HY1.out ((isC_iff _ _ _).2 ⟨rfl, rfl⟩))
        clear HY HZ HY1 HM1 HM
        go_wp2
        go_ret
        exact ⟨ret_i HF.out.symm, HG.out⟩
      · have HM2 := Lib.hid (HM1.out (isC_no2 h1))
        clear HY HZ HY1 HM1 HM
        by_cases h2 : q1 = w1
        · subst h2
          have d1 : (q2 == a1) = false := by rw [beq_eq_false_iff_ne]; exact fun h => h1 ⟨rfl, h⟩
          clear h1
          go_wp2
          go_roundw
          case rel => exact ⟨j + 1, by go_num, by omega, HM2.out, HG.out⟩
          case measure => simp only [intOf]; omega
        · have d1 : (q1 == w1) = false := by rw [beq_eq_false_iff_ne]; exact h2
          clear h1 h2
          go_wp2
          go_roundw
          case rel => exact ⟨j + 1, by go_num, by omega, HM2.out, HG.out⟩
          case measure => simp only [intOf]; omega
    · obtain rfl : j = n := by omega
      have HF := Lib.hid (HZ.out (fun i hi => HM.out i (by rw [HL.out] at hi; exact hi)))
      clear HY HZ HM
      go_wp2
      go_ret
      exact ⟨ret_i HF.out.symm, HG.out⟩

theorem rcalled_any (A : Option Addr) (n c : Nat) (l : List Ca) (w1 a1 : Int) (w : World) (h : RowE enC4 w A n l) (hn : n ≤ 1000000) :
    Calls Try.prog 11 #[.int .i64 w1, .int .i64 a1, .slice A n c] w fun e w' => ∃ r, e = .returned (.int .i64 r) ∧ PlaceC l w1 a1 r ∧ Grew w w' :=
  (rcalledV_any A n c l w1 a1 w h hn).mono (by rintro e w1 ⟨rfl, hg⟩; exact ⟨_, rfl, placeC_P _ _ _, hg⟩)

theorem twinCas_any (A : Option Addr) (n c : Nat) (l : List Ca) (w : World) (h : RowE enC4 w A n l) (hc : A = none → c = 0) (hn : n ≤ 1000000) :
    Calls Try.prog 8 #[.slice A n c] w fun e w' => ∃ B d, e = .returned (.slice B n d) ∧ OwnE enC4 w' w.heap.size 32 (.slice B n d) l ∧ Grew w w' := by
  have HI := Lib.hid h
  have HL := Lib.hid h.len
  clear h
  go_enter Try.func8, Try.ntmps8
  go_wp2_with (at_builtin; refine (wpList_append_E rfl _ _ 22 32 (vCa ca0) 32 rfl Try.underlying22 info_ca rfl w.heap.size _ [] rfl (OwnE.nil enC4 _ _ _) A n c l rfl hc HI.out (by simp; unfold maxLen; omega) (by simp; omega) (Nat.le_refl _) ?_); intro v' w1 ho hb; rw [List.nil_append] at ho; obtain ⟨B1, d1, rfl, -⟩ := ho.form; have HO := Lib.hid ho; have HG := Lib.hid hb; clear ho hb)
  have e1 := HL.out
  subst e1
  go_ret
  exact ⟨B1, d1, rfl, HO.out, HG.out⟩

theorem spoilCas_any (A : Option Addr) (n c base : Nat) (w : World) (hA : n = 0 ∨ ∃ g, A = some ⟨g, 0, none⟩ ∧ base ≤ g ∧ Slab w g (n * 4)) (hn : n ≤ 1000000) :
    Calls Try.prog 16 #[.slice A n c] w fun e w' => e = .returned (.tuple #[]) ∧ Below base w w' ∧ ∀ g N, Slab w g N → Slab w' g N := by
  have HA := Lib.hid hA
  clear hA
  go_enter Try.func16, Try.ntmps16
  go_wp2
  go_loopw [2] (fun vi wr => ∃ k : Nat, vi = .int .i64 k ∧ k ≤ n ∧ Hid (∀ g, A = some ⟨g, 0, none⟩ → 0 < n → Slab wr g (n * 4)) ∧ Hid (Below base w wr) ∧ Hid (∀ g N, Slab w g N → Slab wr g N)) (fun vi _ => n - (intOf vi).toNat)
  case atStart =>
    refine ⟨0, rfl, Nat.zero_le _, fun g hg h0 => ?_, Below.refl _ _, fun _ _ h => h⟩
    rcases HA.out with h | ⟨g', e, _, hs⟩
    · omega
    · rw [hg] at e; cases e; exact hs
  case round =>
    obtain ⟨k, rfl, hk, HS, HB, HSL⟩ := hrel
    by_cases hlt : k < n
    · obtain ⟨g, rfl, hb, _⟩ : ∃ g, A = some ⟨g, 0, none⟩ ∧ base ≤ g ∧ Slab w g (n * 4) := by
        rcases HA.out with h | h
        · omega
        · exact h
      have HS2 := Lib.hid (HS.out g rfl (by omega))
      obtain ⟨⟨x, a1⟩, a2⟩ := HS2.out.2 (k * 4) (by omega)
      have a3 : (k : Int) < (n : Int) := by omega
      have HB2 : Hid (Below base w (wr.setCell ⟨g, k * 4, none⟩ (.int .i64 (-77)))) := Below.setCell HB.out hb _
      have HS3 := Lib.hid (HS2.out.set g (k * 4) (.int .i64 (-77)))
      have HSL2 : Hid (∀ g' N, Slab w g' N → Slab (wr.setCell ⟨g, k * 4, none⟩ (.int .i64 (-77))) g' N) := fun g' N h => (HSL.out g' N h).set g (k * 4) (.int .i64 (-77))
      go_wp2
      go_roundw
      case rel => exact ⟨k + 1, by go_num, by omega, fun g' hg' _ => by cases hg'; exact HS3.out, HB2, HSL2⟩
      case measure => simp only [intOf]; omega
    · go_wp2
      go_end0
      exact ⟨rfl, HB.out, HSL.out⟩
end Go.Proofs.Ytaipgcckafbgeaa.NumK
namespace Go.Proofs.Ytaipgcckafbgeaa.NumK
open Go.RowKit
set_option linter.unusedVariables false

theorem late_step (l : List Ca) (now : Int) (j : Nat) (h : j < l.length) : lateL (l.take (j + 1)) now = lateL (l.take j) now ++ (if (l.getD j ca0).2.2.2 ≤ now then [l.getD j ca0] else []) := by
  unfold lateL
  rw [List.take_succ_eq_append_getElem h, List.filter_append, getD_at l ca0 j h]
  congr 1
  rw [List.filter_cons, List.filter_nil]
  by_cases hc : l[j].2.2.2 ≤ now
  · rw [if_pos (by simpa using hc), if_pos hc]
  · rw [if_neg (by simpa using hc), if_neg hc]
theorem left_step (l : List Ca) (now : Int) (j : Nat) (h : j < l.length) : leftL (l.take (j + 1)) now = leftL (l.take j) now ++ (if (l.getD j ca0).2.2.2 ≤ now then [] else [l.getD j ca0]) := by
  unfold leftL
  rw [List.take_succ_eq_append_getElem h, List.filter_append, getD_at l ca0 j h]
  congr 1
  rw [List.filter_cons, List.filter_nil]
  by_cases hc : l[j].2.2.2 ≤ now
  · rw [if_neg (by simpa using hc), if_pos hc]
  · rw [if_pos (by simpa using hc), if_neg hc]
theorem late_len (l : List Ca) (now : Int) (j : Nat) : (lateL (l.take j) now).length ≤ j ∧ (leftL (l.take j) now).length ≤ j := by
  unfold lateL leftL
  have h1 := List.length_filter_le (fun x : Ca => decide (x.2.2.2 ≤ now)) (l.take j)
  have h2 := List.length_filter_le (fun x : Ca => !decide (x.2.2.2 ≤ now)) (l.take j)
  have h3 := List.length_take_le j l
  omega
def inW (ws : List Int) (m : Int) : Bool := ws.any fun w => decide (w = m)
theorem contains_inW (ws : List Int) (m : Int) : ws.contains m = inW ws m := by
  rw [Bool.eq_iff_iff, List.contains_iff_mem]
  unfold inW
  rw [List.any_eq_true]
  constructor
  · intro h; exact ⟨m, h, by simp⟩
  · rintro ⟨x, hx, he⟩; rw [decide_eq_true_eq] at he; subst he; exact hx
theorem inW_succ (ws : List Int) (m : Int) (k : Nat) (h : k < ws.length) : inW (ws.take (k + 1)) m = (inW (ws.take k) m || decide (ws.getD k 0 = m)) := by
  unfold inW
  rw [List.take_succ_eq_append_getElem h, List.any_append, getD_at ws 0 k h]
  simp
theorem without_step (l : List Ca) (ws : List Int) (j : Nat) (h : j < l.length) : withoutL (l.take (j + 1)) ws = withoutL (l.take j) ws ++ (if inW ws (l.getD j ca0).1 = true then [] else [l.getD j ca0]) := by
  unfold withoutL
  rw [List.take_succ_eq_append_getElem h, List.filter_append, getD_at l ca0 j h]
  congr 1
  rw [List.filter_cons, List.filter_nil]
  show (if (!inW ws l[j].1) = true then _ else _) = _
  cases inW ws l[j].1 <;> rfl
theorem without_len (l : List Ca) (ws : List Int) (j : Nat) : (withoutL (l.take j) ws).length ≤ j := by
  unfold withoutL
  have h1 := List.length_filter_le (fun x : Ca => !(ws.any fun w => decide (w = x.1))) (l.take j)
  have h3 := List.length_take_le j l
  omega
def LatePost (l : List Ca) (now : Int) (w : World) (e : Ending) (w' : World) : Prop := ∃ va vb, e = .returned (.tuple #[va, vb]) ∧ Two enC4 enC4 w' w.heap.size 32 32 va vb (lateL l now) (leftL l now) ∧ Grew w w'

set_option maxRecDepth 100000 in
set_option maxHeartbeats 2000000 in
theorem cllate_any (A : Option Addr) (n c : Nat) (l : List Ca) (now : Int) (w : World) (h : RowE enC4 w A n l) (hn : n ≤ 1000000) :
    Calls Try.prog 19 #[.int .i64 now, .slice A n c] w (LatePost l now w) := by
  have HI := Lib.hid h
  have HL := Lib.hid h.len
  have HOK : Hid (∀ va vb w', Two enC4 enC4 w' w.heap.size 32 32 va vb (lateL l now) (leftL l now) → Grew w w' → LatePost l now w (.returned (.tuple #[va, vb])) w') := fun va vb w' ht g => ⟨va, vb, rfl, ht, g⟩
  generalize LatePost l now w = Q at *
  clear h
  go_enter Try.func19, Try.ntmps19
  go_wp2
  go_loopw [4, 5, 10] (fun v4 v5 v10 wr => ∃ j : Nat, v10 = .int .i64 j ∧ j ≤ n ∧ Hid (Two enC4 enC4 wr w.heap.size 32 32 v4 v5 (lateL (l.take j) now) (leftL (l.take j) now)) ∧ Hid (Grew w wr)) (fun _ _ v10 _ => n - (intOf v10).toNat)
  case atStart => exact ⟨0, rfl, by omega, Two.nil _ _ _ _ _ _, grew_refl _⟩
  case round =>
    obtain ⟨j, rfl, hj, HT, HG⟩ := hrel
    by_cases hlt : j < n
    · obtain ⟨b, o, rfl, hb, hc⟩ := (HI.out.keep HG.out).ca hlt
      obtain ⟨a0, a1, a2, a3⟩ := hc j hlt
      have HS1 := Lib.hid (late_step l now j (by rw [HL.out]; exact hlt))
      have HS2 := Lib.hid (left_step l now j (by rw [HL.out]; exact hlt))
      have HLL := Lib.hid (late_len l now j)
      clear hc hb
      have i0 : (0 : Int) ≤ (j : Int) := by omega
      have i1 : (j : Int) < (n : Int) := by omega
      generalize l.getD j ca0 = x at *
      obtain ⟨q1, q2, q3, q4⟩ := x
      dsimp only at a0 a1 a2 a3
      have HX0 : Hid (OwnC (wr.alloc (.cells #[.int .i64 q1, .int .i64 q2, .int .i64 q3, .int .i64 q4] 32)) wr.heap.size [.int .i64 q1, .int .i64 q2, .int .i64 q3, .int .i64 q4]) := OwnC.new wr [.int .i64 q1, .int .i64 q2, .int .i64 q3, .int .i64 q4] _ _ rfl
      have HT0 := Lib.hid (HT.out.keep (grew_alloc wr #[.int .i64 q1, .int .i64 q2, .int .i64 q3, .int .i64 q4] 32))
      have HG0 := Lib.hid (grew_trans HG.out (grew_alloc wr #[.int .i64 q1, .int .i64 q2, .int .i64 q3, .int .i64 q4] 32))
      go_upto_region 4 with (fail)
      generalize (wr.alloc (.cells #[.int .i64 q1, .int .i64 q2, .int .i64 q3, .int .i64 q4] 32)) = w1 at *
      generalize wr.heap.size = N at *
      have x0 := HX0.out.at 0 _ rfl; have x1 := HX0.out.at 1 _ rfl; have x2 := HX0.out.at 2 _ rfl; have x3 := HX0.out.at 3 _ rfl
      clear HT HG HX0 a0 a1 a2 a3
      by_cases h1 : q4 ≤ now
      · have HA1 : Hid (lateL (l.take (j + 1)) now = lateL (l.take j) now ++ [(q1, q2, q3, q4)]) := by show _ = _; rw [HS1.out]; rw [if_pos h1]
        have HA2 : Hid (leftL (l.take (j + 1)) now = leftL (l.take j) now) := by show _ = _; rw [HS2.out]; rw [if_pos h1]; rw [List.append_nil]
        clear HS1 HS2
        go_wp2_with (at_builtin; refine (wpList_two (E := enC4) (F := enC4) (s := 32) (t := 32) (base := w.heap.size) rfl _ _ 22 (vCa ca0) 32 rfl Try.underlying22 info_ca rfl (HT0.out.keep (grew_alloc w1 _ _)) rfl _ (q1, q2, q3, q4) rfl (RowE.one1 enC4 w1 (q1, q2, q3, q4) _ _ _ rfl rfl) (by have := HLL.out; unfold maxLen; omega) (by have := HLL.out; omega) (Nat.le_trans HG0.out.size (by simp)) ?_); intro v2 w2 ht hb; have HT2 := Lib.hid ht; have HG2 : Hid (Grew w w2) := Below.trans (grew_trans HG0.out (grew_alloc _ _ _)) hb; clear ht hb)
        go_roundw
        case rel => exact ⟨j + 1, by go_num, by omega, by rw [HA1.out, HA2.out]; exact HT2.out, HG2.out⟩
        case measure => simp only [intOf]; omega
      · have HA1 : Hid (lateL (l.take (j + 1)) now = lateL (l.take j) now) := by show _ = _; rw [HS1.out]; rw [if_neg h1]; rw [List.append_nil]
        have HA2 : Hid (leftL (l.take (j + 1)) now = leftL (l.take j) now ++ [(q1, q2, q3, q4)]) := by show _ = _; rw [HS2.out]; rw [if_neg h1]
        clear HS1 HS2
        go_wp2_with (at_builtin; refine (wpList_two (E := enC4) (F := enC4) (s := 32) (t := 32) (base := w.heap.size) rfl _ _ 22 (vCa ca0) 32 rfl Try.underlying22 info_ca rfl (HT0.out.swap.keep (grew_alloc w1 _ _)) rfl _ (q1, q2, q3, q4) rfl (RowE.one1 enC4 w1 (q1, q2, q3, q4) _ _ _ rfl rfl) (by have := HLL.out; unfold maxLen; omega) (by have := HLL.out; omega) (Nat.le_trans HG0.out.size (by simp)) ?_); intro v2 w2 ht hb; have HT2 := Lib.hid ht.swap; have HG2 : Hid (Grew w w2) := Below.trans (grew_trans HG0.out (grew_alloc _ _ _)) hb; clear ht hb)
        go_roundw
        case rel => exact ⟨j + 1, by go_num, by omega, by rw [HA1.out, HA2.out]; exact HT2.out, HG2.out⟩
        case measure => simp only [intOf]; omega
    · obtain rfl : j = n := by omega
      have HF := Lib.hid (HOK.out u4 u5 wr (by have h := HT.out; rw [List.take_of_length_le (by rw [HL.out]; exact Nat.le_refl _)] at h; exact h) HG.out)
      clear HOK HT HG
      go_wp2
      exact HF.out

set_option maxRecDepth 100000 in
set_option maxHeartbeats 2000000 in
theorem rlate_any (A : Option Addr) (n c : Nat) (l : List Ca) (now : Int) (w : World) (h : RowE enC4 w A n l) (hn : n ≤ 1000000) :
    Calls Try.prog 20 #[.int .i64 now, .slice A n c] w (LatePost l now w) := by
  have HI := Lib.hid h
  have HL := Lib.hid h.len
  have HOK : Hid (∀ va vb w', Two enC4 enC4 w' w.heap.size 32 32 va vb (lateL l now) (leftL l now) → Grew w w' → LatePost l now w (.returned (.tuple #[va, vb])) w') := fun va vb w' ht g => ⟨va, vb, rfl, ht, g⟩
  generalize LatePost l now w = Q at *
  clear h
  go_enter Try.func20, Try.ntmps20
  go_wp2
  go_loopw [6, 7, 8] (fun v4 v5 v10 wr => ∃ j : Nat, v10 = .int .i64 j ∧ j ≤ n ∧ Hid (Two enC4 enC4 wr w.heap.size 32 32 v4 v5 (lateL (l.take j) now) (leftL (l.take j) now)) ∧ Hid (Grew w wr)) (fun _ _ v10 _ => n - (intOf v10).toNat)
  case atStart => exact ⟨0, rfl, by omega, Two.nil _ _ _ _ _ _, grew_refl _⟩
  case round =>
    obtain ⟨j, rfl, hj, HT, HG⟩ := hrel
    by_cases hlt : j < n
    · obtain ⟨b, o, rfl, hb, hc⟩ := (HI.out.keep HG.out).ca hlt
      obtain ⟨a0, a1, a2, a3⟩ := hc j hlt
      have HS1 := Lib.hid (late_step l now j (by rw [HL.out]; exact hlt))
      have HS2 := Lib.hid (left_step l now j (by rw [HL.out]; exact hlt))
      have HLL := Lib.hid (late_len l now j)
      clear hc hb
      have i0 : (0 : Int) ≤ (j : Int) := by omega
      have i1 : (j : Int) < (n : Int) := by omega
      generalize l.getD j ca0 = x at *
      obtain ⟨q1, q2, q3, q4⟩ := x
      dsimp only at a0 a1 a2 a3
      by_cases h1 : q4 ≤ now
      · have HA1 : Hid (lateL (l.take (j + 1)) now = lateL (l.take j) now ++ [(q1, q2, q3, q4)]) := by show _ = _; rw [HS1.out]; rw [if_pos h1]
        have HA2 : Hid (leftL (l.take (j + 1)) now = leftL (l.take j) now) := by show _ = _; rw [HS2.out]; rw [if_pos h1]; rw [List.append_nil]
        clear HS1 HS2
        go_wp2_with (at_builtin; refine (wpList_two (E := enC4) (F := enC4) (s := 32) (t := 32) (base := w.heap.size) rfl _ _ 22 (vCa ca0) 32 rfl Try.underlying22 info_ca rfl (HT.out.keep (grew_alloc wr _ _)) rfl _ (q1, q2, q3, q4) rfl (RowE.one1 enC4 wr (q1, q2, q3, q4) _ _ _ rfl rfl) (by have := HLL.out; unfold maxLen; omega) (by have := HLL.out; omega) (Nat.le_trans HG.out.size (by simp)) ?_); intro v2 w2 ht hb; have HT2 := Lib.hid ht; have HG2 : Hid (Grew w w2) := Below.trans (grew_trans HG.out (grew_alloc _ _ _)) hb; clear ht hb)
        go_roundw
        case rel => exact ⟨j + 1, by go_num, by omega, by rw [HA1.out, HA2.out]; exact HT2.out, HG2.out⟩
        case measure => simp only [intOf]; omega
      · have HA1 : Hid (lateL (l.take (j + 1)) now = lateL (l.take j) now) := by show _ = _; rw [HS1.out]; rw [if_neg h1]; rw [List.append_nil]
        have HA2 : Hid (leftL (l.take (j + 1)) now = leftL (l.take j) now ++ [(q1, q2, q3, q4)]) := by show _ = _; rw [HS2.out]; rw [if_neg h1]
        clear HS1 HS2
        go_wp2_with (at_builtin; refine (wpList_two (E := enC4) (F := enC4) (s := 32) (t := 32) (base := w.heap.size) rfl _ _ 22 (vCa ca0) 32 rfl Try.underlying22 info_ca rfl (HT.out.swap.keep (grew_alloc wr _ _)) rfl _ (q1, q2, q3, q4) rfl (RowE.one1 enC4 wr (q1, q2, q3, q4) _ _ _ rfl rfl) (by have := HLL.out; unfold maxLen; omega) (by have := HLL.out; omega) (Nat.le_trans HG.out.size (by simp)) ?_); intro v2 w2 ht hb; have HT2 := Lib.hid ht.swap; have HG2 : Hid (Grew w w2) := Below.trans (grew_trans HG.out (grew_alloc _ _ _)) hb; clear ht hb)
        go_roundw
        case rel => exact ⟨j + 1, by go_num, by omega, by rw [HA1.out, HA2.out]; exact HT2.out, HG2.out⟩
        case measure => simp only [intOf]; omega
    · obtain rfl : j = n := by omega
      have HF := Lib.hid (HOK.out u6 u7 wr (by have h := HT.out; rw [List.take_of_length_le (by rw [HL.out]; exact Nat.le_refl _)] at h; exact h) HG.out)
      clear HOK HT HG
      go_wp2
      exact HF.out

set_option maxRecDepth 100000 in
set_option maxHeartbeats 2000000 in
theorem clwithout_any (A B : Option Addr) (n c m d : Nat) (l : List Ca) (ws : List Int) (w : World) (h : RowE enC4 w A n l) (h2 : Ints w B m ws) (hn : n ≤ 1000000) (hm : m ≤ 1000000) :
    Calls Try.prog 21 #[.slice A n c, .slice B m d] w fun e w' => ∃ v, e = .returned v ∧ OwnE enC4 w' w.heap.size 32 v (withoutL l ws) ∧ Grew w w' := by
  have HI := Lib.hid h
  have HL := Lib.hid h.len
  have HW := Lib.hid h2
  have HCO := Lib.hid (contains_inW ws)
  clear h h2
  go_enter Try.func21, Try.ntmps21
  go_wp2
  go_loopw [5, 10] (fun v5 v10 wr => ∃ j : Nat, v10 = .int .i64 j ∧ j ≤ n ∧ Hid (OwnE enC4 wr w.heap.size 32 v5 (withoutL (l.take j) ws)) ∧ Hid (Grew w wr)) (fun _ v10 _ => n - (intOf v10).toNat)
  case atStart => exact ⟨0, rfl, by omega, OwnE.nil _ _ _ _, grew_refl _⟩
  case round =>
    obtain ⟨j, rfl, hj, HT, HG⟩ := hrel
    by_cases hlt : j < n
    · obtain ⟨b, o, rfl, hb, hc⟩ := (HI.out.keep HG.out).ca hlt
      obtain ⟨a0, a1, a2, a3⟩ := hc j hlt
      have HS1 := Lib.hid (without_step l ws j (by rw [HL.out]; exact hlt))
      have HLL := Lib.hid (without_len l ws j)
      clear hc hb
      have i0 : (0 : Int) ≤ (j : Int) := by omega
      have i1 : (j : Int) < (n : Int) := by omega
      generalize l.getD j ca0 = x at *
      obtain ⟨q1, q2, q3, q4⟩ := x
      dsimp only at a0 a1 a2 a3
      have HX0 : Hid (OwnC (wr.alloc (.cells #[.int .i64 q1, .int .i64 q2, .int .i64 q3, .int .i64 q4] 32)) wr.heap.size [.int .i64 q1, .int .i64 q2, .int .i64 q3, .int .i64 q4]) := OwnC.new wr [.int .i64 q1, .int .i64 q2, .int .i64 q3, .int .i64 q4] _ _ rfl
      have HT0 := Lib.hid (HT.out.keep (grew_alloc wr #[.int .i64 q1, .int .i64 q2, .int .i64 q3, .int .i64 q4] 32))
      have HG0 := Lib.hid (grew_trans HG.out (grew_alloc wr #[.int .i64 q1, .int .i64 q2, .int .i64 q3, .int .i64 q4] 32))
      go_upto_region 5 with (fail)
      generalize (wr.alloc (.cells #[.int .i64 q1, .int .i64 q2, .int .i64 q3, .int .i64 q4] 32)) = w1 at *
      generalize wr.heap.size = N at *
      have x0 := HX0.out.at 0 _ rfl; have x1 := HX0.out.at 1 _ rfl; have x2 := HX0.out.at 2 _ rfl; have x3 := HX0.out.at 3 _ rfl
      clear HT HG HX0 a0 a1 a2 a3
      have CC := contains_any B m d ws q1 w1 ⟨HW.out.1, fun h0 => by obtain ⟨b', o', e, hb, hc⟩ := HW.out.2 h0; exact ⟨b', o', e, Nat.lt_of_lt_of_le hb HG0.out.size, fun j hj => (grew_cell HG0.out (p := ⟨b', _, none⟩) hb).trans (hc j hj)⟩⟩ (by omega)
      rw [HCO.out] at CC
      dsimp only at HS1
      cases hiw : inW ws q1
      · have HA1 : Hid (withoutL (l.take (j + 1)) ws = withoutL (l.take j) ws ++ [(q1, q2, q3, q4)]) := by show _ = _; rw [HS1.out]; rw [if_neg (by rw [hiw]; decide)]
        rw [hiw] at CC
        clear HS1 hiw
        go_wp2_with (first | (go_at_call 37; ((with_reducible refine CC.mono ?_); rintro e w5 ⟨rfl, rfl⟩)) | (at_builtin; refine (wpList_append_E rfl _ _ 22 32 (vCa ca0) 32 rfl Try.underlying22 info_ca rfl w.heap.size _ _ rfl (HT0.out.keep (grew_alloc _ _ _)) (some ⟨w1.heap.size, 0, none⟩) 1 1 [(q1, q2, q3, q4)] rfl (by intro h; cases h) (RowE.one enC4 w1 (q1, q2, q3, q4) 32 _ rfl) (by have := HLL.out; simp; unfold maxLen; omega) (by have := HLL.out; simp; omega) (Nat.le_trans (grew_size HG0.out) (by simp)) ?_); intro v' w6 ho hb; have HO6 := Lib.hid ho; have HG6 : Hid (Grew w w6) := Below.trans (grew_trans HG0.out (grew_alloc _ _ _)) hb; clear ho hb))
        go_roundw
        case rel => exact ⟨j + 1, by go_num, by omega, by rw [HA1.out]; exact HO6.out, HG6.out⟩
        case measure => simp only [intOf]; omega
      · have HA1 : Hid (withoutL (l.take (j + 1)) ws = withoutL (l.take j) ws) := by show _ = _; rw [HS1.out]; rw [if_pos hiw, List.append_nil]
        rw [hiw] at CC
        clear HS1 hiw
        go_wp2_with (go_at_call 37; ((with_reducible refine CC.mono ?_); rintro e w5 ⟨rfl, rfl⟩))
        go_roundw
        case rel => exact ⟨j + 1, by go_num, by omega, by rw [HA1.out]; exact HT0.out, HG0.out⟩
        case measure => simp only [intOf]; omega
    · obtain rfl : j = n := by omega
      have HF : Hid (OwnE enC4 wr w.heap.size 32 u5 (withoutL l ws)) := by have h := HT.out; rw [List.take_of_length_le (by rw [HL.out]; exact Nat.le_refl _)] at h; exact h
      clear HT
      go_wp2
      go_ret
      exact ⟨_, rfl, HF.out, HG.out⟩

set_option maxRecDepth 100000 in
set_option maxHeartbeats 2000000 in
theorem rwithout_any (A B : Option Addr) (n c m d : Nat) (l : List Ca) (ws : List Int) (w : World) (h : RowE enC4 w A n l) (h2 : Ints w B m ws) (hn : n ≤ 1000000) (hm : m ≤ 1000000) :
    Calls Try.prog 22 #[.slice A n c, .slice B m d] w fun e w' => ∃ v, e = .returned v ∧ OwnE enC4 w' w.heap.size 32 v (withoutL l ws) ∧ Grew w w' := by
  have HI := Lib.hid h
  have HL := Lib.hid h.len
  have HW := Lib.hid h2
  have HWL := Lib.hid h2.1
  clear h h2
  go_enter Try.func22, Try.ntmps22
  go_wp2
  go_loopw [5, 6] (fun v5 v10 wr => ∃ j : Nat, v10 = .int .i64 j ∧ j ≤ n ∧ Hid (OwnE enC4 wr w.heap.size 32 v5 (withoutL (l.take j) ws)) ∧ Hid (Grew w wr)) (fun _ v10 _ => n - (intOf v10).toNat)
  case atStart => exact ⟨0, rfl, by omega, OwnE.nil _ _ _ _, grew_refl _⟩
  case round =>
    obtain ⟨j, rfl, hj, HT, HG⟩ := hrel
    by_cases hlt : j < n
    · obtain ⟨b, o, rfl, hb, hc⟩ := (HI.out.keep HG.out).ca hlt
      obtain ⟨a0, a1, a2, a3⟩ := hc j hlt
      have HS1 := Lib.hid (without_step l ws j (by rw [HL.out]; exact hlt))
      have HLL := Lib.hid (without_len l ws j)
      have i0 : (0 : Int) ≤ (j : Int) := by omega
      have i1 : (j : Int) < (n : Int) := by omega
      clear hc
      generalize l.getD j ca0 = x at *
      obtain ⟨q1, q2, q3, q4⟩ := x
      dsimp only at a0 a1 a2 a3
      have HWR : Hid (Ints wr B m ws) := ⟨HW.out.1, fun h0 => by obtain ⟨b', o', e, hb, hc⟩ := HW.out.2 h0; exact ⟨b', o', e, Nat.lt_of_lt_of_le hb HG.out.size, fun j hj => (grew_cell HG.out (p := ⟨b', _, none⟩) hb).trans (hc j hj)⟩⟩
      have HIS := Lib.hid (fun k => inW_succ ws q1 k)
      go_wp2
      generalize wr = wB at *
      have HGB := Lib.hid HG.out
      clear HG
      go_loopw [7, 8] (fun v7 v8 wr => ∃ k : Nat, v8 = .int .i64 k ∧ k ≤ m ∧ Hid (Grew wB wr) ∧ v7 = .bool (inW (ws.take k) q1)) (fun _ v8 _ => m - (intOf v8).toNat)
      case atStart => exact ⟨0, rfl, by omega, grew_refl _, rfl⟩
      case round =>
        obtain ⟨k, rfl, hk, HGI, rfl⟩ := hrel
        by_cases hlk : k < m
        · obtain ⟨bw, ow, rfl, hbw, hcw⟩ := HWR.out.2 (by omega)
          have y0 := grew_every (w := wr) (S := fun w' => w'.cell? ⟨bw, ow + k, none⟩ = some (.int .i64 (ws.getD k 0))) (fun w' g => (grew_cell (grew_trans HGI.out g) (p := ⟨bw, _, none⟩) hbw).trans (hcw k hlk))
          have z0 := grew_every (w := wr) (S := fun w' => w'.cell? ⟨b, o + j * 4, none⟩ = some (.int .i64 q1)) (fun w' g => (grew_cell (grew_trans HGI.out g) (p := ⟨b, _, none⟩) hb).trans a0)
          have HE := Lib.hid (HIS.out k (by rw [HWL.out]; exact hlk))
          have k0 : (0 : Int) ≤ (k : Int) := by omega
          have k1 : (k : Int) < (m : Int) := by omega
          clear hcw HIS
          generalize ws.getD k 0 = z at *
          generalize hbd : inW (ws.take (k + 1)) q1 = B2 at *
          have HR : Hid (∃ k' : Nat, IntKind.i64.wrap ((k : Int) + 1) = k' ∧ k' = k + 1) := ⟨k + 1, by rw [IntKind.wrap_i64]; omega, rfl⟩
          cases hb1 : inW (ws.take k) q1
          · by_cases hz : z = q1
            · subst hz
              have hB : B2 = true := by rw [HE.out, hb1]; simp
              have hB2 := Lib.hid (hbd.trans hB)
              clear hbd hB
              clear HE hb1
              go_upto_region 9 with (fail)
              refine wp_region_grew (by kernel_rfl) (by kernel_rfl) ?_
              repeat (go_big_quiet_step (fail))
              refine wpQuiet_nil ?_
              intro w5 hw'
              have HG5 := Lib.hid (grew_of hw')
              clear hw' y0 z0
              go_wp2
              go_roundw
              case rel => exact ⟨k + 1, by go_num, by omega, grew_trans HGI.out HG5.out, by rw [hB2.out]⟩
              case measure => simp only [intOf]; omega
            · have d1 : (z == q1) = false := by simpa using hz
              have hB : B2 = false := by rw [HE.out, hb1]; simpa using hz
              have hB2 := Lib.hid (hbd.trans hB)
              clear hbd hB
              clear HE hb1
              go_upto_region 9 with (fail)
              refine wp_region_grew (by kernel_rfl) (by kernel_rfl) ?_
              repeat (go_big_quiet_step (fail))
              refine wpQuiet_nil ?_
              intro w5 hw'
              have HG5 := Lib.hid (grew_of hw')
              clear hw' y0 z0
              go_wp2
              go_roundw
              case rel => exact ⟨k + 1, by go_num, by omega, grew_trans HGI.out HG5.out, by rw [hB2.out]⟩
              case measure => simp only [intOf]; omega
          · have hB : B2 = true := by rw [HE.out, hb1]; simp
            have hB2 := Lib.hid (hbd.trans hB)
            clear hbd hB
            clear HE hb1
            go_upto_region 9 with (fail)
            refine wp_region_grew (by kernel_rfl) (by kernel_rfl) ?_
            repeat (go_big_quiet_step (fail))
            refine wpQuiet_nil ?_
            intro w5 hw'
            have HG5 := Lib.hid (grew_of hw')
            clear hw' y0 z0
            go_wp2
            go_roundw
            case rel => exact ⟨k + 1, by go_num, by omega, grew_trans HGI.out HG5.out, by rw [hB2.out]⟩
            case measure => simp only [intOf]; omega
        · obtain rfl : k = m := by omega
          have HT := Lib.hid (HT.out.keep HGI.out)
          have HG := Lib.hid (grew_trans HGB.out HGI.out)
          have c0 := (grew_cell HGI.out (p := ⟨b, _, none⟩) hb).trans a0; have c1 := (grew_cell HGI.out (p := ⟨b, _, none⟩) hb).trans a1; have c2 := (grew_cell HGI.out (p := ⟨b, _, none⟩) hb).trans a2; have c3 := (grew_cell HGI.out (p := ⟨b, _, none⟩) hb).trans a3
          clear a0 a1 a2 a3
          have HIA : Hid (inW (ws.take k) q1 = inW ws q1) := by show _ = _; rw [List.take_of_length_le (by rw [HWL.out]; exact Nat.le_refl _)]
          rw [HIA.out]
          try dsimp only at HS1
          clear HIA HIS HWR
          cases hiw : inW ws q1
          · have HA1 : Hid (withoutL (l.take (j + 1)) ws = withoutL (l.take j) ws ++ [(q1, q2, q3, q4)]) := by show _ = _; rw [HS1.out]; rw [if_neg (by rw [hiw]; decide)]
            clear HS1 hiw
            go_wp2_with (at_builtin; refine (wpList_append_E rfl _ _ 22 32 (vCa ca0) 32 rfl Try.underlying22 info_ca rfl w.heap.size _ _ rfl (HT.out.keep (grew_alloc _ _ _)) (some ⟨wr.heap.size, 0, none⟩) 1 1 [(q1, q2, q3, q4)] rfl (by intro h; cases h) (RowE.one enC4 wr (q1, q2, q3, q4) 32 _ rfl) (by have := HLL.out; simp; unfold maxLen; omega) (by have := HLL.out; simp; omega) (Nat.le_trans (grew_size HG.out) (by simp)) ?_); intro v' w6 ho hb; have HO6 := Lib.hid ho; have HG6 : Hid (Grew w w6) := Below.trans (grew_trans HG.out (grew_alloc _ _ _)) hb; clear ho hb)
            go_roundw
            case rel => exact ⟨j + 1, by go_num, by omega, by rw [HA1.out]; exact HO6.out, HG6.out⟩
            case measure => simp only [intOf]; omega
          · have HA1 : Hid (withoutL (l.take (j + 1)) ws = withoutL (l.take j) ws) := by show _ = _; rw [HS1.out]; rw [if_pos hiw, List.append_nil]
            clear HS1 hiw
            go_wp2
            go_roundw
            case rel => exact ⟨j + 1, by go_num, by omega, by rw [HA1.out]; exact HT.out, HG.out⟩
            case measure => simp only [intOf]; omega
    · obtain rfl : j = n := by omega
      have HF : Hid (OwnE enC4 wr w.heap.size 32 u5 (withoutL l ws)) := by have h := HT.out; rw [List.take_of_length_le (by rw [HL.out]; exact Nat.le_refl _)] at h; exact h
      clear HT
      go_wp2
      go_ret
      exact ⟨_, rfl, HF.out, HG.out⟩
end Go.Proofs.Ytaipgcckafbgeaa.NumK
namespace Go.Proofs.Ytaipgcckafbgeaa.NumK
open Go.RowKit
set_option linter.unusedVariables false

theorem growCa0_any (w : World) : Calls Try.prog 41 #[.slice none 0 0, .int .i64 ((0 : Nat) : Int)] w fun e w' => ∃ v, e = .returned v ∧ OwnE enC4 w' w.heap.size 32 v [] ∧ Grew w w' := by
  go_enter Try.func41, Try.ntmps41
  go_wp2
  go_ret
  exact ⟨_, rfl, OwnE.nil _ _ _ _, grew_refl _⟩
theorem growCa1_any (n : Nat) (w : World) (h0 : 0 < n) (hn : n ≤ 1000000) :
    Calls Try.prog 41 #[.slice none 0 0, .int .i64 n] w fun e w' => ∃ v, e = .returned v ∧ OwnE enC4 w' w.heap.size 32 v [] ∧ Grew w w' := by
  obtain ⟨i0, hi0, hz0, hs0, hb0⟩ := info_parts info_ca
  have h2 : wrap64 ((0 : Int) - (0 : Int)) = 0 := by unfold wrap64; omega
  have h3 : wrap64 ((n : Int) - 0) = (n : Int) := by unfold wrap64; omega
  have h4 : (n : Int) > 0 := by omega
  have h1 : ¬ ((n : Int) < 0) := by omega
  have hrz : ∀ ty, (Builtin.append_ #[22, 3] ty #[.slice none 0 0, .int .i64 (n : Int)]).run Try.prog w =
      .ok (.slice (some ⟨w.heap.size, 0, none⟩) (0 + n) (grownCap w (0 + n) 0 32)) (w.drew.alloc (.cells (([] : List Value).toArray ++ Builtin.zeroCells (vCa ca0).cells n ++ Builtin.zeroCells (vCa ca0).cells (grownCap w (0 + n) 0 32 - (0 + n))) 32)) := fun ty =>
    Lib.run_append_grow_zeros w 22 3 ty 32 i0 (vCa ca0) .i64 .i64 Try.underlying22 Try.underlying3 hi0 hz0 none 0 0 [] (run_firstCells_none w.drew i0.size 0 0 0) n h0 (by rw [hs0]; decide) (by omega) (by omega) (by rw [hb0]; omega)
      (growslice_fits (by omega) (by rw [hb0]; omega))
  have hGn : n ≤ grownCap w (0 + n) 0 32 := by have := grownCap_ge w (0 + n) 0 32; omega
  have hGm : grownCap w (0 + n) 0 32 ≤ maxLen := grownCap_le_maxLen w (0 + n) 0 32 (by unfold maxLen; omega)
  have hzl : (Builtin.zeroCells (vCa ca0).cells n).size = n * 4 := by simp [Builtin.zeroCells, Value.cells]
  rw [Nat.zero_add] at *
  generalize hG : grownCap w n 0 32 = G at *
  clear hG
  have hzm : (Builtin.zeroCells (vCa ca0).cells (G - n)).size = (G - n) * 4 := by simp [Builtin.zeroCells, Value.cells]
  have HP : Hid (OwnE enC4 (w.drew.alloc (.cells (([] : List Value).toArray ++ Builtin.zeroCells (vCa ca0).cells n ++ Builtin.zeroCells (vCa ca0).cells (G - n)) 32)) w.heap.size 32 (.slice (some ⟨w.heap.size, 0, none⟩) 0 G) []) :=
    ⟨by simp, .inr ⟨w.heap.size, G, _, rfl, Nat.le_refl _, heap_alloc_new w.drew _, by simp, hGm, by simp only [List.size_toArray, Array.size_append, List.length_nil, hzl, hzm]; show _ = G * 4; omega, by simp⟩⟩
  have HB : Hid (Grew w (w.drew.alloc (.cells (([] : List Value).toArray ++ Builtin.zeroCells (vCa ca0).cells n ++ Builtin.zeroCells (vCa ca0).cells (G - n)) 32))) := grew_trans (grew_drew (grew_refl w)) (grew_alloc _ _ _)
  clear hzl hzm hi0 hz0 hs0 hb0
  generalize w.drew.alloc (.cells (([] : List Value).toArray ++ Builtin.zeroCells (vCa ca0).cells n ++ Builtin.zeroCells (vCa ca0).cells (G - n)) 32) = w9 at *
  unfold maxLen at hGm
  go_enter Try.func41, Try.ntmps41
  go_wp2_with (at_builtin; refine Lib.wpList_append_run _ rfl _ _ _ _ rfl _ _ rfl rfl _ _ (hrz _) ?_)
  go_ret
  exact ⟨_, rfl, HP.out, HB.out⟩
theorem growCa_any (n : Nat) (w : World) (hn : n ≤ 1000000) :
    Calls Try.prog 41 #[.slice none 0 0, .int .i64 n] w fun e w' => ∃ v, e = .returned v ∧ OwnE enC4 w' w.heap.size 32 v [] ∧ Grew w w' := by
  rcases Nat.eq_zero_or_pos n with h | h
  · subst h; exact growCa0_any w
  · exact growCa1_any n w h hn

set_option maxRecDepth 100000 in
set_option maxHeartbeats 2000000 in
theorem concatCa_any (B : Nat) (A1 A2 A3 : Option Addr) (n1 n2 n3 c1 c2 c3 : Nat) (l1 l2 l3 : List Ca) (w : World) (hB : OwnC w B [.slice A1 n1 c1, .slice A2 n2 c2, .slice A3 n3 c3])
    (h1 : RowE enC4 w A1 n1 l1) (h2 : RowE enC4 w A2 n2 l2) (h3 : RowE enC4 w A3 n3 l3) (k1 : A1 = none → c1 = 0) (k2 : A2 = none → c2 = 0) (k3 : A3 = none → c3 = 0) (hn : n1 ≤ 100000 ∧ n2 ≤ 100000 ∧ n3 ≤ 100000) :
    Calls Try.prog 33 #[.slice (some ⟨B, 0, none⟩) 3 3] w fun e w' => ∃ v, e = .returned v ∧ OwnE enC4 w' w.heap.size 32 v (l1 ++ (l2 ++ l3)) ∧ Grew w w' := by
  have HB := Lib.hid hB
  have H1 := Lib.hid h1
  have H2 := Lib.hid h2
  have H3 := Lib.hid h3
  have K1 := Lib.hid k1
  have K2 := Lib.hid k2
  have K3 := Lib.hid k3
  have L1 := Lib.hid h1.len
  have L2 := Lib.hid h2.len
  have L3 := Lib.hid h3.len
  clear hB h1 h2 h3 k1 k2 k3
  go_enter Try.func33, Try.ntmps33
  go_wp2
  go_loop [3, 5, 11] (fun v3 v5 v11 => ∃ j s : Nat, v11 = .int .i64 j ∧ v3 = .int .i64 s ∧ j ≤ 3 ∧ Hid ((j = 0 ∧ s = 0) ∨ (j = 1 ∧ s = n1) ∨ (j = 2 ∧ s = n1 + n2) ∨ (j = 3 ∧ s = n1 + n2 + n3))) (fun _ _ v11 => 3 - (intOf v11).toNat)
  case atStart => exact ⟨0, 0, rfl, rfl, by omega, Or.inl ⟨rfl, rfl⟩⟩
  case round =>
    obtain ⟨j, s, rfl, rfl, hj, HS⟩ := hrel
    rcases HS.out with ⟨rfl, rfl⟩ | ⟨rfl, rfl⟩ | ⟨rfl, rfl⟩ | ⟨rfl, rfl⟩
    · have b0 : w.cell? ⟨B, 0, none⟩ = some (.slice A1 n1 c1) := HB.out.at 0 _ rfl
      have e1 : IntKind.i64.wrap (n1 : Int) = n1 := by rw [IntKind.wrap_i64]; omega
      have e2 : ¬ ((n1 : Int) < 0) := by omega
      clear HS hj
      go_wp2
      go_round
      case rel => exact ⟨1, n1, by go_num, by go_num, by omega, Or.inr (Or.inl ⟨rfl, rfl⟩)⟩
      case measure => simp only [intOf]; omega
    · have b0 : w.cell? ⟨B, 1, none⟩ = some (.slice A2 n2 c2) := HB.out.at 1 _ rfl
      have e1 : IntKind.i64.wrap ((s : Int) + (n2 : Int)) = ((s + n2 : Nat) : Int) := by rw [IntKind.wrap_i64]; omega
      have e2 : ¬ (((s + n2 : Nat) : Int) < 0) := by omega
      clear HS hj
      go_wp2
      go_round
      case rel => exact ⟨2, s + n2, by go_num, by go_num, by omega, Or.inr (Or.inr (Or.inl ⟨rfl, rfl⟩))⟩
      case measure => simp only [intOf]; omega
    · have b0 : w.cell? ⟨B, 2, none⟩ = some (.slice A3 n3 c3) := HB.out.at 2 _ rfl
      have e1 : IntKind.i64.wrap (((n1 + n2 : Nat) : Int) + (n3 : Int)) = ((n1 + n2 + n3 : Nat) : Int) := by rw [IntKind.wrap_i64]; omega
      have e2 : ¬ (((n1 + n2 + n3 : Nat) : Int) < 0) := by omega
      clear HS hj
      go_wp2
      go_round
      case rel => exact ⟨3, n1 + n2 + n3, by go_num, by go_num, by omega, Or.inr (Or.inr (Or.inr ⟨rfl, rfl⟩))⟩
      case measure => simp only [intOf]; omega
    · have CG := fun w => growCa_any (n1 + n2 + n3) w (by omega)
      have e3 : ((n1 + n2 + n3 : Nat) : Int) = ((n1 + n2 + n3 : Nat) : Int) := rfl
      clear HS hj
      generalize n1 + n2 + n3 = N at *
      go_wp2_with (go_at_call 41; ((with_reducible refine (CG _).mono ?_); rintro e w5 ⟨v, rfl, ho, hg⟩; have HO := Lib.hid ho; have HG5 := Lib.hid hg; clear ho hg CG))
      go_loopw [6, 8, 27] (fun v6 v8 v27 wr => ∃ j : Nat, v27 = .int .i64 j ∧ j ≤ 3 ∧ Hid ((j = 0 ∧ OwnE enC4 wr w.heap.size 32 v6 []) ∨ (j = 1 ∧ OwnE enC4 wr w.heap.size 32 v6 l1) ∨ (j = 2 ∧ OwnE enC4 wr w.heap.size 32 v6 (l1 ++ l2)) ∨ (j = 3 ∧ OwnE enC4 wr w.heap.size 32 v6 (l1 ++ l2 ++ l3))) ∧ Hid (Grew w wr)) (fun _ _ v27 _ => 3 - (intOf v27).toNat)
      case atStart => exact ⟨0, rfl, by omega, Or.inl ⟨rfl, HO.out⟩, HG5.out⟩
      case round =>
        obtain ⟨j, rfl, hj, HS, HG⟩ := hrel
        rcases HS.out with ⟨rfl, ho⟩ | ⟨rfl, ho⟩ | ⟨rfl, ho⟩ | ⟨rfl, ho⟩
        · have b0 : wr.cell? ⟨B, 0, none⟩ = some (.slice A1 n1 c1) := (HB.out.keep HG.out).at 0 _ rfl
          have HV := Lib.hid ho
          have HZ : Hid (w.heap.size ≤ wr.heap.size) := HG.out.size
          clear HS hj HO ho
          go_wp2_with (at_builtin; refine (wpList_append_E rfl _ _ 22 32 (vCa ca0) 32 rfl Try.underlying22 info_ca rfl w.heap.size _ [] rfl HV.out A1 n1 c1 l1 rfl K1.out (H1.out.keep HG.out) (by simp; unfold maxLen; omega) (by simp; omega) HZ.out ?_); intro v' w' ho hb; rw [List.nil_append] at ho; have HP := Lib.hid ho; have HB2 : Hid (Grew w w') := Below.trans HG.out hb; clear ho hb)
          go_roundw
          case rel => exact ⟨1, by go_num, by omega, Or.inr (Or.inl ⟨rfl, HP.out⟩), HB2.out⟩
          case measure => simp only [intOf]; omega
        · have b0 : wr.cell? ⟨B, 1, none⟩ = some (.slice A2 n2 c2) := (HB.out.keep HG.out).at 1 _ rfl
          have HV := Lib.hid ho
          have HZ : Hid (w.heap.size ≤ wr.heap.size) := HG.out.size
          clear HS hj HO ho
          go_wp2_with (at_builtin; refine (wpList_append_E rfl _ _ 22 32 (vCa ca0) 32 rfl Try.underlying22 info_ca rfl w.heap.size _ l1 rfl HV.out A2 n2 c2 l2 rfl K2.out (H2.out.keep HG.out) (by rw [L1.out]; unfold maxLen; omega) (by rw [L1.out]; omega) HZ.out ?_); intro v' w' ho hb; have HP := Lib.hid ho; have HB2 : Hid (Grew w w') := Below.trans HG.out hb; clear ho hb)
          go_roundw
          case rel => exact ⟨2, by go_num, by omega, Or.inr (Or.inr (Or.inl ⟨rfl, HP.out⟩)), HB2.out⟩
          case measure => simp only [intOf]; omega
        · have b0 : wr.cell? ⟨B, 2, none⟩ = some (.slice A3 n3 c3) := (HB.out.keep HG.out).at 2 _ rfl
          have HV := Lib.hid ho
          have HZ : Hid (w.heap.size ≤ wr.heap.size) := HG.out.size
          clear HS hj HO ho
          go_wp2_with (at_builtin; refine (wpList_append_E rfl _ _ 22 32 (vCa ca0) 32 rfl Try.underlying22 info_ca rfl w.heap.size _ (l1 ++ l2) rfl HV.out A3 n3 c3 l3 rfl K3.out (H3.out.keep HG.out) (by rw [List.length_append, L1.out, L2.out]; unfold maxLen; omega) (by rw [List.length_append, L1.out, L2.out]; omega) HZ.out ?_); intro v' w' ho hb; have HP := Lib.hid ho; have HB2 : Hid (Grew w w') := Below.trans HG.out hb; clear ho hb)
          go_roundw
          case rel => exact ⟨3, by go_num, by omega, Or.inr (Or.inr (Or.inr ⟨rfl, HP.out⟩)), HB2.out⟩
          case measure => simp only [intOf]; omega
        · have HP : Hid (OwnE enC4 wr w.heap.size 32 u6 (l1 ++ (l2 ++ l3))) := by show OwnE _ _ _ _ _ _; rw [← List.append_assoc]; exact ho
          clear HS hj HO ho
          go_wp2
          go_ret
          exact ⟨_, rfl, HP.out, HG.out⟩


/-- What the search tells. -/
def FoundCa (l : List Ca) (m : Int) (n : Nat) (k : Nat) (th : Bool) : Prop :=
  k ≤ n ∧ (∀ i, i < k → noCa (l.getD i ca0) < m) ∧ (∀ i, k ≤ i → i < n → m ≤ noCa (l.getD i ca0)) ∧ (th = true ↔ k < n ∧ noCa (l.getD k ca0) = m)
def SearchCa (l : List Ca) (m : Int) (n : Nat) (w : World) (e : Ending) (w' : World) : Prop :=
  ∃ k th, e = .returned (.tuple #[.int .i64 ((k : Nat) : Int), .bool th]) ∧ FoundCa l m n k th ∧ Grew w w'

set_option maxRecDepth 100000 in
set_option maxHeartbeats 4000000 in
theorem searchCa_any (A : Option Addr) (n c : Nat) (l : List Ca) (x : Du) (w : World) (h : RowE enC4 w A n l) (hr : rightCa l = true) (hx : okCK x.1 x.2.1 = true) (hn : n ≤ 1000000) :
    Calls Try.prog 32 #[.slice A n c, vDe x, .func (.func 27) #[] #[]] w (SearchCa l (noDu x) n w) := by
  have HI := Lib.hid h
  have HR : Hid (∀ i j, i < j → j < n → noCa (l.getD i ca0) < noCa (l.getD j ca0)) := fun i j hij hj => by
    have hl := h.len
    rw [getD_at l _ i (by omega), getD_at l _ j (by omega)]
    exact List.pairwise_iff_getElem.1 ((rightCa_iff l).1 hr).2 i j (by omega) (by omega) hij
  have HO : Hid (∀ i, i < n → (ordC (l.getD i ca0) x < 0 ↔ noCa (l.getD i ca0) < noDu x) ∧ (ordC (l.getD i ca0) x = 0 ↔ noCa (l.getD i ca0) = noDu x)) := fun i hi => by
    have hl := h.len
    refine ordC_no ?_ hx
    rw [getD_at l _ i (by omega)]
    exact ((okCa_iff _).1 (((rightCa_iff l).1 hr).1 _ (List.getElem_mem _))).1
  have CC := fun y w' => clorder_any y x w'
  generalize noDu x = m at *
  have HQ : Hid (∀ i, i < n → ∃ O, ordC (l.getD i ca0) x = O ∧ (O < 0 ↔ noCa (l.getD i ca0) < m) ∧ (O = 0 ↔ noCa (l.getD i ca0) = m)) := fun i hi => ⟨_, rfl, HO.out i hi⟩
  obtain ⟨t1, t2, t3⟩ := x
  dsimp only [vCa, vDe] at CC ⊢
  clear h hr hx HO
  have HX0 : Hid (OwnC (w.alloc (.cells #[.int .i64 t1, .int .i64 t2, .int .i64 t3] 24)) w.heap.size [.int .i64 t1, .int .i64 t2, .int .i64 t3]) := OwnC.new w [.int .i64 t1, .int .i64 t2, .int .i64 t3] _ _ rfl
  have HG0 : Hid (Grew w (w.alloc (.cells #[.int .i64 t1, .int .i64 t2, .int .i64 t3] 24))) := grew_alloc _ _ _
  go_enter Try.func32, Try.ntmps32
  go_wp2
  generalize w.alloc (.cells #[.int .i64 t1, .int .i64 t2, .int .i64 t3] 24) = w0 at *
  generalize w.heap.size = N at *
  go_loopw [9, 10] (fun v9 v10 wr => ∃ i j : Nat, v9 = .int .i64 i ∧ v10 = .int .i64 j ∧ i ≤ j ∧ j ≤ n ∧ Hid (∀ k, k < i → noCa (l.getD k ca0) < m) ∧ Hid (∀ k, j ≤ k → k < n → m ≤ noCa (l.getD k ca0)) ∧ Hid (OwnC wr N [.int .i64 t1, .int .i64 t2, .int .i64 t3]) ∧ Hid (Grew w wr)) (fun v9 v10 _ => (intOf v10).toNat - (intOf v9).toNat)
  case atStart => exact ⟨0, n, rfl, rfl, by omega, by omega, (by intro k hk; omega), (by intro k hk hk2; omega), HX0.out, HG0.out⟩
  case round =>
    clear HX0 HG0
    obtain ⟨i, j, rfl, rfl, hij, hj, HA, HB, HX, HG⟩ := hrel
    have x0 := grew_every (w := wr) (S := fun w' => w'.cell? ⟨N, 0, none⟩ = some (.int .i64 t1)) (fun w' g => (HX.out.keep g).at 0 _ rfl)
    have x1 := grew_every (w := wr) (S := fun w' => w'.cell? ⟨N, 1, none⟩ = some (.int .i64 t2)) (fun w' g => (HX.out.keep g).at 1 _ rfl)
    have x2 := grew_every (w := wr) (S := fun w' => w'.cell? ⟨N, 2, none⟩ = some (.int .i64 t3)) (fun w' g => (HX.out.keep g).at 2 _ rfl)
    by_cases hlt : i < j
    · have i1 : (i : Int) < (j : Int) := by omega
      obtain ⟨hh, hhd⟩ : ∃ hh, hh = (i + j) / 2 := ⟨_, rfl⟩
      have hh1 : i ≤ hh ∧ hh < j := by omega
      obtain ⟨b, o, rfl, hb, hc⟩ := (HI.out.keep HG.out).ca (j := hh) (by omega)
      obtain ⟨a0, a1, a2, a3⟩ := hc hh (by omega)
      clear hc
      have e1 : IntKind.i64.wrap ((i : Int) + (j : Int)) = (i : Int) + (j : Int) := by rw [IntKind.wrap_i64]; omega
      have e2 : IntKind.u64.wrap ((i : Int) + (j : Int)) = (i : Int) + (j : Int) := by rw [IntKind.wrap_u64]; omega
      obtain ⟨cr, hcr, hlo, heq⟩ := HQ.out hh (by omega)
      have CX := fun w' (g : Grew wr w') => CC (l.getD hh ca0) w'
      rw [hcr] at CX
      have HLT := Lib.hid hlo
      clear hcr hlo heq
      have i2 : (0 : Int) ≤ (hh : Int) := by omega
      have i3 : (hh : Int) < (n : Int) := by omega
      have e3 : ((i : Int) + (j : Int)) / 2 = (hh : Int) := by omega
      have e4 : IntKind.i64.wrap ((hh : Int) + 1) = ((hh + 1 : Nat) : Int) := by rw [IntKind.wrap_i64]; omega
      clear hhd
      by_cases hc : cr < 0
      · have HLO : Hid (∀ k, k < hh + 1 → noCa (l.getD k ca0) < m) := fun k hk => by
          have h1 := HLT.out.1 hc
          rcases Nat.lt_or_ge k hh with h2 | h2
          · have := HR.out k hh h2 (by omega); omega
          · obtain rfl : k = hh := by omega
            exact h1
        clear HA HLT
        generalize l.getD hh ca0 = x at *
        obtain ⟨q1, q2, q3, q4⟩ := x
        dsimp only [vCa] at a0 a1 a2 a3 CX
        have y0 := grew_every (w := wr) (S := fun w' => w'.cell? ⟨b, o + hh * 4, none⟩ = some (.int .i64 q1)) (fun w' g => (grew_cell g (p := ⟨b, _, none⟩) hb).trans a0)
        have y1 := grew_every (w := wr) (S := fun w' => w'.cell? ⟨b, o + hh * 4 + 1, none⟩ = some (.int .i64 q2)) (fun w' g => (grew_cell g (p := ⟨b, _, none⟩) hb).trans a1)
        have y2 := grew_every (w := wr) (S := fun w' => w'.cell? ⟨b, o + hh * 4 + 2, none⟩ = some (.int .i64 q3)) (fun w' g => (grew_cell g (p := ⟨b, _, none⟩) hb).trans a2)
        have y3 := grew_every (w := wr) (S := fun w' => w'.cell? ⟨b, o + hh * 4 + 3, none⟩ = some (.int .i64 q4)) (fun w' g => (grew_cell g (p := ⟨b, _, none⟩) hb).trans a3)
        clear a0 a1 a2 a3 hb
        go_upto_region 5 with (fail)
        refine wp_region_grew (by kernel_rfl) (by kernel_rfl) ?_
        repeat (go_big_quiet_step (with_reducible exact calls_every CX))
        refine wpQuiet_nil ?_
        intro w5 hw'
        have HG5 := Lib.hid (grew_of hw')
        have HX5 := Lib.hid (HX.out.keep HG5.out)
        clear hw' x0 x1 x2 y0 y1 y2 y3
        go_wp2
        go_roundw
        case rel => exact ⟨hh + 1, j, by go_num, rfl, by omega, hj, HLO.out, HB.out, HX5.out, grew_trans HG.out HG5.out⟩
        case measure => simp only [intOf]; omega
      · have HHI : Hid (∀ k, hh ≤ k → k < n → m ≤ noCa (l.getD k ca0)) := fun k hk hkn => by
          have h1 : ¬ noCa (l.getD hh ca0) < m := fun h => hc (HLT.out.2 h)
          rcases Nat.eq_or_lt_of_le hk with h2 | h2
          · subst h2; omega
          · have := HR.out hh k h2 hkn; omega
        clear HB HLT
        generalize l.getD hh ca0 = x at *
        obtain ⟨q1, q2, q3, q4⟩ := x
        dsimp only [vCa] at a0 a1 a2 a3 CX
        have y0 := grew_every (w := wr) (S := fun w' => w'.cell? ⟨b, o + hh * 4, none⟩ = some (.int .i64 q1)) (fun w' g => (grew_cell g (p := ⟨b, _, none⟩) hb).trans a0)
        have y1 := grew_every (w := wr) (S := fun w' => w'.cell? ⟨b, o + hh * 4 + 1, none⟩ = some (.int .i64 q2)) (fun w' g => (grew_cell g (p := ⟨b, _, none⟩) hb).trans a1)
        have y2 := grew_every (w := wr) (S := fun w' => w'.cell? ⟨b, o + hh * 4 + 2, none⟩ = some (.int .i64 q3)) (fun w' g => (grew_cell g (p := ⟨b, _, none⟩) hb).trans a2)
        have y3 := grew_every (w := wr) (S := fun w' => w'.cell? ⟨b, o + hh * 4 + 3, none⟩ = some (.int .i64 q4)) (fun w' g => (grew_cell g (p := ⟨b, _, none⟩) hb).trans a3)
        clear a0 a1 a2 a3 hb
        go_upto_region 5 with (fail)
        refine wp_region_grew (by kernel_rfl) (by kernel_rfl) ?_
        repeat (go_big_quiet_step (with_reducible exact calls_every CX))
        refine wpQuiet_nil ?_
        intro w5 hw'
        have HG5 := Lib.hid (grew_of hw')
        have HX5 := Lib.hid (HX.out.keep HG5.out)
        clear hw' x0 x1 x2 y0 y1 y2 y3
        go_wp2
        go_roundw
        case rel => exact ⟨i, hh, rfl, rfl, by omega, by omega, HA.out, HHI.out, HX5.out, grew_trans HG.out HG5.out⟩
        case measure => simp only [intOf]; omega
    · obtain rfl : i = j := by omega
      by_cases hin : i < n
      · obtain ⟨b, o, rfl, hb, hc⟩ := (HI.out.keep HG.out).ca (j := i) hin
        obtain ⟨a0, a1, a2, a3⟩ := hc i hin
        clear hc
        obtain ⟨cr, hcr, hlo, heq⟩ := HQ.out i hin
        have CX := fun w' (g : Grew wr w') => CC (l.getD i ca0) w'
        rw [hcr] at CX
        have HEQ := Lib.hid heq
        clear hcr hlo heq
        have i2 : (0 : Int) ≤ (i : Int) := by omega
        have i3 : (i : Int) < (n : Int) := by omega
        by_cases hc : cr = 0
        · have HF : Hid (FoundCa l m n i true) := ⟨hj, HA.out, HB.out, fun _ => ⟨hin, HEQ.out.1 hc⟩, fun _ => rfl⟩
          subst hc
          clear HA HB HEQ
          generalize l.getD i ca0 = x at *
          obtain ⟨q1, q2, q3, q4⟩ := x
          dsimp only [vCa] at a0 a1 a2 a3 CX
          have y0 := grew_every (w := wr) (S := fun w' => w'.cell? ⟨b, o + i * 4, none⟩ = some (.int .i64 q1)) (fun w' g => (grew_cell g (p := ⟨b, _, none⟩) hb).trans a0)
          have y1 := grew_every (w := wr) (S := fun w' => w'.cell? ⟨b, o + i * 4 + 1, none⟩ = some (.int .i64 q2)) (fun w' g => (grew_cell g (p := ⟨b, _, none⟩) hb).trans a1)
          have y2 := grew_every (w := wr) (S := fun w' => w'.cell? ⟨b, o + i * 4 + 2, none⟩ = some (.int .i64 q3)) (fun w' g => (grew_cell g (p := ⟨b, _, none⟩) hb).trans a2)
          have y3 := grew_every (w := wr) (S := fun w' => w'.cell? ⟨b, o + i * 4 + 3, none⟩ = some (.int .i64 q4)) (fun w' g => (grew_cell g (p := ⟨b, _, none⟩) hb).trans a3)
          clear a0 a1 a2 a3 hb
          go_upto_region 8 with (fail)
          refine wp_region_grew (by kernel_rfl) (by kernel_rfl) ?_
          repeat (go_big_quiet_step (with_reducible exact calls_every CX))
          refine wpQuiet_nil ?_
          intro w5 hw'
          have HG5 := Lib.hid (grew_of hw')
          clear hw' x0 x1 x2 y0 y1 y2 y3
          go_wp2
          go_ret2
          exact ⟨i, true, rfl, HF.out, grew_trans HG.out HG5.out⟩
        · have HF : Hid (FoundCa l m n i false) := ⟨hj, HA.out, HB.out, fun h => (by cases h), fun h => absurd (HEQ.out.2 h.2) hc⟩
          have hc2 : (cr == 0) = false := by simpa using hc
          clear HA HB HEQ hc
          generalize l.getD i ca0 = x at *
          obtain ⟨q1, q2, q3, q4⟩ := x
          dsimp only [vCa] at a0 a1 a2 a3 CX
          have y0 := grew_every (w := wr) (S := fun w' => w'.cell? ⟨b, o + i * 4, none⟩ = some (.int .i64 q1)) (fun w' g => (grew_cell g (p := ⟨b, _, none⟩) hb).trans a0)
          have y1 := grew_every (w := wr) (S := fun w' => w'.cell? ⟨b, o + i * 4 + 1, none⟩ = some (.int .i64 q2)) (fun w' g => (grew_cell g (p := ⟨b, _, none⟩) hb).trans a1)
          have y2 := grew_every (w := wr) (S := fun w' => w'.cell? ⟨b, o + i * 4 + 2, none⟩ = some (.int .i64 q3)) (fun w' g => (grew_cell g (p := ⟨b, _, none⟩) hb).trans a2)
          have y3 := grew_every (w := wr) (S := fun w' => w'.cell? ⟨b, o + i * 4 + 3, none⟩ = some (.int .i64 q4)) (fun w' g => (grew_cell g (p := ⟨b, _, none⟩) hb).trans a3)
          clear a0 a1 a2 a3 hb
          go_upto_region 8 with (fail)
          refine wp_region_grew (by kernel_rfl) (by kernel_rfl) ?_
          repeat (go_big_quiet_step (with_reducible exact calls_every CX))
          refine wpQuiet_nil ?_
          intro w5 hw'
          have HG5 := Lib.hid (grew_of hw')
          clear hw' x0 x1 x2 y0 y1 y2 y3
          go_wp2
          go_ret2
          exact ⟨i, false, rfl, HF.out, grew_trans HG.out HG5.out⟩
      · have HF : Hid (FoundCa l m n i false) := ⟨hj, HA.out, HB.out, fun h => (by cases h), fun h => absurd h.1 hin⟩
        have i3 : ¬ (i : Int) < (n : Int) := by omega
        clear HA HB
        go_upto_region 8 with (fail)
        refine wp_region_grew (by kernel_rfl) (by kernel_rfl) ?_
        repeat (go_big_quiet_step (fail))
        refine wpQuiet_nil ?_
        intro w5 hw'
        have HG5 := Lib.hid (grew_of hw')
        clear hw' x0 x1 x2
        go_wp2
        go_ret2
        exact ⟨i, false, rfl, HF.out, grew_trans HG.out HG5.out⟩
end Go.Proofs.Ytaipgcckafbgeaa.NumK
namespace Go.Proofs.Ytaipgcckafbgeaa.NumK
open Go.RowKit
set_option linter.unusedVariables false

def AskPost (l : List Ca) (d : Du) (t : Int) (w : World) (e : Ending) (w' : World) : Prop := ∃ v, e = .returned (.tuple #[v, .int .i64 (askE l d t)]) ∧ OwnE enC4 w' w.heap.size 32 v (askL l d t) ∧ Grew w w'
theorem ask_14 {l : List Ca} {d : Du} {t : Int} (h : rightCa l = false) : askE l d t = 14 := by unfold askE; rw [h]; rfl
theorem ask_3 {l : List Ca} {d : Du} {t : Int} (h : rightCa l = true) (h2 : okDu d = false ∨ wi t 0 1099511627776 = false) : askE l d t = 3 := by
  unfold askE; rw [if_pos h, if_neg]
  rw [Bool.and_eq_true]
  rintro ⟨h3, h4⟩
  rcases h2 with h2 | h2
  · rw [h2] at h3; cases h3
  · rw [h2] at h4; cases h4
theorem ask_0 {l : List Ca} {d : Du} {t : Int} (h : rightCa l = true) (h2 : okDu d = true) (h3 : wi t 0 1099511627776 = true) : askE l d t = 0 := by
  unfold askE; rw [if_pos h, if_pos (by rw [h2, h3]; rfl)]
theorem askL_no {l : List Ca} {d : Du} {t : Int} (h : askE l d t ≠ 0) : askL l d t = [] := by unfold askL; rw [if_neg h]
theorem askL_ok {l : List Ca} {d : Du} {t : Int} (h : askE l d t = 0) : askL l d t = setL noCa l (noDu d) (askO l d t) := by unfold askL; rw [if_pos h]; rfl
theorem AskPost.no {l : List Ca} {d : Du} {t k : Int} {w w' : World} (h : askE l d t = k) (hk : k ≠ 0) (g : Grew w w') : AskPost l d t w (.returned (.tuple #[.slice none 0 0, .int .i64 k])) w' :=
  ⟨_, by rw [h], by rw [askL_no (by rw [h]; exact hk)]; exact OwnE.nil _ _ _ _, g⟩
theorem find_place {l : List Ca} (h1 : rightCa l = true) {d : Du} (h2 : okCK d.1 d.2.1 = true) {k : Nat} (hk : k < l.length) (he : noCa (l.getD k ca0) = noDu d) : findC l d.1 d.2.1 = some (l.getD k ca0) := by
  rw [find_get h1 h2]
  exact (getL_iff ((rightCa_iff l).1 h1).2 _ _).2 ⟨getD_mem l ca0 k hk, he⟩
theorem find_nowhere {l : List Ca} (h1 : rightCa l = true) {d : Du} (h2 : okCK d.1 d.2.1 = true) {k : Nat} (ha : ∀ i, i < k → noCa (l.getD i ca0) < noDu d) (hb : ∀ i, k ≤ i → i < l.length → noDu d ≤ noCa (l.getD i ca0)) (hno : ¬ (k < l.length ∧ noCa (l.getD k ca0) = noDu d)) : findC l d.1 d.2.1 = none := by
  rw [find_get h1 h2, getL_none]
  intro x hx he
  have he : noCa x = noDu d := he
  obtain ⟨i, hi, rfl⟩ := List.getElem_of_mem hx
  rw [← getD_at l ca0 i hi] at he
  rcases Nat.lt_trichotomy i k with h | h | h
  · have := ha i h; omega
  · subst h; exact hno ⟨hi, he⟩
  · have h4 := hb k (Nat.le_refl _) (by omega)
    have h5 := List.pairwise_iff_getElem.1 ((rightCa_iff l).1 h1).2 k i (by omega) hi h
    rw [← getD_at l ca0 k (by omega), ← getD_at l ca0 i hi] at h5
    omega

set_option maxRecDepth 100000 in
set_option maxHeartbeats 8000000 in
theorem clask_any (A : Option Addr) (n c : Nat) (l : List Ca) (d : Du) (t : Int) (w : World) (h : RowE enC4 w A n l) (hA : A = none → c = 0) (hnc : n ≤ c) (hc : c ≤ 9223372036854775807) (hn : n ≤ 1000) :
    Calls Try.prog 13 #[.slice A n c, vDe d, .int .i64 t] w (AskPost l d t w) := by
  have HI := Lib.hid h
  have HA := Lib.hid hA
  have HL := Lib.hid h.len
  have CK := fun w' (g : Grew w w') => clcheck_any A n c l w' (h.keep g) (by omega)
  have CP := fun w => clpermitted_any d w
  have CW := fun w => clwithin_any t 0 1099511627776 w
  have HS := Lib.hid (fun (hr : rightCa l = true) (hx : okCK d.1 d.2.1 = true) w' (g : Grew w w') => searchCa_any A n c l d w' (h.keep g) hr hx (by omega))
  have HE14 := Lib.hid (@ask_14 l d t)
  have HE3 := Lib.hid (@ask_3 l d t)
  have HE0 := Lib.hid (@ask_0 l d t)
  have HNO := Lib.hid (fun k w' => @AskPost.no l d t k w w')
  have HOK : Hid (askE l d t = 0 → ∀ v w', OwnE enC4 w' w.heap.size 32 v (setL noCa l (noDu d) (askO l d t)) → Grew w w' → AskPost l d t w (.returned (.tuple #[v, .int .i64 0])) w') := fun he v w' ho g => ⟨v, by rw [he], by rw [askL_ok he]; exact ho, g⟩
  have HCO : Hid (∀ f, findC l d.1 d.2.1 = f → askO l d t = if d.2.2 = 0 then none else some (d.1, d.2.1, d.2.2, match f with | some x => x.2.2.2 | none => t)) := fun f hf => by rw [← hf]; rfl
  have HFP := Lib.hid (fun (h1 : rightCa l = true) (h2 : okCK d.1 d.2.1 = true) (k : Nat) (hk : k < l.length) (he : noCa (l.getD k ca0) = noDu d) => find_place h1 h2 hk he)
  have HFN := Lib.hid (fun (h1 : rightCa l = true) (h2 : okCK d.1 d.2.1 = true) (k : Nat) (ha : ∀ i, i < k → noCa (l.getD i ca0) < noDu d) (hb : ∀ i, k ≤ i → i < l.length → noDu d ≤ noCa (l.getD i ca0)) (hno : ¬ (k < l.length ∧ noCa (l.getD k ca0) = noDu d)) => find_nowhere h1 h2 ha hb hno)
  have HDU := Lib.hid ((okDu_iff d).1)
  generalize AskPost l d t w = Q at *
  clear h hA
  obtain ⟨q1, q2, q3⟩ := d
  dsimp only [vDe] at *
  have HX0 : Hid (OwnC (w.alloc (.cells #[.int .i64 q1, .int .i64 q2, .int .i64 q3] 24)) w.heap.size [.int .i64 q1, .int .i64 q2, .int .i64 q3]) := OwnC.new w [.int .i64 q1, .int .i64 q2, .int .i64 q3] _ _ rfl
  have HG0 : Hid (Grew w (w.alloc (.cells #[.int .i64 q1, .int .i64 q2, .int .i64 q3] 24))) := grew_alloc _ _ _
  go_enter Try.func13, Try.ntmps13
  go_upto_region 1 with (fail)
  generalize w.alloc (.cells #[.int .i64 q1, .int .i64 q2, .int .i64 q3] 24) = w0 at *
  have CK1 := CK w0 HG0.out
  clear CK
  by_cases h1 : rightCa l = true
  · rw [show chkC l = 0 by unfold chkC; rw [if_pos h1]] at CK1
    go_upto_region 4 with (go_at_call 9; ((with_reducible refine CK1.mono ?_); rintro e w2 ⟨rfl, hg⟩; have HX2 := Lib.hid (HX0.out.keep hg); have HG2 := Lib.hid (grew_trans HG0.out hg); clear hg CK1 HX0 HG0))
    have x0 := HX2.out.at 0 (.int .i64 q1) rfl; have x1 := HX2.out.at 1 (.int .i64 q2) rfl; have x2 := HX2.out.at 2 (.int .i64 q3) rfl
    by_cases h2 : okDu (q1, q2, q3) = true
    · rw [h2] at CP
      have hdu := HDU.out h2
      try dsimp only at hdu
      by_cases h3 : wi t 0 1099511627776 = true
      · rw [h3] at CW
        have HE := Lib.hid (HE0.out h1 h2 h3)
        have HOK2 := Lib.hid (HOK.out HE.out)
        have CS := HS.out h1 hdu.1
        have HFP2 := Lib.hid (HFP.out h1 hdu.1)
        have HFN2 := Lib.hid (HFN.out h1 hdu.1)
        have HPT := Lib.hid (fun k a b d => put_at ((rightCa_iff l).1 h1).2 ((q1, q2, 0, 0) : Ca) k (d := ca0) a b d)
        have HNX : Hid (noCa ((q1, q2, 0, 0) : Ca) = noDu (q1, q2, q3)) := rfl
        have hq0 : 0 ≤ q3 := hdu.2.1
        have HSL : Hid (∀ CO, setL noCa l (noDu (q1, q2, q3)) CO = l.filter (fun y => decide (noCa y < noDu (q1, q2, q3))) ++ (CO.toList ++ l.filter (fun y => decide (noDu (q1, q2, q3) < noCa y)))) := fun _ => rfl
        rw [HNX.out] at HPT
        clear HE HOK HS HFP HFN HDU HE14 HE3 HE0 HNO h1 h2 h3 hdu HNX
        try dsimp only at HCO HFP2 HFN2
        generalize noDu (q1, q2, q3) = nx at *
        go_upto_region 6 with (first
          | (go_at_call 25; ((with_reducible refine (CP _).mono ?_); rintro e w3 ⟨rfl, hg⟩; have HX3 := Lib.hid (HX2.out.keep hg); have HG3 := Lib.hid (grew_trans HG2.out hg); clear hg CP HX2 HG2 x0 x1 x2))
          | (go_at_call 26; ((with_reducible refine (CW _).mono ?_); rintro e w4 ⟨rfl, rfl⟩)))
        have x0 := HX3.out.at 0 (.int .i64 q1) rfl; have x1 := HX3.out.at 1 (.int .i64 q2) rfl; have x2 := HX3.out.at 2 (.int .i64 q3) rfl
        clear CW
        go_upto_region 7 with (go_at_call 32; ((with_reducible refine (CS _ HG3.out).mono ?_); rintro e w2 ⟨k, th, rfl, hf, hg⟩; have HF := Lib.hid hf; have HX2 := Lib.hid (HX3.out.keep hg); have HG2 := Lib.hid (grew_trans HG3.out hg); clear hg hf CS HX3 HG3 x0 x1 x2))
        have x0 := HX2.out.at 0 (.int .i64 q1) rfl; have x1 := HX2.out.at 1 (.int .i64 q2) rfl; have x2 := HX2.out.at 2 (.int .i64 q3) rfl
        have hk : k ≤ n := HF.out.1
        have i1 : (k : Int) ≤ (n : Int) := by omega
        have i2 : (0 : Int) ≤ (k : Int) := by omega
        have i3 : ¬ ((k : Int) > (c : Int)) := by omega
        have i4 : (k : Int) ≤ (c : Int) := by omega
        have i5 : ¬ ((k : Int) < 0) := by omega
        have i6 : k ≤ c := by omega
        have HPT2 := Lib.hid (HPT.out k (by rw [HL.out]; exact hk) (fun i hi => HF.out.2.1 i hi) (fun i hi hl => HF.out.2.2.1 i hi (by rw [← HL.out]; exact hl)))
        clear HPT
        have HWS : Hid (w.heap.size ≤ w2.heap.size) := HG2.out.size
        cases th
        · obtain ⟨A3, hA3⟩ : ∃ A3, (if c = k then A else Option.map (fun x => x.add (k * 4)) A) = A3 := ⟨_, rfl⟩
          have hno : ¬ (k < l.length ∧ noCa (l.getD k ca0) = nx) := fun h => by
            have := HF.out.2.2.2.2 ⟨by rw [← HL.out]; exact h.1, h.2⟩
            cases this
          have HCO2 := Lib.hid (HCO.out _ (HFN2.out k (fun i hi => HF.out.2.1 i hi) (fun i hi hl => HF.out.2.2.1 i hi (by rw [← HL.out]; exact hl)) hno))
          try dsimp only at HCO2
          have HX : Hid (RowE enC4 w2 A3 (n - k) (l.drop k) ∧ (A3 = none → c - k = 0) ∧ n - k ≤ 1000) := by
            have h1 := HI.out.keep HG2.out
            refine ⟨?_, fun h => ?_, by omega⟩
            · rw [← hA3]
              split
              · next e =>
                have : n - k = 0 := by omega
                rw [this, List.drop_eq_nil_of_le (by rw [HL.out]; omega)]
                exact RowE.nil _ _ _
              · exact RowE.dropO h1 hk
            · rw [← hA3] at h
              split at h
              · omega
              · cases A with
                | none => have := HA.out rfl; omega
                | some a => cases h
          clear HFP2 HFN2 HCO
          by_cases hq : q3 = 0
          · have HEQ : Hid (l.take k ++ ([] ++ l.drop (k)) = setL noCa l nx (askO l (q1, q2, q3) t)) := by show _ = _; rw [HSL.out, HCO2.out, if_pos hq, HPT2.out.1, HPT2.out.2.2 hno]; rfl
            have d6 : ¬ q3 > 0 := by omega
            clear HCO2 HSL HPT2 HF hq
            go_upto_region 13 with (fail)
            have H1 := Lib.hid (HI.out.keep HG2.out)
            have CC := concatCa_any w2.heap.size A none A3 k 0 (n - k) c 0 (c - k) (l.take k) [] (l.drop (k)) (w2.alloc (.cells #[.slice A k c, .slice none 0 0, .slice A3 (n - k) (c - k)] 22))
              (OwnC.new w2 [.slice A k c, .slice none 0 0, .slice A3 (n - k) (c - k)] 22 _ rfl) ((H1.out.take hk).keep (grew_alloc _ _ _)) (RowE.nil _ _ _) (HX.out.1.keep (grew_alloc _ _ _))
              HA.out (fun _ => rfl) HX.out.2.1 ⟨by omega, by omega, by have := HX.out.2.2; omega⟩
            rw [HEQ.out] at CC
            go_wp2_with (go_at_call 33; ((with_reducible refine CC.mono ?_); rintro e w6 ⟨v6, rfl, ho6, hg6⟩; have HO6 := Lib.hid ho6; have HG6 : Hid (Grew w2 w6) := grew_trans (grew_alloc _ _ _) hg6; clear ho6 hg6))
            exact HOK2.out v6 _ (HO6.out.mono (Nat.le_trans HWS.out (grew_size (grew_alloc _ _ _)))) (grew_trans HG2.out HG6.out)
          · have HEQ : Hid (l.take k ++ ([(q1, q2, q3, t)] ++ l.drop (k)) = setL noCa l nx (askO l (q1, q2, q3) t)) := by show _ = _; rw [HSL.out, HCO2.out, if_neg hq, HPT2.out.1, HPT2.out.2.2 hno]; rfl
            have d6 : q3 > 0 := by omega
            clear HCO2 HSL HPT2 HF hq
            go_upto_region 13 with (at_builtin; refine (wpList_append_E rfl _ _ 22 32 (vCa ca0) 32 rfl Try.underlying22 info_ca rfl w2.heap.size _ [] rfl (OwnE.nil enC4 _ _ _) (some ⟨w2.heap.size, 0, none⟩) 1 1 [(q1, q2, q3, t)] rfl (by intro h; cases h) (RowE.one enC4 w2 (q1, q2, q3, t) 32 _ rfl) (by simp; unfold maxLen; omega) (by simp) (by simp) ?_); intro v' w4 ho hb; rw [List.nil_append] at ho; obtain ⟨A2, c2, rfl, hr2, hn2, -⟩ := ho.form; have HR2 := Lib.hid hr2; have HN2 := Lib.hid hn2; have HG4 : Hid (Grew w2 w4) := Below.trans (grew_alloc _ _ _) hb; clear ho hb hr2 hn2)
            have H1 := Lib.hid (HI.out.keep (grew_trans HG2.out HG4.out))
            have CC := concatCa_any w4.heap.size A A2 A3 k 1 (n - k) c c2 (c - k) (l.take k) [(q1, q2, q3, t)] (l.drop (k)) (w4.alloc (.cells #[.slice A k c, .slice A2 1 c2, .slice A3 (n - k) (c - k)] 22))
              (OwnC.new w4 [.slice A k c, .slice A2 1 c2, .slice A3 (n - k) (c - k)] 22 _ rfl) ((H1.out.take hk).keep (grew_alloc _ _ _)) (HR2.out.keep (grew_alloc _ _ _)) (HX.out.1.keep (grew_trans HG4.out (grew_alloc _ _ _)))
              HA.out HN2.out HX.out.2.1 ⟨by omega, by omega, by have := HX.out.2.2; omega⟩
            rw [HEQ.out] at CC
            go_wp2_with (go_at_call 33; ((with_reducible refine CC.mono ?_); rintro e w6 ⟨v6, rfl, ho6, hg6⟩; have HO6 := Lib.hid ho6; have HG6 : Hid (Grew w2 w6) := grew_trans (grew_trans HG4.out (grew_alloc _ _ _)) hg6; clear ho6 hg6))
            exact HOK2.out v6 _ (HO6.out.mono (Nat.le_trans (Nat.le_trans HWS.out (grew_size HG4.out)) (grew_size (grew_alloc _ _ _)))) (grew_trans HG2.out HG6.out)
        · have hkn : k < n := (HF.out.2.2.2.1 rfl).1
          have hyes : k < l.length ∧ noCa (l.getD k ca0) = nx := ⟨by rw [HL.out]; exact hkn, (HF.out.2.2.2.1 rfl).2⟩
          have HCO2 := Lib.hid (HCO.out _ (HFP2.out k hyes.1 hyes.2))
          try dsimp only at HCO2
          obtain ⟨b, o, rfl, hb, hcells⟩ := (HI.out.keep HG2.out).ca hkn
          obtain ⟨-, -, -, a3⟩ := hcells k hkn
          have hck : ¬ c = k := by omega
          have HIA : Hid (RowE enC4 w (some ⟨b, o, none⟩) n l) := HI.out
          obtain ⟨A3, hA3⟩ : ∃ A3, (if c - k = 1 then some (⟨b, o + k * 4, none⟩ : Addr) else some ⟨b, o + k * 4 + 4, none⟩) = A3 := ⟨_, rfl⟩
          have HX : Hid (RowE enC4 w2 A3 (n - k - 1) (l.drop (k + 1)) ∧ (A3 = none → c - k - 1 = 0) ∧ n - k - 1 ≤ 1000) := by
            have h1 := HI.out.keep HG2.out
            refine ⟨?_, fun h => ?_, by omega⟩
            · rw [← hA3]
              split
              · next e =>
                have : n - k - 1 = 0 := by omega
                rw [this, List.drop_eq_nil_of_le (by rw [HL.out]; omega)]
                exact RowE.nil _ _ _
              · have h2 := Row.drop (k := k + 1) h1 (by omega)
                rw [addr_add, show o + (k + 1) * enC4.sp.size = o + k * 4 + 4 by show o + (k + 1) * 4 = _; omega, show n - (k + 1) = n - k - 1 by omega] at h2
                exact h2
            · rw [← hA3] at h
              split at h <;> cases h
          clear HFP2 HFN2 HCO hcells
          have j1 : (0 : Int) < ((n - k : Nat) : Int) := by omega
          have j2 : (0 : Int) ≤ ((n - k : Nat) : Int) := by omega
          have j3 : (1 : Int) ≤ ((n - k : Nat) : Int) := by omega
          have j4 : (1 : Int) ≤ ((c - k : Nat) : Int) := by omega
          have j5 : 1 ≤ n - k := by omega
          have j6 : 1 ≤ c - k := by omega
          generalize (l.getD k ca0).2.2.2 = ta at *
          go_upto_region 9 with (fail)
          have y3 := grew_every (w := w2) (S := fun w' => w'.cell? ⟨b, o + k * 4 + 3, none⟩ = some (.int .i64 ta)) (fun w' g => (grew_cell g (p := ⟨b, _, none⟩) hb).trans a3)
          clear a3 hb
          refine wp_region_grew (by kernel_rfl) (by kernel_rfl) ?_
          repeat (go_big_quiet_step (fail))
          refine wpQuiet_nil ?_
          intro w9 hw'
          have HG9 := Lib.hid (grew_of hw')
          clear hw' y3 x0 x1 x2
          have HX9 := Lib.hid (HX2.out.keep HG9.out)
          have HG2' := Lib.hid (grew_trans HG2.out HG9.out)
          have HX' : Hid (RowE enC4 w9 A3 (n - k - 1) (l.drop (k + 1)) ∧ (A3 = none → c - k - 1 = 0) ∧ n - k - 1 ≤ 1000) := ⟨HX.out.1.keep HG9.out, HX.out.2⟩
          have HWS' : Hid (w.heap.size ≤ w9.heap.size) := HG2'.out.size
          clear HX HX2 HG2 HWS HG9
          have HX := Lib.hid HX'.out
          have HX2 := Lib.hid HX9.out
          have HG2 := Lib.hid HG2'.out
          have HWS := Lib.hid HWS'.out
          clear HX' HX9 HG2' HWS'
          clear w2
          generalize w9 = w2 at *
          have x0 := HX2.out.at 0 (.int .i64 q1) rfl; have x1 := HX2.out.at 1 (.int .i64 q2) rfl; have x2 := HX2.out.at 2 (.int .i64 q3) rfl
          by_cases hq : q3 = 0
          · have HEQ : Hid (l.take k ++ ([] ++ l.drop (k + 1)) = setL noCa l nx (askO l (q1, q2, q3) t)) := by show _ = _; rw [HSL.out, HCO2.out, if_pos hq, HPT2.out.1, HPT2.out.2.1 hyes]; rfl
            have d6 : ¬ q3 > 0 := by omega
            clear HCO2 HSL HPT2 HF hq
            go_upto_region 13 with (fail)
            have H1 := Lib.hid (HI.out.keep HG2.out)
            have CC := concatCa_any w2.heap.size (some ⟨b, o, none⟩) none A3 k 0 (n - k - 1) c 0 (c - k - 1) (l.take k) [] (l.drop (k + 1)) (w2.alloc (.cells #[.slice (some ⟨b, o, none⟩) k c, .slice none 0 0, .slice A3 (n - k - 1) (c - k - 1)] 22))
              (OwnC.new w2 [.slice (some ⟨b, o, none⟩) k c, .slice none 0 0, .slice A3 (n - k - 1) (c - k - 1)] 22 _ rfl) ((H1.out.take hk).keep (grew_alloc _ _ _)) (RowE.nil _ _ _) (HX.out.1.keep (grew_alloc _ _ _))
              HA.out (fun _ => rfl) HX.out.2.1 ⟨by omega, by omega, by have := HX.out.2.2; omega⟩
            rw [HEQ.out] at CC
            go_wp2_with (go_at_call 33; ((with_reducible refine CC.mono ?_); rintro e w6 ⟨v6, rfl, ho6, hg6⟩; have HO6 := Lib.hid ho6; have HG6 : Hid (Grew w2 w6) := grew_trans (grew_alloc _ _ _) hg6; clear ho6 hg6))
            exact HOK2.out v6 _ (HO6.out.mono (Nat.le_trans HWS.out (grew_size (grew_alloc _ _ _)))) (grew_trans HG2.out HG6.out)
          · have HEQ : Hid (l.take k ++ ([(q1, q2, q3, ta)] ++ l.drop (k + 1)) = setL noCa l nx (askO l (q1, q2, q3) t)) := by show _ = _; rw [HSL.out, HCO2.out, if_neg hq, HPT2.out.1, HPT2.out.2.1 hyes]; rfl
            have d6 : q3 > 0 := by omega
            clear HCO2 HSL HPT2 HF hq
            go_upto_region 13 with (at_builtin; refine (wpList_append_E rfl _ _ 22 32 (vCa ca0) 32 rfl Try.underlying22 info_ca rfl w2.heap.size _ [] rfl (OwnE.nil enC4 _ _ _) (some ⟨w2.heap.size, 0, none⟩) 1 1 [(q1, q2, q3, ta)] rfl (by intro h; cases h) (RowE.one enC4 w2 (q1, q2, q3, ta) 32 _ rfl) (by simp; unfold maxLen; omega) (by simp) (by simp) ?_); intro v' w4 ho hb; rw [List.nil_append] at ho; obtain ⟨A2, c2, rfl, hr2, hn2, -⟩ := ho.form; have HR2 := Lib.hid hr2; have HN2 := Lib.hid hn2; have HG4 : Hid (Grew w2 w4) := Below.trans (grew_alloc _ _ _) hb; clear ho hb hr2 hn2)
            have H1 := Lib.hid (HI.out.keep (grew_trans HG2.out HG4.out))
            have CC := concatCa_any w4.heap.size (some ⟨b, o, none⟩) A2 A3 k 1 (n - k - 1) c c2 (c - k - 1) (l.take k) [(q1, q2, q3, ta)] (l.drop (k + 1)) (w4.alloc (.cells #[.slice (some ⟨b, o, none⟩) k c, .slice A2 1 c2, .slice A3 (n - k - 1) (c - k - 1)] 22))
              (OwnC.new w4 [.slice (some ⟨b, o, none⟩) k c, .slice A2 1 c2, .slice A3 (n - k - 1) (c - k - 1)] 22 _ rfl) ((H1.out.take hk).keep (grew_alloc _ _ _)) (HR2.out.keep (grew_alloc _ _ _)) (HX.out.1.keep (grew_trans HG4.out (grew_alloc _ _ _)))
              HA.out HN2.out HX.out.2.1 ⟨by omega, by omega, by have := HX.out.2.2; omega⟩
            rw [HEQ.out] at CC
            go_wp2_with (go_at_call 33; ((with_reducible refine CC.mono ?_); rintro e w6 ⟨v6, rfl, ho6, hg6⟩; have HO6 := Lib.hid ho6; have HG6 : Hid (Grew w2 w6) := grew_trans (grew_trans HG4.out (grew_alloc _ _ _)) hg6; clear ho6 hg6))
            exact HOK2.out v6 _ (HO6.out.mono (Nat.le_trans (Nat.le_trans HWS.out (grew_size HG4.out)) (grew_size (grew_alloc _ _ _)))) (grew_trans HG2.out HG6.out)
      · have h3 : wi t 0 1099511627776 = false := by simpa using h3
        have he := HE3.out h1 (.inr h3)
        rw [h3] at CW
        clear HE3 HE14 HE0 HOK HS HFP HFN HDU h1 h2 h3 hdu HCO
        go_wp2_with (first
          | (go_at_call 25; ((with_reducible refine (CP _).mono ?_); rintro e w3 ⟨rfl, hg⟩; have HG3 := Lib.hid (grew_trans HG2.out hg); clear hg CP))
          | (go_at_call 26; ((with_reducible refine (CW _).mono ?_); rintro e w4 ⟨rfl, rfl⟩)))
        exact HNO.out 3 _ he (by decide) HG3.out
    · have h2 : okDu (q1, q2, q3) = false := by simpa using h2
      have he := HE3.out h1 (.inl h2)
      rw [h2] at CP
      clear HE3 HE14 HE0 HOK HS HFP HFN HDU h1 h2 CW HCO
      go_wp2_with (go_at_call 25; ((with_reducible refine (CP _).mono ?_); rintro e w3 ⟨rfl, hg⟩; have HG3 := Lib.hid (grew_trans HG2.out hg); clear hg CP))
      exact HNO.out 3 _ he (by decide) HG3.out
  · have h1 : rightCa l = false := by simpa using h1
    have he := HE14.out h1
    rw [show chkC l = 14 by unfold chkC; rw [h1]; rfl] at CK1
    clear HE3 HE14 HE0 HOK HS HFP HFN HDU h1 CW CP HCO
    go_wp2_with (go_at_call 9; ((with_reducible refine CK1.mono ?_); rintro e w2 ⟨rfl, hg⟩; have HG2 := Lib.hid (grew_trans HG0.out hg); clear hg CK1))
    exact HNO.out 14 _ he (by decide) HG2.out
end Go.Proofs.Ytaipgcckafbgeaa.NumK
