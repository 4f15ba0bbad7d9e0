/- Falls in memory; keep's Fall, Falls, Dues, Clock, Calls, Bids. -/
import Derived.Test.YtodnllopokoicaaGreatRH20
import Derived.Test.YtodnllopokoicaaGreatRH5
import Derived.Test.YtodnllopokoicaaGreatRH15
namespace Go.Proofs.YtodnllopokoicaaGreat.NumK
open Go.RowKit
set_option linter.unusedVariables false

/-- Three ints; eight; four; five. -/
abbrev D3 := Int × Int × Int
abbrev F8 := Int × Int × Int × Int × Int × Int × Int × Int
abbrev C4 := Int × Int × Int × Int
abbrev B5 := Int × Int × Int × Int × Int
def enD3 : En D3 := ⟨3, fun x => [.int .i64 x.1, .int .i64 x.2.1, .int .i64 x.2.2], fun _ => rfl, fun a v hv => by
  simp at hv; rcases hv with rfl | rfl | rfl <;> rfl, by decide⟩
def enF8 : En F8 := ⟨8, fun x => [.int .i64 x.1, .int .i64 x.2.1, .int .i64 x.2.2.1, .int .i64 x.2.2.2.1, .int .i64 x.2.2.2.2.1, .int .i64 x.2.2.2.2.2.1, .int .i64 x.2.2.2.2.2.2.1, .int .i64 x.2.2.2.2.2.2.2], fun _ => rfl, fun a v hv => by
  simp at hv; rcases hv with rfl | rfl | rfl | rfl | rfl | rfl | rfl | rfl <;> rfl, by decide⟩
def enC4 : En C4 := ⟨4, fun x => [.int .i64 x.1, .int .i64 x.2.1, .int .i64 x.2.2.1, .int .i64 x.2.2.2], fun _ => rfl, fun a v hv => by
  simp at hv; rcases hv with rfl | rfl | rfl | rfl <;> rfl, by decide⟩
def enB5 : En B5 := ⟨5, fun x => [.int .i64 x.1, .int .i64 x.2.1, .int .i64 x.2.2.1, .int .i64 x.2.2.2.1, .int .i64 x.2.2.2.2], fun _ => rfl, fun a v hv => by
  simp at hv; rcases hv with rfl | rfl | rfl | rfl | rfl <;> rfl, by decide⟩

def CD3 (w : World) (b p : Nat) (x : D3) : Prop := w.cell? ⟨b, p, none⟩ = some (.int .i64 x.1) ∧ w.cell? ⟨b, p + 1, none⟩ = some (.int .i64 x.2.1) ∧ w.cell? ⟨b, p + 2, none⟩ = some (.int .i64 x.2.2)
theorem RowE.rD3 {w : World} {n : Nat} {l : List D3} {A : Option Addr} (h : RowE enD3 w A n l) {j : Nat} (hj : j < n) : ∃ b o, A = some ⟨b, o, none⟩ ∧ b < w.heap.size ∧ ∀ j, j < n → CD3 w b (o + j * 3) (l.getD j (0, 0, 0)) := by
  have hl := h.len
  obtain ⟨b, o, e, hb, hc⟩ := h.at (by omega)
  refine ⟨b, o, e, hb, fun j hj => ?_⟩
  have hj' : j < l.length := by omega
  rw [getD_at l (0, 0, 0) j hj']
  exact ⟨hc j hj' 0 (by decide), hc j hj' 1 (by decide), hc j hj' 2 (by decide)⟩

def CF8 (w : World) (b p : Nat) (x : F8) : Prop := w.cell? ⟨b, p, none⟩ = some (.int .i64 x.1) ∧ w.cell? ⟨b, p + 1, none⟩ = some (.int .i64 x.2.1) ∧ w.cell? ⟨b, p + 2, none⟩ = some (.int .i64 x.2.2.1) ∧ w.cell? ⟨b, p + 3, none⟩ = some (.int .i64 x.2.2.2.1) ∧ w.cell? ⟨b, p + 4, none⟩ = some (.int .i64 x.2.2.2.2.1) ∧ w.cell? ⟨b, p + 5, none⟩ = some (.int .i64 x.2.2.2.2.2.1) ∧ w.cell? ⟨b, p + 6, none⟩ = some (.int .i64 x.2.2.2.2.2.2.1) ∧ w.cell? ⟨b, p + 7, none⟩ = some (.int .i64 x.2.2.2.2.2.2.2)
theorem RowE.rF8 {w : World} {n : Nat} {l : List F8} {A : Option Addr} (h : RowE enF8 w A n l) {j : Nat} (hj : j < n) : ∃ b o, A = some ⟨b, o, none⟩ ∧ b < w.heap.size ∧ ∀ j, j < n → CF8 w b (o + j * 8) (l.getD j (0, 0, 0, 0, 0, 0, 0, 0)) := by
  have hl := h.len
  obtain ⟨b, o, e, hb, hc⟩ := h.at (by omega)
  refine ⟨b, o, e, hb, fun j hj => ?_⟩
  have hj' : j < l.length := by omega
  rw [getD_at l (0, 0, 0, 0, 0, 0, 0, 0) j hj']
  exact ⟨hc j hj' 0 (by decide), hc j hj' 1 (by decide), hc j hj' 2 (by decide), hc j hj' 3 (by decide), hc j hj' 4 (by decide), hc j hj' 5 (by decide), hc j hj' 6 (by decide), hc j hj' 7 (by decide)⟩

def CC4 (w : World) (b p : Nat) (x : C4) : Prop := w.cell? ⟨b, p, none⟩ = some (.int .i64 x.1) ∧ w.cell? ⟨b, p + 1, none⟩ = some (.int .i64 x.2.1) ∧ w.cell? ⟨b, p + 2, none⟩ = some (.int .i64 x.2.2.1) ∧ w.cell? ⟨b, p + 3, none⟩ = some (.int .i64 x.2.2.2)
theorem RowE.rC4 {w : World} {n : Nat} {l : List C4} {A : Option Addr} (h : RowE enC4 w A n l) {j : Nat} (hj : j < n) : ∃ b o, A = some ⟨b, o, none⟩ ∧ b < w.heap.size ∧ ∀ j, j < n → CC4 w b (o + j * 4) (l.getD j (0, 0, 0, 0)) := by
  have hl := h.len
  obtain ⟨b, o, e, hb, hc⟩ := h.at (by omega)
  refine ⟨b, o, e, hb, fun j hj => ?_⟩
  have hj' : j < l.length := by omega
  rw [getD_at l (0, 0, 0, 0) j hj']
  exact ⟨hc j hj' 0 (by decide), hc j hj' 1 (by decide), hc j hj' 2 (by decide), hc j hj' 3 (by decide)⟩

def CB5 (w : World) (b p : Nat) (x : B5) : Prop := w.cell? ⟨b, p, none⟩ = some (.int .i64 x.1) ∧ w.cell? ⟨b, p + 1, none⟩ = some (.int .i64 x.2.1) ∧ w.cell? ⟨b, p + 2, none⟩ = some (.int .i64 x.2.2.1) ∧ w.cell? ⟨b, p + 3, none⟩ = some (.int .i64 x.2.2.2.1) ∧ w.cell? ⟨b, p + 4, none⟩ = some (.int .i64 x.2.2.2.2)
theorem RowE.rB5 {w : World} {n : Nat} {l : List B5} {A : Option Addr} (h : RowE enB5 w A n l) {j : Nat} (hj : j < n) : ∃ b o, A = some ⟨b, o, none⟩ ∧ b < w.heap.size ∧ ∀ j, j < n → CB5 w b (o + j * 5) (l.getD j (0, 0, 0, 0, 0)) := by
  have hl := h.len
  obtain ⟨b, o, e, hb, hc⟩ := h.at (by omega)
  refine ⟨b, o, e, hb, fun j hj => ?_⟩
  have hj' : j < l.length := by omega
  rw [getD_at l (0, 0, 0, 0, 0) j hj']
  exact ⟨hc j hj' 0 (by decide), hc j hj' 1 (by decide), hc j hj' 2 (by decide), hc j hj' 3 (by decide), hc j hj' 4 (by decide)⟩

set_option maxRecDepth 100000 in
theorem clock_yes (q1 q2 q3 : Int) (w : World) : Calls Tryz.prog 39 #[.agg #[.int .i64 q1, .int .i64 q2, .int .i64 q3], .agg #[.int .i64 q1, .int .i64 q2, .int .i64 q3]] w fun e w' => e = .returned (.bool true) ∧ Grew w w' := by
  go_enter Tryz.func39, Tryz.ntmps39
  go_wp2
  go_ret
  exact ⟨rfl, grew_trans (grew_alloc _ _ _) (grew_alloc _ _ _)⟩

set_option maxRecDepth 100000 in
theorem kdue_yes (q1 q2 q3 : Int) (w : World) : Calls Tryz.prog 106 #[.agg #[.int .i64 q1, .int .i64 q2, .int .i64 q3], .agg #[.int .i64 q1, .int .i64 q2, .int .i64 q3]] w fun e w' => e = .returned (.bool true) ∧ Grew w w' := by
  go_enter Tryz.func106, Tryz.ntmps106
  go_wp2
  go_ret
  exact ⟨rfl, grew_trans (grew_alloc _ _ _) (grew_alloc _ _ _)⟩

set_option maxRecDepth 100000 in
set_option maxHeartbeats 2000000 in
theorem fall_yes (q1 q2 q3 q4 q5 q6 q7 q8 : Int) (w : World) : Calls Tryz.prog 145 #[.agg #[.int .i64 q1, .int .i64 q2, .int .i64 q3, .int .i64 q4, .int .i64 q5, .int .i64 q6, .int .i64 q7, .int .i64 q8], .agg #[.int .i64 q1, .int .i64 q2, .int .i64 q3, .int .i64 q4, .int .i64 q5, .int .i64 q6, .int .i64 q7, .int .i64 q8]] w fun e w' => e = .returned (.bool true) ∧ Grew w w' := by
  have HX : Hid (OwnC ((w.alloc (.cells #[.int .i64 q1, .int .i64 q2, .int .i64 q3, .int .i64 q4, .int .i64 q5, .int .i64 q6, .int .i64 q7, .int .i64 q8] 203)).alloc (.cells #[.int .i64 q1, .int .i64 q2, .int .i64 q3, .int .i64 q4, .int .i64 q5, .int .i64 q6, .int .i64 q7, .int .i64 q8] 203)) w.heap.size [.int .i64 q1, .int .i64 q2, .int .i64 q3, .int .i64 q4, .int .i64 q5, .int .i64 q6, .int .i64 q7, .int .i64 q8]) := (OwnC.new w [.int .i64 q1, .int .i64 q2, .int .i64 q3, .int .i64 q4, .int .i64 q5, .int .i64 q6, .int .i64 q7, .int .i64 q8] _ _ rfl).keep (grew_alloc _ _ _)
  have HY : Hid (OwnC ((w.alloc (.cells #[.int .i64 q1, .int .i64 q2, .int .i64 q3, .int .i64 q4, .int .i64 q5, .int .i64 q6, .int .i64 q7, .int .i64 q8] 203)).alloc (.cells #[.int .i64 q1, .int .i64 q2, .int .i64 q3, .int .i64 q4, .int .i64 q5, .int .i64 q6, .int .i64 q7, .int .i64 q8] 203)) (w.heap.size + 1) [.int .i64 q1, .int .i64 q2, .int .i64 q3, .int .i64 q4, .int .i64 q5, .int .i64 q6, .int .i64 q7, .int .i64 q8]) := OwnC.new _ [.int .i64 q1, .int .i64 q2, .int .i64 q3, .int .i64 q4, .int .i64 q5, .int .i64 q6, .int .i64 q7, .int .i64 q8] _ _ (by simp)
  have HG : Hid (Grew w ((w.alloc (.cells #[.int .i64 q1, .int .i64 q2, .int .i64 q3, .int .i64 q4, .int .i64 q5, .int .i64 q6, .int .i64 q7, .int .i64 q8] 203)).alloc (.cells #[.int .i64 q1, .int .i64 q2, .int .i64 q3, .int .i64 q4, .int .i64 q5, .int .i64 q6, .int .i64 q7, .int .i64 q8] 203))) := grew_trans (grew_alloc _ _ _) (grew_alloc _ _ _)
  go_enter Tryz.func145, Tryz.ntmps145
  go_upto_region 1 with (fail)
  generalize ((w.alloc (.cells #[.int .i64 q1, .int .i64 q2, .int .i64 q3, .int .i64 q4, .int .i64 q5, .int .i64 q6, .int .i64 q7, .int .i64 q8] 203)).alloc (.cells #[.int .i64 q1, .int .i64 q2, .int .i64 q3, .int .i64 q4, .int .i64 q5, .int .i64 q6, .int .i64 q7, .int .i64 q8] 203)) = w0 at *
  generalize w.heap.size + 1 = M at *
  generalize w.heap.size = N at *
  go_wp2
  go_loopw [5] (fun vi wr => ∃ k : Nat, vi = .int .i64 k ∧ k ≤ 5 ∧ Hid (Grew w0 wr)) (fun vi _ => 5 - (intOf vi).toNat)
  case atStart => exact ⟨0, rfl, by omega, grew_refl _⟩
  case round =>
    obtain ⟨k, rfl, hk, HGR⟩ := hrel
    by_cases hlt : k < 5
    · have i1 : (k : Int) < 5 := by omega
      have i0 : (0 : Int) ≤ (k : Int) := by omega
      obtain ⟨qv, hq1, hq2⟩ : ∃ qv, (∀ w', Grew wr w' → w'.cell? ⟨N, 2 + k, none⟩ = some (.int .i64 qv)) ∧ (∀ w', Grew wr w' → w'.cell? ⟨M, 2 + k, none⟩ = some (.int .i64 qv)) := by
        rcases k with _ | _ | _ | _ | _ | k
        · exact ⟨q3, fun w' g => (HX.out.keep (grew_trans HGR.out g)).at 2 _ rfl, fun w' g => (HY.out.keep (grew_trans HGR.out g)).at 2 _ rfl⟩
        · exact ⟨q4, fun w' g => (HX.out.keep (grew_trans HGR.out g)).at 3 _ rfl, fun w' g => (HY.out.keep (grew_trans HGR.out g)).at 3 _ rfl⟩
        · exact ⟨q5, fun w' g => (HX.out.keep (grew_trans HGR.out g)).at 4 _ rfl, fun w' g => (HY.out.keep (grew_trans HGR.out g)).at 4 _ rfl⟩
        · exact ⟨q6, fun w' g => (HX.out.keep (grew_trans HGR.out g)).at 5 _ rfl, fun w' g => (HY.out.keep (grew_trans HGR.out g)).at 5 _ rfl⟩
        · exact ⟨q7, fun w' g => (HX.out.keep (grew_trans HGR.out g)).at 6 _ rfl, fun w' g => (HY.out.keep (grew_trans HGR.out g)).at 6 _ rfl⟩
        · omega
      have x0 := grew_every hq1
      have y0 := grew_every hq2
      clear hq1 hq2
      go_upto_region 4 with (fail)
      refine wp_region_grew (by kernel_rfl) (by kernel_rfl) ?_
      repeat (go_big_quiet_step (fail))
      refine wpQuiet_nil ?_
      intro w5 hw'
      have HG5 := Lib.hid (grew_of hw')
      clear hw' x0 y0
      go_wp2
      go_roundw
      case rel => exact ⟨k + 1, by go_num, by omega, grew_trans HGR.out HG5.out⟩
      case measure => simp only [intOf]; omega
    · obtain rfl : k = 5 := by omega
      have HXR := Lib.hid (HX.out.keep HGR.out)
      have HYR := Lib.hid (HY.out.keep HGR.out)
      have x0 := HXR.out.at 0 (.int .i64 q1) rfl; have x1 := HXR.out.at 1 (.int .i64 q2) rfl; have x7 := HXR.out.at 7 (.int .i64 q8) rfl
      have y0 := HYR.out.at 0 (.int .i64 q1) rfl; have y1 := HYR.out.at 1 (.int .i64 q2) rfl; have y7 := HYR.out.at 7 (.int .i64 q8) rfl
      go_wp2
      go_ret
      exact ⟨rfl, grew_trans HG.out HGR.out⟩

set_option maxRecDepth 100000 in
set_option maxHeartbeats 2000000 in
theorem kdues_yes (A B : Option Addr) (n c d : Nat) (l : List D3) (w : World) (h : RowE enD3 w A n l) (h2 : RowE enD3 w B n l) (hn : n ≤ 9000000000000000000) :
    Calls Tryz.prog 138 #[.slice A n c, .slice B n d] w fun e w' => e = .returned (.bool true) ∧ Grew w w' := by
  have HI := Lib.hid h
  have HJ := Lib.hid h2
  clear h h2
  go_enter Tryz.func138, Tryz.ntmps138
  go_wp2
  go_loopw [5] (fun v wr => ∃ j : Nat, v = .int .i64 j ∧ j ≤ n ∧ Hid (Grew w wr)) (fun v _ => n - (intOf v).toNat)
  case atStart => exact ⟨0, rfl, by omega, grew_refl _⟩
  case round =>
    obtain ⟨j, rfl, hj, HG⟩ := hrel
    by_cases hlt : j < n
    · obtain ⟨b, o, rfl, hb, hc⟩ := (HI.out.keep HG.out).rD3 hlt
      obtain ⟨b2, o2, rfl, hb2, hc2⟩ := (HJ.out.keep HG.out).rD3 hlt
      obtain ⟨a0, a1, a2⟩ := hc j hlt
      obtain ⟨e0, e1, e2⟩ := hc2 j hlt
      clear hc hc2
      have i0 : (0 : Int) ≤ (j : Int) := by omega
      have i1 : (j : Int) < (n : Int) := by omega
      generalize l.getD j (0, 0, 0) = x at *
      obtain ⟨q1, q2, q3⟩ := x
      dsimp only at a0 a1 a2 e0 e1 e2
      have CX := fun w' (g : Grew wr w') => kdue_yes q1 q2 q3 w'
      have x0 : ∀ p : GrewTo wr, p.to.cell? ⟨b, o + j * 3, none⟩ = _ := fun p => (grew_cell p.h (p := ⟨b, _, none⟩) hb).trans a0; have x1 : ∀ p : GrewTo wr, p.to.cell? ⟨b, o + j * 3 + 1, none⟩ = _ := fun p => (grew_cell p.h (p := ⟨b, _, none⟩) hb).trans a1; have x2 : ∀ p : GrewTo wr, p.to.cell? ⟨b, o + j * 3 + 2, none⟩ = _ := fun p => (grew_cell p.h (p := ⟨b, _, none⟩) hb).trans a2
      have y0 : ∀ p : GrewTo wr, p.to.cell? ⟨b2, o2 + j * 3, none⟩ = _ := fun p => (grew_cell p.h (p := ⟨b2, _, none⟩) hb2).trans e0; have y1 : ∀ p : GrewTo wr, p.to.cell? ⟨b2, o2 + j * 3 + 1, none⟩ = _ := fun p => (grew_cell p.h (p := ⟨b2, _, none⟩) hb2).trans e1; have y2 : ∀ p : GrewTo wr, p.to.cell? ⟨b2, o2 + j * 3 + 2, none⟩ = _ := fun p => (grew_cell p.h (p := ⟨b2, _, none⟩) hb2).trans e2
      clear a0 a1 a2 e0 e1 e2 hb hb2
      go_wp2_with fail
      refine wp_region_grew (by kernel_rfl) (by kernel_rfl) ?_
      repeat (go_big_quiet_step (with_reducible exact calls_every CX))
      refine wpQuiet_nil ?_
      intro w5 hw'
      have HG5 := Lib.hid (grew_of hw')
      clear hw' x0 y0 x1 y1 x2 y2
      go_wp2
      go_roundw
      case rel => exact ⟨j + 1, by go_num, by omega, grew_trans HG.out HG5.out⟩
      case measure => simp only [intOf]; omega
    · obtain rfl : j = n := by omega
      go_wp2
      go_ret
      exact ⟨rfl, HG.out⟩

set_option maxRecDepth 100000 in
set_option maxHeartbeats 2000000 in
theorem kfalls_yes (A B : Option Addr) (n c d : Nat) (l : List F8) (w : World) (h : RowE enF8 w A n l) (h2 : RowE enF8 w B n l) (hn : n ≤ 9000000000000000000) :
    Calls Tryz.prog 139 #[.slice A n c, .slice B n d] w fun e w' => e = .returned (.bool true) ∧ Grew w w' := by
  have HI := Lib.hid h
  have HJ := Lib.hid h2
  clear h h2
  go_enter Tryz.func139, Tryz.ntmps139
  go_wp2
  go_loopw [5] (fun v wr => ∃ j : Nat, v = .int .i64 j ∧ j ≤ n ∧ Hid (Grew w wr)) (fun v _ => n - (intOf v).toNat)
  case atStart => exact ⟨0, rfl, by omega, grew_refl _⟩
  case round =>
    obtain ⟨j, rfl, hj, HG⟩ := hrel
    by_cases hlt : j < n
    · obtain ⟨b, o, rfl, hb, hc⟩ := (HI.out.keep HG.out).rF8 hlt
      obtain ⟨b2, o2, rfl, hb2, hc2⟩ := (HJ.out.keep HG.out).rF8 hlt
      obtain ⟨a0, a1, a2, a3, a4, a5, a6, a7⟩ := hc j hlt
      obtain ⟨e0, e1, e2, e3, e4, e5, e6, e7⟩ := hc2 j hlt
      clear hc hc2
      have i0 : (0 : Int) ≤ (j : Int) := by omega
      have i1 : (j : Int) < (n : Int) := by omega
      generalize l.getD j (0, 0, 0, 0, 0, 0, 0, 0) = x at *
      obtain ⟨q1, q2, q3, q4, q5, q6, q7, q8⟩ := x
      dsimp only at a0 a1 a2 a3 a4 a5 a6 a7 e0 e1 e2 e3 e4 e5 e6 e7
      have CX := fun w' (g : Grew wr w') => fall_yes q1 q2 q3 q4 q5 q6 q7 q8 w'
      have x0 : ∀ p : GrewTo wr, p.to.cell? ⟨b, o + j * 8, none⟩ = _ := fun p => (grew_cell p.h (p := ⟨b, _, none⟩) hb).trans a0; have x1 : ∀ p : GrewTo wr, p.to.cell? ⟨b, o + j * 8 + 1, none⟩ = _ := fun p => (grew_cell p.h (p := ⟨b, _, none⟩) hb).trans a1; have x2 : ∀ p : GrewTo wr, p.to.cell? ⟨b, o + j * 8 + 2, none⟩ = _ := fun p => (grew_cell p.h (p := ⟨b, _, none⟩) hb).trans a2; have x3 : ∀ p : GrewTo wr, p.to.cell? ⟨b, o + j * 8 + 3, none⟩ = _ := fun p => (grew_cell p.h (p := ⟨b, _, none⟩) hb).trans a3; have x4 : ∀ p : GrewTo wr, p.to.cell? ⟨b, o + j * 8 + 4, none⟩ = _ := fun p => (grew_cell p.h (p := ⟨b, _, none⟩) hb).trans a4; have x5 : ∀ p : GrewTo wr, p.to.cell? ⟨b, o + j * 8 + 5, none⟩ = _ := fun p => (grew_cell p.h (p := ⟨b, _, none⟩) hb).trans a5; have x6 : ∀ p : GrewTo wr, p.to.cell? ⟨b, o + j * 8 + 6, none⟩ = _ := fun p => (grew_cell p.h (p := ⟨b, _, none⟩) hb).trans a6; have x7 : ∀ p : GrewTo wr, p.to.cell? ⟨b, o + j * 8 + 7, none⟩ = _ := fun p => (grew_cell p.h (p := ⟨b, _, none⟩) hb).trans a7
      have y0 : ∀ p : GrewTo wr, p.to.cell? ⟨b2, o2 + j * 8, none⟩ = _ := fun p => (grew_cell p.h (p := ⟨b2, _, none⟩) hb2).trans e0; have y1 : ∀ p : GrewTo wr, p.to.cell? ⟨b2, o2 + j * 8 + 1, none⟩ = _ := fun p => (grew_cell p.h (p := ⟨b2, _, none⟩) hb2).trans e1; have y2 : ∀ p : GrewTo wr, p.to.cell? ⟨b2, o2 + j * 8 + 2, none⟩ = _ := fun p => (grew_cell p.h (p := ⟨b2, _, none⟩) hb2).trans e2; have y3 : ∀ p : GrewTo wr, p.to.cell? ⟨b2, o2 + j * 8 + 3, none⟩ = _ := fun p => (grew_cell p.h (p := ⟨b2, _, none⟩) hb2).trans e3; have y4 : ∀ p : GrewTo wr, p.to.cell? ⟨b2, o2 + j * 8 + 4, none⟩ = _ := fun p => (grew_cell p.h (p := ⟨b2, _, none⟩) hb2).trans e4; have y5 : ∀ p : GrewTo wr, p.to.cell? ⟨b2, o2 + j * 8 + 5, none⟩ = _ := fun p => (grew_cell p.h (p := ⟨b2, _, none⟩) hb2).trans e5; have y6 : ∀ p : GrewTo wr, p.to.cell? ⟨b2, o2 + j * 8 + 6, none⟩ = _ := fun p => (grew_cell p.h (p := ⟨b2, _, none⟩) hb2).trans e6; have y7 : ∀ p : GrewTo wr, p.to.cell? ⟨b2, o2 + j * 8 + 7, none⟩ = _ := fun p => (grew_cell p.h (p := ⟨b2, _, none⟩) hb2).trans e7
      clear a0 a1 a2 a3 a4 a5 a6 a7 e0 e1 e2 e3 e4 e5 e6 e7 hb hb2
      go_wp2_with fail
      refine wp_region_grew (by kernel_rfl) (by kernel_rfl) ?_
      repeat (go_big_quiet_step (with_reducible exact calls_every CX))
      refine wpQuiet_nil ?_
      intro w5 hw'
      have HG5 := Lib.hid (grew_of hw')
      clear hw' x0 y0 x1 y1 x2 y2 x3 y3 x4 y4 x5 y5 x6 y6 x7 y7
      go_wp2
      go_roundw
      case rel => exact ⟨j + 1, by go_num, by omega, grew_trans HG.out HG5.out⟩
      case measure => simp only [intOf]; omega
    · obtain rfl : j = n := by omega
      go_wp2
      go_ret
      exact ⟨rfl, HG.out⟩

set_option maxRecDepth 100000 in
set_option maxHeartbeats 2000000 in
theorem kcalls_yes (A B : Option Addr) (n c d : Nat) (l : List C4) (w : World) (h : RowE enC4 w A n l) (h2 : RowE enC4 w B n l) (hn : n ≤ 9000000000000000000) :
    Calls Tryz.prog 44 #[.slice A n c, .slice B n d] w fun e w' => e = .returned (.bool true) ∧ Grew w w' := by
  have HI := Lib.hid h
  have HJ := Lib.hid h2
  clear h h2
  go_enter Tryz.func44, Tryz.ntmps44
  go_wp2
  go_loopw [5] (fun v wr => ∃ j : Nat, v = .int .i64 j ∧ j ≤ n ∧ Hid (Grew w wr)) (fun v _ => n - (intOf v).toNat)
  case atStart => exact ⟨0, rfl, by omega, grew_refl _⟩
  case round =>
    obtain ⟨j, rfl, hj, HG⟩ := hrel
    by_cases hlt : j < n
    · obtain ⟨b, o, rfl, hb, hc⟩ := (HI.out.keep HG.out).rC4 hlt
      obtain ⟨b2, o2, rfl, hb2, hc2⟩ := (HJ.out.keep HG.out).rC4 hlt
      obtain ⟨a0, a1, a2, a3⟩ := hc j hlt
      obtain ⟨e0, e1, e2, e3⟩ := hc2 j hlt
      clear hc hc2
      have i0 : (0 : Int) ≤ (j : Int) := by omega
      have i1 : (j : Int) < (n : Int) := by omega
      generalize l.getD j (0, 0, 0, 0) = x at *
      obtain ⟨q1, q2, q3, q4⟩ := x
      dsimp only at a0 a1 a2 a3 e0 e1 e2 e3
      have CX := fun w' (g : Grew wr w') => kdue_yes q1 q2 q3 w'
      have x0 : ∀ p : GrewTo wr, p.to.cell? ⟨b, o + j * 4, none⟩ = _ := fun p => (grew_cell p.h (p := ⟨b, _, none⟩) hb).trans a0; have x1 : ∀ p : GrewTo wr, p.to.cell? ⟨b, o + j * 4 + 1, none⟩ = _ := fun p => (grew_cell p.h (p := ⟨b, _, none⟩) hb).trans a1; have x2 : ∀ p : GrewTo wr, p.to.cell? ⟨b, o + j * 4 + 2, none⟩ = _ := fun p => (grew_cell p.h (p := ⟨b, _, none⟩) hb).trans a2; have x3 : ∀ p : GrewTo wr, p.to.cell? ⟨b, o + j * 4 + 3, none⟩ = _ := fun p => (grew_cell p.h (p := ⟨b, _, none⟩) hb).trans a3
      have y0 : ∀ p : GrewTo wr, p.to.cell? ⟨b2, o2 + j * 4, none⟩ = _ := fun p => (grew_cell p.h (p := ⟨b2, _, none⟩) hb2).trans e0; have y1 : ∀ p : GrewTo wr, p.to.cell? ⟨b2, o2 + j * 4 + 1, none⟩ = _ := fun p => (grew_cell p.h (p := ⟨b2, _, none⟩) hb2).trans e1; have y2 : ∀ p : GrewTo wr, p.to.cell? ⟨b2, o2 + j * 4 + 2, none⟩ = _ := fun p => (grew_cell p.h (p := ⟨b2, _, none⟩) hb2).trans e2; have y3 : ∀ p : GrewTo wr, p.to.cell? ⟨b2, o2 + j * 4 + 3, none⟩ = _ := fun p => (grew_cell p.h (p := ⟨b2, _, none⟩) hb2).trans e3
      clear a0 a1 a2 a3 e0 e1 e2 e3 hb hb2
      go_wp2_with fail
      refine wp_region_grew (by kernel_rfl) (by kernel_rfl) ?_
      repeat (go_big_quiet_step (with_reducible exact calls_every CX))
      refine wpQuiet_nil ?_
      intro w5 hw'
      have HG5 := Lib.hid (grew_of hw')
      clear hw' x0 y0 x1 y1 x2 y2 x3 y3
      go_wp2
      go_roundw
      case rel => exact ⟨j + 1, by go_num, by omega, grew_trans HG.out HG5.out⟩
      case measure => simp only [intOf]; omega
    · obtain rfl : j = n := by omega
      go_wp2
      go_ret
      exact ⟨rfl, HG.out⟩

theorem kkey_yes (q1 q2 : Int) (w : World) : Calls Tryz.prog 107 #[.agg #[.int .i64 q1, .int .i64 q2], .agg #[.int .i64 q1, .int .i64 q2]] w fun e w' => e = .returned (.bool true) ∧ Grew w w' := by
  go_enter Tryz.func107, Tryz.ntmps107
  go_wp2
  go_ret
  exact ⟨rfl, grew_trans (grew_alloc _ _ _) (grew_alloc _ _ _)⟩

set_option maxRecDepth 100000 in
set_option maxHeartbeats 2000000 in
theorem kbids_yes (A B : Option Addr) (n c d : Nat) (l : List B5) (w : World) (h : RowE enB5 w A n l) (h2 : RowE enB5 w B n l) (hn : n ≤ 9000000000000000000) :
    Calls Tryz.prog 45 #[.slice A n c, .slice B n d] w fun e w' => e = .returned (.bool true) ∧ Grew w w' := by
  have HI := Lib.hid h
  have HJ := Lib.hid h2
  clear h h2
  go_enter Tryz.func45, Tryz.ntmps45
  go_wp2
  go_loopw [5] (fun v wr => ∃ j : Nat, v = .int .i64 j ∧ j ≤ n ∧ Hid (Grew w wr)) (fun v _ => n - (intOf v).toNat)
  case atStart => exact ⟨0, rfl, by omega, grew_refl _⟩
  case round =>
    obtain ⟨j, rfl, hj, HG⟩ := hrel
    by_cases hlt : j < n
    · obtain ⟨b, o, rfl, hb, hc⟩ := (HI.out.keep HG.out).rB5 hlt
      obtain ⟨b2, o2, rfl, hb2, hc2⟩ := (HJ.out.keep HG.out).rB5 hlt
      obtain ⟨a0, a1, a2, a3, a4⟩ := hc j hlt
      obtain ⟨e0, e1, e2, e3, e4⟩ := hc2 j hlt
      clear hc hc2
      have i0 : (0 : Int) ≤ (j : Int) := by omega
      have i1 : (j : Int) < (n : Int) := by omega
      generalize l.getD j (0, 0, 0, 0, 0) = x at *
      obtain ⟨q1, q2, q3, q4, q5⟩ := x
      dsimp only at a0 a1 a2 a3 a4 e0 e1 e2 e3 e4
      have CX := fun w' (g : Grew wr w') => kkey_yes q1 q2 w'
      have x0 : ∀ p : GrewTo wr, p.to.cell? ⟨b, o + j * 5, none⟩ = _ := fun p => (grew_cell p.h (p := ⟨b, _, none⟩) hb).trans a0; have x1 : ∀ p : GrewTo wr, p.to.cell? ⟨b, o + j * 5 + 1, none⟩ = _ := fun p => (grew_cell p.h (p := ⟨b, _, none⟩) hb).trans a1; have x2 : ∀ p : GrewTo wr, p.to.cell? ⟨b, o + j * 5 + 2, none⟩ = _ := fun p => (grew_cell p.h (p := ⟨b, _, none⟩) hb).trans a2; have x3 : ∀ p : GrewTo wr, p.to.cell? ⟨b, o + j * 5 + 3, none⟩ = _ := fun p => (grew_cell p.h (p := ⟨b, _, none⟩) hb).trans a3; have x4 : ∀ p : GrewTo wr, p.to.cell? ⟨b, o + j * 5 + 4, none⟩ = _ := fun p => (grew_cell p.h (p := ⟨b, _, none⟩) hb).trans a4
      have y0 : ∀ p : GrewTo wr, p.to.cell? ⟨b2, o2 + j * 5, none⟩ = _ := fun p => (grew_cell p.h (p := ⟨b2, _, none⟩) hb2).trans e0; have y1 : ∀ p : GrewTo wr, p.to.cell? ⟨b2, o2 + j * 5 + 1, none⟩ = _ := fun p => (grew_cell p.h (p := ⟨b2, _, none⟩) hb2).trans e1; have y2 : ∀ p : GrewTo wr, p.to.cell? ⟨b2, o2 + j * 5 + 2, none⟩ = _ := fun p => (grew_cell p.h (p := ⟨b2, _, none⟩) hb2).trans e2; have y3 : ∀ p : GrewTo wr, p.to.cell? ⟨b2, o2 + j * 5 + 3, none⟩ = _ := fun p => (grew_cell p.h (p := ⟨b2, _, none⟩) hb2).trans e3; have y4 : ∀ p : GrewTo wr, p.to.cell? ⟨b2, o2 + j * 5 + 4, none⟩ = _ := fun p => (grew_cell p.h (p := ⟨b2, _, none⟩) hb2).trans e4
      clear a0 a1 a2 a3 a4 e0 e1 e2 e3 e4 hb hb2
      go_wp2_with fail
      refine wp_region_grew (by kernel_rfl) (by kernel_rfl) ?_
      repeat (go_big_quiet_step (with_reducible exact calls_every CX))
      refine wpQuiet_nil ?_
      intro w5 hw'
      have HG5 := Lib.hid (grew_of hw')
      clear hw' x0 y0 x1 y1 x2 y2 x3 y3 x4 y4
      go_wp2
      go_roundw
      case rel => exact ⟨j + 1, by go_num, by omega, grew_trans HG.out HG5.out⟩
      case measure => simp only [intOf]; omega
    · obtain rfl : j = n := by omega
      go_wp2
      go_ret
      exact ⟨rfl, HG.out⟩
end Go.Proofs.YtodnllopokoicaaGreat.NumK
