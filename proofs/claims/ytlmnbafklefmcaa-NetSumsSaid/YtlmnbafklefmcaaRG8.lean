/- Units of a pledge; twins of pledges; two rows that are the same. -/
import Derived.Test.YtlmnbafklefmcaaRG7
import Derived.Test.YtlmnbafklefmcaaRG4
import Derived.Test.YtlmnbafklefmcaaRG2
import Derived.Deep.RegionHeld3
import Derived.Deep.RegionWith
import Derived.Test.YtlmnbafklefmcaaRG3
namespace Go.Proofs.Ytlmnbafklefmcaa.NumK
open Go.RowKit
set_option linter.unusedVariables false

end Go.Proofs.Ytlmnbafklefmcaa.NumK
namespace Go.Proofs.Ytlmnbafklefmcaa.NumK
open Go.RowKit
set_option linter.unusedVariables false

/-- Three ints; eight; four; five. -/
abbrev D3 := Int × Int × Int
abbrev F8 := Int × Int × Int × Int × Int × Int × Int × Int
abbrev C4 := Int × Int × Int × Int
abbrev B5 := Int × Int × Int × Int × Int
def enD3 : En D3 := ⟨3, fun x => [.int .i64 x.1, .int .i64 x.2.1, .int .i64 x.2.2], fun _ => rfl, fun a v hv => by
  simp at hv; rcases hv with rfl | rfl | rfl <;> rfl, by decide⟩
def enF8 : En F8 := ⟨8, fun x => [.int .i64 x.1, .int .i64 x.2.1, .int .i64 x.2.2.1, .int .i64 x.2.2.2.1, .int .i64 x.2.2.2.2.1, .int .i64 x.2.2.2.2.2.1, .int .i64 x.2.2.2.2.2.2.1, .int .i64 x.2.2.2.2.2.2.2], fun _ => rfl, fun a v hv => by
  simp at hv; rcases hv with rfl | rfl | rfl | rfl | rfl | rfl | rfl | rfl <;> rfl, by decide⟩
def enC4 : En C4 := ⟨4, fun x => [.int .i64 x.1, .int .i64 x.2.1, .int .i64 x.2.2.1, .int .i64 x.2.2.2], fun _ => rfl, fun a v hv => by
  simp at hv; rcases hv with rfl | rfl | rfl | rfl <;> rfl, by decide⟩
def enB5 : En B5 := ⟨5, fun x => [.int .i64 x.1, .int .i64 x.2.1, .int .i64 x.2.2.1, .int .i64 x.2.2.2.1, .int .i64 x.2.2.2.2], fun _ => rfl, fun a v hv => by
  simp at hv; rcases hv with rfl | rfl | rfl | rfl | rfl <;> rfl, by decide⟩

def CD3 (w : World) (b p : Nat) (x : D3) : Prop := w.cell? ⟨b, p, none⟩ = some (.int .i64 x.1) ∧ w.cell? ⟨b, p + 1, none⟩ = some (.int .i64 x.2.1) ∧ w.cell? ⟨b, p + 2, none⟩ = some (.int .i64 x.2.2)
theorem RowE.rD3 {w : World} {n : Nat} {l : List D3} {A : Option Addr} (h : RowE enD3 w A n l) {j : Nat} (hj : j < n) : ∃ b o, A = some ⟨b, o, none⟩ ∧ b < w.heap.size ∧ ∀ j, j < n → CD3 w b (o + j * 3) (l.getD j (0, 0, 0)) := by
  have hl := h.len
  obtain ⟨b, o, e, hb, hc⟩ := h.at (by omega)
  refine ⟨b, o, e, hb, fun j hj => ?_⟩
  have hj' : j < l.length := by omega
  rw [getD_at l (0, 0, 0) j hj']
  exact ⟨hc j hj' 0 (by decide), hc j hj' 1 (by decide), hc j hj' 2 (by decide)⟩

def CF8 (w : World) (b p : Nat) (x : F8) : Prop := w.cell? ⟨b, p, none⟩ = some (.int .i64 x.1) ∧ w.cell? ⟨b, p + 1, none⟩ = some (.int .i64 x.2.1) ∧ w.cell? ⟨b, p + 2, none⟩ = some (.int .i64 x.2.2.1) ∧ w.cell? ⟨b, p + 3, none⟩ = some (.int .i64 x.2.2.2.1) ∧ w.cell? ⟨b, p + 4, none⟩ = some (.int .i64 x.2.2.2.2.1) ∧ w.cell? ⟨b, p + 5, none⟩ = some (.int .i64 x.2.2.2.2.2.1) ∧ w.cell? ⟨b, p + 6, none⟩ = some (.int .i64 x.2.2.2.2.2.2.1) ∧ w.cell? ⟨b, p + 7, none⟩ = some (.int .i64 x.2.2.2.2.2.2.2)
def CC4 (w : World) (b p : Nat) (x : C4) : Prop := w.cell? ⟨b, p, none⟩ = some (.int .i64 x.1) ∧ w.cell? ⟨b, p + 1, none⟩ = some (.int .i64 x.2.1) ∧ w.cell? ⟨b, p + 2, none⟩ = some (.int .i64 x.2.2.1) ∧ w.cell? ⟨b, p + 3, none⟩ = some (.int .i64 x.2.2.2)
def CB5 (w : World) (b p : Nat) (x : B5) : Prop := w.cell? ⟨b, p, none⟩ = some (.int .i64 x.1) ∧ w.cell? ⟨b, p + 1, none⟩ = some (.int .i64 x.2.1) ∧ w.cell? ⟨b, p + 2, none⟩ = some (.int .i64 x.2.2.1) ∧ w.cell? ⟨b, p + 3, none⟩ = some (.int .i64 x.2.2.2.1) ∧ w.cell? ⟨b, p + 4, none⟩ = some (.int .i64 x.2.2.2.2)
set_option maxRecDepth 100000 in
theorem kdue_yes (q1 q2 q3 : Int) (w : World) : Calls Try.prog 28 #[.agg #[.int .i64 q1, .int .i64 q2, .int .i64 q3], .agg #[.int .i64 q1, .int .i64 q2, .int .i64 q3]] w fun e w' => e = .returned (.bool true) ∧ Grew w w' := by
  go_enter Try.func28, Try.ntmps28
  go_wp2
  go_ret
  exact ⟨rfl, grew_trans (grew_alloc _ _ _) (grew_alloc _ _ _)⟩

set_option maxRecDepth 100000 in
set_option maxHeartbeats 2000000 in
theorem kdues_yes (A B : Option Addr) (n c d : Nat) (l : List D3) (w : World) (h : RowE enD3 w A n l) (h2 : RowE enD3 w B n l) (hn : n ≤ 9000000000000000000) :
    Calls Try.prog 11 #[.slice A n c, .slice B n d] w fun e w' => e = .returned (.bool true) ∧ Grew w w' := by
  have HI := Lib.hid h
  have HJ := Lib.hid h2
  clear h h2
  go_enter Try.func11, Try.ntmps11
  go_wp2
  go_loopw [5] (fun v wr => ∃ j : Nat, v = .int .i64 j ∧ j ≤ n ∧ Hid (Grew w wr)) (fun v _ => n - (intOf v).toNat)
  case atStart => exact ⟨0, rfl, by omega, grew_refl _⟩
  case round =>
    obtain ⟨j, rfl, hj, HG⟩ := hrel
    by_cases hlt : j < n
    · obtain ⟨b, o, rfl, hb, hc⟩ := (HI.out.keep HG.out).rD3 hlt
      obtain ⟨b2, o2, rfl, hb2, hc2⟩ := (HJ.out.keep HG.out).rD3 hlt
      obtain ⟨a0, a1, a2⟩ := hc j hlt
      obtain ⟨e0, e1, e2⟩ := hc2 j hlt
      clear hc hc2
      have i0 : (0 : Int) ≤ (j : Int) := by omega
      have i1 : (j : Int) < (n : Int) := by omega
      generalize l.getD j (0, 0, 0) = x at *
      obtain ⟨q1, q2, q3⟩ := x
      dsimp only at a0 a1 a2 e0 e1 e2
      have CX := fun w' (g : Grew wr w') => kdue_yes q1 q2 q3 w'
      have x0 : ∀ p : GrewTo wr, p.to.cell? ⟨b, o + j * 3, none⟩ = _ := fun p => (grew_cell p.h (p := ⟨b, _, none⟩) hb).trans a0; have x1 : ∀ p : GrewTo wr, p.to.cell? ⟨b, o + j * 3 + 1, none⟩ = _ := fun p => (grew_cell p.h (p := ⟨b, _, none⟩) hb).trans a1; have x2 : ∀ p : GrewTo wr, p.to.cell? ⟨b, o + j * 3 + 2, none⟩ = _ := fun p => (grew_cell p.h (p := ⟨b, _, none⟩) hb).trans a2
      have y0 : ∀ p : GrewTo wr, p.to.cell? ⟨b2, o2 + j * 3, none⟩ = _ := fun p => (grew_cell p.h (p := ⟨b2, _, none⟩) hb2).trans e0; have y1 : ∀ p : GrewTo wr, p.to.cell? ⟨b2, o2 + j * 3 + 1, none⟩ = _ := fun p => (grew_cell p.h (p := ⟨b2, _, none⟩) hb2).trans e1; have y2 : ∀ p : GrewTo wr, p.to.cell? ⟨b2, o2 + j * 3 + 2, none⟩ = _ := fun p => (grew_cell p.h (p := ⟨b2, _, none⟩) hb2).trans e2
      clear a0 a1 a2 e0 e1 e2 hb hb2
      go_wp2_with fail
      refine wp_region_grew (by kernel_rfl) (by kernel_rfl) ?_
      repeat (go_big_quiet_step (with_reducible exact calls_every CX))
      refine wpQuiet_nil ?_
      intro w5 hw'
      have HG5 := Lib.hid (grew_of hw')
      clear hw' x0 y0 x1 y1 x2 y2
      go_wp2
      go_roundw
      case rel => exact ⟨j + 1, by go_num, by omega, grew_trans HG.out HG5.out⟩
      case measure => simp only [intOf]; omega
    · obtain rfl : j = n := by omega
      go_wp2
      go_ret
      exact ⟨rfl, HG.out⟩

end Go.Proofs.Ytlmnbafklefmcaa.NumK
namespace Go.Proofs.Ytlmnbafklefmcaa.NumK
open Go.RowKit
set_option linter.unusedVariables false

abbrev vD3 (x : D3) : Value := .agg #[.int .i64 x.1, .int .i64 x.2.1, .int .i64 x.2.2]
theorem any_yes {l : List D3} {p : D3 → Bool} {i : Nat} (hi : i < l.length) (h : p (l.getD i (0, 0, 0)) = true) : l.any p = true := List.any_eq_true.2 ⟨_, getD_mem l (0, 0, 0) i hi, h⟩
theorem any_no {l : List D3} {p : D3 → Bool} (h : ∀ i, i < l.length → p (l.getD i (0, 0, 0)) = false) : l.any p = false := by
  rw [← Bool.not_eq_true, List.any_eq_true]
  rintro ⟨x, hx, hp⟩
  obtain ⟨i, hi, rfl⟩ := List.getElem_of_mem hx
  have := h i hi
  rw [getD_at l (0, 0, 0) i hi, hp] at this
  cases this
def AtP (p : D3 → Bool) (l : List D3) (w : World) (e : Ending) (w' : World) : Prop := ∃ r : Int, (0 ≤ r ↔ l.any p = true) ∧ -1 ≤ r ∧ e = .returned (.int .i64 r) ∧ Grew w w'

def notM (x : D3) : Bool := !isMoney x.2.2
def notH (x : D3) : Bool := !heldD x
theorem anyM (l : List D3) : l.any notM = !l.all okD := by
  rw [List.not_all_eq_any_not]; rfl
theorem anyH (l : List D3) : l.any notH = !l.all heldD := by
  rw [List.not_all_eq_any_not]; rfl

set_option maxRecDepth 100000 in
theorem nright1_any (x : D3) (w : World) : Calls Try.prog 39 #[vD3 x] w fun e w' => e = .returned (.bool (notM x)) ∧ Grew w w' := by
  obtain ⟨q1, q2, q3⟩ := x
  have C : ∀ (W : World) (N : Nat), W.heap.size = N → Calls Try.prog 40 #[.slice (some ⟨N, 0, none⟩) 1 1] (W.alloc (.cells #[.int .i64 q3] 3)) fun e w' => e = .returned (.bool ([q3].all isMoney)) ∧ W.alloc (.cells #[.int .i64 q3] 3) = w' := fun W N hN => by subst hN; exact right_any (some ⟨W.heap.size, 0, none⟩) 1 1 [q3] _ (ints1 W q3 3) (by omega)
  have HE : Hid ([q3].all isMoney = isMoney q3) := by show _ = _; simp
  have HF : Hid (notM (q1, q2, q3) = !isMoney q3) := rfl
  rw [HE.out] at C
  generalize notM (q1, q2, q3) = R at *
  generalize isMoney q3 = m at *
  obtain rfl := HF.out
  clear HE HF
  go_enter Try.func39, Try.ntmps39
  go_wp2_with (go_at_call 40; ((with_reducible refine (C _ _ (by simp)).mono ?_); rintro e w1 ⟨rfl, rfl⟩))
  go_ret
  exact ⟨rfl, grew_trans (grew_alloc _ _ _) (grew_alloc _ _ _)⟩

set_option maxRecDepth 100000 in
theorem cash_any (x : D3) (w : World) : Calls Try.prog 33 #[vD3 x] w fun e w' => e = .returned (.agg #[.int .i64 2, .int .i64 x.1, .int .i64 x.2.1]) ∧ Grew w w' := by
  obtain ⟨q1, q2, q3⟩ := x
  dsimp only
  go_enter Try.func33, Try.ntmps33
  go_wp2
  refine bodyPost_ret (v := .agg #[.int .i64 2, .int .i64 q1, .int .i64 q2]) (by simp [results, Try.results33, go_sem]) rfl ?_
  exact ⟨rfl, grew_trans (grew_alloc _ _ _) (grew_alloc _ _ _)⟩

set_option maxRecDepth 100000 in
theorem unpay_any (x : D3) (w : World) : Calls Try.prog 31 #[vD3 x] w fun e w' => e = .returned (.bool (notH x)) ∧ Grew w w' := by
  obtain ⟨q1, q2, q3⟩ := x
  have C1 := fun w => cash_any (q1, q2, q3) w
  have C2 := fun w => aright_any 2 q1 q2 w
  have HF : Hid (notH (q1, q2, q3) = !rightA 2 q1 q2) := rfl
  generalize notH (q1, q2, q3) = R at *
  generalize rightA 2 q1 q2 = m at *
  obtain rfl := HF.out
  clear HF
  dsimp only at C1
  unfold acV at C2
  go_enter Try.func31, Try.ntmps31
  go_wp2_with (first
    | (go_at_call 33; ((with_reducible refine (C1 _).mono ?_); rintro e w1 ⟨rfl, hg1⟩))
    | (go_at_call 52; ((with_reducible refine (C2 _).mono ?_); rintro e w2 ⟨rfl, hg2⟩)))
  go_ret
  exact ⟨rfl, grew_trans (grew_trans (grew_alloc _ _ _) hg1) hg2⟩

set_option maxRecDepth 100000 in
set_option maxHeartbeats 2000000 in
theorem nindexM (A : Option Addr) (n c : Nat) (l : List D3) (w : World) (h : RowE enD3 w A n l) (hn : n ≤ 1000000) :
    Calls Try.prog 51 #[.slice A n c, .func (.func 39) #[] #[]] w (AtP notM l w) := by
  have HI := Lib.hid h
  have HL := Lib.hid h.len
  have CC := fun w' x => nright1_any x w'
  clear h
  go_enter Try.func51, Try.ntmps51
  go_wp2
  go_loopw [8] (fun v wr => ∃ j : Nat, v = .int .i64 j ∧ j ≤ n ∧ Hid (∀ i, i < j → notM (l.getD i (0, 0, 0)) = false) ∧ Hid (Grew w wr)) (fun v _ => n - (intOf v).toNat)
  case atStart => exact ⟨0, rfl, by omega, fun i hi => by omega, grew_refl _⟩
  case round =>
    obtain ⟨j, rfl, hj, HK, HG⟩ := hrel
    by_cases hlt : j < n
    · obtain ⟨b, o, rfl, hb, hc⟩ := (HI.out.keep HG.out).rD3 hlt
      obtain ⟨a0, a1, a2⟩ := hc j hlt
      have CX := fun w' => CC w' (l.getD j (0, 0, 0))
      have HY1 : Hid (notM (l.getD j (0, 0, 0)) = true → l.any notM = true) := fun h => any_yes (by rw [HL.out]; exact hlt) h
      have HK1 : Hid (notM (l.getD j (0, 0, 0)) = false → ∀ i, i < j + 1 → notM (l.getD i (0, 0, 0)) = false) := fun h i hi => by
        rcases Nat.lt_or_ge i j with h1 | h1
        · exact HK.out i h1
        · obtain rfl : i = j := by omega
          exact h
      have i0 : (0 : Int) ≤ (j : Int) := by omega
      have i1 : (j : Int) < (n : Int) := by omega
      clear hc hb CC
      generalize notM (l.getD j (0, 0, 0)) = lv at *
      generalize l.getD j (0, 0, 0) = x at *
      obtain ⟨q1, q2, q3⟩ := x
      dsimp only at a0 a1 a2 CX
      cases lv
      · have HK2 := Lib.hid (HK1.out rfl)
        clear HY1 HK1 HK
        go_wp2_with ((with_reducible refine (CX _).mono ?_); rintro e w5 ⟨rfl, hg⟩; have HG5 := Lib.hid (grew_trans HG.out hg); clear hg)
        go_roundw
        case rel => exact ⟨j + 1, by go_num, by omega, HK2.out, HG5.out⟩
        case measure => simp only [intOf]; omega
      · have HF := Lib.hid (HY1.out rfl)
        clear HY1 HK1 HK
        go_wp2_with ((with_reducible refine (CX _).mono ?_); rintro e w5 ⟨rfl, hg⟩; have HG5 := Lib.hid (grew_trans HG.out hg); clear hg)
        go_ret
        exact ⟨j, ⟨fun _ => HF.out, fun _ => by omega⟩, by omega, rfl, HG5.out⟩
    · obtain rfl : j = n := by omega
      have HF : Hid (l.any notM = false) := any_no (by rw [HL.out]; exact HK.out)
      clear HK
      go_wp2
      go_ret
      exact ⟨-1, ⟨fun h => by omega, fun h => by rw [HF.out] at h; cases h⟩, by omega, rfl, HG.out⟩

theorem ncontainsM (A : Option Addr) (n c : Nat) (l : List D3) (w : World) (h : RowE enD3 w A n l) (hn : n ≤ 1000000) :
    Calls Try.prog 30 #[.slice A n c, .func (.func 39) #[] #[]] w fun e w' => e = .returned (.bool (l.any notM)) ∧ Grew w w' := by
  have C := nindexM A n c l w h hn
  clear h hn
  go_enter Try.func30, Try.ntmps30
  go_wp2_with (go_at_call 51; ((with_reducible refine C.mono ?_); rintro e w' ⟨r, h1, h2, rfl, hg⟩))
  go_ret
  refine ⟨?_, hg⟩
  by_cases hr : 0 ≤ r
  · rw [h1.1 hr]; simp [hr]
  · have : l.any notM = false := by
      cases hq : l.any notM
      · rfl
      · exact absurd (h1.2 hq) hr
    rw [this]; simp; omega

set_option maxRecDepth 100000 in
set_option maxHeartbeats 2000000 in
theorem nindexH (A : Option Addr) (n c : Nat) (l : List D3) (w : World) (h : RowE enD3 w A n l) (hn : n ≤ 1000000) :
    Calls Try.prog 51 #[.slice A n c, .func (.func 31) #[] #[]] w (AtP notH l w) := by
  have HI := Lib.hid h
  have HL := Lib.hid h.len
  have CC := fun w' x => unpay_any x w'
  clear h
  go_enter Try.func51, Try.ntmps51
  go_wp2
  go_loopw [8] (fun v wr => ∃ j : Nat, v = .int .i64 j ∧ j ≤ n ∧ Hid (∀ i, i < j → notH (l.getD i (0, 0, 0)) = false) ∧ Hid (Grew w wr)) (fun v _ => n - (intOf v).toNat)
  case atStart => exact ⟨0, rfl, by omega, fun i hi => by omega, grew_refl _⟩
  case round =>
    obtain ⟨j, rfl, hj, HK, HG⟩ := hrel
    by_cases hlt : j < n
    · obtain ⟨b, o, rfl, hb, hc⟩ := (HI.out.keep HG.out).rD3 hlt
      obtain ⟨a0, a1, a2⟩ := hc j hlt
      have CX := fun w' => CC w' (l.getD j (0, 0, 0))
      have HY1 : Hid (notH (l.getD j (0, 0, 0)) = true → l.any notH = true) := fun h => any_yes (by rw [HL.out]; exact hlt) h
      have HK1 : Hid (notH (l.getD j (0, 0, 0)) = false → ∀ i, i < j + 1 → notH (l.getD i (0, 0, 0)) = false) := fun h i hi => by
        rcases Nat.lt_or_ge i j with h1 | h1
        · exact HK.out i h1
        · obtain rfl : i = j := by omega
          exact h
      have i0 : (0 : Int) ≤ (j : Int) := by omega
      have i1 : (j : Int) < (n : Int) := by omega
      clear hc hb CC
      generalize notH (l.getD j (0, 0, 0)) = lv at *
      generalize l.getD j (0, 0, 0) = x at *
      obtain ⟨q1, q2, q3⟩ := x
      dsimp only at a0 a1 a2 CX
      cases lv
      · have HK2 := Lib.hid (HK1.out rfl)
        clear HY1 HK1 HK
        go_wp2_with ((with_reducible refine (CX _).mono ?_); rintro e w5 ⟨rfl, hg⟩; have HG5 := Lib.hid (grew_trans HG.out hg); clear hg)
        go_roundw
        case rel => exact ⟨j + 1, by go_num, by omega, HK2.out, HG5.out⟩
        case measure => simp only [intOf]; omega
      · have HF := Lib.hid (HY1.out rfl)
        clear HY1 HK1 HK
        go_wp2_with ((with_reducible refine (CX _).mono ?_); rintro e w5 ⟨rfl, hg⟩; have HG5 := Lib.hid (grew_trans HG.out hg); clear hg)
        go_ret
        exact ⟨j, ⟨fun _ => HF.out, fun _ => by omega⟩, by omega, rfl, HG5.out⟩
    · obtain rfl : j = n := by omega
      have HF : Hid (l.any notH = false) := any_no (by rw [HL.out]; exact HK.out)
      clear HK
      go_wp2
      go_ret
      exact ⟨-1, ⟨fun h => by omega, fun h => by rw [HF.out] at h; cases h⟩, by omega, rfl, HG.out⟩

theorem ncontainsH (A : Option Addr) (n c : Nat) (l : List D3) (w : World) (h : RowE enD3 w A n l) (hn : n ≤ 1000000) :
    Calls Try.prog 30 #[.slice A n c, .func (.func 31) #[] #[]] w fun e w' => e = .returned (.bool (l.any notH)) ∧ Grew w w' := by
  have C := nindexH A n c l w h hn
  clear h hn
  go_enter Try.func30, Try.ntmps30
  go_wp2_with (go_at_call 51; ((with_reducible refine C.mono ?_); rintro e w' ⟨r, h1, h2, rfl, hg⟩))
  go_ret
  refine ⟨?_, hg⟩
  by_cases hr : 0 ≤ r
  · rw [h1.1 hr]; simp [hr]
  · have : l.any notH = false := by
      cases hq : l.any notH
      · rfl
      · exact absurd (h1.2 hq) hr
    rw [this]; simp; omega

theorem nright_any (A : Option Addr) (n c : Nat) (l : List D3) (w : World) (h : RowE enD3 w A n l) (hn : n ≤ 1000000) :
    Calls Try.prog 21 #[.slice A n c] w fun e w' => e = .returned (.bool (l.all okD)) ∧ Grew w w' := by
  have C := ncontainsM A n c l w h hn
  rw [anyM] at C
  generalize l.all okD = R at *
  clear h hn
  go_enter Try.func21, Try.ntmps21
  go_wp2_with (go_at_call 30; ((with_reducible refine C.mono ?_); rintro e w' ⟨rfl, hg⟩))
  go_ret
  exact ⟨by simp, hg⟩
end Go.Proofs.Ytlmnbafklefmcaa.NumK
namespace Go.Proofs.Ytlmnbafklefmcaa.NumK
open Go.RowKit

/-! ### Int: as money -/



set_option maxHeartbeats 1000000 in
theorem refInt_money (x : Int) (w : World) (h : isMoney x = true) :
    Calls Try.prog 50 #[(.agg #[.int .i64 (hi64 (x)), .int .u64 (lo64 (x))])] w fun e w' => e = .returned (.tuple #[.int .i64 (intV x), .bool (isMoney x)]) ∧ Grew w w' := by
  have hx := (isMoney_iff x).1 h
  have b1 := lo_bounds x
  have L : wrap64 (lo64 x) = x := by unfold wrap64 lo64; omega
  have C1 := fun w => of_any x w (by omega)
  have C2 := fun w => refRight_any x w
  rw [h] at C2
  have E1 := Lib.hid (intV_in h)
  have E2 := Lib.hid h
  clear h hx b1
  generalize hi64 x = hh at *
  generalize lo64 x = l at *
  go_enter Try.func50, Try.ntmps50
  go_wp2
  go_region_held3 (fun w' => w'.cell? ⟨w.heap.size, 0, none⟩ = some (.int .i64 hh) ∧ w'.cell? ⟨w.heap.size, 1, none⟩ = some (.int .u64 l) ∧ w.heap.size < w'.heap.size ∧ Grew w w')
    (first
      | (exact keep2 (by assumption) (by first | assumption | simp) (by first | assumption | simp) (by first | assumption | simp) (by first | assumption | exact grew_drew (grew_alloc _ _ _)))
      | (refine ⟨by simp, by simp, by simp, grew_drew (grew_alloc _ _ _)⟩))
    (first
      | (go_at_call 48; refine (C1 _).mono ?_; rintro e w1 ⟨rfl, hg1⟩)
      | (go_at_call 47; refine (C2 _).mono ?_; rintro e w2 ⟨rfl, rfl⟩))
  rename_i hS
  go_wp2
  go_ret2
  exact ⟨ret_vb E1.out.symm E2.out.symm, hS.2.2.2⟩

set_option maxHeartbeats 1000000 in
theorem refInt_far (x : Int) (w : World) (h : isMoney x = false) (hf : hi64 (wrap64 (lo64 x)) ≠ hi64 x) :
    Calls Try.prog 50 #[(.agg #[.int .i64 (hi64 (x)), .int .u64 (lo64 (x))])] w fun e w' => e = .returned (.tuple #[.int .i64 (intV x), .bool (isMoney x)]) ∧ Grew w w' := by
  have b1 := lo_bounds x
  have bn : -9223372036854775808 ≤ wrap64 (lo64 x) ∧ wrap64 (lo64 x) ≤ 9223372036854775807 := by unfold wrap64; omega
  have hl : lo64 (wrap64 (lo64 x)) = lo64 x := by unfold wrap64 lo64; omega
  have C1 := fun w => of_any (wrap64 (lo64 x)) w bn
  have E1 := Lib.hid (intV_out h)
  have E2 := Lib.hid h
  have d1 : (hi64 (wrap64 (lo64 x)) == hi64 x) = false := by simpa using hf
  have d2 : (hi64 (wrap64 (lo64 x)) != hi64 x) = true := by simpa using hf
  have d3 : decide (hi64 (wrap64 (lo64 x)) = hi64 x) = false := by simpa using hf
  rw [hl] at C1
  clear h b1 hl hf
  generalize hi64 (wrap64 (lo64 x)) = hn at *
  generalize hi64 x = hh at *
  generalize lo64 x = l at *
  go_enter Try.func50, Try.ntmps50
  go_wp2
  first
  | (go_region_with (first
      | (go_at_call 48; refine (C1 _).mono ?_; rintro e w1 ⟨rfl, hg1⟩; have kc := keep2 (v0 := .int .i64 hh) (v1 := .int .u64 l) hg1 (by simp) (by simp) (by simp) (grew_drew (grew_alloc _ _ _)); obtain ⟨k1, k2, k3, k4⟩ := kc)))
  | fail
  all_goals
    go_wp2
    go_ret2
    exact ⟨ret_vb E1.out.symm E2.out.symm, by assumption⟩

set_option maxHeartbeats 1000000 in
theorem refInt_near (x : Int) (w : World) (h : isMoney x = false) (L : wrap64 (lo64 x) = x) :
    Calls Try.prog 50 #[(.agg #[.int .i64 (hi64 (x)), .int .u64 (lo64 (x))])] w fun e w' => e = .returned (.tuple #[.int .i64 (intV x), .bool (isMoney x)]) ∧ Grew w w' := by
  have b1 := lo_bounds x
  have bn : -9223372036854775808 ≤ wrap64 (lo64 x) ∧ wrap64 (lo64 x) ≤ 9223372036854775807 := by unfold wrap64; omega
  rw [L] at bn
  have C1 := fun w => of_any x w bn
  have C2 := fun w => refRight_any x w
  rw [h] at C2
  have E1 := Lib.hid (intV_out h)
  have E2 := Lib.hid h
  clear h b1
  generalize hi64 x = hh at *
  generalize lo64 x = l at *
  go_enter Try.func50, Try.ntmps50
  go_wp2
  go_region_held3 (fun w' => w'.cell? ⟨w.heap.size, 0, none⟩ = some (.int .i64 hh) ∧ w'.cell? ⟨w.heap.size, 1, none⟩ = some (.int .u64 l) ∧ w.heap.size < w'.heap.size ∧ Grew w w')
    (first
      | (exact keep2 (by assumption) (by first | assumption | simp) (by first | assumption | simp) (by first | assumption | simp) (by first | assumption | exact grew_drew (grew_alloc _ _ _)))
      | (refine ⟨by simp, by simp, by simp, grew_drew (grew_alloc _ _ _)⟩))
    (first
      | (go_at_call 48; refine (C1 _).mono ?_; rintro e w1 ⟨rfl, hg1⟩)
      | (go_at_call 47; refine (C2 _).mono ?_; rintro e w2 ⟨rfl, rfl⟩))
  rename_i hS
  go_wp2
  go_ret2
  exact ⟨ret_vb E1.out.symm E2.out.symm, hS.2.2.2⟩

theorem refInt_any (x : Int) (w : World) :
    Calls Try.prog 50 #[(.agg #[.int .i64 (hi64 (x)), .int .u64 (lo64 (x))])] w fun e w' => e = .returned (.tuple #[.int .i64 (intV x), .bool (isMoney x)]) ∧ Grew w w' := by
  by_cases h : isMoney x = true
  · exact refInt_money x w h
  · simp only [Bool.not_eq_true] at h
    by_cases hf : hi64 (wrap64 (lo64 x)) = hi64 x
    · refine refInt_near x w h ?_
      have b1 := lo_bounds x
      have e1 := w_eq x
      have e2 := w_eq (wrap64 (lo64 x))
      have hl : lo64 (wrap64 (lo64 x)) = lo64 x := by unfold wrap64 lo64; omega
      rw [hf, hl] at e2
      omega
    · exact refInt_far x w h hf
end Go.Proofs.Ytlmnbafklefmcaa.NumK
namespace Go.Proofs.Ytlmnbafklefmcaa.NumK
open Go.RowKit

set_option maxRecDepth 100000 in
set_option maxHeartbeats 2000000 in
theorem refSum_any (A : Option Addr) (n c : Nat) (xs : List Int) (w : World) (hz : Wides w A n xs) (hw : ∀ x ∈ xs, isWide x = true) (hn : n ≤ 1000000) :
    Calls Try.prog 49 #[.slice A n c] w fun e w' => e = .returned (.tuple #[(.agg #[.int .i64 (hi64 (wsV xs.sum)), .int .u64 (lo64 (wsV xs.sum))]), .bool (isWide xs.sum)]) ∧ Grew w w' := by
  have HZ := Lib.hid hz
  have HW := Lib.hid hw
  clear hz hw
  go_enter Try.func49, Try.ntmps49
  go_wp2
  go_loop [4, 5, 6, 7] (fun t h l i => ∃ (k : Nat) (T H L : Int), k ≤ n ∧ i = .int .i64 k ∧ t = .int .i64 T ∧ h = .int .u64 H ∧ l = .int .u64 L ∧ Hid (T * 340282366920938463463374607431768211456 + H * 18446744073709551616 + L = (xs.take k).sum) ∧
      0 ≤ H ∧ H < 18446744073709551616 ∧ 0 ≤ L ∧ L < 18446744073709551616 ∧ -(k : Int) ≤ T ∧ T ≤ k) (fun _ _ _ i => n - (intOf i).toNat)
  case atStart => exact ⟨0, 0, 0, 0, Nat.zero_le _, rfl, rfl, rfl, rfl, rfl, by omega, by omega, by omega, by omega, by omega, by omega⟩
  case round =>
    obtain ⟨k, T, H, L, hk, rfl, rfl, rfl, rfl, HS, h0, h1, l0, l1, t0, t1⟩ := hrel
    by_cases hlt : k < n
    · obtain ⟨b, o, rfl, hb, hc⟩ := HZ.out.2 (by omega)
      obtain ⟨hc0, hc1⟩ := hc k hlt
      have hst := sum_take_succ xs k (by have := HZ.out.1; omega)
      have hwx : isWide (xs.getD k 0) = true := HW.out _ (by rw [List.getD_eq_getElem?_getD, List.getElem?_eq_getElem (by have := HZ.out.1; omega)]; exact List.getElem_mem _)
      generalize xs.getD k 0 = x at *
      have bx := lo_bounds x
      have bh := hi_bounds x hwx
      have ex := w_eq x
      obtain ⟨s1, hs1⟩ : ∃ s, s = (L + lo64 x + 0) % 18446744073709551616 := ⟨_, rfl⟩
      obtain ⟨d1, hd1⟩ : ∃ s, s = (L + lo64 x + 0) / 18446744073709551616 := ⟨_, rfl⟩
      have A1 := add64_named L (lo64 x) 0 s1 d1 (by omega) (by omega) (by omega) (by omega) hs1 hd1
      have ew : 0 ≤ IntKind.u64.wrap (hi64 x) ∧ IntKind.u64.wrap (hi64 x) < 18446744073709551616 ∧ (hi64 x < 0 → IntKind.u64.wrap (hi64 x) = hi64 x + 18446744073709551616) ∧ (0 ≤ hi64 x → IntKind.u64.wrap (hi64 x) = hi64 x) := by rw [IntKind.wrap_u64]; omega
      obtain ⟨s2, hs2⟩ : ∃ s, s = (H + IntKind.u64.wrap (hi64 x) + d1) % 18446744073709551616 := ⟨_, rfl⟩
      obtain ⟨d2, hd2⟩ : ∃ s, s = (H + IntKind.u64.wrap (hi64 x) + d1) / 18446744073709551616 := ⟨_, rfl⟩
      have A2 := add64_named H (IntKind.u64.wrap (hi64 x)) d1 s2 d2 (by omega) (by omega) (by omega) (by omega) hs2 hd2
      have f1 : 0 ≤ s1 ∧ s1 < 18446744073709551616 := by omega
      have f2 : 0 ≤ s2 ∧ s2 < 18446744073709551616 := by omega
      have f3 : 0 ≤ d2 ∧ d2 ≤ 1 := by omega
      have HN : Hid ((hi64 x < 0 → (T + d2 - 1) * 340282366920938463463374607431768211456 + s2 * 18446744073709551616 + s1 = (xs.take (k + 1)).sum) ∧ (0 ≤ hi64 x → (T + d2) * 340282366920938463463374607431768211456 + s2 * 18446744073709551616 + s1 = (xs.take (k + 1)).sum)) := by
        have := HS.out
        rw [hst]
        exact ⟨fun _ => by omega, fun _ => by omega⟩
      generalize eh : IntKind.u64.wrap (hi64 x) = hw at *
      clear hst hwx bx bh ex ew hs1 hd1 hs2 hd2 hc
      generalize hi64 x = hh at *
      generalize lo64 x = ll at *
      obtain ⟨f1, f2'⟩ := f1
      obtain ⟨f3', f4⟩ := f2
      obtain ⟨f5, f6⟩ := f3
      by_cases hs : hh < 0
      · go_wp2_with (first | simp only [A1] | simp only [A2])
        go_round
        case rel => exact ⟨k + 1, T + d2 - 1, s2, s1, by omega, by go_num, rfl, rfl, rfl, HN.out.1 hs, by omega, by omega, by omega, by omega, by omega, by omega⟩
        case measure => simp [intOf]; omega
      · go_wp2_with (first | simp only [A1] | simp only [A2])
        go_round
        case rel => exact ⟨k + 1, T + d2, s2, s1, by omega, by go_num, rfl, rfl, rfl, HN.out.2 (by omega), by omega, by omega, by omega, by omega, by omega, by omega⟩
        case measure => simp [intOf]; omega
    · have hkn : k = n := by omega
      subst hkn
      have ht : xs.take k = xs := List.take_of_length_le (by have := HZ.out.1; omega)
      have hS := HS.out
      rw [ht] at hS
      have hwr : wrap64 H = if H < 9223372036854775808 then H else H - 18446744073709551616 := by unfold wrap64; split <;> omega
      have hwid : isWide xs.sum = true ↔ (T = 0 ∧ H < 9223372036854775808) ∨ (T = -1 ∧ ¬ H < 9223372036854775808) := by rw [isWide_iff]; omega
      have hval : (T = 0 ∧ H < 9223372036854775808) ∨ (T = -1 ∧ ¬ H < 9223372036854775808) → wrap64 H = hi64 xs.sum ∧ L = lo64 xs.sum := fun h => by
        have := w_unique xs.sum (wrap64 H) L (by rw [hwr]; split <;> omega) l0 l1
        exact ⟨this.1.symm, this.2.symm⟩
      have hz0 : (0 : Int) = hi64 0 ∧ (0 : Int) = lo64 0 := by decide
      have HD := Lib.hid hwid
      have HV := Lib.hid hval
      have HZ0 := Lib.hid hz0
      have hg : (H < 9223372036854775808 → 0 ≤ wrap64 H) ∧ (¬ H < 9223372036854775808 → wrap64 H < 0) := by rw [hwr]; split <;> omega
      clear ht hS hwr hwid hval hz0 hlt t0 t1 h0 h1 l0 l1
      generalize eg : wrap64 H = g at *
      by_cases c1 : T = 0
      · subst c1
        by_cases c2 : H < 9223372036854775808
        · have Y := Lib.hid (HD.out.2 (Or.inl ⟨rfl, c2⟩))
          have V := Lib.hid (HV.out (Or.inl ⟨rfl, c2⟩))
          have hh := hg.1 c2
          clear hg c2
          go_wp2
          exact bodyPost_ret (v := .tuple #[.agg #[.int .i64 g, .int .u64 L], .bool true]) (by simp [results, Try.results49, go_sem]) rfl ⟨ret_wb (by rw [wsV, if_pos Y.out]; exact V.out.1) (by rw [wsV, if_pos Y.out]; exact V.out.2) Y.out.symm, grew_alloc _ _ _⟩
        · have Y : Hid (isWide xs.sum = false) := by show _ = _; rw [← Bool.not_eq_true, HD.out]; omega
          have hh := hg.2 c2
          clear hg c2
          go_wp2
          exact bodyPost_ret (v := .tuple #[.agg #[.int .i64 0, .int .u64 0], .bool false]) (by simp [results, Try.results49, go_sem]) rfl ⟨ret_wb (by rw [wsV, Y.out]; exact HZ0.out.1) (by rw [wsV, Y.out]; exact HZ0.out.2) Y.out.symm, grew_alloc _ _ _⟩
      · have d1 : (T == 0) = false := by simpa using c1
        by_cases c3 : T = -1
        · subst c3
          by_cases c2 : H < 9223372036854775808
          · have Y : Hid (isWide xs.sum = false) := by show _ = _; rw [← Bool.not_eq_true, HD.out]; omega
            have hh := hg.1 c2
            clear hg c2 c1
            go_wp2
            exact bodyPost_ret (v := .tuple #[.agg #[.int .i64 0, .int .u64 0], .bool false]) (by simp [results, Try.results49, go_sem]) rfl ⟨ret_wb (by rw [wsV, Y.out]; exact HZ0.out.1) (by rw [wsV, Y.out]; exact HZ0.out.2) Y.out.symm, grew_alloc _ _ _⟩
          · have Y := Lib.hid (HD.out.2 (Or.inr ⟨rfl, c2⟩))
            have V := Lib.hid (HV.out (Or.inr ⟨rfl, c2⟩))
            have hh := hg.2 c2
            clear hg c2 c1
            go_wp2
            exact bodyPost_ret (v := .tuple #[.agg #[.int .i64 g, .int .u64 L], .bool true]) (by simp [results, Try.results49, go_sem]) rfl ⟨ret_wb (by rw [wsV, if_pos Y.out]; exact V.out.1) (by rw [wsV, if_pos Y.out]; exact V.out.2) Y.out.symm, grew_alloc _ _ _⟩
        · have Y : Hid (isWide xs.sum = false) := by show _ = _; rw [← Bool.not_eq_true, HD.out]; omega
          have d2 : (T == -1) = false := by simpa using c3
          clear hg c1 c3
          go_wp2
          exact bodyPost_ret (v := .tuple #[.agg #[.int .i64 0, .int .u64 0], .bool false]) (by simp [results, Try.results49, go_sem]) rfl ⟨ret_wb (by rw [wsV, Y.out]; exact HZ0.out.1) (by rw [wsV, Y.out]; exact HZ0.out.2) Y.out.symm, grew_alloc _ _ _⟩
end Go.Proofs.Ytlmnbafklefmcaa.NumK
