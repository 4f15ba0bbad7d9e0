/- Members, instruments, assets in memory; which are right. -/
import Derived.Test.YtodnllopokoicaaGreatRH2
import Derived.Deep.RegionHeld3
namespace Go.Proofs.YtodnllopokoicaaGreat.NumK
open Go.RowKit

def enMb : En Mb := ⟨3, fun x => [.int .i64 x.1, .int .i64 x.2.1, .int .i64 x.2.2], fun _ => rfl, fun a v hv => by
  simp at hv; rcases hv with rfl | rfl | rfl <;> rfl, by decide⟩
def enAs : En As := ⟨4, fun x => [.int .i64 x.1, .int .i64 x.2.1, .int .i64 x.2.2.1, .int .i64 x.2.2.2], fun _ => rfl, fun a v hv => by
  simp at hv; rcases hv with rfl | rfl | rfl | rfl <;> rfl, by decide⟩
def enIn : En In := ⟨12, fun x => [.int .i64 x.1.1, .int .i64 x.1.2.1, .int .i64 x.1.2.2.1, .int .i64 x.1.2.2.2.1, .int .i64 x.1.2.2.2.2.1, .int .i64 x.1.2.2.2.2.2,
    .int .i64 x.2.1, .int .i64 x.2.2.1, .int .i64 x.2.2.2.1, .int .i64 x.2.2.2.2.1, .int .i64 x.2.2.2.2.2.1, .int .i64 x.2.2.2.2.2.2], fun _ => rfl, fun a v hv => by
  simp at hv; rcases hv with rfl | rfl | rfl | rfl | rfl | rfl | rfl | rfl | rfl | rfl | rfl | rfl <;> rfl, by decide⟩

abbrev vMb (x : Mb) : Value := .agg #[.int .i64 x.1, .int .i64 x.2.1, .int .i64 x.2.2]
abbrev vAs (x : As) : Value := .agg #[.int .i64 x.1, .int .i64 x.2.1, .int .i64 x.2.2.1, .int .i64 x.2.2.2]
abbrev vIn (x : In) : Value := .agg #[.int .i64 x.1.1, .int .i64 x.1.2.1, .int .i64 x.1.2.2.1, .int .i64 x.1.2.2.2.1, .int .i64 x.1.2.2.2.2.1, .int .i64 x.1.2.2.2.2.2,
    .int .i64 x.2.1, .int .i64 x.2.2.1, .int .i64 x.2.2.2.1, .int .i64 x.2.2.2.2.1, .int .i64 x.2.2.2.2.2.1, .int .i64 x.2.2.2.2.2.2]

/-- The cells at a place are such a one's. -/
def CMb (w : World) (b p : Nat) (x : Mb) : Prop :=
  w.cell? ⟨b, p, none⟩ = some (.int .i64 x.1) ∧ w.cell? ⟨b, p + 1, none⟩ = some (.int .i64 x.2.1) ∧ w.cell? ⟨b, p + 2, none⟩ = some (.int .i64 x.2.2)
def CAs (w : World) (b p : Nat) (x : As) : Prop :=
  w.cell? ⟨b, p, none⟩ = some (.int .i64 x.1) ∧ w.cell? ⟨b, p + 1, none⟩ = some (.int .i64 x.2.1) ∧ w.cell? ⟨b, p + 2, none⟩ = some (.int .i64 x.2.2.1) ∧ w.cell? ⟨b, p + 3, none⟩ = some (.int .i64 x.2.2.2)
def CIn (w : World) (b p : Nat) (x : In) : Prop :=
  w.cell? ⟨b, p, none⟩ = some (.int .i64 x.1.1) ∧ w.cell? ⟨b, p + 1, none⟩ = some (.int .i64 x.1.2.1) ∧ w.cell? ⟨b, p + 2, none⟩ = some (.int .i64 x.1.2.2.1) ∧ w.cell? ⟨b, p + 3, none⟩ = some (.int .i64 x.1.2.2.2.1)
  ∧ w.cell? ⟨b, p + 4, none⟩ = some (.int .i64 x.1.2.2.2.2.1) ∧ w.cell? ⟨b, p + 5, none⟩ = some (.int .i64 x.1.2.2.2.2.2) ∧ w.cell? ⟨b, p + 6, none⟩ = some (.int .i64 x.2.1) ∧ w.cell? ⟨b, p + 7, none⟩ = some (.int .i64 x.2.2.1)
  ∧ w.cell? ⟨b, p + 8, none⟩ = some (.int .i64 x.2.2.2.1) ∧ w.cell? ⟨b, p + 9, none⟩ = some (.int .i64 x.2.2.2.2.1) ∧ w.cell? ⟨b, p + 10, none⟩ = some (.int .i64 x.2.2.2.2.2.1) ∧ w.cell? ⟨b, p + 11, none⟩ = some (.int .i64 x.2.2.2.2.2.2)

theorem CMb.keep {w w' : World} {b p : Nat} {x : Mb} (h : CMb w b p x) (g : Grew w w') (hb : b < w.heap.size) : CMb w' b p x :=
  ⟨(grew_cell g (p := ⟨b, _, none⟩) hb).trans h.1, (grew_cell g (p := ⟨b, _, none⟩) hb).trans h.2.1, (grew_cell g (p := ⟨b, _, none⟩) hb).trans h.2.2⟩
theorem CAs.keep {w w' : World} {b p : Nat} {x : As} (h : CAs w b p x) (g : Grew w w') (hb : b < w.heap.size) : CAs w' b p x :=
  ⟨(grew_cell g (p := ⟨b, _, none⟩) hb).trans h.1, (grew_cell g (p := ⟨b, _, none⟩) hb).trans h.2.1, (grew_cell g (p := ⟨b, _, none⟩) hb).trans h.2.2.1, (grew_cell g (p := ⟨b, _, none⟩) hb).trans h.2.2.2⟩
theorem CIn.keep {w w' : World} {b p : Nat} {x : In} (h : CIn w b p x) (g : Grew w w') (hb : b < w.heap.size) : CIn w' b p x := by
  obtain ⟨h0, h1, h2, h3, h4, h5, h6, h7, h8, h9, h10, h11⟩ := h
  exact ⟨(grew_cell g (p := ⟨b, _, none⟩) hb).trans h0, (grew_cell g (p := ⟨b, _, none⟩) hb).trans h1, (grew_cell g (p := ⟨b, _, none⟩) hb).trans h2, (grew_cell g (p := ⟨b, _, none⟩) hb).trans h3,
    (grew_cell g (p := ⟨b, _, none⟩) hb).trans h4, (grew_cell g (p := ⟨b, _, none⟩) hb).trans h5, (grew_cell g (p := ⟨b, _, none⟩) hb).trans h6, (grew_cell g (p := ⟨b, _, none⟩) hb).trans h7,
    (grew_cell g (p := ⟨b, _, none⟩) hb).trans h8, (grew_cell g (p := ⟨b, _, none⟩) hb).trans h9, (grew_cell g (p := ⟨b, _, none⟩) hb).trans h10, (grew_cell g (p := ⟨b, _, none⟩) hb).trans h11⟩

theorem RowE.mb {w : World} {n : Nat} {l : List Mb} {A : Option Addr} (h : RowE enMb w A n l) {j : Nat} (hj : j < n) : ∃ b o, A = some ⟨b, o, none⟩ ∧ b < w.heap.size ∧ ∀ j, j < n → CMb w b (o + j * 3) (l.getD j mb0) := by
  have hl := h.len
  obtain ⟨b, o, e, hb, hc⟩ := h.at (by omega)
  refine ⟨b, o, e, hb, fun j hj => ?_⟩
  have hj' : j < l.length := by omega
  rw [getD_at l mb0 j hj']
  exact ⟨hc j hj' 0 (by decide), hc j hj' 1 (by decide), hc j hj' 2 (by decide)⟩
theorem RowE.as {w : World} {n : Nat} {l : List As} {A : Option Addr} (h : RowE enAs w A n l) {j : Nat} (hj : j < n) : ∃ b o, A = some ⟨b, o, none⟩ ∧ b < w.heap.size ∧ ∀ j, j < n → CAs w b (o + j * 4) (l.getD j as0) := by
  have hl := h.len
  obtain ⟨b, o, e, hb, hc⟩ := h.at (by omega)
  refine ⟨b, o, e, hb, fun j hj => ?_⟩
  have hj' : j < l.length := by omega
  rw [getD_at l as0 j hj']
  exact ⟨hc j hj' 0 (by decide), hc j hj' 1 (by decide), hc j hj' 2 (by decide), hc j hj' 3 (by decide)⟩
theorem RowE.in {w : World} {n : Nat} {l : List In} {A : Option Addr} (h : RowE enIn w A n l) {j : Nat} (hj : j < n) : ∃ b o, A = some ⟨b, o, none⟩ ∧ b < w.heap.size ∧ ∀ j, j < n → CIn w b (o + j * 12) (l.getD j in0) := by
  have hl := h.len
  obtain ⟨b, o, e, hb, hc⟩ := h.at (by omega)
  refine ⟨b, o, e, hb, fun j hj => ?_⟩
  have hj' : j < l.length := by omega
  rw [getD_at l in0 j hj']
  exact ⟨hc j hj' 0 (by decide), hc j hj' 1 (by decide), hc j hj' 2 (by decide), hc j hj' 3 (by decide), hc j hj' 4 (by decide), hc j hj' 5 (by decide), hc j hj' 6 (by decide), hc j hj' 7 (by decide), hc j hj' 8 (by decide), hc j hj' 9 (by decide), hc j hj' 10 (by decide), hc j hj' 11 (by decide)⟩

theorem info_mb : (Tryz.prog.info? 123).map (fun i => (i.zero, i.size, i.bytes)) = some (some (vMb mb0), 3, 24) := by kernel_rfl
theorem info_as : (Tryz.prog.info? 76).map (fun i => (i.zero, i.size, i.bytes)) = some (some (vAs as0), 4, 32) := by kernel_rfl
theorem info_in : (Tryz.prog.info? 105).map (fun i => (i.zero, i.size, i.bytes)) = some (some (vIn in0), 12, 96) := by kernel_rfl

/-! ### numbers -/
theorem within_any (n lo hi : Int) (w : World) : Calls Tryz.prog 118 #[.int .i64 n, .int .i64 lo, .int .i64 hi] w fun e w' => e = .returned (.bool (wi n lo hi)) ∧ w = w' := by
  by_cases h1 : lo ≤ n <;> by_cases h2 : n ≤ hi
  all_goals
    (have HR : Hid (wi n lo hi = (decide (lo ≤ n) && decide (n ≤ hi))) := rfl
     generalize wi n lo hi = R at *
     simp only [h1, h2, decide_true, decide_false, Bool.and_true, Bool.and_false] at HR
     go_enter Tryz.func118, Tryz.ntmps118
     go_wp2
     go_ret
     exact ⟨ret_b HR.out.symm, rfl⟩)
theorem rcur_any (n : Int) (w : World) : Calls Tryz.prog 122 #[.int .i64 n] w fun e w' => e = .returned (.bool (wi n 0 2)) ∧ w = w' := by
  have CW := fun w => rwithin_any n 0 2 w
  generalize wi n 0 2 = R at *
  go_enter Tryz.func122, Tryz.ntmps122
  go_wp2_with (go_at_call 97; ((with_reducible refine (CW _).mono ?_); rintro e w1 ⟨rfl, rfl⟩))
  go_ret
  exact ⟨rfl, rfl⟩

theorem memberNo_any (x : Mb) (w : World) : Calls Tryz.prog 58 #[vMb x] w fun e w' => e = .returned (.int .i64 (noMb x)) ∧ Grew w w' := by
  obtain ⟨q1, q2, q3⟩ := x
  unfold noMb
  dsimp only [vMb]
  go_enter Tryz.func58, Tryz.ntmps58
  go_wp2
  go_ret
  exact ⟨rfl, grew_alloc _ _ _⟩
theorem assetNo_any (x : As) (w : World) : Calls Tryz.prog 64 #[vAs x] w fun e w' => e = .returned (.int .i64 (noAs x)) ∧ Grew w w' := by
  obtain ⟨q1, q2, q3, q4⟩ := x
  unfold noAs
  dsimp only [vAs]
  go_enter Tryz.func64, Tryz.ntmps64
  go_wp2
  go_ret
  exact ⟨rfl, grew_alloc _ _ _⟩
theorem instNo_any (x : In) (w : World) : Calls Tryz.prog 61 #[vIn x] w fun e w' => e = .returned (.int .i64 (noIn x)) ∧ Grew w w' := by
  obtain ⟨⟨q1, q2, q3, q4, q5, q6⟩, ⟨q7, q8, q9, q10, q11, q12⟩⟩ := x
  unfold noIn
  dsimp only [vIn]
  go_enter Tryz.func61, Tryz.ntmps61
  go_wp2
  go_ret
  exact ⟨rfl, grew_alloc _ _ _⟩
end Go.Proofs.YtodnllopokoicaaGreat.NumK
