/- Legs turned round: the program's and the reference's. -/
import Derived.Test.YtmbhkeppikaeaaaLegC
import Derived.Test.YtmbhkeppikaeaaaStepE
namespace Go.Proofs.Ytmbhkeppikaeaaa.NumK
open Go.RowKit

/-- The run of 'make([]api.Leg, n)'. -/
theorem run_legs (w : World) (n : Nat) (hn : n ≤ 1000000) : (Instr.makeSlice 22 (.int .i64 n) (.int .i64 n)).run Try.prog w = .ok (.slice (some ⟨w.heap.size, 0, none⟩) n n) (w.alloc (.cells (madeCells #[.int .i64 0, .int .i64 0, .int .i64 0, .int .i64 0] (n * 4)) 40)) := by
  obtain ⟨i, hi, hz0, hz1, hz2⟩ := info_parts info_lg
  have := run_make (P := Try.prog) w 22 40 i (legV 0 0 0 0) Try.underlying22 hi hz0 .i64 .i64 n n (by omega) (by omega) (by rw [hz2]; omega) (by omega)
  simpa [hz1, Value.cells, legV] using this
theorem slab_made (w : World) (t : TypeId) (n : Nat) : Slab (w.alloc (.cells (madeCells #[.int .i64 0, .int .i64 0, .int .i64 0, .int .i64 0] (n * 4)) t)) w.heap.size (n * 4) := by
  refine ⟨by simp, fun k hk => ⟨?_, by simp⟩⟩
  rw [World.cell?_alloc_at _ _ _ _ rfl]
  exact ⟨_, Array.getElem?_eq_getElem (by simpa [madeCells] using hk)⟩

theorem keep4 {w1 w2 : World} {B : Nat} {a b c d : Value} (g : Grew w1 w2) (hB : B < w1.heap.size) (h : w1.cell? ⟨B, 0, none⟩ = some a ∧ w1.cell? ⟨B, 1, none⟩ = some b ∧ w1.cell? ⟨B, 2, none⟩ = some c ∧ w1.cell? ⟨B, 3, none⟩ = some d) :
    w2.cell? ⟨B, 0, none⟩ = some a ∧ w2.cell? ⟨B, 1, none⟩ = some b ∧ w2.cell? ⟨B, 2, none⟩ = some c ∧ w2.cell? ⟨B, 3, none⟩ = some d :=
  ⟨(grew_cell g (p := ⟨B, 0, none⟩) hB).trans h.1, (grew_cell g (p := ⟨B, 1, none⟩) hB).trans h.2.1, (grew_cell g (p := ⟨B, 2, none⟩) hB).trans h.2.2.1, (grew_cell g (p := ⟨B, 3, none⟩) hB).trans h.2.2.2⟩
theorem keep4_set {w1 : World} {B g k : Nat} {a b c d x y z u : Value} (hB : B ≠ g) (h : w1.cell? ⟨B, 0, none⟩ = some a ∧ w1.cell? ⟨B, 1, none⟩ = some b ∧ w1.cell? ⟨B, 2, none⟩ = some c ∧ w1.cell? ⟨B, 3, none⟩ = some d) :
    (set4 w1 g k x y z u).cell? ⟨B, 0, none⟩ = some a ∧ (set4 w1 g k x y z u).cell? ⟨B, 1, none⟩ = some b ∧ (set4 w1 g k x y z u).cell? ⟨B, 2, none⟩ = some c ∧ (set4 w1 g k x y z u).cell? ⟨B, 3, none⟩ = some d :=
  ⟨(set4_other (by omega)).trans h.1, (set4_other (by omega)).trans h.2.1, (set4_other (by omega)).trans h.2.2.1, (set4_other (by omega)).trans h.2.2.2⟩

theorem below_alloc {w : World} {base : Nat} (c : Array Value) (t : TypeId) (h : base ≤ w.heap.size) : Below base w (w.alloc (.cells c t)).drew := Below.mono (grew_drew (grew_alloc w c t)) h
theorem keep4o {w1 w2 : World} {base B o : Nat} {a b c d : Value} (g : Below base w1 w2) (hB : B < base) (h : w1.cell? ⟨B, o, none⟩ = some a ∧ w1.cell? ⟨B, o + 1, none⟩ = some b ∧ w1.cell? ⟨B, o + 2, none⟩ = some c ∧ w1.cell? ⟨B, o + 3, none⟩ = some d) :
    w2.cell? ⟨B, o, none⟩ = some a ∧ w2.cell? ⟨B, o + 1, none⟩ = some b ∧ w2.cell? ⟨B, o + 2, none⟩ = some c ∧ w2.cell? ⟨B, o + 3, none⟩ = some d :=
  ⟨(Below.cell g (p := ⟨B, o, none⟩) hB).trans h.1, (Below.cell g (p := ⟨B, o + 1, none⟩) hB).trans h.2.1, (Below.cell g (p := ⟨B, o + 2, none⟩) hB).trans h.2.2.1, (Below.cell g (p := ⟨B, o + 3, none⟩) hB).trans h.2.2.2⟩

theorem turnL_snoc (l : List Lg) (j : Nat) (h : j < l.length) : turnL (l.take (j + 1)) = turnL (l.take j) ++ [((l.getD j lg0).1, -(capV (l.getD j lg0).2))] := by
  unfold turnL
  rw [take_snoc l j lg0 h, List.map_append]; rfl
theorem turnL_len (l : List Lg) : (turnL l).length = l.length := by unfold turnL; simp

set_option maxRecDepth 100000 in
set_option maxHeartbeats 2000000 in
theorem turn_any (A : Option Addr) (n c : Nat) (l : List Lg) (w : World) (h : RowE enLg w A n l) (hn : n ≤ 1000000) :
    Calls Try.prog 17 #[.slice A n c] w fun e w' => e = .returned (.slice (some ⟨w.heap.size, 0, none⟩) n n) ∧ RowE enLg w' (some ⟨w.heap.size, 0, none⟩) n (turnL l) ∧ Slab w' w.heap.size (n * 4) ∧ Grew w w' := by
  have HI := Lib.hid h
  have HL := Lib.hid h.len
  have hmk := fun w => run_legs w n hn
  clear h
  go_enter Try.func17, Try.ntmps17
  go_wp2
  go_loopw [11] (fun v11 wr => ∃ j : Nat, v11 = .int .i64 j ∧ j ≤ n ∧ Hid (Slab wr w.heap.size (n * 4)) ∧ Hid (RowE enLg wr (some ⟨w.heap.size, 0, none⟩) j (turnL (l.take j))) ∧ Hid (Grew w wr)) (fun v11 _ => n - (intOf v11).toNat)
  case atStart => exact ⟨0, rfl, by omega, slab_made _ _ _, RowE.nil _ _ _, grew_alloc _ _ _⟩
  case round =>
    clear hmk
    obtain ⟨j, rfl, hj, HS, HR, HG⟩ := hrel
    by_cases hlt : j < n
    · obtain ⟨b, o, rfl, hb, a1, a2, a3, a4⟩ := (HI.out.keep HG.out).lg hlt
      have HT := Lib.hid (turnL_snoc l j (by rw [HL.out]; exact hlt))
      have CM := fun w => money_any (l.getD j lg0).2 w
      have HC := capV_bounds (l.getD j lg0).2
      have i0 : (0 : Int) ≤ (j : Int) := by omega
      have i1 : (j : Int) < (n : Int) := by omega
      clear hb
      generalize l.getD j lg0 = x at *
      generalize hx : capV x.2 = cx at *
      clear hx
      obtain ⟨b1, b2⟩ := HC
      have HPS : Hid (∀ w2, Grew (wr.alloc (.cells #[.int .i64 x.1.1, .int .i64 x.1.2.1, .int .i64 x.1.2.2, .int .i64 x.2] 40)).drew w2 → Slab w2 w.heap.size (n * 4) ∧ RowE enLg w2 (some ⟨w.heap.size, 0, none⟩) j (turnL (l.take j)) ∧ Grew w w2) :=
        fun w2 g => ⟨(HS.out.keep (grew_drew (grew_alloc _ _ _))).keep g, (HR.out.keep (grew_drew (grew_alloc _ _ _))).keep g, grew_trans HG.out (grew_trans (grew_drew (grew_alloc _ _ _)) g)⟩
      have HNE : Hid (wr.heap.size ≠ w.heap.size) := by have := HS.out.1; show _ ≠ _; omega
      have HJ4 : Hid ((j + 1) * 4 ≤ n * 4) := by show _ ≤ _; omega
      go_wp2
      have h0 : ((wr.alloc (.cells #[.int .i64 x.1.1, .int .i64 x.1.2.1, .int .i64 x.1.2.2, .int .i64 x.2] 40)).cell? ⟨wr.heap.size, 0, none⟩ = some (.int .i64 x.1.1) ∧ (wr.alloc (.cells #[.int .i64 x.1.1, .int .i64 x.1.2.1, .int .i64 x.1.2.2, .int .i64 x.2] 40)).cell? ⟨wr.heap.size, 1, none⟩ = some (.int .i64 x.1.2.1) ∧ (wr.alloc (.cells #[.int .i64 x.1.1, .int .i64 x.1.2.1, .int .i64 x.1.2.2, .int .i64 x.2] 40)).cell? ⟨wr.heap.size, 2, none⟩ = some (.int .i64 x.1.2.2) ∧ (wr.alloc (.cells #[.int .i64 x.1.1, .int .i64 x.1.2.1, .int .i64 x.1.2.2, .int .i64 x.2] 40)).cell? ⟨wr.heap.size, 3, none⟩ = some (.int .i64 x.2))
          ∧ wr.heap.size < (wr.alloc (.cells #[.int .i64 x.1.1, .int .i64 x.1.2.1, .int .i64 x.1.2.2, .int .i64 x.2] 40)).heap.size := ⟨⟨by simp, by simp, by simp, by simp⟩, by simp⟩
      generalize wr.alloc (.cells #[.int .i64 x.1.1, .int .i64 x.1.2.1, .int .i64 x.1.2.2, .int .i64 x.2] 40) = w0 at h0 HPS ⊢
      obtain ⟨hc0, hw0⟩ := h0
      have HW0 := Lib.hid hw0
      clear hw0 HS HR HG a1 a2 a3 a4
      go_region_held3 (fun w' => w'.cell? ⟨wr.heap.size, 0, none⟩ = some (.int .i64 x.1.1) ∧ w'.cell? ⟨wr.heap.size, 1, none⟩ = some (.int .i64 x.1.2.1) ∧ w'.cell? ⟨wr.heap.size, 2, none⟩ = some (.int .i64 x.1.2.2) ∧ w'.cell? ⟨wr.heap.size, 3, none⟩ = some (.int .i64 x.2))
        (first
          | (with_reducible exact keep4 (grew_drew (grew_refl _)) HW0.out hc0)
          | (with_reducible exact keep4 (grew_trans (grew_drew (grew_refl _)) hg2) HW0.out hc0)
          | (with_reducible exact keep4_set HNE.out (keep4 (grew_trans (grew_drew (grew_refl _)) hg2) HW0.out hc0))
          | (trace_state; fail))
        ((go_at_call 32; refine (CM _).mono ?_; rintro e w2 ⟨rfl, hg2⟩; have HP2 := Lib.hid (HPS.out w2 hg2); obtain ⟨⟨y0, r0⟩, f0⟩ := HP2.out.1.2 (j * 4) (by omega); obtain ⟨⟨y1, r1⟩, f1⟩ := HP2.out.1.2 (j * 4 + 1) (by omega); obtain ⟨⟨y2, r2⟩, f2⟩ := HP2.out.1.2 (j * 4 + 2) (by omega); obtain ⟨⟨y3, r3⟩, f3⟩ := HP2.out.1.2 (j * 4 + 3) (by omega)))
      clear CM HPS
      obtain ⟨g1, g2, g3⟩ := HP2.out
      have R4 := RowE.push g2 g1 (x.1, -cx) HJ4.out
      have HR4 : Hid (RowE enLg (set4 w2 w.heap.size (j * 4) (.int .i64 x.1.1) (.int .i64 x.1.2.1) (.int .i64 x.1.2.2) (.int .i64 (-cx))) (some ⟨w.heap.size, 0, none⟩) (j + 1) (turnL (l.take (j + 1)))) := by show RowE _ _ _ _ _; rw [HT.out]; exact R4
      have HS4 : Hid (Slab (set4 w2 w.heap.size (j * 4) (.int .i64 x.1.1) (.int .i64 x.1.2.1) (.int .i64 x.1.2.2) (.int .i64 (-cx))) w.heap.size (n * 4)) := set4_slab g1
      have HG4 : Hid (Grew w (set4 w2 w.heap.size (j * 4) (.int .i64 x.1.1) (.int .i64 x.1.2.1) (.int .i64 x.1.2.2) (.int .i64 (-cx)))) := set4_grew g3 (Nat.le_refl _)
      clear g1 g2 g3 R4 HP2
      go_wp2
      go_roundw
      case rel => exact ⟨j + 1, by go_num, by omega, HS4, HR4, HG4⟩
      case measure => simp only [intOf]; omega
    · obtain rfl : j = n := by omega
      rw [List.take_of_length_le (by rw [HL.out]; exact Nat.le_refl _)] at HR
      go_wp2
      go_ret
      exact ⟨rfl, HR.out, HS.out, HG.out⟩

set_option maxRecDepth 100000 in
set_option maxHeartbeats 2000000 in
theorem refTurn_any (A : Option Addr) (n c : Nat) (l : List Lg) (w : World) (h : RowE enLg w A n l) (hn : n ≤ 1000000) :
    Calls Try.prog 18 #[.slice A n c] w fun e w' => ∃ v, e = .returned v ∧ OwnE enLg w' w.heap.size 40 v (turnL l) ∧ Grew w w' := by
  have HI := Lib.hid h
  have HL := Lib.hid h.len
  clear h
  go_enter Try.func18, Try.ntmps18
  go_wp2
  go_loopw [3, 4] (fun v3 v4 wr => ∃ j : Nat, v4 = .int .i64 j ∧ j ≤ n ∧ Hid (OwnE enLg wr w.heap.size 40 v3 (turnL (l.take j))) ∧ Hid (Grew w wr)) (fun _ v4 _ => n - (intOf v4).toNat)
  case atStart => exact ⟨0, rfl, by omega, OwnE.nil enLg _ _ _, grew_refl _⟩
  case round =>
    obtain ⟨j, rfl, hj, HO, HG⟩ := hrel
    by_cases hlt : j < n
    · obtain ⟨b, o, rfl, hb, z1, z2, z3, z4⟩ := HI.out.lg hlt
      clear z1 z2 z3 z4
      obtain ⟨b', o', he, z0, a1, a2, a3, a4⟩ := (HI.out.keep HG.out).lg hlt
      cases he
      clear z0
      have HT := Lib.hid (turnL_snoc l j (by rw [HL.out]; exact hlt))
      have HLN : Hid ((turnL (l.take j)).length + 1 ≤ 1000001) := by show _ ≤ _; rw [turnL_len, List.length_take]; omega
      have CM := fun w => turned_any (l.getD j lg0).2 w
      have i0 : (0 : Int) ≤ (j : Int) := by omega
      have i1 : (j : Int) < (n : Int) := by omega
      have HB := Lib.hid hb
      clear hb
      generalize l.getD j lg0 = x at *
      generalize capV x.2 = cx at *
      have HW : Hid (w.heap.size ≤ wr.heap.size) := HG.out.size
      have hc0 : wr.cell? ⟨b, o + j * 4, none⟩ = some (.int .i64 x.1.1) ∧ wr.cell? ⟨b, o + j * 4 + 1, none⟩ = some (.int .i64 x.1.2.1) ∧ wr.cell? ⟨b, o + j * 4 + 2, none⟩ = some (.int .i64 x.1.2.2) ∧ wr.cell? ⟨b, o + j * 4 + 3, none⟩ = some (.int .i64 x.2) := ⟨a1, a2, a3, a4⟩
      clear a1 a2 a3 a4
      go_wp2
      go_region_held3 (fun w' => w'.cell? ⟨b, o + j * 4, none⟩ = some (.int .i64 x.1.1) ∧ w'.cell? ⟨b, o + j * 4 + 1, none⟩ = some (.int .i64 x.1.2.1) ∧ w'.cell? ⟨b, o + j * 4 + 2, none⟩ = some (.int .i64 x.1.2.2) ∧ w'.cell? ⟨b, o + j * 4 + 3, none⟩ = some (.int .i64 x.2))
        (first
          | (with_reducible exact keep4o (Below.drew (Below.refl _ _)) HB.out hc0)
          | (with_reducible exact keep4o (below_alloc _ _ HW.out) HB.out hc0)
          | (with_reducible exact keep4o HG9.out HB.out hc0)
          | (trace_state; fail))
        (first
          | (go_at_call 33; refine (CM _).mono ?_; rintro e w2 ⟨rfl, rfl⟩)
          | (refine step_append_E rfl _ _ 22 40 (legV 0 0 0 0) 32 rfl Try.underlying22 info_lg rfl w.heap.size _ _ rfl (HO.out.keep (grew_drew (grew_alloc _ _ _))) _ 1 1 [(x.1, -cx)] rfl (by intro h; cases h) ((rowL_one _ _ _ _ _ _ _ (by rfl)).keep (grew_drew (grew_refl _))) (by have := HLN.out; unfold maxLen; omega) (by have := HLN.out; omega) (Nat.le_trans HW.out (grew_drew (grew_alloc wr _ _)).size) ?_; intro v5 w5 hv hb5; rw [← HT.out] at hv; have HV5 := Lib.hid hv; have HG5 : Hid (Grew w w5) := Below.trans (grew_trans HG.out (grew_drew (grew_alloc _ _ _))) hb5; have HG9 : Hid (Below w.heap.size wr w5) := Below.trans (below_alloc _ _ HW.out) hb5; clear hv hb5))
      go_wp2
      go_roundw
      case rel => exact ⟨j + 1, by go_num, by omega, HV5, HG5⟩
      case measure => simp only [intOf]; omega
    · obtain rfl : j = n := by omega
      rw [List.take_of_length_le (by rw [HL.out]; exact Nat.le_refl _)] at HO
      go_wp2
      go_ret
      exact ⟨_, rfl, HO.out, HG.out⟩
end Go.Proofs.Ytmbhkeppikaeaaa.NumK
