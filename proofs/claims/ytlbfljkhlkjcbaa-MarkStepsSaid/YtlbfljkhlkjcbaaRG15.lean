/- The legs of a trade: the program's, the document's. -/
import Derived.Test.YtlbfljkhlkjcbaaRG4
import Derived.BigQuiet
import Derived.Test.YtlbfljkhlkjcbaaRG1
import Derived.Test.YtlbfljkhlkjcbaaRG3
import Derived.Test.YtlbfljkhlkjcbaaRG11
import Derived.Deep.RegionHeld3
import Derived.Deep.CutBlock
namespace Go.Proofs.Ytlbfljkhlkjcbaa.NumK
open Go.RowKit
set_option linter.unusedVariables false

def LegsPost (t : Tr) (back : Bool) (w : World) (e : Ending) (w' : World) : Prop :=
  ∃ A c, e = .returned (.slice A (legsT t back).length c) ∧ OwnE enPo w' w.heap.size 34 (.slice A (legsT t back).length c) (legsT t back) ∧ Grew w w'
end Go.Proofs.Ytlbfljkhlkjcbaa.NumK
namespace Go.Proofs.Ytlbfljkhlkjcbaa.NumK
open Go.RowKit
set_option linter.unusedVariables false

theorem keepKey_yes (a b : Int) (w : World) : Calls Try.prog 93 #[.agg #[.int .i64 a, .int .i64 b], .agg #[.int .i64 a, .int .i64 b]] w fun e w' => e = .returned (.bool true) ∧ Grew w w' := by
  go_enter Try.func93, Try.ntmps93
  go_wp2
  go_ret
  exact ⟨rfl, grew_trans (grew_alloc _ _ _) (grew_alloc _ _ _)⟩
set_option maxRecDepth 100000 in
theorem keepPos_yes (x : Po) (w : World) : Calls Try.prog 79 #[vPo x, vPo x] w fun e w' => e = .returned (.bool true) ∧ Grew w w' := by
  obtain ⟨q1, q2, q3, q4⟩ := x
  dsimp only [vPo]
  have CK := fun w => keepKey_yes q1 q2 w
  have HX0 : Hid (OwnC ((w.alloc (.cells #[.int .i64 q1, .int .i64 q2, .int .i64 q3, .int .i64 q4] 34)).alloc (.cells #[.int .i64 q1, .int .i64 q2, .int .i64 q3, .int .i64 q4] 34)) w.heap.size [.int .i64 q1, .int .i64 q2, .int .i64 q3, .int .i64 q4]) := (OwnC.new w [.int .i64 q1, .int .i64 q2, .int .i64 q3, .int .i64 q4] _ _ rfl).keep (grew_alloc _ _ _)
  have HY0 : Hid (OwnC ((w.alloc (.cells #[.int .i64 q1, .int .i64 q2, .int .i64 q3, .int .i64 q4] 34)).alloc (.cells #[.int .i64 q1, .int .i64 q2, .int .i64 q3, .int .i64 q4] 34)) (w.heap.size + 1) [.int .i64 q1, .int .i64 q2, .int .i64 q3, .int .i64 q4]) := OwnC.new _ [.int .i64 q1, .int .i64 q2, .int .i64 q3, .int .i64 q4] _ _ (by simp)
  go_enter Try.func79, Try.ntmps79
  go_wp2_with (go_at_call 93; ((with_reducible refine (CK _).mono ?_); rintro e w1 ⟨rfl, hg⟩; have HX := Lib.hid (HX0.out.keep hg); have HY := Lib.hid (HY0.out.keep hg); have HG : Hid (Grew w w1) := grew_trans (grew_trans (grew_alloc _ _ _) (grew_alloc _ _ _)) hg; have x2 : w1.cell? ⟨w.heap.size, 2, none⟩ = some (.int .i64 q3) := HX.out.at 2 _ rfl; have x3 : w1.cell? ⟨w.heap.size, 3, none⟩ = some (.int .i64 q4) := HX.out.at 3 _ rfl; have y2 : w1.cell? ⟨w.heap.size + 1, 2, none⟩ = some (.int .i64 q3) := HY.out.at 2 _ rfl; have y3 : w1.cell? ⟨w.heap.size + 1, 3, none⟩ = some (.int .i64 q4) := HY.out.at 3 _ rfl; clear hg HX0 HY0))
  go_ret
  exact ⟨rfl, HG.out⟩
set_option maxRecDepth 100000 in
set_option maxHeartbeats 1000000 in
theorem keepPoss_yes (A B : Option Addr) (n c d : Nat) (l : List Po) (w : World) (h : RowE enPo w A n l) (h2 : RowE enPo w B n l) (hn : n ≤ 1000000) :
    Calls Try.prog 47 #[.slice A n c, .slice B n d] w fun e w' => e = .returned (.bool true) ∧ Grew w w' := by
  have HI := Lib.hid h
  have HJ := Lib.hid h2
  clear h h2
  go_enter Try.func47, Try.ntmps47
  go_wp2
  go_loopw [5] (fun v wr => ∃ j : Nat, v = .int .i64 j ∧ j ≤ n ∧ Hid (Grew w wr)) (fun v _ => n - (intOf v).toNat)
  case atStart => exact ⟨0, rfl, by omega, grew_refl _⟩
  case round =>
    obtain ⟨j, rfl, hj, HG⟩ := hrel
    by_cases hlt : j < n
    · obtain ⟨b, o, rfl, hb, hc⟩ := (HI.out.keep HG.out).po hlt
      obtain ⟨b2, o2, rfl, hb2, hc2⟩ := (HJ.out.keep HG.out).po hlt
      obtain ⟨a0, a1, a2, a3⟩ := hc j hlt
      obtain ⟨e0, e1, e2, e3⟩ := hc2 j hlt
      clear hc hc2
      have i0 : (0 : Int) ≤ (j : Int) := by omega
      have i1 : (j : Int) < (n : Int) := by omega
      have CK := fun w => keepPos_yes (l.getD j po0) w
      generalize l.getD j po0 = x at *
      obtain ⟨q1, q2, q3, q4⟩ := x
      dsimp only at a0 a1 a2 a3  e0 e1 e2 e3 
      dsimp only [vPo] at CK
      have x0 : ∀ p : GrewTo wr, p.to.cell? ⟨b, o + j * 4, none⟩ = _ := fun p => (grew_cell p.h (p := ⟨b, _, none⟩) hb).trans a0; have x1 : ∀ p : GrewTo wr, p.to.cell? ⟨b, o + j * 4 + 1, none⟩ = _ := fun p => (grew_cell p.h (p := ⟨b, _, none⟩) hb).trans a1; have x2 : ∀ p : GrewTo wr, p.to.cell? ⟨b, o + j * 4 + 2, none⟩ = _ := fun p => (grew_cell p.h (p := ⟨b, _, none⟩) hb).trans a2; have x3 : ∀ p : GrewTo wr, p.to.cell? ⟨b, o + j * 4 + 3, none⟩ = _ := fun p => (grew_cell p.h (p := ⟨b, _, none⟩) hb).trans a3
      have y0 : ∀ p : GrewTo wr, p.to.cell? ⟨b2, o2 + j * 4, none⟩ = _ := fun p => (grew_cell p.h (p := ⟨b2, _, none⟩) hb2).trans e0; have y1 : ∀ p : GrewTo wr, p.to.cell? ⟨b2, o2 + j * 4 + 1, none⟩ = _ := fun p => (grew_cell p.h (p := ⟨b2, _, none⟩) hb2).trans e1; have y2 : ∀ p : GrewTo wr, p.to.cell? ⟨b2, o2 + j * 4 + 2, none⟩ = _ := fun p => (grew_cell p.h (p := ⟨b2, _, none⟩) hb2).trans e2; have y3 : ∀ p : GrewTo wr, p.to.cell? ⟨b2, o2 + j * 4 + 3, none⟩ = _ := fun p => (grew_cell p.h (p := ⟨b2, _, none⟩) hb2).trans e3
      clear a0 a1 a2 a3  e0 e1 e2 e3  hb hb2
      go_wp2_with fail
      refine wp_region_grew (by kernel_rfl) (by kernel_rfl) ?_
      repeat (go_big_quiet_step (with_reducible exact calls_grew (CK _)))
      refine wpQuiet_nil ?_
      intro w5 hw'
      have HG5 := Lib.hid (grew_of hw')
      clear hw' x0 x1 x2 x3  y0 y1 y2 y3 
      go_wp2
      go_roundw
      case rel => exact ⟨j + 1, by go_num, by omega, grew_trans HG.out HG5.out⟩
      case measure => simp only [intOf]; omega
    · obtain rfl : j = n := by omega
      go_wp2
      go_ret
      exact ⟨rfl, HG.out⟩

/-- Positions written over: only their own block is turned. -/
theorem spoilPoss_any (A : Option Addr) (n c base : Nat) (w : World) (hA : n = 0 ∨ ∃ g, A = some ⟨g, 0, none⟩ ∧ base ≤ g ∧ Slab w g (n * 4)) (hn : n ≤ 1000000) :
    Calls Try.prog 49 #[.slice A n c] w fun e w' => e = .returned (.tuple #[]) ∧ Below base w w' ∧ ∀ k, A.map (·.block) ≠ some k → w'.heap[k]? = w.heap[k]? := by
  have HA := Lib.hid hA
  clear hA
  go_enter Try.func49, Try.ntmps49
  go_wp2
  go_loopw [2] (fun vi wr => ∃ k : Nat, vi = .int .i64 k ∧ k ≤ n ∧ Hid (∀ g, A = some ⟨g, 0, none⟩ → 0 < n → Slab wr g (n * 4)) ∧ Hid (Below base w wr ∧ ∀ k, A.map (·.block) ≠ some k → wr.heap[k]? = w.heap[k]?)) (fun vi _ => n - (intOf vi).toNat)
  case atStart =>
    refine ⟨0, rfl, Nat.zero_le _, fun g hg h0 => ?_, Below.refl _ _, fun _ _ => rfl⟩
    rcases HA.out with h | ⟨g', e, _, hs⟩
    · omega
    · rw [hg] at e; cases e; exact hs
  case round =>
    obtain ⟨k, rfl, hk, HS, HB⟩ := hrel
    by_cases hlt : k < n
    · obtain ⟨g, rfl, hb, _⟩ : ∃ g, A = some ⟨g, 0, none⟩ ∧ base ≤ g ∧ Slab w g (n * 4) := by
        rcases HA.out with h | h
        · omega
        · exact h
      have HS2 := Lib.hid (HS.out g rfl (by omega))
      obtain ⟨⟨x, a1⟩, a2⟩ := HS2.out.2 (k * 4) (by omega)
      have a3 : (k : Int) < (n : Int) := by omega
      have HB2 : Hid (Below base w (wr.setCell ⟨g, k * 4, none⟩ (.int .i64 (-77))) ∧ ∀ i, (some (⟨g, 0, none⟩ : Addr)).map (·.block) ≠ some i → (wr.setCell ⟨g, k * 4, none⟩ (.int .i64 (-77))).heap[i]? = w.heap[i]?) :=
        ⟨Below.setCell HB.out.1 hb _, fun i hi => (Below.heap_setCell _ _ _ _ (by intro e; apply hi; rw [e]; rfl)).trans (HB.out.2 i hi)⟩
      have HS3 := Lib.hid (HS2.out.set g (k * 4) (.int .i64 (-77)))
      go_wp2
      go_roundw
      case rel => exact ⟨k + 1, by go_num, by omega, fun g' hg' _ => by cases hg'; exact HS3.out, HB2⟩
      case measure => simp only [intOf]; omega
    · go_wp2
      go_end0
      exact ⟨rfl, HB.out⟩

end Go.Proofs.Ytlbfljkhlkjcbaa.NumK
namespace Go.Proofs.Ytlbfljkhlkjcbaa.NumK
open Go.RowKit
set_option linter.unusedVariables false

set_option maxRecDepth 100000 in
set_option maxHeartbeats 4000000 in
theorem keepTrades_yes (A B : Option Addr) (n c d : Nat) (l : List Tr) (w : World) (h : RowE enTr w A n l) (h2 : RowE enTr w B n l) (hn : n ≤ 1000000) :
    Calls Try.prog 46 #[.slice A n c, .slice B n d] w fun e w' => e = .returned (.bool true) ∧ Grew w w' := by
  have HI := Lib.hid h
  have HJ := Lib.hid h2
  clear h h2
  go_enter Try.func46, Try.ntmps46
  go_wp2
  go_loopw [5] (fun v wr => ∃ j : Nat, v = .int .i64 j ∧ j ≤ n ∧ Hid (Grew w wr)) (fun v _ => n - (intOf v).toNat)
  case atStart => exact ⟨0, rfl, by omega, grew_refl _⟩
  case round =>
    obtain ⟨j, rfl, hj, HG⟩ := hrel
    by_cases hlt : j < n
    · obtain ⟨b, o, rfl, hb, hc⟩ := (HI.out.keep HG.out).tr hlt
      obtain ⟨b2, o2, rfl, hb2, hc2⟩ := (HJ.out.keep HG.out).tr hlt
      have HC1 : Hid (∀ w', Grew wr w' → CTr w' b (o + j * 7) (l.getD j tr0)) := fun w' g => (hc j hlt).keep g hb
      have HC2 : Hid (∀ w', Grew wr w' → CTr w' b2 (o2 + j * 7) (l.getD j tr0)) := fun w' g => (hc2 j hlt).keep g hb2
      clear hc hc2 hb hb2
      have i0 : (0 : Int) ≤ (j : Int) := by omega
      have i1 : (j : Int) < (n : Int) := by omega
      generalize l.getD j tr0 = x at *
      obtain ⟨⟨q1, q2, q3, q4, q5, q6⟩, q7⟩ := x
      go_upto_region 6 with fail
      -- REGION6
      refine wp_region_noPanic ?_
      refine wp_region_held_drew (S := fun w' => Grew wr w') (by kernel_rfl) (grew_drew (grew_refl _)) (fun hHeld => ?_)
      (refine wpAnyH_take (i := 0) (oi := { dst := some 19, op := Op.move (Operand.tmp 0), type := 27, pos := "keep.go:167", after := #[], guard := none }) (v := ?_) rfl (by kernel_rfl) (by kernel_rfl) (by kernel_rfl) (fun _ _ _ h => h) (Or.inl ⟨by rfl, ?_⟩) (by assumption) ?_; rotate_left; · (intro w hSw; (try dsimp only at hSw); skip; go_simp; (first | done | with_reducible rfl)))
      try simp only [Act.put, List.setIfInBounds_toArray, List.set_cons_zero, List.set_cons_succ]
      (refine wpAnyH_take (i := 1) (oi := { dst := some 20, op := Op.move (Operand.tmp 5), type := 3, pos := "keep.go:167", after := #[], guard := none }) (v := ?_) rfl (by kernel_rfl) (by kernel_rfl) (by kernel_rfl) (fun _ _ _ h => h) (Or.inl ⟨by rfl, ?_⟩) (by assumption) ?_; rotate_left; · (intro w hSw; (try dsimp only at hSw); skip; go_simp; (first | done | with_reducible rfl)))
      try simp only [Act.put, List.setIfInBounds_toArray, List.set_cons_zero, List.set_cons_succ]
      (refine wpAnyH_take (i := 2) (oi := { dst := some 21, op := Op.indexAddr 27 (Operand.tmp 19) (Operand.tmp 20), type := 0, pos := "keep.go:167", after := #[{ on := 0, ground := Ground.data }, { on := 1, ground := Ground.data }], guard := none }) (v := ?_) rfl (by kernel_rfl) (by kernel_rfl) (by kernel_rfl) (fun _ _ _ h => h) (Or.inl ⟨by rfl, ?_⟩) (by assumption) ?_; rotate_left; · (intro w hSw; (try dsimp only at hSw); skip; go_simp; (first | done | with_reducible rfl)))
      try simp only [Act.put, List.setIfInBounds_toArray, List.set_cons_zero, List.set_cons_succ]
      (refine wpAnyH_take (i := 3) (oi := { dst := some 22, op := Op.load 86 (Operand.tmp 21), type := 86, pos := "keep.go:167", after := #[{ on := 2, ground := Ground.data }], guard := none }) (v := ?_) rfl (by kernel_rfl) (by kernel_rfl) (by kernel_rfl) (fun _ _ _ h => h) (Or.inl ⟨by rfl, ?_⟩) (by assumption) ?_; rotate_left; · (intro w hSw; (try dsimp only at hSw); obtain ⟨a0, a1, a2, a3, a4, a5, a6⟩ := HC1.out _ hSw; dsimp only at a0 a1 a2 a3 a4 a5 a6; go_simp; (first | done | with_reducible rfl)))
      try simp only [Act.put, List.setIfInBounds_toArray, List.set_cons_zero, List.set_cons_succ]
      (refine wpAnyH_take (i := 4) (oi := { dst := some 23, op := Op.move (Operand.tmp 1), type := 27, pos := "keep.go:167", after := #[{ on := 10, ground := Ground.gcOnly Departure.lateStores }], guard := none }) (v := ?_) rfl (by kernel_rfl) (by kernel_rfl) (by kernel_rfl) (fun _ _ _ h => h) (Or.inl ⟨by rfl, ?_⟩) (by assumption) ?_; rotate_left; · (intro w hSw; (try dsimp only at hSw); skip; go_simp; (first | done | with_reducible rfl)))
      try simp only [Act.put, List.setIfInBounds_toArray, List.set_cons_zero, List.set_cons_succ]
      (refine wpAnyH_take (i := 5) (oi := { dst := some 24, op := Op.move (Operand.tmp 5), type := 3, pos := "keep.go:167", after := #[{ on := 10, ground := Ground.gcOnly Departure.lateStores }], guard := none }) (v := ?_) rfl (by kernel_rfl) (by kernel_rfl) (by kernel_rfl) (fun _ _ _ h => h) (Or.inl ⟨by rfl, ?_⟩) (by assumption) ?_; rotate_left; · (intro w hSw; (try dsimp only at hSw); skip; go_simp; (first | done | with_reducible rfl)))
      try simp only [Act.put, List.setIfInBounds_toArray, List.set_cons_zero, List.set_cons_succ]
      (refine wpAnyH_take (i := 6) (oi := { dst := some 25, op := Op.indexAddr 27 (Operand.tmp 23) (Operand.tmp 24), type := 0, pos := "keep.go:167", after := #[{ on := 4, ground := Ground.data }, { on := 5, ground := Ground.data }, { on := 10, ground := Ground.gcOnly Departure.lateStores }], guard := none }) (v := ?_) rfl (by kernel_rfl) (by kernel_rfl) (by kernel_rfl) (fun _ _ _ h => h) (Or.inl ⟨by rfl, ?_⟩) (by assumption) ?_; rotate_left; · (intro w hSw; (try dsimp only at hSw); skip; go_simp; (first | done | with_reducible rfl)))
      try simp only [Act.put, List.setIfInBounds_toArray, List.set_cons_zero, List.set_cons_succ]
      (refine wpAnyH_take (i := 7) (oi := { dst := some 26, op := Op.load 86 (Operand.tmp 25), type := 86, pos := "keep.go:167", after := #[{ on := 6, ground := Ground.data }, { on := 10, ground := Ground.gcOnly Departure.lateStores }], guard := none }) (v := ?_) rfl (by kernel_rfl) (by kernel_rfl) (by kernel_rfl) (fun _ _ _ h => h) (Or.inl ⟨by rfl, ?_⟩) (by assumption) ?_; rotate_left; · (intro w hSw; (try dsimp only at hSw); obtain ⟨a0, a1, a2, a3, a4, a5, a6⟩ := HC2.out _ hSw; dsimp only at a0 a1 a2 a3 a4 a5 a6; go_simp; (first | done | with_reducible rfl)))
      try simp only [Act.put, List.setIfInBounds_toArray, List.set_cons_zero, List.set_cons_succ]
      refine wpAnyH_ready (rs := [8, 9]) (by kernel_rfl) (by simp) ?_
      refine (AllReadyH.cons (o := { dst := some 6, op := Op.alloc 86, type := 0, pos := "keep.go:167", after := #[], guard := none }) rfl (fun K hK => ?_) (AllReadyH.cons (o := { dst := some 7, op := Op.alloc 86, type := 0, pos := "keep.go:167", after := #[], guard := none }) rfl (fun K hK => ?_) AllReadyH.nil))
      · go_simp
        refine hK.out _ _ ?_ (fun hHeld => ?_)
        · first
          | exact (by repeat (first | exact grew_refl _ | refine grew_drew ?_ | refine grew_trans ?_ (grew_alloc _ _ _)))
        clear hK K
        try simp only [Act.put, List.setIfInBounds_toArray, List.set_cons_zero, List.set_cons_succ]
        refine wpAnyH_ready (rs := [9]) (by kernel_rfl) (by simp) ?_
        refine (AllReadyH.cons (o := { dst := some 7, op := Op.alloc 86, type := 0, pos := "keep.go:167", after := #[], guard := none }) rfl (fun K hK => ?_) AllReadyH.nil)
        go_simp
        refine hK.out _ _ ?_ (fun hHeld => ?_)
        · first
          | exact (by repeat (first | exact grew_refl _ | refine grew_drew ?_ | refine grew_trans ?_ (grew_alloc _ _ _)))
        clear hK K
        try simp only [Act.put, List.setIfInBounds_toArray, List.set_cons_zero, List.set_cons_succ]
        refine wpAnyH_ready (rs := [10]) (by kernel_rfl) (by simp) ?_
        refine (AllReadyH.cons (o := { dst := none, op := Op.store 86 (Operand.tmp 6) (Operand.tmp 22), type := 0, pos := "keep.go:167", after := #[{ on := 8, ground := Ground.data }, { on := 3, ground := Ground.data }, { on := 0, ground := Ground.phase }, { on := 1, ground := Ground.phase }, { on := 2, ground := Ground.phase }, { on := 3, ground := Ground.phase }, { on := 4, ground := Ground.textOnly Departure.lateStores }, { on := 5, ground := Ground.textOnly Departure.lateStores }, { on := 6, ground := Ground.textOnly Departure.lateStores }, { on := 7, ground := Ground.textOnly Departure.lateStores }, { on := 8, ground := Ground.phase }, { on := 9, ground := Ground.phase }], guard := none }) rfl (fun K hK => ?_) AllReadyH.nil)
        go_simp
        refine hK.out _ _ ?_ (fun hHeld => ?_)
        · first
          | exact (by repeat (first | exact grew_refl _ | refine grew_drew ?_ | refine grew_trans ?_ (grew_alloc _ _ _)))
        clear hK K
        try simp only [Act.put, List.setIfInBounds_toArray, List.set_cons_zero, List.set_cons_succ]
        refine wpAnyH_ready (rs := [11]) (by kernel_rfl) (by simp) ?_
        refine (AllReadyH.cons (o := { dst := none, op := Op.store 86 (Operand.tmp 7) (Operand.tmp 26), type := 0, pos := "keep.go:167", after := #[{ on := 9, ground := Ground.data }, { on := 7, ground := Ground.data }, { on := 10, ground := Ground.chain }, { on := 0, ground := Ground.phase }, { on := 1, ground := Ground.phase }, { on := 2, ground := Ground.phase }, { on := 3, ground := Ground.phase }, { on := 4, ground := Ground.phase }, { on := 5, ground := Ground.phase }, { on := 6, ground := Ground.phase }, { on := 7, ground := Ground.phase }, { on := 8, ground := Ground.phase }, { on := 9, ground := Ground.phase }, { on := 10, ground := Ground.phase }], guard := none }) rfl (fun K hK => ?_) AllReadyH.nil)
        go_simp
        refine hK.out _ _ ?_ (fun hHeld => ?_)
        · first
          | exact (by repeat (first | exact grew_refl _ | refine grew_drew ?_ | refine grew_trans ?_ (grew_alloc _ _ _)))
        clear hK K
        try simp only [Act.put, List.setIfInBounds_toArray, List.set_cons_zero, List.set_cons_succ]
        refine wpAnyH_done (by kernel_rfl) ?_ _
        clear hHeld
        have HA : Hid (OwnC (((wr.alloc (.cells #[.int .i64 q1, .int .i64 q2, .int .i64 q3, .int .i64 q4, .int .i64 q5, .int .i64 q6, .bool q7] 86)).alloc (.cells #[.int .i64 q1, .int .i64 q2, .int .i64 q3, .int .i64 q4, .int .i64 q5, .int .i64 q6, .bool q7] 86)).drew) wr.heap.size [.int .i64 q1, .int .i64 q2, .int .i64 q3, .int .i64 q4, .int .i64 q5, .int .i64 q6, .bool q7]) := (((OwnC.new wr [.int .i64 q1, .int .i64 q2, .int .i64 q3, .int .i64 q4, .int .i64 q5, .int .i64 q6, .bool q7] _ _ rfl).keep (grew_alloc _ _ _)).drew)
        have HB : Hid (OwnC (((wr.alloc (.cells #[.int .i64 q1, .int .i64 q2, .int .i64 q3, .int .i64 q4, .int .i64 q5, .int .i64 q6, .bool q7] 86)).alloc (.cells #[.int .i64 q1, .int .i64 q2, .int .i64 q3, .int .i64 q4, .int .i64 q5, .int .i64 q6, .bool q7] 86)).drew) (wr.heap.size + 1) [.int .i64 q1, .int .i64 q2, .int .i64 q3, .int .i64 q4, .int .i64 q5, .int .i64 q6, .bool q7]) := ((OwnC.new (wr.alloc (.cells #[.int .i64 q1, .int .i64 q2, .int .i64 q3, .int .i64 q4, .int .i64 q5, .int .i64 q6, .bool q7] 86)) [.int .i64 q1, .int .i64 q2, .int .i64 q3, .int .i64 q4, .int .i64 q5, .int .i64 q6, .bool q7] _ _ (by simp)).drew)
        have HGW : Hid (Grew w (((wr.alloc (.cells #[.int .i64 q1, .int .i64 q2, .int .i64 q3, .int .i64 q4, .int .i64 q5, .int .i64 q6, .bool q7] 86)).alloc (.cells #[.int .i64 q1, .int .i64 q2, .int .i64 q3, .int .i64 q4, .int .i64 q5, .int .i64 q6, .bool q7] 86)).drew)) := grew_trans HG.out (grew_drew (grew_trans (grew_alloc _ _ _) (grew_alloc _ _ _)))
        generalize ((wr.alloc (.cells #[.int .i64 q1, .int .i64 q2, .int .i64 q3, .int .i64 q4, .int .i64 q5, .int .i64 q6, .bool q7] 86)).alloc (.cells #[.int .i64 q1, .int .i64 q2, .int .i64 q3, .int .i64 q4, .int .i64 q5, .int .i64 q6, .bool q7] 86)).drew = wW at *
        generalize wr.heap.size = N at *
        clear HC1 HC2
        have u0 : wW.cell? ⟨N, 0, none⟩ = some (.int .i64 q1) := HA.out.at 0 _ rfl
        have u1 : wW.cell? ⟨N, 1, none⟩ = some (.int .i64 q2) := HA.out.at 1 _ rfl
        have u2 : wW.cell? ⟨N, 2, none⟩ = some (.int .i64 q3) := HA.out.at 2 _ rfl
        have u3 : wW.cell? ⟨N, 3, none⟩ = some (.int .i64 q4) := HA.out.at 3 _ rfl
        have u4 : wW.cell? ⟨N, 4, none⟩ = some (.int .i64 q5) := HA.out.at 4 _ rfl
        have u5 : wW.cell? ⟨N, 5, none⟩ = some (.int .i64 q6) := HA.out.at 5 _ rfl
        have u6 : wW.cell? ⟨N, 6, none⟩ = some (.bool q7) := HA.out.at 6 _ rfl
        have v0 : wW.cell? ⟨N + 1, 0, none⟩ = some (.int .i64 q1) := HB.out.at 0 _ rfl
        have v1 : wW.cell? ⟨N + 1, 1, none⟩ = some (.int .i64 q2) := HB.out.at 1 _ rfl
        have v2 : wW.cell? ⟨N + 1, 2, none⟩ = some (.int .i64 q3) := HB.out.at 2 _ rfl
        have v3 : wW.cell? ⟨N + 1, 3, none⟩ = some (.int .i64 q4) := HB.out.at 3 _ rfl
        have v4 : wW.cell? ⟨N + 1, 4, none⟩ = some (.int .i64 q5) := HB.out.at 4 _ rfl
        have v5 : wW.cell? ⟨N + 1, 5, none⟩ = some (.int .i64 q6) := HB.out.at 5 _ rfl
        have v6 : wW.cell? ⟨N + 1, 6, none⟩ = some (.bool q7) := HB.out.at 6 _ rfl
        apply_assumption
        go_wp2
        go_roundw
        case rel => exact ⟨j + 1, by go_num, by omega, HGW.out⟩
        case measure => simp only [intOf]; omega
      · go_simp
        refine hK.out _ _ ?_ (fun hHeld => ?_)
        · first
          | exact (by repeat (first | exact grew_refl _ | refine grew_drew ?_ | refine grew_trans ?_ (grew_alloc _ _ _)))
        clear hK K
        try simp only [Act.put, List.setIfInBounds_toArray, List.set_cons_zero, List.set_cons_succ]
        refine wpAnyH_ready (rs := [8]) (by kernel_rfl) (by simp) ?_
        refine (AllReadyH.cons (o := { dst := some 6, op := Op.alloc 86, type := 0, pos := "keep.go:167", after := #[], guard := none }) rfl (fun K hK => ?_) AllReadyH.nil)
        go_simp
        refine hK.out _ _ ?_ (fun hHeld => ?_)
        · first
          | exact (by repeat (first | exact grew_refl _ | refine grew_drew ?_ | refine grew_trans ?_ (grew_alloc _ _ _)))
        clear hK K
        try simp only [Act.put, List.setIfInBounds_toArray, List.set_cons_zero, List.set_cons_succ]
        refine wpAnyH_ready (rs := [10]) (by kernel_rfl) (by simp) ?_
        refine (AllReadyH.cons (o := { dst := none, op := Op.store 86 (Operand.tmp 6) (Operand.tmp 22), type := 0, pos := "keep.go:167", after := #[{ on := 8, ground := Ground.data }, { on := 3, ground := Ground.data }, { on := 0, ground := Ground.phase }, { on := 1, ground := Ground.phase }, { on := 2, ground := Ground.phase }, { on := 3, ground := Ground.phase }, { on := 4, ground := Ground.textOnly Departure.lateStores }, { on := 5, ground := Ground.textOnly Departure.lateStores }, { on := 6, ground := Ground.textOnly Departure.lateStores }, { on := 7, ground := Ground.textOnly Departure.lateStores }, { on := 8, ground := Ground.phase }, { on := 9, ground := Ground.phase }], guard := none }) rfl (fun K hK => ?_) AllReadyH.nil)
        go_simp
        refine hK.out _ _ ?_ (fun hHeld => ?_)
        · first
          | exact (by repeat (first | exact grew_refl _ | refine grew_drew ?_ | refine grew_trans ?_ (grew_alloc _ _ _)))
        clear hK K
        try simp only [Act.put, List.setIfInBounds_toArray, List.set_cons_zero, List.set_cons_succ]
        refine wpAnyH_ready (rs := [11]) (by kernel_rfl) (by simp) ?_
        refine (AllReadyH.cons (o := { dst := none, op := Op.store 86 (Operand.tmp 7) (Operand.tmp 26), type := 0, pos := "keep.go:167", after := #[{ on := 9, ground := Ground.data }, { on := 7, ground := Ground.data }, { on := 10, ground := Ground.chain }, { on := 0, ground := Ground.phase }, { on := 1, ground := Ground.phase }, { on := 2, ground := Ground.phase }, { on := 3, ground := Ground.phase }, { on := 4, ground := Ground.phase }, { on := 5, ground := Ground.phase }, { on := 6, ground := Ground.phase }, { on := 7, ground := Ground.phase }, { on := 8, ground := Ground.phase }, { on := 9, ground := Ground.phase }, { on := 10, ground := Ground.phase }], guard := none }) rfl (fun K hK => ?_) AllReadyH.nil)
        go_simp
        refine hK.out _ _ ?_ (fun hHeld => ?_)
        · first
          | exact (by repeat (first | exact grew_refl _ | refine grew_drew ?_ | refine grew_trans ?_ (grew_alloc _ _ _)))
        clear hK K
        try simp only [Act.put, List.setIfInBounds_toArray, List.set_cons_zero, List.set_cons_succ]
        refine wpAnyH_done (by kernel_rfl) ?_ _
        clear hHeld
        have HA : Hid (OwnC (((wr.alloc (.cells #[.int .i64 q1, .int .i64 q2, .int .i64 q3, .int .i64 q4, .int .i64 q5, .int .i64 q6, .bool q7] 86)).alloc (.cells #[.int .i64 q1, .int .i64 q2, .int .i64 q3, .int .i64 q4, .int .i64 q5, .int .i64 q6, .bool q7] 86)).drew) wr.heap.size [.int .i64 q1, .int .i64 q2, .int .i64 q3, .int .i64 q4, .int .i64 q5, .int .i64 q6, .bool q7]) := (((OwnC.new wr [.int .i64 q1, .int .i64 q2, .int .i64 q3, .int .i64 q4, .int .i64 q5, .int .i64 q6, .bool q7] _ _ rfl).keep (grew_alloc _ _ _)).drew)
        have HB : Hid (OwnC (((wr.alloc (.cells #[.int .i64 q1, .int .i64 q2, .int .i64 q3, .int .i64 q4, .int .i64 q5, .int .i64 q6, .bool q7] 86)).alloc (.cells #[.int .i64 q1, .int .i64 q2, .int .i64 q3, .int .i64 q4, .int .i64 q5, .int .i64 q6, .bool q7] 86)).drew) (wr.heap.size + 1) [.int .i64 q1, .int .i64 q2, .int .i64 q3, .int .i64 q4, .int .i64 q5, .int .i64 q6, .bool q7]) := ((OwnC.new (wr.alloc (.cells #[.int .i64 q1, .int .i64 q2, .int .i64 q3, .int .i64 q4, .int .i64 q5, .int .i64 q6, .bool q7] 86)) [.int .i64 q1, .int .i64 q2, .int .i64 q3, .int .i64 q4, .int .i64 q5, .int .i64 q6, .bool q7] _ _ (by simp)).drew)
        have HGW : Hid (Grew w (((wr.alloc (.cells #[.int .i64 q1, .int .i64 q2, .int .i64 q3, .int .i64 q4, .int .i64 q5, .int .i64 q6, .bool q7] 86)).alloc (.cells #[.int .i64 q1, .int .i64 q2, .int .i64 q3, .int .i64 q4, .int .i64 q5, .int .i64 q6, .bool q7] 86)).drew)) := grew_trans HG.out (grew_drew (grew_trans (grew_alloc _ _ _) (grew_alloc _ _ _)))
        generalize ((wr.alloc (.cells #[.int .i64 q1, .int .i64 q2, .int .i64 q3, .int .i64 q4, .int .i64 q5, .int .i64 q6, .bool q7] 86)).alloc (.cells #[.int .i64 q1, .int .i64 q2, .int .i64 q3, .int .i64 q4, .int .i64 q5, .int .i64 q6, .bool q7] 86)).drew = wW at *
        generalize wr.heap.size = N at *
        clear HC1 HC2
        have u0 : wW.cell? ⟨N, 0, none⟩ = some (.int .i64 q1) := HA.out.at 0 _ rfl
        have u1 : wW.cell? ⟨N, 1, none⟩ = some (.int .i64 q2) := HA.out.at 1 _ rfl
        have u2 : wW.cell? ⟨N, 2, none⟩ = some (.int .i64 q3) := HA.out.at 2 _ rfl
        have u3 : wW.cell? ⟨N, 3, none⟩ = some (.int .i64 q4) := HA.out.at 3 _ rfl
        have u4 : wW.cell? ⟨N, 4, none⟩ = some (.int .i64 q5) := HA.out.at 4 _ rfl
        have u5 : wW.cell? ⟨N, 5, none⟩ = some (.int .i64 q6) := HA.out.at 5 _ rfl
        have u6 : wW.cell? ⟨N, 6, none⟩ = some (.bool q7) := HA.out.at 6 _ rfl
        have v0 : wW.cell? ⟨N + 1, 0, none⟩ = some (.int .i64 q1) := HB.out.at 0 _ rfl
        have v1 : wW.cell? ⟨N + 1, 1, none⟩ = some (.int .i64 q2) := HB.out.at 1 _ rfl
        have v2 : wW.cell? ⟨N + 1, 2, none⟩ = some (.int .i64 q3) := HB.out.at 2 _ rfl
        have v3 : wW.cell? ⟨N + 1, 3, none⟩ = some (.int .i64 q4) := HB.out.at 3 _ rfl
        have v4 : wW.cell? ⟨N + 1, 4, none⟩ = some (.int .i64 q5) := HB.out.at 4 _ rfl
        have v5 : wW.cell? ⟨N + 1, 5, none⟩ = some (.int .i64 q6) := HB.out.at 5 _ rfl
        have v6 : wW.cell? ⟨N + 1, 6, none⟩ = some (.bool q7) := HB.out.at 6 _ rfl
        apply_assumption
        go_wp2
        go_roundw
        case rel => exact ⟨j + 1, by go_num, by omega, HGW.out⟩
        case measure => simp only [intOf]; omega
      -- END6
    · obtain rfl : j = n := by omega
      go_wp2
      go_ret
      exact ⟨rfl, HG.out⟩
end Go.Proofs.Ytlbfljkhlkjcbaa.NumK
namespace Go.Proofs.Ytlbfljkhlkjcbaa.NumK
open Go.RowKit
set_option linter.unusedVariables false

set_option maxRecDepth 100000 in
theorem keepBook_yes (nx : Int) (A1 A2 B1 B2 : Option Addr) (n1 n2 c1 c2 d1 d2 : Nat) (lt : List Tr) (pl : List Po) (w : World) (h1 : RowE enTr w A1 n1 lt) (h2 : RowE enPo w A2 n2 pl) (h3 : RowE enTr w B1 n1 lt) (h4 : RowE enPo w B2 n2 pl) (hn : n1 ≤ 1000000 ∧ n2 ≤ 1000000) :
    Calls Try.prog 19 #[vBk nx A1 A2 n1 n2 c1 c2, vBk nx B1 B2 n1 n2 d1 d2] w fun e w' => e = .returned (.bool true) ∧ Grew w w' := by
  have CT := fun w' (g : Grew w w') => keepTrades_yes A1 B1 n1 c1 d1 lt w' (h1.keep g) (h3.keep g) hn.1
  have CP := fun w' (g : Grew w w') => keepPoss_yes A2 B2 n2 c2 d2 pl w' (h2.keep g) (h4.keep g) hn.2
  have HG0 : Hid (Grew w ((w.alloc (.cells #[.int .i64 nx, .slice A1 n1 c1, .slice A2 n2 c2] 30)).alloc (.cells #[.int .i64 nx, .slice B1 n1 d1, .slice B2 n2 d2] 30))) := grew_trans (grew_alloc _ _ _) (grew_alloc _ _ _)
  have HX0 : Hid (OwnC ((w.alloc (.cells #[.int .i64 nx, .slice A1 n1 c1, .slice A2 n2 c2] 30)).alloc (.cells #[.int .i64 nx, .slice B1 n1 d1, .slice B2 n2 d2] 30)) w.heap.size [.int .i64 nx, .slice A1 n1 c1, .slice A2 n2 c2]) := (OwnC.new w [.int .i64 nx, .slice A1 n1 c1, .slice A2 n2 c2] _ _ rfl).keep (grew_alloc _ _ _)
  have HY0 : Hid (OwnC ((w.alloc (.cells #[.int .i64 nx, .slice A1 n1 c1, .slice A2 n2 c2] 30)).alloc (.cells #[.int .i64 nx, .slice B1 n1 d1, .slice B2 n2 d2] 30)) (w.heap.size + 1) [.int .i64 nx, .slice B1 n1 d1, .slice B2 n2 d2]) := OwnC.new _ [.int .i64 nx, .slice B1 n1 d1, .slice B2 n2 d2] _ _ (by simp)
  clear h1 h2 h3 h4
  dsimp only [vBk]
  go_enter Try.func19, Try.ntmps19
  go_wp2_with (first
    | (go_at_call 46; ((with_reducible refine (CT _ HG0.out).mono ?_); rintro e w1 ⟨rfl, hg⟩; have HG1 := Lib.hid (grew_trans HG0.out hg); have HX1 := Lib.hid (HX0.out.keep hg); have HY1 := Lib.hid (HY0.out.keep hg); have x2 : w1.cell? ⟨w.heap.size, 2, none⟩ = some (.slice A2 n2 c2) := HX1.out.at 2 _ rfl; have y2 : w1.cell? ⟨w.heap.size + 1, 2, none⟩ = some (.slice B2 n2 d2) := HY1.out.at 2 _ rfl; clear hg CT))
    | (go_at_call 47; ((with_reducible refine (CP _ HG1.out).mono ?_); rintro e w2 ⟨rfl, hg⟩; have HG2 := Lib.hid (grew_trans HG1.out hg); clear hg CP)))
  go_ret
  exact ⟨rfl, HG2.out⟩

set_option maxRecDepth 100000 in
set_option maxHeartbeats 4000000 in
theorem twinBook_any (b : Bk) (A1 A2 : Option Addr) (n1 n2 c1 c2 : Nat) (w : World) (h : InB w b A1 A2 n1 n2 c1 c2) (hn : n1 ≤ 1000000 ∧ n2 ≤ 1000000) :
    Calls Try.prog 16 #[vBk b.1 A1 A2 n1 n2 c1 c2] w (BookP b w) := by
  have HI := Lib.hid h
  have HL1 := Lib.hid h.t.len
  have HL2 := Lib.hid h.p.len
  clear h
  obtain ⟨nx, lt, pl⟩ := b
  dsimp only [vBk] at *
  go_enter Try.func16, Try.ntmps16
  go_upto_region 2 with fail
  have HG0 : Hid (Grew w (((w.alloc (.cells #[.int .i64 nx, .slice A1 n1 c1, .slice A2 n2 c2] 30)).alloc (.cells #[.int .i64 0, .slice none 0 0, .slice none 0 0] 30)).alloc (.cells #[.int .i64 nx, .slice none 0 0, .slice none 0 0] 30))) := grew_trans (grew_trans (grew_alloc _ _ _) (grew_alloc _ _ _)) (grew_alloc _ _ _)
  have HX0 : Hid (OwnC (((w.alloc (.cells #[.int .i64 nx, .slice A1 n1 c1, .slice A2 n2 c2] 30)).alloc (.cells #[.int .i64 0, .slice none 0 0, .slice none 0 0] 30)).alloc (.cells #[.int .i64 nx, .slice none 0 0, .slice none 0 0] 30)) w.heap.size [.int .i64 nx, .slice A1 n1 c1, .slice A2 n2 c2]) := ((OwnC.new w [.int .i64 nx, .slice A1 n1 c1, .slice A2 n2 c2] _ _ rfl).keep (grew_alloc _ _ _)).keep (grew_alloc _ _ _)
  have HR0 : Hid (OwnC (((w.alloc (.cells #[.int .i64 nx, .slice A1 n1 c1, .slice A2 n2 c2] 30)).alloc (.cells #[.int .i64 0, .slice none 0 0, .slice none 0 0] 30)).alloc (.cells #[.int .i64 nx, .slice none 0 0, .slice none 0 0] 30)) (w.heap.size + 1) [.int .i64 0, .slice none 0 0, .slice none 0 0]) := (OwnC.new _ [.int .i64 0, .slice none 0 0, .slice none 0 0] _ _ (by simp)).keep (grew_alloc _ _ _)
  have HI0 : Hid (OwnC (((w.alloc (.cells #[.int .i64 nx, .slice A1 n1 c1, .slice A2 n2 c2] 30)).alloc (.cells #[.int .i64 0, .slice none 0 0, .slice none 0 0] 30)).alloc (.cells #[.int .i64 nx, .slice none 0 0, .slice none 0 0] 30)) (w.heap.size + 1 + 1) [.int .i64 nx, .slice none 0 0, .slice none 0 0]) := OwnC.new _ [.int .i64 nx, .slice none 0 0, .slice none 0 0] _ _ (by simp)
  have HSZ : Hid (w.heap.size + 3 ≤ (((w.alloc (.cells #[.int .i64 nx, .slice A1 n1 c1, .slice A2 n2 c2] 30)).alloc (.cells #[.int .i64 0, .slice none 0 0, .slice none 0 0] 30)).alloc (.cells #[.int .i64 nx, .slice none 0 0, .slice none 0 0] 30)).heap.size) := by show _ ≤ _; simp
  generalize ((w.alloc (.cells #[.int .i64 nx, .slice A1 n1 c1, .slice A2 n2 c2] 30)).alloc (.cells #[.int .i64 0, .slice none 0 0, .slice none 0 0] 30)).alloc (.cells #[.int .i64 nx, .slice none 0 0, .slice none 0 0] 30) = w0 at *
  have x1 : w0.cell? ⟨w.heap.size, 1, none⟩ = some (.slice A1 n1 c1) := HX0.out.at 1 _ rfl
  have i1 : w0.cell? ⟨w.heap.size + 1 + 1, 1, none⟩ = some (.slice none 0 0) := HI0.out.at 1 _ rfl
  go_upto_region 3 with (at_builtin; refine (wpList_append_E rfl _ _ 27 86 (vTr tr0) 56 rfl Try.underlying27 info_tr rfl w0.heap.size _ [] rfl (OwnE.nil enTr _ _ _) A1 n1 c1 lt rfl HI.out.k1 (HI.out.t.keep HG0.out) (by simp; unfold maxLen; omega) (by simp; omega) (Nat.le_refl _) ?_); intro v' w1 ho hb; rw [List.nil_append] at ho; obtain ⟨B1, d1, rfl, -⟩ := ho.form; have HO1 := Lib.hid ho; have HB1 := Lib.hid (hb : Grew w0 w1); have HG1 := Lib.hid (grew_trans HG0.out hb); have HI1 := Lib.hid (HI0.out.keep hb); have j1 : w1.cell? ⟨w.heap.size + 1 + 1, 1, none⟩ = some (.slice none 0 0) := HI1.out.at 1 _ rfl; have k1 : w1.frozen? ⟨w.heap.size + 1 + 1, 1, none⟩ = false := HI1.out.fr 1 (by show 1 < 3; omega); clear ho hb x1 i1)
  have HX2 : Hid (OwnC (w1.setCell ⟨w.heap.size + 1 + 1, 1, none⟩ (.slice B1 lt.length d1)) w.heap.size [.int .i64 nx, .slice A1 n1 c1, .slice A2 n2 c2]) := (HX0.out.keep HB1.out).other ⟨w.heap.size + 1 + 1, 1, none⟩ _ (by show _ + 1 + 1 ≠ _; omega)
  have HR2 : Hid (OwnC (w1.setCell ⟨w.heap.size + 1 + 1, 1, none⟩ (.slice B1 lt.length d1)) (w.heap.size + 1) [.int .i64 0, .slice none 0 0, .slice none 0 0]) := (HR0.out.keep HB1.out).other ⟨w.heap.size + 1 + 1, 1, none⟩ _ (by show _ + 1 + 1 ≠ _; omega)
  have HI2 : Hid (OwnC (w1.setCell ⟨w.heap.size + 1 + 1, 1, none⟩ (.slice B1 lt.length d1)) (w.heap.size + 1 + 1) [.int .i64 nx, .slice B1 lt.length d1, .slice none 0 0]) := HI1.out.set 1 _ (by show 1 < 3; omega)
  have HO2 : Hid (OwnE enTr (w1.setCell ⟨w.heap.size + 1 + 1, 1, none⟩ (.slice B1 lt.length d1)) (w.heap.size + 3) 86 (.slice B1 lt.length d1) lt) := (HO1.out.mono HSZ.out).set _ 1 _ (by omega)
  have HG2 : Hid (Grew w (w1.setCell ⟨w.heap.size + 1 + 1, 1, none⟩ (.slice B1 lt.length d1))) := grew_set HG1.out _ (by show _ ≤ _ + 1 + 1; omega)
  have HSZ2 : Hid (w.heap.size + 3 ≤ (w1.setCell ⟨w.heap.size + 1 + 1, 1, none⟩ (.slice B1 lt.length d1)).heap.size) := le_set _ _ (Nat.le_trans HSZ.out HB1.out.size)
  clear HX0 HR0 HI0 HI1 HO1 HB1 HG1 j1 k1 HSZ
  generalize w1.setCell ⟨w.heap.size + 1 + 1, 1, none⟩ (.slice B1 lt.length d1) = w2 at *
  have x2 : w2.cell? ⟨w.heap.size, 2, none⟩ = some (.slice A2 n2 c2) := HX2.out.at 2 _ rfl
  have i2 : w2.cell? ⟨w.heap.size + 1 + 1, 2, none⟩ = some (.slice none 0 0) := HI2.out.at 2 _ rfl
  go_upto_region 4 with (at_builtin; refine (wpList_append_E rfl _ _ 28 34 (vPo po0) 32 rfl Try.underlying28 info_po rfl w2.heap.size _ [] rfl (OwnE.nil enPo _ _ _) A2 n2 c2 pl rfl HI.out.k2 (HI.out.p.keep HG2.out) (by simp; unfold maxLen; omega) (by simp; omega) (Nat.le_refl _) ?_); intro v' w3 ho hb; rw [List.nil_append] at ho; obtain ⟨B2, d2, rfl, -⟩ := ho.form; have HO3 := Lib.hid ho; have HB3 := Lib.hid (hb : Grew w2 w3); have HG3 := Lib.hid (grew_trans HG2.out hb); have HI3 := Lib.hid (HI2.out.keep hb); have j2 : w3.cell? ⟨w.heap.size + 1 + 1, 2, none⟩ = some (.slice none 0 0) := HI3.out.at 2 _ rfl; have k2 : w3.frozen? ⟨w.heap.size + 1 + 1, 2, none⟩ = false := HI3.out.fr 2 (by show 2 < 3; omega); clear ho hb x2 i2)
  have HAP : Hid (Apart B1 B2) := fun x y hx hy => by
    have h1 := (HO2.out.block x hx).2
    have h2 := (HO3.out.block y hy).1
    omega
  have HR4 : Hid (OwnC (w3.setCell ⟨w.heap.size + 1 + 1, 2, none⟩ (.slice B2 pl.length d2)) (w.heap.size + 1) [.int .i64 0, .slice none 0 0, .slice none 0 0]) := (HR2.out.keep HB3.out).other ⟨w.heap.size + 1 + 1, 2, none⟩ _ (by show _ + 1 + 1 ≠ _; omega)
  have HI4 : Hid (OwnC (w3.setCell ⟨w.heap.size + 1 + 1, 2, none⟩ (.slice B2 pl.length d2)) (w.heap.size + 1 + 1) [.int .i64 nx, .slice B1 lt.length d1, .slice B2 pl.length d2]) := HI3.out.set 2 _ (by show 2 < 3; omega)
  have HO4 : Hid (OwnE enTr (w3.setCell ⟨w.heap.size + 1 + 1, 2, none⟩ (.slice B2 pl.length d2)) (w.heap.size + 3) 86 (.slice B1 lt.length d1) lt) := (HO2.out.keep HB3.out).set _ 2 _ (by omega)
  have HP4 : Hid (OwnE enPo (w3.setCell ⟨w.heap.size + 1 + 1, 2, none⟩ (.slice B2 pl.length d2)) (w.heap.size + 3) 34 (.slice B2 pl.length d2) pl) := (HO3.out.mono HSZ2.out).set _ 2 _ (by omega)
  have HG4 : Hid (Grew w (w3.setCell ⟨w.heap.size + 1 + 1, 2, none⟩ (.slice B2 pl.length d2))) := grew_set HG3.out _ (by show _ ≤ _ + 1 + 1; omega)
  clear HX2 HR2 HI2 HI3 HO2 HO3 HB3 HG3 HG2 j2 k2 HSZ2
  generalize w3.setCell ⟨w.heap.size + 1 + 1, 2, none⟩ (.slice B2 pl.length d2) = w4 at *
  have i0 : w4.cell? ⟨w.heap.size + 1 + 1, 0, none⟩ = some (.int .i64 nx) := HI4.out.at 0 _ rfl
  have i1 : w4.cell? ⟨w.heap.size + 1 + 1, 1, none⟩ = some (.slice B1 lt.length d1) := HI4.out.at 1 _ rfl
  have i2 : w4.cell? ⟨w.heap.size + 1 + 1, 2, none⟩ = some (.slice B2 pl.length d2) := HI4.out.at 2 _ rfl
  have y0 : w4.cell? ⟨w.heap.size + 1, 0, none⟩ = some (.int .i64 0) := HR4.out.at 0 _ rfl
  have y1 : w4.cell? ⟨w.heap.size + 1, 1, none⟩ = some (.slice none 0 0) := HR4.out.at 1 _ rfl
  have y2 : w4.cell? ⟨w.heap.size + 1, 2, none⟩ = some (.slice none 0 0) := HR4.out.at 2 _ rfl
  have f0 : w4.frozen? ⟨w.heap.size + 1, 0, none⟩ = false := HR4.out.fr 0 (by decide)
  have f1 : w4.frozen? ⟨w.heap.size + 1, 1, none⟩ = false := HR4.out.fr 1 (by decide)
  have f2 : w4.frozen? ⟨w.heap.size + 1, 2, none⟩ = false := HR4.out.fr 2 (by decide)
  go_wp2
  have HP := HR4.out.all [.int .i64 nx, .slice B1 lt.length d1, .slice B2 pl.length d2] rfl
  have HGP := grew_put (w := w) (w.heap.size + 1) (by omega) [.int .i64 nx, .slice B1 lt.length d1, .slice B2 pl.length d2] 0 _ HG4.out
  have P1 := OwnE.put (b := w.heap.size + 1) (base := w.heap.size + 3) (by omega) [.int .i64 nx, .slice B1 lt.length d1, .slice B2 pl.length d2] 0 _ HO4.out
  have P2 := OwnE.put (b := w.heap.size + 1) (base := w.heap.size + 3) (by omega) [.int .i64 nx, .slice B1 lt.length d1, .slice B2 pl.length d2] 0 _ HP4.out
  change bodyPost _ _ _ _ _ (putC w4 (w.heap.size + 1) 0 [.int .i64 nx, .slice B1 lt.length d1, .slice B2 pl.length d2])
  clear y0 y1 y2 f0 f1 f2 i0 i1 i2
  generalize putC w4 (w.heap.size + 1) 0 [.int .i64 nx, .slice B1 lt.length d1, .slice B2 pl.length d2] = w9 at *
  have z0 : w9.cell? ⟨w.heap.size + 1, 0, none⟩ = _ := HP.at 0 _ rfl
  have z1 : w9.cell? ⟨w.heap.size + 1, 1, none⟩ = _ := HP.at 1 _ rfl
  have z2 : w9.cell? ⟨w.heap.size + 1, 2, none⟩ = _ := HP.at 2 _ rfl
  refine bodyPost_ret (v := .agg #[.int .i64 nx, .slice B1 lt.length d1, .slice B2 pl.length d2]) (by simp [results, Try.results16, go_sem, z0, z1, z2]) rfl ?_
  exact ⟨B1, B2, d1, d2, rfl, ⟨P1.mono (by omega), P2.mono (by omega), HAP.out⟩, HGP⟩

/-- A slice whose cells, if it has some, may be written. -/
def SpB (A : Option Addr) (n K base N : Nat) (w : World) : Prop := n = 0 ∨ ∃ g, A = some ⟨g, 0, none⟩ ∧ base ≤ g ∧ g < N ∧ Slab w g (n * K)
theorem SpB.set {A : Option Addr} {n K base N : Nat} {w : World} (h : SpB A n K base N w) (b k : Nat) (u : Value) : SpB A n K base N (w.setCell ⟨b, k, none⟩ u) := by
  rcases h with h | ⟨g, e, h1, h2, h3⟩
  · exact Or.inl h
  · exact Or.inr ⟨g, e, h1, h2, h3.set b k u⟩
theorem SpB.keep {A : Option Addr} {n K base N : Nat} {w w' : World} (h : SpB A n K base N w) (g : Grew w w') : SpB A n K base N w' := by
  rcases h with h | ⟨b, e, h1, h2, h3⟩
  · exact Or.inl h
  · exact Or.inr ⟨b, e, h1, h2, h3.keep g⟩
theorem OwnE.spb {α : Type} {E : En α} {w : World} {base : Nat} {t : TypeId} {A : Option Addr} {n c : Nat} {l : List α} (h : OwnE E w base t (.slice A n c) l) : SpB A n E.size base w.heap.size w := by
  obtain ⟨A', c', e, h2⟩ := h.slab
  cases e
  rcases h2 with h2 | ⟨g, e, h3, h4⟩
  · exact Or.inl h2
  · exact Or.inr ⟨g, e, h3, h4.1, h4⟩

end Go.Proofs.Ytlbfljkhlkjcbaa.NumK
