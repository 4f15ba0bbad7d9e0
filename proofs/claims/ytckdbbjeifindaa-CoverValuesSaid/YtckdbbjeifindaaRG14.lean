/- A list of pledges: slices.BinarySearchFunc, Grow, Concat. -/
import Derived.Test.YtckdbbjeifindaaRG13
import Derived.Test.YtckdbbjeifindaaRG1
import Derived.Test.YtckdbbjeifindaaRG2
import Derived.Lib.AppendZerosOnto
import Derived.Lib.Walk
import Derived.Lib.SliceRun
import Derived.Deep.CutBlock
import Derived.Deep.RegionHeld3
import Derived.Test.YtckdbbjeifindaaRG3
import Derived.Test.YtckdbbjeifindaaRG10
import Derived.Deep.Slices
import Derived.Deep.RegionWith
import Derived.Test.YtckdbbjeifindaaRG11
import Derived.Test.YtckdbbjeifindaaRG4
import Derived.Test.YtckdbbjeifindaaRG5
namespace Go.Proofs.Ytckdbbjeifindaa.NumK
open Go.RowKit
set_option linter.unusedVariables false

theorem growPg0_any (w : World) : Calls Try.prog 70 #[.slice none 0 0, .int .i64 ((0 : Nat) : Int)] w fun e w' => ∃ v, e = .returned v ∧ OwnE enPg w' w.heap.size 37 v [] ∧ Grew w w' := by
  go_enter Try.func70, Try.ntmps70
  go_wp2
  go_ret
  exact ⟨_, rfl, OwnE.nil _ _ _ _, grew_refl _⟩
theorem growPg1_any (n : Nat) (w : World) (h0 : 0 < n) (hn : n ≤ 1000000) :
    Calls Try.prog 70 #[.slice none 0 0, .int .i64 n] w fun e w' => ∃ v, e = .returned v ∧ OwnE enPg w' w.heap.size 37 v [] ∧ Grew w w' := by
  obtain ⟨i0, hi0, hz0, hs0, hb0⟩ := info_parts info_pg
  have h2 : wrap64 ((0 : Int) - (0 : Int)) = 0 := by unfold wrap64; omega
  have h3 : wrap64 ((n : Int) - 0) = (n : Int) := by unfold wrap64; omega
  have h4 : (n : Int) > 0 := by omega
  have h1 : ¬ ((n : Int) < 0) := by omega
  have hrz : ∀ ty, (Builtin.append_ #[24, 3] ty #[.slice none 0 0, .int .i64 (n : Int)]).run Try.prog w =
      .ok (.slice (some ⟨w.heap.size, 0, none⟩) (0 + n) (grownCap w (0 + n) 0 37)) (w.drew.alloc (.cells (([] : List Value).toArray ++ Builtin.zeroCells (vPg pg0).cells n ++ Builtin.zeroCells (vPg pg0).cells (grownCap w (0 + n) 0 37 - (0 + n))) 37)) := fun ty =>
    Lib.run_append_grow_zeros w 24 3 ty 37 i0 (vPg pg0) .i64 .i64 Try.underlying24 Try.underlying3 hi0 hz0 none 0 0 [] (run_firstCells_none w.drew i0.size 0 0 0) n h0 (by rw [hs0]; decide) (by omega) (by omega) (by rw [hb0]; omega)
      (growslice_fits (by omega) (by rw [hb0]; omega))
  have hGn : n ≤ grownCap w (0 + n) 0 37 := by have := grownCap_ge w (0 + n) 0 37; omega
  have hGm : grownCap w (0 + n) 0 37 ≤ maxLen := grownCap_le_maxLen w (0 + n) 0 37 (by unfold maxLen; omega)
  have hzl : (Builtin.zeroCells (vPg pg0).cells n).size = n * 3 := by simp [Builtin.zeroCells, Value.cells]
  rw [Nat.zero_add] at *
  generalize hG : grownCap w n 0 37 = G at *
  clear hG
  have hzm : (Builtin.zeroCells (vPg pg0).cells (G - n)).size = (G - n) * 3 := by simp [Builtin.zeroCells, Value.cells]
  have HP : Hid (OwnE enPg (w.drew.alloc (.cells (([] : List Value).toArray ++ Builtin.zeroCells (vPg pg0).cells n ++ Builtin.zeroCells (vPg pg0).cells (G - n)) 37)) w.heap.size 37 (.slice (some ⟨w.heap.size, 0, none⟩) 0 G) []) :=
    ⟨by simp, .inr ⟨w.heap.size, G, _, rfl, Nat.le_refl _, heap_alloc_new w.drew _, by simp, hGm, by simp only [List.size_toArray, Array.size_append, List.length_nil, hzl, hzm]; show _ = G * 3; omega, by simp⟩⟩
  have HB : Hid (Grew w (w.drew.alloc (.cells (([] : List Value).toArray ++ Builtin.zeroCells (vPg pg0).cells n ++ Builtin.zeroCells (vPg pg0).cells (G - n)) 37))) := grew_trans (grew_drew (grew_refl w)) (grew_alloc _ _ _)
  clear hzl hzm hi0 hz0 hs0 hb0
  generalize w.drew.alloc (.cells (([] : List Value).toArray ++ Builtin.zeroCells (vPg pg0).cells n ++ Builtin.zeroCells (vPg pg0).cells (G - n)) 37) = w9 at *
  unfold maxLen at hGm
  go_enter Try.func70, Try.ntmps70
  go_wp2_with (at_builtin; refine Lib.wpList_append_run _ rfl _ _ _ _ rfl _ _ rfl rfl _ _ (hrz _) ?_)
  go_ret
  exact ⟨_, rfl, HP.out, HB.out⟩
theorem growPg_any (n : Nat) (w : World) (hn : n ≤ 1000000) :
    Calls Try.prog 70 #[.slice none 0 0, .int .i64 n] w fun e w' => ∃ v, e = .returned v ∧ OwnE enPg w' w.heap.size 37 v [] ∧ Grew w w' := by
  rcases Nat.eq_zero_or_pos n with h | h
  · subst h; exact growPg0_any w
  · exact growPg1_any n w h hn

set_option maxRecDepth 100000 in
set_option maxHeartbeats 2000000 in
theorem concatPg_any (B : Nat) (A1 A2 A3 : Option Addr) (n1 n2 n3 c1 c2 c3 : Nat) (l1 l2 l3 : List Pg) (w : World) (hB : OwnC w B [.slice A1 n1 c1, .slice A2 n2 c2, .slice A3 n3 c3])
    (h1 : RowE enPg w A1 n1 l1) (h2 : RowE enPg w A2 n2 l2) (h3 : RowE enPg w A3 n3 l3) (k1 : A1 = none → c1 = 0) (k2 : A2 = none → c2 = 0) (k3 : A3 = none → c3 = 0) (hn : n1 ≤ 100000 ∧ n2 ≤ 100000 ∧ n3 ≤ 100000) :
    Calls Try.prog 59 #[.slice (some ⟨B, 0, none⟩) 3 3] w fun e w' => ∃ v, e = .returned v ∧ OwnE enPg w' w.heap.size 37 v (l1 ++ (l2 ++ l3)) ∧ Grew w w' := by
  have HB := Lib.hid hB
  have H1 := Lib.hid h1
  have H2 := Lib.hid h2
  have H3 := Lib.hid h3
  have K1 := Lib.hid k1
  have K2 := Lib.hid k2
  have K3 := Lib.hid k3
  have L1 := Lib.hid h1.len
  have L2 := Lib.hid h2.len
  have L3 := Lib.hid h3.len
  clear hB h1 h2 h3 k1 k2 k3
  go_enter Try.func59, Try.ntmps59
  go_wp2
  go_loop [3, 5, 11] (fun v3 v5 v11 => ∃ j s : Nat, v11 = .int .i64 j ∧ v3 = .int .i64 s ∧ j ≤ 3 ∧ Hid ((j = 0 ∧ s = 0) ∨ (j = 1 ∧ s = n1) ∨ (j = 2 ∧ s = n1 + n2) ∨ (j = 3 ∧ s = n1 + n2 + n3))) (fun _ _ v11 => 3 - (intOf v11).toNat)
  case atStart => exact ⟨0, 0, rfl, rfl, by omega, Or.inl ⟨rfl, rfl⟩⟩
  case round =>
    obtain ⟨j, s, rfl, rfl, hj, HS⟩ := hrel
    rcases HS.out with ⟨rfl, rfl⟩ | ⟨rfl, rfl⟩ | ⟨rfl, rfl⟩ | ⟨rfl, rfl⟩
    · have b0 : w.cell? ⟨B, 0, none⟩ = some (.slice A1 n1 c1) := HB.out.at 0 _ rfl
      have e1 : IntKind.i64.wrap (n1 : Int) = n1 := by rw [IntKind.wrap_i64]; omega
      have e2 : ¬ ((n1 : Int) < 0) := by omega
      clear HS hj
      go_wp2
      go_round
      case rel => exact ⟨1, n1, by go_num, by go_num, by omega, Or.inr (Or.inl ⟨rfl, rfl⟩)⟩
      case measure => simp only [intOf]; omega
    · have b0 : w.cell? ⟨B, 1, none⟩ = some (.slice A2 n2 c2) := HB.out.at 1 _ rfl
      have e1 : IntKind.i64.wrap ((s : Int) + (n2 : Int)) = ((s + n2 : Nat) : Int) := by rw [IntKind.wrap_i64]; omega
      have e2 : ¬ (((s + n2 : Nat) : Int) < 0) := by omega
      clear HS hj
      go_wp2
      go_round
      case rel => exact ⟨2, s + n2, by go_num, by go_num, by omega, Or.inr (Or.inr (Or.inl ⟨rfl, rfl⟩))⟩
      case measure => simp only [intOf]; omega
    · have b0 : w.cell? ⟨B, 2, none⟩ = some (.slice A3 n3 c3) := HB.out.at 2 _ rfl
      have e1 : IntKind.i64.wrap (((n1 + n2 : Nat) : Int) + (n3 : Int)) = ((n1 + n2 + n3 : Nat) : Int) := by rw [IntKind.wrap_i64]; omega
      have e2 : ¬ (((n1 + n2 + n3 : Nat) : Int) < 0) := by omega
      clear HS hj
      go_wp2
      go_round
      case rel => exact ⟨3, n1 + n2 + n3, by go_num, by go_num, by omega, Or.inr (Or.inr (Or.inr ⟨rfl, rfl⟩))⟩
      case measure => simp only [intOf]; omega
    · have CG := fun w => growPg_any (n1 + n2 + n3) w (by omega)
      have e3 : ((n1 + n2 + n3 : Nat) : Int) = ((n1 + n2 + n3 : Nat) : Int) := rfl
      clear HS hj
      generalize n1 + n2 + n3 = N at *
      go_wp2_with (go_at_call 70; ((with_reducible refine (CG _).mono ?_); rintro e w5 ⟨v, rfl, ho, hg⟩; have HO := Lib.hid ho; have HG5 := Lib.hid hg; clear ho hg CG))
      go_loopw [6, 8, 27] (fun v6 v8 v27 wr => ∃ j : Nat, v27 = .int .i64 j ∧ j ≤ 3 ∧ Hid ((j = 0 ∧ OwnE enPg wr w.heap.size 37 v6 []) ∨ (j = 1 ∧ OwnE enPg wr w.heap.size 37 v6 l1) ∨ (j = 2 ∧ OwnE enPg wr w.heap.size 37 v6 (l1 ++ l2)) ∨ (j = 3 ∧ OwnE enPg wr w.heap.size 37 v6 (l1 ++ l2 ++ l3))) ∧ Hid (Grew w wr)) (fun _ _ v27 _ => 3 - (intOf v27).toNat)
      case atStart => exact ⟨0, rfl, by omega, Or.inl ⟨rfl, HO.out⟩, HG5.out⟩
      case round =>
        obtain ⟨j, rfl, hj, HS, HG⟩ := hrel
        rcases HS.out with ⟨rfl, ho⟩ | ⟨rfl, ho⟩ | ⟨rfl, ho⟩ | ⟨rfl, ho⟩
        · have b0 : wr.cell? ⟨B, 0, none⟩ = some (.slice A1 n1 c1) := (HB.out.keep HG.out).at 0 _ rfl
          have HV := Lib.hid ho
          have HZ : Hid (w.heap.size ≤ wr.heap.size) := HG.out.size
          clear HS hj HO ho
          go_wp2_with (at_builtin; refine (wpList_append_E rfl _ _ 24 37 (vPg pg0) 24 rfl Try.underlying24 info_pg rfl w.heap.size _ [] rfl HV.out A1 n1 c1 l1 rfl K1.out (H1.out.keep HG.out) (by simp; unfold maxLen; omega) (by simp; omega) HZ.out ?_); intro v' w' ho hb; rw [List.nil_append] at ho; have HP := Lib.hid ho; have HB2 : Hid (Grew w w') := Below.trans HG.out hb; clear ho hb)
          go_roundw
          case rel => exact ⟨1, by go_num, by omega, Or.inr (Or.inl ⟨rfl, HP.out⟩), HB2.out⟩
          case measure => simp only [intOf]; omega
        · have b0 : wr.cell? ⟨B, 1, none⟩ = some (.slice A2 n2 c2) := (HB.out.keep HG.out).at 1 _ rfl
          have HV := Lib.hid ho
          have HZ : Hid (w.heap.size ≤ wr.heap.size) := HG.out.size
          clear HS hj HO ho
          go_wp2_with (at_builtin; refine (wpList_append_E rfl _ _ 24 37 (vPg pg0) 24 rfl Try.underlying24 info_pg rfl w.heap.size _ l1 rfl HV.out A2 n2 c2 l2 rfl K2.out (H2.out.keep HG.out) (by rw [L1.out]; unfold maxLen; omega) (by rw [L1.out]; omega) HZ.out ?_); intro v' w' ho hb; have HP := Lib.hid ho; have HB2 : Hid (Grew w w') := Below.trans HG.out hb; clear ho hb)
          go_roundw
          case rel => exact ⟨2, by go_num, by omega, Or.inr (Or.inr (Or.inl ⟨rfl, HP.out⟩)), HB2.out⟩
          case measure => simp only [intOf]; omega
        · have b0 : wr.cell? ⟨B, 2, none⟩ = some (.slice A3 n3 c3) := (HB.out.keep HG.out).at 2 _ rfl
          have HV := Lib.hid ho
          have HZ : Hid (w.heap.size ≤ wr.heap.size) := HG.out.size
          clear HS hj HO ho
          go_wp2_with (at_builtin; refine (wpList_append_E rfl _ _ 24 37 (vPg pg0) 24 rfl Try.underlying24 info_pg rfl w.heap.size _ (l1 ++ l2) rfl HV.out A3 n3 c3 l3 rfl K3.out (H3.out.keep HG.out) (by rw [List.length_append, L1.out, L2.out]; unfold maxLen; omega) (by rw [List.length_append, L1.out, L2.out]; omega) HZ.out ?_); intro v' w' ho hb; have HP := Lib.hid ho; have HB2 : Hid (Grew w w') := Below.trans HG.out hb; clear ho hb)
          go_roundw
          case rel => exact ⟨3, by go_num, by omega, Or.inr (Or.inr (Or.inr ⟨rfl, HP.out⟩)), HB2.out⟩
          case measure => simp only [intOf]; omega
        · have HP : Hid (OwnE enPg wr w.heap.size 37 u6 (l1 ++ (l2 ++ l3))) := by show OwnE _ _ _ _ _ _; rw [← List.append_assoc]; exact ho
          clear HS hj HO ho
          go_wp2
          go_ret
          exact ⟨_, rfl, HP.out, HG.out⟩


/-- What the search tells. -/
def FoundPg (l : List Pg) (m : Int) (n : Nat) (k : Nat) (th : Bool) : Prop :=
  k ≤ n ∧ (∀ i, i < k → noPg (l.getD i pg0) < m) ∧ (∀ i, k ≤ i → i < n → m ≤ noPg (l.getD i pg0)) ∧ (th = true ↔ k < n ∧ noPg (l.getD k pg0) = m)
def SearchPg (l : List Pg) (m : Int) (n : Nat) (w : World) (e : Ending) (w' : World) : Prop :=
  ∃ k th, e = .returned (.tuple #[.int .i64 ((k : Nat) : Int), .bool th]) ∧ FoundPg l m n k th ∧ Grew w w'

set_option maxRecDepth 100000 in
set_option maxHeartbeats 4000000 in
theorem searchPg_any (A : Option Addr) (n c : Nat) (l : List Pg) (x : Pg) (w : World) (h : RowE enPg w A n l) (hr : rightPg l = true) (hx : okPK x.1 x.2.1 = true) (hn : n ≤ 1000000) :
    Calls Try.prog 58 #[.slice A n c, vPg x, .func (.func 28) #[] #[]] w (SearchPg l (noPg x) n w) := by
  have HI := Lib.hid h
  have HR : Hid (∀ i j, i < j → j < n → noPg (l.getD i pg0) < noPg (l.getD j pg0)) := fun i j hij hj => by
    have hl := h.len
    rw [getD_at l _ i (by omega), getD_at l _ j (by omega)]
    exact List.pairwise_iff_getElem.1 ((rightPg_iff l).1 hr).2 i j (by omega) (by omega) hij
  have HO : Hid (∀ i, i < n → (ordP (l.getD i pg0) x < 0 ↔ noPg (l.getD i pg0) < noPg x) ∧ (ordP (l.getD i pg0) x = 0 ↔ noPg (l.getD i pg0) = noPg x)) := fun i hi => by
    have hl := h.len
    refine ordP_no ?_ hx
    rw [getD_at l _ i (by omega)]
    exact ((okPg_iff _).1 (((rightPg_iff l).1 hr).1 _ (List.getElem_mem _))).1
  have CC := fun y w' => order_any y x w'
  generalize noPg x = m at *
  have HQ : Hid (∀ i, i < n → ∃ O, ordP (l.getD i pg0) x = O ∧ (O < 0 ↔ noPg (l.getD i pg0) < m) ∧ (O = 0 ↔ noPg (l.getD i pg0) = m)) := fun i hi => ⟨_, rfl, HO.out i hi⟩
  obtain ⟨t1, t2, t3⟩ := x
  dsimp only [vPg] at CC ⊢
  clear h hr hx HO
  have HX0 : Hid (OwnC (w.alloc (.cells #[.int .i64 t1, .int .i64 t2, .int .i64 t3] 37)) w.heap.size [.int .i64 t1, .int .i64 t2, .int .i64 t3]) := OwnC.new w [.int .i64 t1, .int .i64 t2, .int .i64 t3] _ _ rfl
  have HG0 : Hid (Grew w (w.alloc (.cells #[.int .i64 t1, .int .i64 t2, .int .i64 t3] 37))) := grew_alloc _ _ _
  go_enter Try.func58, Try.ntmps58
  go_wp2
  generalize w.alloc (.cells #[.int .i64 t1, .int .i64 t2, .int .i64 t3] 37) = w0 at *
  generalize w.heap.size = N at *
  go_loopw [9, 10] (fun v9 v10 wr => ∃ i j : Nat, v9 = .int .i64 i ∧ v10 = .int .i64 j ∧ i ≤ j ∧ j ≤ n ∧ Hid (∀ k, k < i → noPg (l.getD k pg0) < m) ∧ Hid (∀ k, j ≤ k → k < n → m ≤ noPg (l.getD k pg0)) ∧ Hid (OwnC wr N [.int .i64 t1, .int .i64 t2, .int .i64 t3]) ∧ Hid (Grew w wr)) (fun v9 v10 _ => (intOf v10).toNat - (intOf v9).toNat)
  case atStart => exact ⟨0, n, rfl, rfl, by omega, by omega, (by intro k hk; omega), (by intro k hk hk2; omega), HX0.out, HG0.out⟩
  case round =>
    clear HX0 HG0
    obtain ⟨i, j, rfl, rfl, hij, hj, HA, HB, HX, HG⟩ := hrel
    have x0 := grew_every (w := wr) (S := fun w' => w'.cell? ⟨N, 0, none⟩ = some (.int .i64 t1)) (fun w' g => (HX.out.keep g).at 0 _ rfl)
    have x1 := grew_every (w := wr) (S := fun w' => w'.cell? ⟨N, 1, none⟩ = some (.int .i64 t2)) (fun w' g => (HX.out.keep g).at 1 _ rfl)
    have x2 := grew_every (w := wr) (S := fun w' => w'.cell? ⟨N, 2, none⟩ = some (.int .i64 t3)) (fun w' g => (HX.out.keep g).at 2 _ rfl)
    by_cases hlt : i < j
    · have i1 : (i : Int) < (j : Int) := by omega
      obtain ⟨hh, hhd⟩ : ∃ hh, hh = (i + j) / 2 := ⟨_, rfl⟩
      have hh1 : i ≤ hh ∧ hh < j := by omega
      obtain ⟨b, o, rfl, hb, hc⟩ := (HI.out.keep HG.out).pg (j := hh) (by omega)
      obtain ⟨a0, a1, a2⟩ := hc hh (by omega)
      clear hc
      have e1 : IntKind.i64.wrap ((i : Int) + (j : Int)) = (i : Int) + (j : Int) := by rw [IntKind.wrap_i64]; omega
      have e2 : IntKind.u64.wrap ((i : Int) + (j : Int)) = (i : Int) + (j : Int) := by rw [IntKind.wrap_u64]; omega
      obtain ⟨cr, hcr, hlo, heq⟩ := HQ.out hh (by omega)
      have CX := fun w' (g : Grew wr w') => CC (l.getD hh pg0) w'
      rw [hcr] at CX
      have HLT := Lib.hid hlo
      clear hcr hlo heq
      have i2 : (0 : Int) ≤ (hh : Int) := by omega
      have i3 : (hh : Int) < (n : Int) := by omega
      have e3 : ((i : Int) + (j : Int)) / 2 = (hh : Int) := by omega
      have e4 : IntKind.i64.wrap ((hh : Int) + 1) = ((hh + 1 : Nat) : Int) := by rw [IntKind.wrap_i64]; omega
      clear hhd
      by_cases hc : cr < 0
      · have HLO : Hid (∀ k, k < hh + 1 → noPg (l.getD k pg0) < m) := fun k hk => by
          have h1 := HLT.out.1 hc
          rcases Nat.lt_or_ge k hh with h2 | h2
          · have := HR.out k hh h2 (by omega); omega
          · obtain rfl : k = hh := by omega
            exact h1
        clear HA HLT
        generalize l.getD hh pg0 = x at *
        obtain ⟨q1, q2, q3⟩ := x
        dsimp only at a0 a1 a2 CX
        have y0 := grew_every (w := wr) (S := fun w' => w'.cell? ⟨b, o + hh * 3, none⟩ = some (.int .i64 q1)) (fun w' g => (grew_cell g (p := ⟨b, _, none⟩) hb).trans a0)
        have y1 := grew_every (w := wr) (S := fun w' => w'.cell? ⟨b, o + hh * 3 + 1, none⟩ = some (.int .i64 q2)) (fun w' g => (grew_cell g (p := ⟨b, _, none⟩) hb).trans a1)
        have y2 := grew_every (w := wr) (S := fun w' => w'.cell? ⟨b, o + hh * 3 + 2, none⟩ = some (.int .i64 q3)) (fun w' g => (grew_cell g (p := ⟨b, _, none⟩) hb).trans a2)
        clear a0 a1 a2 hb
        go_upto_region 5 with (fail)
        refine wp_region_grew (by kernel_rfl) (by kernel_rfl) ?_
        repeat (go_big_quiet_step (with_reducible exact calls_every CX))
        refine wpQuiet_nil ?_
        intro w5 hw'
        have HG5 := Lib.hid (grew_of hw')
        have HX5 := Lib.hid (HX.out.keep HG5.out)
        clear hw' x0 x1 x2 y0 y1 y2
        go_wp2
        go_roundw
        case rel => exact ⟨hh + 1, j, by go_num, rfl, by omega, hj, HLO.out, HB.out, HX5.out, grew_trans HG.out HG5.out⟩
        case measure => simp only [intOf]; omega
      · have HHI : Hid (∀ k, hh ≤ k → k < n → m ≤ noPg (l.getD k pg0)) := fun k hk hkn => by
          have h1 : ¬ noPg (l.getD hh pg0) < m := fun h => hc (HLT.out.2 h)
          rcases Nat.eq_or_lt_of_le hk with h2 | h2
          · subst h2; omega
          · have := HR.out hh k h2 hkn; omega
        clear HB HLT
        generalize l.getD hh pg0 = x at *
        obtain ⟨q1, q2, q3⟩ := x
        dsimp only at a0 a1 a2 CX
        have y0 := grew_every (w := wr) (S := fun w' => w'.cell? ⟨b, o + hh * 3, none⟩ = some (.int .i64 q1)) (fun w' g => (grew_cell g (p := ⟨b, _, none⟩) hb).trans a0)
        have y1 := grew_every (w := wr) (S := fun w' => w'.cell? ⟨b, o + hh * 3 + 1, none⟩ = some (.int .i64 q2)) (fun w' g => (grew_cell g (p := ⟨b, _, none⟩) hb).trans a1)
        have y2 := grew_every (w := wr) (S := fun w' => w'.cell? ⟨b, o + hh * 3 + 2, none⟩ = some (.int .i64 q3)) (fun w' g => (grew_cell g (p := ⟨b, _, none⟩) hb).trans a2)
        clear a0 a1 a2 hb
        go_upto_region 5 with (fail)
        refine wp_region_grew (by kernel_rfl) (by kernel_rfl) ?_
        repeat (go_big_quiet_step (with_reducible exact calls_every CX))
        refine wpQuiet_nil ?_
        intro w5 hw'
        have HG5 := Lib.hid (grew_of hw')
        have HX5 := Lib.hid (HX.out.keep HG5.out)
        clear hw' x0 x1 x2 y0 y1 y2
        go_wp2
        go_roundw
        case rel => exact ⟨i, hh, rfl, rfl, by omega, by omega, HA.out, HHI.out, HX5.out, grew_trans HG.out HG5.out⟩
        case measure => simp only [intOf]; omega
    · obtain rfl : i = j := by omega
      by_cases hin : i < n
      · obtain ⟨b, o, rfl, hb, hc⟩ := (HI.out.keep HG.out).pg (j := i) hin
        obtain ⟨a0, a1, a2⟩ := hc i hin
        clear hc
        obtain ⟨cr, hcr, hlo, heq⟩ := HQ.out i hin
        have CX := fun w' (g : Grew wr w') => CC (l.getD i pg0) w'
        rw [hcr] at CX
        have HEQ := Lib.hid heq
        clear hcr hlo heq
        have i2 : (0 : Int) ≤ (i : Int) := by omega
        have i3 : (i : Int) < (n : Int) := by omega
        by_cases hc : cr = 0
        · have HF : Hid (FoundPg l m n i true) := ⟨hj, HA.out, HB.out, fun _ => ⟨hin, HEQ.out.1 hc⟩, fun _ => rfl⟩
          subst hc
          clear HA HB HEQ
          generalize l.getD i pg0 = x at *
          obtain ⟨q1, q2, q3⟩ := x
          dsimp only at a0 a1 a2 CX
          have y0 := grew_every (w := wr) (S := fun w' => w'.cell? ⟨b, o + i * 3, none⟩ = some (.int .i64 q1)) (fun w' g => (grew_cell g (p := ⟨b, _, none⟩) hb).trans a0)
          have y1 := grew_every (w := wr) (S := fun w' => w'.cell? ⟨b, o + i * 3 + 1, none⟩ = some (.int .i64 q2)) (fun w' g => (grew_cell g (p := ⟨b, _, none⟩) hb).trans a1)
          have y2 := grew_every (w := wr) (S := fun w' => w'.cell? ⟨b, o + i * 3 + 2, none⟩ = some (.int .i64 q3)) (fun w' g => (grew_cell g (p := ⟨b, _, none⟩) hb).trans a2)
          clear a0 a1 a2 hb
          go_upto_region 8 with (fail)
          refine wp_region_grew (by kernel_rfl) (by kernel_rfl) ?_
          repeat (go_big_quiet_step (with_reducible exact calls_every CX))
          refine wpQuiet_nil ?_
          intro w5 hw'
          have HG5 := Lib.hid (grew_of hw')
          clear hw' x0 x1 x2 y0 y1 y2
          go_wp2
          go_ret2
          exact ⟨i, true, rfl, HF.out, grew_trans HG.out HG5.out⟩
        · have HF : Hid (FoundPg l m n i false) := ⟨hj, HA.out, HB.out, fun h => (by cases h), fun h => absurd (HEQ.out.2 h.2) hc⟩
          have hc2 : (cr == 0) = false := by simpa using hc
          clear HA HB HEQ hc
          generalize l.getD i pg0 = x at *
          obtain ⟨q1, q2, q3⟩ := x
          dsimp only at a0 a1 a2 CX
          have y0 := grew_every (w := wr) (S := fun w' => w'.cell? ⟨b, o + i * 3, none⟩ = some (.int .i64 q1)) (fun w' g => (grew_cell g (p := ⟨b, _, none⟩) hb).trans a0)
          have y1 := grew_every (w := wr) (S := fun w' => w'.cell? ⟨b, o + i * 3 + 1, none⟩ = some (.int .i64 q2)) (fun w' g => (grew_cell g (p := ⟨b, _, none⟩) hb).trans a1)
          have y2 := grew_every (w := wr) (S := fun w' => w'.cell? ⟨b, o + i * 3 + 2, none⟩ = some (.int .i64 q3)) (fun w' g => (grew_cell g (p := ⟨b, _, none⟩) hb).trans a2)
          clear a0 a1 a2 hb
          go_upto_region 8 with (fail)
          refine wp_region_grew (by kernel_rfl) (by kernel_rfl) ?_
          repeat (go_big_quiet_step (with_reducible exact calls_every CX))
          refine wpQuiet_nil ?_
          intro w5 hw'
          have HG5 := Lib.hid (grew_of hw')
          clear hw' x0 x1 x2 y0 y1 y2
          go_wp2
          go_ret2
          exact ⟨i, false, rfl, HF.out, grew_trans HG.out HG5.out⟩
      · have HF : Hid (FoundPg l m n i false) := ⟨hj, HA.out, HB.out, fun h => (by cases h), fun h => absurd h.1 hin⟩
        have i3 : ¬ (i : Int) < (n : Int) := by omega
        clear HA HB
        go_upto_region 8 with (fail)
        refine wp_region_grew (by kernel_rfl) (by kernel_rfl) ?_
        repeat (go_big_quiet_step (fail))
        refine wpQuiet_nil ?_
        intro w5 hw'
        have HG5 := Lib.hid (grew_of hw')
        clear hw' x0 x1 x2
        go_wp2
        go_ret2
        exact ⟨i, false, rfl, HF.out, grew_trans HG.out HG5.out⟩
end Go.Proofs.Ytckdbbjeifindaa.NumK
namespace Go.Proofs.Ytckdbbjeifindaa.NumK
open Go.RowKit
set_option linter.unusedVariables false

set_option maxRecDepth 100000 in
set_option maxHeartbeats 8000000 in
theorem pput_any (A : Option Addr) (n c : Nat) (l : List Pg) (x : Pg) (w : World) (h : RowE enPg w A n l) (hA : A = none → c = 0) (hr : rightPg l = true) (hx : okPK x.1 x.2.1 = true) (hu : 0 ≤ x.2.2) (hnc : n ≤ c) (hc : c ≤ 9223372036854775807) (hn : n ≤ 1000) :
    Calls Try.prog 31 #[.slice A n c, vPg x] w fun e w' => ∃ v, e = .returned v ∧ OwnE enPg w' w.heap.size 37 v (setL noPg l (noPg x) (changeO x.1 x.2.1 x.2.2)) ∧ Grew w w' := by
  have HI := Lib.hid h
  have HA := Lib.hid hA
  have HL := Lib.hid h.len
  have HR := Lib.hid ((rightPg_iff l).1 hr).2
  have HCO : Hid (changeO x.1 x.2.1 x.2.2 = if x.2.2 ≤ 0 then none else some x) := rfl
  have CS := fun (w1 : World) (g : Grew w w1) => searchPg_any A n c l x w1 (h.keep g) hr hx (by omega)
  have HPT := Lib.hid (fun k a b d => put_at HR.out x k (d := pg0) a b d)
  have HNX : Hid (noPg x = noPg x) := rfl
  clear h hA hr hx
  generalize changeO x.1 x.2.1 x.2.2 = CO at *
  generalize hnx : noPg x = nx at *
  clear hnx HNX
  obtain ⟨q1, q2, q3⟩ := x
  dsimp only [vPg] at *
  have HX0 : Hid (OwnC (w.alloc (.cells #[.int .i64 q1, .int .i64 q2, .int .i64 q3] 37)) w.heap.size [.int .i64 q1, .int .i64 q2, .int .i64 q3]) := OwnC.new w [.int .i64 q1, .int .i64 q2, .int .i64 q3] _ _ rfl
  have HG0 : Hid (Grew w (w.alloc (.cells #[.int .i64 q1, .int .i64 q2, .int .i64 q3] 37))) := grew_alloc _ _ _
  have HSL : Hid (setL noPg l nx CO = l.filter (fun y => decide (noPg y < nx)) ++ (CO.toList ++ l.filter (fun y => decide (nx < noPg y)))) := rfl
  generalize setL noPg l nx CO = SL at *
  go_enter Try.func31, Try.ntmps31
  go_upto_region 1 with (fail)
  generalize w.alloc (.cells #[.int .i64 q1, .int .i64 q2, .int .i64 q3] 37) = w0 at *
  have HN : Hid (w.heap.size ≤ w.heap.size) := Nat.le_refl _
  have x0 := HX0.out.at 0 (.int .i64 q1) rfl; have x1 := HX0.out.at 1 (.int .i64 q2) rfl; have x2 := HX0.out.at 2 (.int .i64 q3) rfl
  go_upto_region 2 with (go_at_call 58; ((with_reducible refine (CS _ HG0.out).mono ?_); rintro e w2 ⟨k, th, rfl, hf, hg⟩; have HF := Lib.hid hf; have HX2 := Lib.hid (HX0.out.keep hg); have HG2 := Lib.hid (grew_trans HG0.out hg); clear hg hf CS HX0 HG0 x0 x1 x2))
  have x0 := HX2.out.at 0 (.int .i64 q1) rfl; have x1 := HX2.out.at 1 (.int .i64 q2) rfl; have x2 := HX2.out.at 2 (.int .i64 q3) rfl
  have hk : k ≤ n := HF.out.1
  have i1 : (k : Int) ≤ (n : Int) := by omega
  have i2 : (0 : Int) ≤ (k : Int) := by omega
  have i3 : ¬ ((k : Int) > (c : Int)) := by omega
  have i4 : (k : Int) ≤ (c : Int) := by omega
  have i5 : ¬ ((k : Int) < 0) := by omega
  have i6 : k ≤ c := by omega
  have HPT2 := Lib.hid (HPT.out k (by rw [HL.out]; exact hk) (fun i hi => HF.out.2.1 i hi) (fun i hi hl => HF.out.2.2.1 i hi (by rw [← HL.out]; exact hl)))
  clear HPT
  have HWS : Hid (w.heap.size ≤ w2.heap.size) := HG2.out.size
  cases th
  · obtain ⟨A3, hA3⟩ : ∃ A3, (if c = k then A else Option.map (fun x => x.add (k * 3)) A) = A3 := ⟨_, rfl⟩
    have hno : ¬ (k < l.length ∧ noPg (l.getD k pg0) = nx) := fun h => by
      have := HF.out.2.2.2.2 ⟨by rw [← HL.out]; exact h.1, h.2⟩
      cases this
    have HX : Hid (RowE enPg w2 A3 (n - k) (l.drop k) ∧ (A3 = none → c - k = 0) ∧ n - k ≤ 1000) := by
      have h1 := HI.out.keep HG2.out
      refine ⟨?_, fun h => ?_, by omega⟩
      · rw [← hA3]
        split
        · next e =>
          have : n - k = 0 := by omega
          rw [this, List.drop_eq_nil_of_le (by rw [HL.out]; omega)]
          exact RowE.nil _ _ _
        · exact RowE.dropO h1 hk
      · rw [← hA3] at h
        split at h
        · omega
        · cases A with
          | none => have := HA.out rfl; omega
          | some a => cases h
    by_cases hq : q3 ≤ 0
    · have HEQ : Hid (l.take k ++ ([] ++ l.drop (k)) = SL) := by show _ = _; rw [HSL.out, HCO.out, if_pos (by omega), HPT2.out.1, HPT2.out.2.2 hno]; rfl
      have d6 : ¬ q3 > 0 := by omega
      clear HCO HSL HPT2 HR HF
      go_upto_region 8 with (fail)
      have H1 := Lib.hid (HI.out.keep (grew_trans HG2.out (grew_refl w2)))
      have CC := concatPg_any w2.heap.size A none A3 k 0 (n - k) c 0 (c - k) (l.take k) [] (l.drop (k)) (w2.alloc (.cells #[.slice A k c, .slice none 0 0, .slice A3 (n - k) (c - k)] 24))
        (OwnC.new w2 [.slice A k c, .slice none 0 0, .slice A3 (n - k) (c - k)] 24 _ rfl) ((H1.out.take hk).keep (grew_alloc _ _ _)) (RowE.nil _ _ _) (HX.out.1.keep (grew_trans (grew_refl w2) (grew_alloc _ _ _)))
        HA.out (fun _ => rfl) HX.out.2.1 ⟨by omega, by omega, by have := HX.out.2.2; omega⟩
      rw [HEQ.out] at CC
      go_wp2_with (go_at_call 59; ((with_reducible refine CC.mono ?_); rintro e w6 ⟨v6, rfl, ho6, hg6⟩; have HO6 := Lib.hid ho6; have HG6 : Hid (Grew w2 w6) := grew_trans (grew_trans (grew_refl w2) (grew_alloc _ _ _)) hg6; clear ho6 hg6))
      go_ret
      exact ⟨v6, rfl, HO6.out.mono (Nat.le_trans (Nat.le_trans HWS.out (grew_size (grew_refl w2))) (grew_size (grew_alloc _ _ _))), grew_trans HG2.out HG6.out⟩
    · have HEQ : Hid (l.take k ++ ([(q1, q2, q3)] ++ l.drop (k)) = SL) := by show _ = _; rw [HSL.out, HCO.out, if_neg (by omega), HPT2.out.1, HPT2.out.2.2 hno]; rfl
      have d6 : q3 > 0 := by omega
      clear HCO HSL HPT2 HR HF
      go_upto_region 8 with (at_builtin; refine (wpList_append_E rfl _ _ 24 37 (vPg pg0) 24 rfl Try.underlying24 info_pg rfl w2.heap.size _ [] rfl (OwnE.nil enPg _ _ _) (some ⟨w2.heap.size, 0, none⟩) 1 1 [(q1, q2, q3)] rfl (by intro h; cases h) (RowE.one enPg w2 (q1, q2, q3) 37 _ rfl) (by simp; unfold maxLen; omega) (by simp) (by simp) ?_); intro v' w4 ho hb; rw [List.nil_append] at ho; obtain ⟨A2, c2, rfl, hr2, hn2, -⟩ := ho.form; have HR2 := Lib.hid hr2; have HN2 := Lib.hid hn2; have HG4 : Hid (Grew w2 w4) := Below.trans (grew_alloc _ _ _) hb; clear ho hb hr2 hn2)
      have HX4 := Lib.hid (HX2.out.keep HG4.out)
      have H1 := Lib.hid (HI.out.keep (grew_trans HG2.out HG4.out))
      have CC := concatPg_any w4.heap.size A A2 A3 k 1 (n - k) c c2 (c - k) (l.take k) [(q1, q2, q3)] (l.drop (k)) (w4.alloc (.cells #[.slice A k c, .slice A2 1 c2, .slice A3 (n - k) (c - k)] 24))
        (OwnC.new w4 [.slice A k c, .slice A2 1 c2, .slice A3 (n - k) (c - k)] 24 _ rfl) ((H1.out.take hk).keep (grew_alloc _ _ _)) (HR2.out.keep (grew_alloc _ _ _)) (HX.out.1.keep (grew_trans HG4.out (grew_alloc _ _ _)))
        HA.out HN2.out HX.out.2.1 ⟨by omega, by omega, by have := HX.out.2.2; omega⟩
      rw [HEQ.out] at CC
      go_wp2_with (go_at_call 59; ((with_reducible refine CC.mono ?_); rintro e w6 ⟨v6, rfl, ho6, hg6⟩; have HO6 := Lib.hid ho6; have HG6 : Hid (Grew w2 w6) := grew_trans (grew_trans HG4.out (grew_alloc _ _ _)) hg6; clear ho6 hg6))
      go_ret
      exact ⟨v6, rfl, HO6.out.mono (Nat.le_trans (Nat.le_trans HWS.out (grew_size HG4.out)) (grew_size (grew_alloc _ _ _))), grew_trans HG2.out HG6.out⟩
  · have hkn : k < n := (HF.out.2.2.2.1 rfl).1
    have hyes : k < l.length ∧ noPg (l.getD k pg0) = nx := ⟨by rw [HL.out]; exact hkn, (HF.out.2.2.2.1 rfl).2⟩
    obtain ⟨b, o, rfl, hb, hcells⟩ := HI.out.pg hkn
    clear hcells hb
    have hck : ¬ c = k := by omega
    obtain ⟨A3, hA3⟩ : ∃ A3, (if c - k = 1 then some (⟨b, o + k * 3, none⟩ : Addr) else some ⟨b, o + k * 3 + 3, none⟩) = A3 := ⟨_, rfl⟩
    have HX : Hid (RowE enPg w2 A3 (n - k - 1) (l.drop (k + 1)) ∧ (A3 = none → c - k - 1 = 0) ∧ n - k - 1 ≤ 1000) := by
      have h1 := HI.out.keep HG2.out
      refine ⟨?_, fun h => ?_, by omega⟩
      · rw [← hA3]
        split
        · next e =>
          have : n - k - 1 = 0 := by omega
          rw [this, List.drop_eq_nil_of_le (by rw [HL.out]; omega)]
          exact RowE.nil _ _ _
        · have h2 := Row.drop (k := k + 1) h1 (by omega)
          rw [addr_add, show o + (k + 1) * enPg.sp.size = o + k * 3 + 3 by show o + (k + 1) * 3 = _; omega, show n - (k + 1) = n - k - 1 by omega] at h2
          exact h2
      · rw [← hA3] at h
        split at h <;> cases h
    by_cases hq : q3 ≤ 0
    · have HEQ : Hid (l.take k ++ ([] ++ l.drop (k + 1)) = SL) := by show _ = _; rw [HSL.out, HCO.out, if_pos (by omega), HPT2.out.1, HPT2.out.2.1 hyes]; rfl
      have d6 : ¬ q3 > 0 := by omega
      clear HCO HSL HPT2 HR HF
      go_upto_region 8 with (fail)
      have H1 := Lib.hid (HI.out.keep (grew_trans HG2.out (grew_refl w2)))
      have CC := concatPg_any w2.heap.size (some ⟨b, o, none⟩) none A3 k 0 (n - k - 1) c 0 (c - k - 1) (l.take k) [] (l.drop (k + 1)) (w2.alloc (.cells #[.slice (some ⟨b, o, none⟩) k c, .slice none 0 0, .slice A3 (n - k - 1) (c - k - 1)] 24))
        (OwnC.new w2 [.slice (some ⟨b, o, none⟩) k c, .slice none 0 0, .slice A3 (n - k - 1) (c - k - 1)] 24 _ rfl) ((H1.out.take hk).keep (grew_alloc _ _ _)) (RowE.nil _ _ _) (HX.out.1.keep (grew_trans (grew_refl w2) (grew_alloc _ _ _)))
        HA.out (fun _ => rfl) HX.out.2.1 ⟨by omega, by omega, by have := HX.out.2.2; omega⟩
      rw [HEQ.out] at CC
      go_wp2_with (go_at_call 59; ((with_reducible refine CC.mono ?_); rintro e w6 ⟨v6, rfl, ho6, hg6⟩; have HO6 := Lib.hid ho6; have HG6 : Hid (Grew w2 w6) := grew_trans (grew_trans (grew_refl w2) (grew_alloc _ _ _)) hg6; clear ho6 hg6))
      go_ret
      exact ⟨v6, rfl, HO6.out.mono (Nat.le_trans (Nat.le_trans HWS.out (grew_size (grew_refl w2))) (grew_size (grew_alloc _ _ _))), grew_trans HG2.out HG6.out⟩
    · have HEQ : Hid (l.take k ++ ([(q1, q2, q3)] ++ l.drop (k + 1)) = SL) := by show _ = _; rw [HSL.out, HCO.out, if_neg (by omega), HPT2.out.1, HPT2.out.2.1 hyes]; rfl
      have d6 : q3 > 0 := by omega
      clear HCO HSL HPT2 HR HF
      go_upto_region 8 with (at_builtin; refine (wpList_append_E rfl _ _ 24 37 (vPg pg0) 24 rfl Try.underlying24 info_pg rfl w2.heap.size _ [] rfl (OwnE.nil enPg _ _ _) (some ⟨w2.heap.size, 0, none⟩) 1 1 [(q1, q2, q3)] rfl (by intro h; cases h) (RowE.one enPg w2 (q1, q2, q3) 37 _ rfl) (by simp; unfold maxLen; omega) (by simp) (by simp) ?_); intro v' w4 ho hb; rw [List.nil_append] at ho; obtain ⟨A2, c2, rfl, hr2, hn2, -⟩ := ho.form; have HR2 := Lib.hid hr2; have HN2 := Lib.hid hn2; have HG4 : Hid (Grew w2 w4) := Below.trans (grew_alloc _ _ _) hb; clear ho hb hr2 hn2)
      have HX4 := Lib.hid (HX2.out.keep HG4.out)
      have H1 := Lib.hid (HI.out.keep (grew_trans HG2.out HG4.out))
      have CC := concatPg_any w4.heap.size (some ⟨b, o, none⟩) A2 A3 k 1 (n - k - 1) c c2 (c - k - 1) (l.take k) [(q1, q2, q3)] (l.drop (k + 1)) (w4.alloc (.cells #[.slice (some ⟨b, o, none⟩) k c, .slice A2 1 c2, .slice A3 (n - k - 1) (c - k - 1)] 24))
        (OwnC.new w4 [.slice (some ⟨b, o, none⟩) k c, .slice A2 1 c2, .slice A3 (n - k - 1) (c - k - 1)] 24 _ rfl) ((H1.out.take hk).keep (grew_alloc _ _ _)) (HR2.out.keep (grew_alloc _ _ _)) (HX.out.1.keep (grew_trans HG4.out (grew_alloc _ _ _)))
        HA.out HN2.out HX.out.2.1 ⟨by omega, by omega, by have := HX.out.2.2; omega⟩
      rw [HEQ.out] at CC
      go_wp2_with (go_at_call 59; ((with_reducible refine CC.mono ?_); rintro e w6 ⟨v6, rfl, ho6, hg6⟩; have HO6 := Lib.hid ho6; have HG6 : Hid (Grew w2 w6) := grew_trans (grew_trans HG4.out (grew_alloc _ _ _)) hg6; clear ho6 hg6))
      go_ret
      exact ⟨v6, rfl, HO6.out.mono (Nat.le_trans (Nat.le_trans HWS.out (grew_size HG4.out)) (grew_size (grew_alloc _ _ _))), grew_trans HG2.out HG6.out⟩

end Go.Proofs.Ytckdbbjeifindaa.NumK
namespace Go.Proofs.Ytckdbbjeifindaa.NumK
open Go.RowKit
set_option linter.unusedVariables false

theorem chg_14 {l : List Pg} {w a u : Int} (h : rightPg l = false) : changeE l w a u = 14 := by unfold changeE; rw [h]; rfl
theorem chg_3 {l : List Pg} {w a u : Int} (h : rightPg l = true) (h2 : okPK w a = false ∨ wi u (-1099511627776) 1099511627776 = false) : changeE l w a u = 3 := by
  unfold changeE; rw [if_pos h, if_neg]
  rw [Bool.and_eq_true]
  rintro ⟨h3, h4⟩
  rcases h2 with h2 | h2
  · rw [h2] at h3; cases h3
  · rw [h2] at h4; cases h4
theorem chg_rest {l : List Pg} {w a u : Int} (h : rightPg l = true) (h2 : okPK w a = true) (h3 : wi u (-1099511627776) 1099511627776 = true) : changeE l w a u = if unitsL l w a + u < 0 then 13 else (if 1099511627776 < unitsL l w a + u then 1 else 0) := by
  unfold changeE; rw [if_pos h, if_pos (by rw [h2, h3]; rfl)]
theorem chgL_no {l : List Pg} {w a u : Int} (h : changeE l w a u ≠ 0) : changeL l w a u = [] := by unfold changeL; rw [if_neg h]
theorem chgL_ok {l : List Pg} {w a u : Int} (h : changeE l w a u = 0) : changeL l w a u = setL noPg l (w * 8 + a) (changeO w a (unitsL l w a + u)) := by unfold changeL; rw [if_pos h]

def ChgPost (l : List Pg) (w1 a1 u : Int) (w : World) (e : Ending) (w' : World) : Prop := ∃ v, e = .returned (.tuple #[v, .int .i64 (changeE l w1 a1 u)]) ∧ OwnE enPg w' w.heap.size 37 v (changeL l w1 a1 u) ∧ Grew w w'
theorem ChgPost.no {l : List Pg} {w1 a1 u k : Int} {w w' : World} (h : changeE l w1 a1 u = k) (hk : k ≠ 0) (g : Grew w w') : ChgPost l w1 a1 u w (.returned (.tuple #[.slice none 0 0, .int .i64 k])) w' :=
  ⟨_, by rw [h], by rw [chgL_no (by rw [h]; exact hk)]; exact OwnE.nil _ _ _ _, g⟩

set_option maxRecDepth 100000 in
set_option maxHeartbeats 8000000 in
theorem change_any (A : Option Addr) (n c : Nat) (l : List Pg) (w1 a1 u : Int) (w : World) (h : RowE enPg w A n l) (hA : A = none → c = 0) (hnc : n ≤ c) (hc : c ≤ 9223372036854775807) (hn : n ≤ 1000) :
    Calls Try.prog 14 #[.slice A n c, .int .i64 w1, .int .i64 a1, .int .i64 u] w (ChgPost l w1 a1 u w) := by
  have HI := Lib.hid h
  have HA := Lib.hid hA
  have CK := fun w' (g : Grew w w') => pcheck_any A n c l w' (h.keep g) (by omega)
  have HU := Lib.hid (fun w' (g : Grew w w') => units_any A n c l w1 a1 w' (h.keep g) (by omega))
  have CP := fun w => cpermitted_any w1 a1 w
  have CW := fun w => cwithin_any u (-1099511627776) 1099511627776 w
  have HPU := Lib.hid (fun (hr : rightPg l = true) (hx : okPK w1 a1 = true) (m : Int) (hm : 0 ≤ m) w' (g : Grew w w') => pput_any A n c l (w1, a1, m) w' (h.keep g) hA hr hx hm hnc hc hn)
  have HE14 := Lib.hid (@chg_14 l w1 a1 u)
  have HE3 := Lib.hid (@chg_3 l w1 a1 u)
  have HER := Lib.hid (@chg_rest l w1 a1 u)
  have HQ : Hid (ChgPost l w1 a1 u w = ChgPost l w1 a1 u w) := rfl
  have HNO := Lib.hid (fun k w' => @ChgPost.no l w1 a1 u k w w')
  have HOK : Hid (changeE l w1 a1 u = 0 → ∀ v w', OwnE enPg w' w.heap.size 37 v (setL noPg l (w1 * 8 + a1) (changeO w1 a1 (unitsL l w1 a1 + u))) → Grew w w' → ChgPost l w1 a1 u w (.returned (.tuple #[v, .int .i64 0])) w') := fun he v w' ho g => ⟨v, by rw [he], by rw [chgL_ok he]; exact ho, g⟩
  have HUB := Lib.hid (fun (hr : rightPg l = true) => units_in hr w1 a1)
  generalize ChgPost l w1 a1 u w = Q at *
  clear h hA HQ
  dsimp only [vPg] at HPU
  go_enter Try.func14, Try.ntmps14
  by_cases h1 : rightPg l = true
  · rw [show chkP l = 0 by unfold chkP; rw [if_pos h1]] at CK
    by_cases h2 : okPK w1 a1 = true
    · rw [h2] at CP
      by_cases h3 : wi u (-1099511627776) 1099511627776 = true
      · rw [h3] at CW
        have HER2 := Lib.hid (HER.out h1 h2 h3)
        have hub := HUB.out h1
        have huw := (wi_iff _ _ _).1 h3
        have HPU2 := Lib.hid (HPU.out h1 h2)
        have HNX : Hid (∀ m : Int, noPg (w1, a1, m) = w1 * 8 + a1) := fun _ => rfl
        clear HER HUB HPU HE14 HE3 h1 h2 h3
        generalize changeE l w1 a1 u = ce at *
        generalize unitsL l w1 a1 = ul at *
        have q1 : IntKind.i64.wrap (ul + u) = ul + u := by rw [IntKind.wrap_i64]; omega
        go_upto_region 6 with (first
          | (go_at_call 10; ((with_reducible refine (CK _ (grew_refl _)).mono ?_); rintro e w2 ⟨rfl, hg⟩; have HG2 := Lib.hid hg; clear hg CK))
          | (go_at_call 27; ((with_reducible refine (CP _).mono ?_); rintro e w3 ⟨rfl, rfl⟩))
          | (go_at_call 21; ((with_reducible refine (CW _).mono ?_); rintro e w3 ⟨rfl, rfl⟩)))
        go_upto_region 7 with (go_at_call 12; ((with_reducible refine (HU.out _ HG2.out).mono ?_); rintro e w3 ⟨rfl, hg⟩; have HG3 := Lib.hid (grew_trans HG2.out hg); clear hg HU))
        have HX4 : Hid (OwnC (w3.alloc (.cells #[.int .i64 w1, .int .i64 a1, .int .i64 (ul + u)] 37)) w3.heap.size [.int .i64 w1, .int .i64 a1, .int .i64 (ul + u)]) := OwnC.new w3 [.int .i64 w1, .int .i64 a1, .int .i64 (ul + u)] _ _ rfl
        have HG4 := Lib.hid (grew_trans HG3.out (grew_alloc w3 #[.int .i64 w1, .int .i64 a1, .int .i64 (ul + u)] 37))
        generalize w3.alloc (.cells #[.int .i64 w1, .int .i64 a1, .int .i64 (ul + u)] 37) = w4 at *
        generalize w3.heap.size = N at *
        generalize hv : ul + u = nu at *
        have x0 := HX4.out.at 0 (.int .i64 w1) rfl; have x1 := HX4.out.at 1 (.int .i64 a1) rfl; have x2 := HX4.out.at 2 (.int .i64 nu) rfl
        by_cases h4 : nu < 0
        · rw [if_pos h4] at HER2
          have HF := Lib.hid (HNO.out 13 w4 HER2.out (by decide) HG4.out)
          clear HER2 HNO HOK HPU2
          go_wp2
          exact HF.out
        · rw [if_neg h4] at HER2
          by_cases h5 : nu > 1099511627776
          · rw [if_pos h5] at HER2
            have HF := Lib.hid (HNO.out 1 w4 HER2.out (by decide) HG4.out)
            clear HER2 HNO HOK HPU2
            go_wp2
            exact HF.out
          · rw [if_neg h5] at HER2
            have HOK2 := Lib.hid (HOK.out HER2.out)
            have CPU := HPU2.out nu (by omega)
            rw [HNX.out] at CPU
            clear HER2 HNO HOK HPU2
            go_wp2_with (go_at_call 31; ((with_reducible refine (CPU _ HG4.out).mono ?_); rintro e w6 ⟨v6, rfl, ho, hg⟩; have HO6 := Lib.hid (ho.mono (grew_size HG4.out)); have HG6 := Lib.hid (grew_trans HG4.out hg); clear hg ho CPU))
            exact HOK2.out v6 _ HO6.out HG6.out
      · have h3 : wi u (-1099511627776) 1099511627776 = false := by simpa using h3
        have he := HE3.out h1 (.inr h3)
        rw [h3] at CW
        clear HER HUB HPU HE14 HE3 h1 h2 h3 HU HOK
        go_wp2_with (first
          | (go_at_call 10; ((with_reducible refine (CK _ (grew_refl _)).mono ?_); rintro e w2 ⟨rfl, hg⟩; have HG2 := Lib.hid hg; clear hg CK))
          | (go_at_call 27; ((with_reducible refine (CP _).mono ?_); rintro e w3 ⟨rfl, rfl⟩))
          | (go_at_call 21; ((with_reducible refine (CW _).mono ?_); rintro e w3 ⟨rfl, rfl⟩)))
        exact HNO.out 3 _ he (by decide) HG2.out
    · have h2 : okPK w1 a1 = false := by simpa using h2
      have he := HE3.out h1 (.inl h2)
      rw [h2] at CP
      clear HER HUB HPU HE14 HE3 h1 h2 HU HOK CW
      go_wp2_with (first
        | (go_at_call 10; ((with_reducible refine (CK _ (grew_refl _)).mono ?_); rintro e w2 ⟨rfl, hg⟩; have HG2 := Lib.hid hg; clear hg CK))
        | (go_at_call 27; ((with_reducible refine (CP _).mono ?_); rintro e w3 ⟨rfl, rfl⟩)))
      exact HNO.out 3 _ he (by decide) HG2.out
  · have h1 : rightPg l = false := by simpa using h1
    have he := HE14.out h1
    rw [show chkP l = 14 by unfold chkP; rw [h1]; rfl] at CK
    clear HER HUB HPU HE14 HE3 h1 HU HOK CW CP
    go_wp2_with (go_at_call 10; ((with_reducible refine (CK _ (grew_refl _)).mono ?_); rintro e w2 ⟨rfl, hg⟩; have HG2 := Lib.hid hg; clear hg CK))
    exact HNO.out 14 _ he (by decide) HG2.out

/-! ### the reference's: all keys, one by one -/
def chG (l : List Pg) (w1 a1 n : Int) (s : Nat) : Option Pg :=
  changeO ((s / 6 + 1 : Nat) : Int) ((s % 6 + 1 : Nat) : Int) (if ((s / 6 + 1 : Nat) : Int) = w1 ∧ ((s % 6 + 1 : Nat) : Int) = a1 then n else unitsL l ((s / 6 + 1 : Nat) : Int) ((s % 6 + 1 : Nat) : Int))
def accT (l : List Pg) (w1 a1 n : Int) (t : Nat) : List Pg := (List.range t).filterMap (chG l w1 a1 n)
theorem acc_succ (l : List Pg) (w1 a1 n : Int) (t : Nat) : accT l w1 a1 n (t + 1) = accT l w1 a1 n t ++ (chG l w1 a1 n t).toList := by
  unfold accT; rw [List.range_succ, List.filterMap_append]
  rfl
theorem acc_len (l : List Pg) (w1 a1 n : Int) (t : Nat) : (accT l w1 a1 n t).length ≤ t := by
  induction t with
  | zero => exact Nat.le_refl _
  | succ t ih =>
    rw [acc_succ, List.length_append]
    have : (chG l w1 a1 n t).toList.length ≤ 1 := by cases chG l w1 a1 n t <;> simp
    omega
theorem get_self {l : List Pg} (h1 : rightPg l = true) {w a : Int} (h2 : okPK w a = true) : changeO w a (unitsL l w a) = getL noPg l (w * 8 + a) := by
  rw [← findPg_get h1 h2]
  unfold changeO unitsL
  cases e : findPg l w a with
  | none => unfold unP; rfl
  | some x =>
    obtain ⟨f1, f2, f3⟩ := findPg_in e
    have := (okPg_iff x).1 (((rightPg_iff l).1 h1).1 x f1)
    unfold unP
    simp only
    rw [if_neg (by omega), ← f2, ← f3]
theorem acc_all {l : List Pg} (h1 : rightPg l = true) {w1 a1 n : Int} (h2 : okPK w1 a1 = true) (hn : n ≤ 1099511627776) : accT l w1 a1 n 96 = setL noPg l (w1 * 8 + a1) (changeO w1 a1 n) := by
  have g := (okPK_iff _ _).1 h2
  have hc := keys_set (no := noPg) (nk := fun s : Nat => ((s / 6 + 1 : Nat) : Int) * 8 + ((s % 6 + 1 : Nat) : Int)) (l := l) (ks := List.range 96) (g := chG l w1 a1 n) ((rightPg_iff l).1 h1).2
    (List.pairwise_lt_range.imp (fun {a b} h => by omega))
    (fun x hx => by
      have := (okPK_iff _ _).1 ((okPg_iff x).1 (((rightPg_iff l).1 h1).1 x hx)).1
      refine ⟨((x.1 - 1) * 6 + (x.2.1 - 1)).toNat, List.mem_range.2 (by omega), ?_⟩
      unfold noPg
      omega)
    ((w1 - 1) * 6 + (a1 - 1)).toNat (List.mem_range.2 (by omega)) (changeO w1 a1 n) (fun x hx => by
      have := (change_o h2 hn x hx).1
      rw [this]; omega)
    (fun s hs => by
      have hs := List.mem_range.1 hs
      unfold chG
      by_cases he : ((s / 6 + 1 : Nat) : Int) = w1 ∧ ((s % 6 + 1 : Nat) : Int) = a1
      · rw [if_pos he, if_pos (by omega), he.1, he.2]
      · rw [if_neg he, if_neg (by omega)]
        exact get_self h1 ((okPK_iff _ _).2 (by omega)))
  unfold accT
  rw [hc]
  congr 1
  omega
theorem chG_at (l : List Pg) (w1 a1 n : Int) (i j : Nat) (hi : 1 ≤ i) (hj : 1 ≤ j ∧ j ≤ 6) : chG l w1 a1 n ((i - 1) * 6 + (j - 1)) = changeO (i : Int) (j : Int) (if (i : Int) = w1 ∧ (j : Int) = a1 then n else unitsL l (i : Int) (j : Int)) := by
  have e1 : ((i - 1) * 6 + (j - 1)) / 6 + 1 = i := by omega
  have e2 : ((i - 1) * 6 + (j - 1)) % 6 + 1 = j := by omega
  unfold chG
  rw [e1, e2]

set_option maxRecDepth 100000 in
set_option maxHeartbeats 8000000 in
theorem rchange_any (A : Option Addr) (n c : Nat) (l : List Pg) (w1 a1 u : Int) (w : World) (h : RowE enPg w A n l) (hn : n ≤ 100000) :
    Calls Try.prog 15 #[.slice A n c, .int .i64 w1, .int .i64 a1, .int .i64 u] w (ChgPost l w1 a1 u w) := by
  have HI := Lib.hid h
  have CK := fun w' (g : Grew w w') => rpledges_any A n c l w' (h.keep g) (by omega)
  have HU := Lib.hid (fun (i j : Int) w' (g : Grew w w') => runits_any A n c l i j w' (h.keep g) (by omega))
  have C1 := fun w => rwho_any w1 w
  have C2 := fun w => r15asset_any a1 w
  have C3 := fun w => gwithin_any u (-1099511627776) 1099511627776 w
  have HPK : Hid (okPK w1 a1 = (wi w1 1 16 && wi a1 1 6)) := rfl
  have HE14 := Lib.hid (@chg_14 l w1 a1 u)
  have HE3 := Lib.hid (@chg_3 l w1 a1 u)
  have HER := Lib.hid (@chg_rest l w1 a1 u)
  have HQ : Hid (ChgPost l w1 a1 u w = ChgPost l w1 a1 u w) := rfl
  have HNO := Lib.hid (fun k w' => @ChgPost.no l w1 a1 u k w w')
  have HOK : Hid (changeE l w1 a1 u = 0 → ∀ v w', OwnE enPg w' w.heap.size 37 v (setL noPg l (w1 * 8 + a1) (changeO w1 a1 (unitsL l w1 a1 + u))) → Grew w w' → ChgPost l w1 a1 u w (.returned (.tuple #[v, .int .i64 0])) w') := fun he v w' ho g => ⟨v, by rw [he], by rw [chgL_ok he]; exact ho, g⟩
  have HUB := Lib.hid (fun (hr : rightPg l = true) => units_in hr w1 a1)
  generalize ChgPost l w1 a1 u w = Q at *
  clear h HQ
  go_enter Try.func15, Try.ntmps15
  by_cases h1 : rightPg l = true
  · rw [h1] at CK
    generalize hR1 : wi w1 1 16 = R1 at *
    generalize hR2 : wi a1 1 6 = R2 at *
    generalize hR3 : wi u (-1099511627776) 1099511627776 = R3 at *
    have H : (R1 = false) ∨ (R1 = true ∧ R2 = false) ∨ (R1 = true ∧ R2 = true ∧ R3 = false) ∨ (R1 = true ∧ R2 = true ∧ R3 = true) := by cases R1 <;> cases R2 <;> cases R3 <;> simp
    rcases H with rfl | ⟨rfl, rfl⟩ | ⟨rfl, rfl, rfl⟩ | ⟨rfl, rfl, rfl⟩
    · have he := HE3.out h1 (.inl (by rw [HPK.out]; rfl))
      clear HER HUB HE14 HE3 h1 HU HOK hR1 hR2 hR3
      go_wp2_with (first
        | (go_at_call 11; ((with_reducible refine (CK _ (grew_refl _)).mono ?_); rintro e w2 ⟨rfl, hg⟩; have HG2 := Lib.hid hg; clear hg CK))
        | (go_at_call 29; ((with_reducible refine (C1 _).mono ?_); rintro e w3 ⟨rfl, rfl⟩))
        | (go_at_call 30; ((with_reducible refine (C2 _).mono ?_); rintro e w3 ⟨rfl, rfl⟩))
        | (go_at_call 24; ((with_reducible refine (C3 _).mono ?_); rintro e w3 ⟨rfl, rfl⟩)))
      exact HNO.out 3 _ he (by decide) HG2.out
    · have he := HE3.out h1 (.inl (by rw [HPK.out]; rfl))
      clear HER HUB HE14 HE3 h1 HU HOK hR1 hR2 hR3
      go_wp2_with (first
        | (go_at_call 11; ((with_reducible refine (CK _ (grew_refl _)).mono ?_); rintro e w2 ⟨rfl, hg⟩; have HG2 := Lib.hid hg; clear hg CK))
        | (go_at_call 29; ((with_reducible refine (C1 _).mono ?_); rintro e w3 ⟨rfl, rfl⟩))
        | (go_at_call 30; ((with_reducible refine (C2 _).mono ?_); rintro e w3 ⟨rfl, rfl⟩))
        | (go_at_call 24; ((with_reducible refine (C3 _).mono ?_); rintro e w3 ⟨rfl, rfl⟩)))
      exact HNO.out 3 _ he (by decide) HG2.out
    · have he := HE3.out h1 (.inr rfl)
      clear HER HUB HE14 HE3 h1 HU HOK hR1 hR2 hR3
      go_wp2_with (first
        | (go_at_call 11; ((with_reducible refine (CK _ (grew_refl _)).mono ?_); rintro e w2 ⟨rfl, hg⟩; have HG2 := Lib.hid hg; clear hg CK))
        | (go_at_call 29; ((with_reducible refine (C1 _).mono ?_); rintro e w3 ⟨rfl, rfl⟩))
        | (go_at_call 30; ((with_reducible refine (C2 _).mono ?_); rintro e w3 ⟨rfl, rfl⟩))
        | (go_at_call 24; ((with_reducible refine (C3 _).mono ?_); rintro e w3 ⟨rfl, rfl⟩)))
      exact HNO.out 3 _ he (by decide) HG2.out
    · have h2 : okPK w1 a1 = true := by rw [HPK.out]; rfl
      have HER2 := Lib.hid (HER.out h1 h2 rfl)
      have hub := HUB.out h1
      have huw := (wi_iff _ _ _).1 hR3
      have HALL := Lib.hid (fun hn => @acc_all l h1 w1 a1 (unitsL l w1 a1 + u) h2 hn)
      have CU1 := HU.out w1 a1
      clear HER HUB HE14 HE3 h1 h2 hR1 hR2 hR3
      generalize changeE l w1 a1 u = ce at *
      generalize unitsL l w1 a1 = ul at *
      have q1 : IntKind.i64.wrap (ul + u) = ul + u := by rw [IntKind.wrap_i64]; omega
      go_upto_region 6 with (first
        | (go_at_call 11; ((with_reducible refine (CK _ (grew_refl _)).mono ?_); rintro e w2 ⟨rfl, hg⟩; have HG2 := Lib.hid hg; clear hg CK))
        | (go_at_call 29; ((with_reducible refine (C1 _).mono ?_); rintro e w3 ⟨rfl, rfl⟩))
        | (go_at_call 30; ((with_reducible refine (C2 _).mono ?_); rintro e w3 ⟨rfl, rfl⟩))
        | (go_at_call 24; ((with_reducible refine (C3 _).mono ?_); rintro e w3 ⟨rfl, rfl⟩))
        | (go_at_call 13; ((with_reducible refine (CU1 _ HG2.out).mono ?_); rintro e w3 ⟨rfl, hg⟩; have HG3 := Lib.hid (grew_trans HG2.out hg); clear hg CU1)))
      generalize hv : ul + u = nu at *
      by_cases h4 : nu < 0
      · rw [if_pos h4] at HER2
        have HF := Lib.hid (HNO.out 13 w3 HER2.out (by decide) HG3.out)
        clear HER2 HNO HOK HU HALL
        go_wp2
        exact HF.out
      · rw [if_neg h4] at HER2
        by_cases h5 : nu > 1099511627776
        · rw [if_pos h5] at HER2
          have HF := Lib.hid (HNO.out 1 w3 HER2.out (by decide) HG3.out)
          clear HER2 HNO HOK HU HALL
          go_wp2
          exact HF.out
        · rw [if_neg h5] at HER2
          have HOK2 := Lib.hid (HOK.out HER2.out)
          rw [← HALL.out (by omega)] at HOK2
          clear HER2 HNO HOK HALL
          go_wp2
          go_loopw [11, 12] (fun v11 v12 wr => ∃ i : Nat, v12 = .int .i64 i ∧ 1 ≤ i ∧ i ≤ 17 ∧ Hid (OwnE enPg wr w.heap.size 37 v11 (accT l w1 a1 nu ((i - 1) * 6))) ∧ Hid (Grew w wr)) (fun _ v12 _ => 17 - (intOf v12).toNat)
          case atStart => exact ⟨1, rfl, by omega, by omega, OwnE.nil _ _ _ _, HG3.out⟩
          case round =>
            obtain ⟨i, rfl, hi1, hi, HO0, HG0⟩ := hrel
            by_cases hi16 : i ≤ 16
            · have i1 : (i : Int) ≤ 16 := by omega
              go_wp2
              generalize wr = wB at *
              go_loopw [11, 13] (fun v11 v13 wr => ∃ j : Nat, v13 = .int .i64 j ∧ 1 ≤ j ∧ j ≤ 7 ∧ Hid (OwnE enPg wr w.heap.size 37 v11 (accT l w1 a1 nu ((i - 1) * 6 + (j - 1)))) ∧ Hid (Grew w wr)) (fun _ v13 _ => 7 - (intOf v13).toNat)
              case atStart => exact ⟨1, rfl, by omega, by omega, HO0.out, HG0.out⟩
              case round =>
                clear HO0 HG0
                obtain ⟨j, rfl, hj1, hj, HO, HG⟩ := hrel
                by_cases hj6 : j ≤ 6
                · have i2 : (j : Int) ≤ 6 := by omega
                  have HSS : Hid (accT l w1 a1 nu ((i - 1) * 6 + (j + 1 - 1)) = accT l w1 a1 nu ((i - 1) * 6 + (j - 1)) ++ (changeO (i : Int) (j : Int) (if (i : Int) = w1 ∧ (j : Int) = a1 then nu else unitsL l (i : Int) (j : Int))).toList) := by
                    show _ = _
                    rw [← chG_at l w1 a1 nu i j hi1 ⟨hj1, hj6⟩, ← acc_succ]
                    congr 1; omega
                  have HAL : Hid ((accT l w1 a1 nu ((i - 1) * 6 + (j - 1))).length ≤ 1000) := by
                    have := acc_len l w1 a1 nu ((i - 1) * 6 + (j - 1))
                    show _ ≤ _; omega
                  have CU := HU.out (i : Int) (j : Int)
                  generalize unitsL l (i : Int) (j : Int) = uj at *
                  by_cases h2 : (i : Int) = w1
                  · subst h2
                    by_cases h3 : (j : Int) = a1
                    · subst h3
                      by_cases h7 : nu > 0
                      · have HAS : Hid (accT l (i : Int) (j : Int) nu ((i - 1) * 6 + (j + 1 - 1)) = accT l (i : Int) (j : Int) nu ((i - 1) * 6 + (j - 1)) ++ [((i : Int), (j : Int), nu)]) := by show _ = _; rw [HSS.out, if_pos ⟨rfl, rfl⟩]; unfold changeO; rw [if_neg (by omega)]; rfl
                        clear HSS
                        go_wp2_with (first
                          | (go_at_call 13; ((with_reducible refine (CU _ HG.out).mono ?_); rintro e w5 ⟨rfl, hg⟩; have HO5 := Lib.hid (HO.out.keep hg); have HG5 := Lib.hid (grew_trans HG.out hg); clear hg CU HO))
                          | (at_builtin; refine (wpList_append_E rfl _ _ 24 37 (vPg pg0) 24 rfl Try.underlying24 info_pg rfl w.heap.size _ _ rfl (HO5.out.keep (grew_alloc _ _ _)) (some ⟨w5.heap.size, 0, none⟩) 1 1 [((i : Int), (j : Int), nu)] rfl (by intro h; cases h) (RowE.one enPg w5 ((i : Int), (j : Int), nu) 37 _ rfl) (by have := HAL.out; simp; unfold maxLen; omega) (by have := HAL.out; simp; omega) (Nat.le_trans (grew_size HG5.out) (by simp)) ?_); intro v' w6 ho hb; have HO6 := Lib.hid ho; have HG6 : Hid (Grew w w6) := Below.trans (grew_trans HG5.out (grew_alloc _ _ _)) hb; clear ho hb))
                        go_roundw
                        case rel => exact ⟨j + 1, by go_num, by omega, by omega, by rw [HAS.out]; exact HO6.out, HG6.out⟩
                        case measure => simp only [intOf]; omega
                      · have HAS : Hid (accT l (i : Int) (j : Int) nu ((i - 1) * 6 + (j + 1 - 1)) = accT l (i : Int) (j : Int) nu ((i - 1) * 6 + (j - 1)) ++ []) := by show _ = _; rw [HSS.out, if_pos ⟨rfl, rfl⟩]; unfold changeO; rw [if_pos (by omega)]; rfl
                        clear HSS
                        go_wp2_with (go_at_call 13; ((with_reducible refine (CU _ HG.out).mono ?_); rintro e w5 ⟨rfl, hg⟩; have HO5 := Lib.hid (HO.out.keep hg); have HG5 := Lib.hid (grew_trans HG.out hg); clear hg CU HO))
                        go_roundw
                        case rel => exact ⟨j + 1, by go_num, by omega, by omega, by rw [HAS.out, List.append_nil]; exact HO5.out, HG5.out⟩
                        case measure => simp only [intOf]; omega

                    · have d2 : ((j : Int) == a1) = false := by simpa using h3
                      by_cases h7 : uj > 0
                      · have HAS : Hid (accT l (i : Int) a1 nu ((i - 1) * 6 + (j + 1 - 1)) = accT l (i : Int) a1 nu ((i - 1) * 6 + (j - 1)) ++ [((i : Int), (j : Int), uj)]) := by show _ = _; rw [HSS.out, if_neg (fun h => h3 h.2)]; unfold changeO; rw [if_neg (by omega)]; rfl
                        clear HSS
                        go_wp2_with (first
                          | (go_at_call 13; ((with_reducible refine (CU _ HG.out).mono ?_); rintro e w5 ⟨rfl, hg⟩; have HO5 := Lib.hid (HO.out.keep hg); have HG5 := Lib.hid (grew_trans HG.out hg); clear hg CU HO))
                          | (at_builtin; refine (wpList_append_E rfl _ _ 24 37 (vPg pg0) 24 rfl Try.underlying24 info_pg rfl w.heap.size _ _ rfl (HO5.out.keep (grew_alloc _ _ _)) (some ⟨w5.heap.size, 0, none⟩) 1 1 [((i : Int), (j : Int), uj)] rfl (by intro h; cases h) (RowE.one enPg w5 ((i : Int), (j : Int), uj) 37 _ rfl) (by have := HAL.out; simp; unfold maxLen; omega) (by have := HAL.out; simp; omega) (Nat.le_trans (grew_size HG5.out) (by simp)) ?_); intro v' w6 ho hb; have HO6 := Lib.hid ho; have HG6 : Hid (Grew w w6) := Below.trans (grew_trans HG5.out (grew_alloc _ _ _)) hb; clear ho hb))
                        go_roundw
                        case rel => exact ⟨j + 1, by go_num, by omega, by omega, by rw [HAS.out]; exact HO6.out, HG6.out⟩
                        case measure => simp only [intOf]; omega
                      · have HAS : Hid (accT l (i : Int) a1 nu ((i - 1) * 6 + (j + 1 - 1)) = accT l (i : Int) a1 nu ((i - 1) * 6 + (j - 1)) ++ []) := by show _ = _; rw [HSS.out, if_neg (fun h => h3 h.2)]; unfold changeO; rw [if_pos (by omega)]; rfl
                        clear HSS
                        go_wp2_with (go_at_call 13; ((with_reducible refine (CU _ HG.out).mono ?_); rintro e w5 ⟨rfl, hg⟩; have HO5 := Lib.hid (HO.out.keep hg); have HG5 := Lib.hid (grew_trans HG.out hg); clear hg CU HO))
                        go_roundw
                        case rel => exact ⟨j + 1, by go_num, by omega, by omega, by rw [HAS.out, List.append_nil]; exact HO5.out, HG5.out⟩
                        case measure => simp only [intOf]; omega

                  · have d1 : ((i : Int) == w1) = false := by simpa using h2
                    by_cases h7 : uj > 0
                    · have HAS : Hid (accT l w1 a1 nu ((i - 1) * 6 + (j + 1 - 1)) = accT l w1 a1 nu ((i - 1) * 6 + (j - 1)) ++ [((i : Int), (j : Int), uj)]) := by show _ = _; rw [HSS.out, if_neg (fun h => h2 h.1)]; unfold changeO; rw [if_neg (by omega)]; rfl
                      clear HSS
                      go_wp2_with (first
                        | (go_at_call 13; ((with_reducible refine (CU _ HG.out).mono ?_); rintro e w5 ⟨rfl, hg⟩; have HO5 := Lib.hid (HO.out.keep hg); have HG5 := Lib.hid (grew_trans HG.out hg); clear hg CU HO))
                        | (at_builtin; refine (wpList_append_E rfl _ _ 24 37 (vPg pg0) 24 rfl Try.underlying24 info_pg rfl w.heap.size _ _ rfl (HO5.out.keep (grew_alloc _ _ _)) (some ⟨w5.heap.size, 0, none⟩) 1 1 [((i : Int), (j : Int), uj)] rfl (by intro h; cases h) (RowE.one enPg w5 ((i : Int), (j : Int), uj) 37 _ rfl) (by have := HAL.out; simp; unfold maxLen; omega) (by have := HAL.out; simp; omega) (Nat.le_trans (grew_size HG5.out) (by simp)) ?_); intro v' w6 ho hb; have HO6 := Lib.hid ho; have HG6 : Hid (Grew w w6) := Below.trans (grew_trans HG5.out (grew_alloc _ _ _)) hb; clear ho hb))
                      go_roundw
                      case rel => exact ⟨j + 1, by go_num, by omega, by omega, by rw [HAS.out]; exact HO6.out, HG6.out⟩
                      case measure => simp only [intOf]; omega
                    · have HAS : Hid (accT l w1 a1 nu ((i - 1) * 6 + (j + 1 - 1)) = accT l w1 a1 nu ((i - 1) * 6 + (j - 1)) ++ []) := by show _ = _; rw [HSS.out, if_neg (fun h => h2 h.1)]; unfold changeO; rw [if_pos (by omega)]; rfl
                      clear HSS
                      go_wp2_with (go_at_call 13; ((with_reducible refine (CU _ HG.out).mono ?_); rintro e w5 ⟨rfl, hg⟩; have HO5 := Lib.hid (HO.out.keep hg); have HG5 := Lib.hid (grew_trans HG.out hg); clear hg CU HO))
                      go_roundw
                      case rel => exact ⟨j + 1, by go_num, by omega, by omega, by rw [HAS.out, List.append_nil]; exact HO5.out, HG5.out⟩
                      case measure => simp only [intOf]; omega

                · obtain rfl : j = 7 := by omega
                  have HO2 : Hid (OwnE enPg wr w.heap.size 37 u11 (accT l w1 a1 nu ((i + 1 - 1) * 6))) := by
                    have h9 : (i + 1 - 1) * 6 = (i - 1) * 6 + (7 - 1) := by omega
                    show OwnE _ _ _ _ _ _; rw [h9]; exact HO.out
                  clear HO
                  go_wp2
                  go_roundw
                  case rel => exact ⟨i + 1, by go_num, by omega, by omega, HO2.out, HG.out⟩
                  case measure => simp only [intOf]; omega
            · obtain rfl : i = 17 := by omega
              have HF := Lib.hid (HOK2.out _ _ HO0.out HG0.out)
              clear HOK2 HO0 HG0
              go_wp2
              exact HF.out
  · have h1 : rightPg l = false := by simpa using h1
    have he := HE14.out h1
    rw [h1] at CK
    clear HER HUB HE14 HE3 h1 HU HOK
    go_wp2_with (go_at_call 11; ((with_reducible refine (CK _ (grew_refl _)).mono ?_); rintro e w2 ⟨rfl, hg⟩; have HG2 := Lib.hid hg; clear hg CK))
    exact HNO.out 14 _ he (by decide) HG2.out
end Go.Proofs.Ytckdbbjeifindaa.NumK
namespace Go.Proofs.Ytckdbbjeifindaa.NumK
open Go.RowKit
set_option linter.unusedVariables false

theorem val_ok {x : As} {u : Int} (h : okAs x = true) (hu : wi u 0 1099511627776 = true) :
    wqV (u * (x.2.2.1 * (10000 - x.2.2.2))) 10000 = valueN x u ∧ wqE (u * (x.2.2.1 * (10000 - x.2.2.2))) 10000 = valueE x u ∧ wqB (u * (x.2.2.1 * (10000 - x.2.2.2))) 10000 = decide (valueE x u = 0) := by
  have h1 := value_nonneg h ((wi_iff _ _ _).1 hu).1
  have h2 : u * (x.2.2.1 * (10000 - x.2.2.2)) / 10000 = valueV x u := by unfold valueV; rw [Int.fdiv_eq_ediv_of_nonneg _ (by decide)]
  have h3 : isMoney (valueV x u) = decide (valueV x u ≤ 4611686018427387904) := by
    rw [Bool.eq_iff_iff, isMoney_iff, decide_eq_true_eq]; omega
  have h4 : valueE x u = if valueV x u ≤ 4611686018427387904 then 0 else 1 := by unfold valueE; rw [if_pos (by rw [h, hu]; rfl)]
  unfold wqV wqE wqB valueN
  rw [h2, if_pos (show (0 : Int) < 10000 by decide), if_pos (show (0 : Int) < 10000 by decide), show decide ((0 : Int) < 10000) = true from rfl, Bool.true_and, h4]
  unfold capV capE
  rw [h3]
  by_cases hc : valueV x u ≤ 4611686018427387904
  · rw [if_pos hc, decide_eq_true hc]; exact ⟨by simp, by simp, by simp⟩
  · rw [if_neg hc, decide_eq_false hc]; exact ⟨by simp, by simp, by simp⟩
theorem val_no {x : As} {u : Int} (h : okAs x = false ∨ wi u 0 1099511627776 = false) : valueN x u = 0 ∧ valueE x u = 3 := by
  have h4 : valueE x u = 3 := by
    unfold valueE; rw [if_neg]
    rw [Bool.and_eq_true]
    rintro ⟨h1, h2⟩
    rcases h with h | h
    · rw [h] at h1; cases h1
    · rw [h] at h2; cases h2
  exact ⟨by unfold valueN; rw [if_neg (by rw [h4]; decide)], h4⟩
theorem val_in {x : As} (h : okAs x = true) : (-9223372036854775808 ≤ x.2.2.1 * (10000 - x.2.2.2) ∧ x.2.2.1 * (10000 - x.2.2.2) ≤ 9223372036854775807) ∧ IntKind.i64.wrap (10000 - x.2.2.2) = 10000 - x.2.2.2 ∧ IntKind.i64.wrap (x.2.2.1 * (10000 - x.2.2.2)) = x.2.2.1 * (10000 - x.2.2.2) := by
  have h1 := unitW_in h
  obtain ⟨_, _, h3, h4⟩ := (okAs_iff x).1 h
  unfold unitW at h1
  generalize x.2.2.1 * (10000 - x.2.2.2) = y at *
  rw [IntKind.wrap_i64, IntKind.wrap_i64]
  omega
theorem right_alone (x : As) : rightR ([], [], [x]) = okAs x := by
  unfold rightR
  show (true && (true && _)) = _
  rw [Bool.true_and, Bool.true_and]
  unfold rightL
  simp [stepOK]
theorem rows_alone (x : As) (w : World) (t : TypeId) (N : Nat) (hN : N = w.heap.size) : Rows3 (w.alloc (.cells #[.int .i64 x.1, .int .i64 x.2.1, .int .i64 x.2.2.1, .int .i64 x.2.2.2] t)) ([], [], [x]) none none (some ⟨N, 0, none⟩) 0 0 1 :=
  ⟨RowE.nil _ _ _, RowE.nil _ _ _, RowE.one enAs w x t N hN⟩

set_option maxRecDepth 100000 in
set_option maxHeartbeats 2000000 in
theorem value_any (x : As) (u : Int) (w : World) : Calls Try.prog 7 #[vAs x, .int .i64 u] w fun e w' => e = .returned (.tuple #[.int .i64 (valueN x u), .int .i64 (valueE x u)]) ∧ Grew w w' := by
  have HN := Lib.hid (@val_no x u)
  have HY := Lib.hid (@val_ok x u)
  have HI := Lib.hid (@val_in x)
  have HS := Lib.hid (fun (h : okAs x = true) (hu : wi u 0 1099511627776 = true) w => wshare_any u (x.2.2.1 * (10000 - x.2.2.2)) 10000 w (by have := (wi_iff _ _ _).1 hu; omega) (val_in h).1 (by decide))
  have CW := fun w => cwithin_any u 0 1099511627776 w
  have CK := fun w' (g : Grew ((w.alloc (.cells #[.int .i64 x.1, .int .i64 x.2.1, .int .i64 x.2.2.1, .int .i64 x.2.2.2] 23)).alloc (.cells #[.int .i64 x.1, .int .i64 x.2.1, .int .i64 x.2.2.1, .int .i64 x.2.2.2] 23)) w') => check_any ([], [], [x]) none none (some ⟨w.heap.size + 1, 0, none⟩) 0 0 1 0 0 1 w' ((rows_alone x _ 23 _ (by simp)).keep g) (by decide)
  have HR := Lib.hid (right_alone x)
  obtain ⟨q1, q2, q3, q4⟩ := x
  dsimp only [vAs, rlV] at *
  generalize valueN (q1, q2, q3, q4) u = VN at *
  generalize valueE (q1, q2, q3, q4) u = VE at *
  have HX : Hid (OwnC (((w.alloc (.cells #[.int .i64 q1, .int .i64 q2, .int .i64 q3, .int .i64 q4] 23)).alloc (.cells #[.int .i64 q1, .int .i64 q2, .int .i64 q3, .int .i64 q4] 23)).alloc (.cells #[.slice none 0 0, .slice none 0 0, .slice (some ⟨w.heap.size + 1, 0, none⟩) 1 1] 48)) w.heap.size [.int .i64 q1, .int .i64 q2, .int .i64 q3, .int .i64 q4]) := ((OwnC.new w [.int .i64 q1, .int .i64 q2, .int .i64 q3, .int .i64 q4] _ _ rfl).keep (grew_alloc _ _ _)).keep (grew_alloc _ _ _)
  go_enter Try.func7, Try.ntmps7
  go_upto_region 2 with (fail)
  have HC : Hid (OwnC (((w.alloc (.cells #[.int .i64 q1, .int .i64 q2, .int .i64 q3, .int .i64 q4] 23)).alloc (.cells #[.int .i64 q1, .int .i64 q2, .int .i64 q3, .int .i64 q4] 23)).alloc (.cells #[.slice none 0 0, .slice none 0 0, .slice (some ⟨w.heap.size + 1, 0, none⟩) 1 1] 48)) (w.heap.size + 1 + 1) [.slice none 0 0, .slice none 0 0, .slice (some ⟨w.heap.size + 1, 0, none⟩) 1 1]) := OwnC.new _ [.slice none 0 0, .slice none 0 0, .slice (some ⟨w.heap.size + 1, 0, none⟩) 1 1] _ _ (by simp)
  have HG : Hid (Grew w (((w.alloc (.cells #[.int .i64 q1, .int .i64 q2, .int .i64 q3, .int .i64 q4] 23)).alloc (.cells #[.int .i64 q1, .int .i64 q2, .int .i64 q3, .int .i64 q4] 23)).alloc (.cells #[.slice none 0 0, .slice none 0 0, .slice (some ⟨w.heap.size + 1, 0, none⟩) 1 1] 48))) := grew_trans (grew_trans (grew_alloc _ _ _) (grew_alloc _ _ _)) (grew_alloc _ _ _)
  have CK0 := CK _ (grew_alloc _ #[.slice none 0 0, .slice none 0 0, .slice (some ⟨w.heap.size + 1, 0, none⟩) 1 1] 48)
  clear CK
  generalize (((w.alloc (.cells #[.int .i64 q1, .int .i64 q2, .int .i64 q3, .int .i64 q4] 23)).alloc (.cells #[.int .i64 q1, .int .i64 q2, .int .i64 q3, .int .i64 q4] 23)).alloc (.cells #[.slice none 0 0, .slice none 0 0, .slice (some ⟨w.heap.size + 1, 0, none⟩) 1 1] 48)) = w0 at *
  have c0 := HC.out.at 0 (.slice none 0 0) rfl
  have c1 := HC.out.at 1 (.slice none 0 0) rfl
  have c2 := HC.out.at 2 (.slice (some ⟨w.heap.size + 1, 0, none⟩) 1 1) rfl
  generalize w.heap.size + 1 + 1 = N2 at *
  generalize w.heap.size + 1 = N1 at *
  by_cases h1 : okAs (q1, q2, q3, q4) = true
  · rw [chkV_yes (by rw [HR.out]; exact h1)] at CK0
    have HI2 := Lib.hid (HI.out h1)
    have HS2 := Lib.hid (HS.out h1)
    have HY2 := Lib.hid (HY.out h1)
    clear HI HS HY HR
    by_cases h2 : wi u 0 1099511627776 = true
    · have HS3 := HS2.out h2
      obtain ⟨y1, y2, y3⟩ := HY2.out h2
      rw [y1, y2] at HS3
      rw [h2] at CW
      obtain ⟨i1, i2, i3⟩ := HI2.out
      clear i1 y1 y2 y3 HI2 HS2 HY2 HN h1 h2
      go_wp2_with (first
        | (go_at_call 20; ((with_reducible refine CK0.mono ?_); rintro e w1 ⟨rfl, hg⟩; have HX1 := Lib.hid (HX.out.keep hg); have HG1 := Lib.hid (grew_trans HG.out hg); have x2 := HX1.out.at 2 (.int .i64 q3) rfl; have x3 := HX1.out.at 3 (.int .i64 q4) rfl; clear hg HX HG CK0))
        | (go_at_call 21; ((with_reducible refine (CW _).mono ?_); rintro e w2 ⟨rfl, rfl⟩))
        | (go_at_call 22; ((with_reducible refine (HS3 _).mono ?_); rintro e w3 ⟨rfl, hg⟩; have HG3 := Lib.hid (grew_trans HG1.out hg); clear hg HS3)))
      go_ret2
      exact ⟨rfl, HG3.out⟩
    · rw [Bool.not_eq_true] at h2
      obtain ⟨y1, y2⟩ := HN.out (.inr h2)
      rw [h2] at CW
      subst y1 y2
      clear HI2 HS2 HY2 HN h1 h2
      go_wp2_with (first
        | (go_at_call 20; ((with_reducible refine CK0.mono ?_); rintro e w1 ⟨rfl, hg⟩; have HG1 := Lib.hid (grew_trans HG.out hg); clear hg HX HG CK0))
        | (go_at_call 21; ((with_reducible refine (CW _).mono ?_); rintro e w2 ⟨rfl, rfl⟩)))
      go_ret2
      exact ⟨rfl, HG1.out⟩
  · rw [Bool.not_eq_true] at h1
    rw [chkV_no (by rw [HR.out]; exact h1)] at CK0
    obtain ⟨y1, y2⟩ := HN.out (.inl h1)
    subst y1 y2
    clear HI HS HY HR HN h1
    go_wp2_with (go_at_call 20; ((with_reducible refine CK0.mono ?_); rintro e w1 ⟨rfl, hg⟩; have HG1 := Lib.hid (grew_trans HG.out hg); clear hg HX HG CK0))
    go_ret2
    exact ⟨rfl, HG1.out⟩

set_option maxRecDepth 100000 in
set_option maxHeartbeats 2000000 in
theorem rvalue_any (x : As) (u : Int) (w : World) : Calls Try.prog 8 #[vAs x, .int .i64 u] w fun e w' => e = .returned (.tuple #[.int .i64 (valueN x u), .int .i64 (valueE x u)]) ∧ Grew w w' := by
  have HN := Lib.hid (@val_no x u)
  have HY := Lib.hid (@val_ok x u)
  have HI := Lib.hid (@val_in x)
  have HT := Lib.hid (fun (h : okAs x = true) (hu : wi u 0 1099511627776 = true) w => refTimes_any u (x.2.2.1 * (10000 - x.2.2.2)) w (by have := (wi_iff _ _ _).1 hu; omega) (val_in h).1)
  have HQ := Lib.hid (fun (h : okAs x = true) (hu : wi u 0 1099511627776 = true) w => refQuo_any (u * (x.2.2.1 * (10000 - x.2.2.2))) 10000 w (by
    obtain ⟨t1, t2, t3⟩ := times_arith u (x.2.2.1 * (10000 - x.2.2.2)) (by have := (wi_iff _ _ _).1 hu; omega) (val_in h).1
    rw [isWide_iff]
    generalize u * (x.2.2.1 * (10000 - x.2.2.2)) = p at *
    generalize u.natAbs * (x.2.2.1 * (10000 - x.2.2.2)).natAbs = P at *
    omega) (by decide))
  have CW := fun w => gwithin_any u 0 1099511627776 w
  have CK := fun w => rasset_any x w
  have HV0 : Hid (valueE x u ≠ 0 → valueN x u = 0) := fun h => by unfold valueN; rw [if_neg h]
  have HV1 : Hid (okAs x = true → wi u 0 1099511627776 = true → valueE x u = 0 ∨ valueE x u = 1) := fun h1 h2 => by
    unfold valueE; rw [if_pos (by rw [h1, h2]; rfl)]; split
    · exact .inl rfl
    · exact .inr rfl
  obtain ⟨q1, q2, q3, q4⟩ := x
  dsimp only [vAs] at *
  generalize valueN (q1, q2, q3, q4) u = VN at *
  generalize valueE (q1, q2, q3, q4) u = VE at *
  have HX : Hid (OwnC (w.alloc (.cells #[.int .i64 q1, .int .i64 q2, .int .i64 q3, .int .i64 q4] 23)) w.heap.size [.int .i64 q1, .int .i64 q2, .int .i64 q3, .int .i64 q4]) := OwnC.new w [.int .i64 q1, .int .i64 q2, .int .i64 q3, .int .i64 q4] _ _ rfl
  have HG : Hid (Grew w (w.alloc (.cells #[.int .i64 q1, .int .i64 q2, .int .i64 q3, .int .i64 q4] 23))) := grew_alloc _ _ _
  go_enter Try.func8, Try.ntmps8
  go_upto_region 1 with (fail)
  generalize w.alloc (.cells #[.int .i64 q1, .int .i64 q2, .int .i64 q3, .int .i64 q4] 23) = w0 at *
  have c0 := HX.out.at 0 (.int .i64 q1) rfl
  have c1 := HX.out.at 1 (.int .i64 q2) rfl
  have c2 := HX.out.at 2 (.int .i64 q3) rfl
  have c3 := HX.out.at 3 (.int .i64 q4) rfl
  by_cases h1 : okAs (q1, q2, q3, q4) = true
  · rw [h1] at CK
    have HI2 := Lib.hid (HI.out h1)
    by_cases h2 : wi u 0 1099511627776 = true
    · have HT2 := HT.out h1 h2
      have HQ2 := HQ.out h1 h2
      obtain ⟨y1, y2, y3⟩ := HY.out h1 h2
      rw [y1, y3] at HQ2
      have hv := HV1.out h1 h2
      have HV2 := Lib.hid HV0.out
      rw [h2] at CW
      obtain ⟨i1, i2, i3⟩ := HI2.out
      generalize u * (q3 * (10000 - q4)) = P at *
      generalize hi64 P = P1 at *
      generalize lo64 P = P2 at *
      clear i1 y1 y2 y3 HI HI2 HT HQ HY HN h1 h2 HV0 HV1
      rcases hv with rfl | rfl
      · rw [show decide ((0 : Int) = 0) = true from rfl] at HQ2
        go_wp2_with (first
          | (go_at_call 23; ((with_reducible refine (CK _).mono ?_); rintro e w1 ⟨rfl, hg⟩; have HX1 := Lib.hid (HX.out.keep hg); have HG1 := Lib.hid (grew_trans HG.out hg); have x2 := HX1.out.at 2 (.int .i64 q3) rfl; have x3 := HX1.out.at 3 (.int .i64 q4) rfl; clear hg HX HG CK))
          | (go_at_call 24; ((with_reducible refine (CW _).mono ?_); rintro e w2 ⟨rfl, rfl⟩))
          | (go_at_call 26; ((with_reducible refine (HT2 _).mono ?_); rintro e w3 ⟨rfl, hg⟩; have HG3 := Lib.hid (grew_trans HG1.out hg); clear hg HT2))
          | (go_at_call 25; ((with_reducible refine (HQ2 _).mono ?_); rintro e w4 ⟨rfl, hg⟩; have HG4 := Lib.hid (grew_trans HG3.out hg); clear hg HQ2)))
        go_ret2
        exact ⟨rfl, HG4.out⟩
      · obtain rfl := HV2.out (by decide)
        rw [show decide ((1 : Int) = 0) = false from rfl] at HQ2
        go_wp2_with (first
          | (go_at_call 23; ((with_reducible refine (CK _).mono ?_); rintro e w1 ⟨rfl, hg⟩; have HX1 := Lib.hid (HX.out.keep hg); have HG1 := Lib.hid (grew_trans HG.out hg); have x2 := HX1.out.at 2 (.int .i64 q3) rfl; have x3 := HX1.out.at 3 (.int .i64 q4) rfl; clear hg HX HG CK))
          | (go_at_call 24; ((with_reducible refine (CW _).mono ?_); rintro e w2 ⟨rfl, rfl⟩))
          | (go_at_call 26; ((with_reducible refine (HT2 _).mono ?_); rintro e w3 ⟨rfl, hg⟩; have HG3 := Lib.hid (grew_trans HG1.out hg); clear hg HT2))
          | (go_at_call 25; ((with_reducible refine (HQ2 _).mono ?_); rintro e w4 ⟨rfl, hg⟩; have HG4 := Lib.hid (grew_trans HG3.out hg); clear hg HQ2)))
        go_ret2
        exact ⟨rfl, HG4.out⟩
    · rw [Bool.not_eq_true] at h2
      obtain ⟨y1, y2⟩ := HN.out (.inr h2)
      rw [h2] at CW
      subst y1 y2
      clear HI HI2 HT HQ HY HN h1 h2 HV0 HV1
      go_wp2_with (first
        | (go_at_call 23; ((with_reducible refine (CK _).mono ?_); rintro e w1 ⟨rfl, hg⟩; have HG1 := Lib.hid (grew_trans HG.out hg); clear hg HX HG CK))
        | (go_at_call 24; ((with_reducible refine (CW _).mono ?_); rintro e w2 ⟨rfl, rfl⟩)))
      go_ret2
      exact ⟨rfl, HG1.out⟩
  · rw [Bool.not_eq_true] at h1
    rw [h1] at CK
    obtain ⟨y1, y2⟩ := HN.out (.inl h1)
    subst y1 y2
    clear HI HT HQ HY HN h1 HV0 HV1
    go_wp2_with (go_at_call 23; ((with_reducible refine (CK _).mono ?_); rintro e w1 ⟨rfl, hg⟩; have HG1 := Lib.hid (grew_trans HG.out hg); clear hg HX HG CK))
    go_ret2
    exact ⟨rfl, HG1.out⟩
end Go.Proofs.Ytckdbbjeifindaa.NumK
namespace Go.Proofs.Ytckdbbjeifindaa.NumK
open Go.RowKit
set_option linter.unusedVariables false

theorem wakes16_any (w : World) : Calls Try.prog 17 #[] w fun e w' => e = .returned (.bool true) ∧ Grew w w' := by
  have C := fun w => value_any (1, 0, 100, 2500) 3 w
  rw [show valueN (1, 0, 100, 2500) 3 = 225 by decide +kernel, show valueE (1, 0, 100, 2500) 3 = 0 by decide +kernel] at C
  dsimp only [vAs] at C
  go_enter Try.func17, Try.ntmps17
  go_wp2_with (go_at_call 7; ((with_reducible refine (C _).mono ?_); rintro e w1 ⟨rfl, hg⟩; have HG1 := Lib.hid hg; clear hg C))
  go_ret
  exact ⟨rfl, HG1.out⟩
end Go.Proofs.Ytckdbbjeifindaa.NumK
namespace Go.Proofs.Ytckdbbjeifindaa.NumK
open Go.RowKit
set_option linter.unusedVariables false

theorem change_len (l : List Pg) (w1 a1 u : Int) : (changeL l w1 a1 u).length ≤ l.length + l.length + 1 := by
  unfold changeL
  split
  · unfold setL
    rw [List.length_append, List.length_append]
    have h1 := List.length_filter_le (fun y => decide (noPg y < w1 * 8 + a1)) l
    have h2 := List.length_filter_le (fun y => decide (w1 * 8 + a1 < noPg y)) l
    have h3 : (changeO w1 a1 (unitsL l w1 a1 + u)).toList.length ≤ 1 := by cases changeO w1 a1 (unitsL l w1 a1 + u) <;> simp
    omega
  · simp

set_option maxRecDepth 100000 in
set_option maxHeartbeats 8000000 in
theorem coverExact_walk (x : As) (k : Int) (A : Option Addr) (n c : Nat) (l : List Pg) (w1 a1 u : Int) (w : World) (h : RowE enPg w A n l) (hA : A = none → c = 0) :
    Calls Try.prog 3 #[vAs x, .int .i64 k, .slice A n c, .int .i64 w1, .int .i64 a1, .int .i64 u] w fun e w' => e = .returned (.bool true) ∧ Grew w w' := by
  have HI := Lib.hid h
  have HL := Lib.hid h.len
  have HX0 : Hid (OwnC (w.alloc (.cells #[.int .i64 x.1, .int .i64 x.2.1, .int .i64 x.2.2.1, .int .i64 x.2.2.2] 23)) w.heap.size [.int .i64 x.1, .int .i64 x.2.1, .int .i64 x.2.2.1, .int .i64 x.2.2.2]) := OwnC.new w [.int .i64 x.1, .int .i64 x.2.1, .int .i64 x.2.2.1, .int .i64 x.2.2.2] _ _ rfl
  have HG0 : Hid (Grew w (w.alloc (.cells #[.int .i64 x.1, .int .i64 x.2.1, .int .i64 x.2.2.1, .int .i64 x.2.2.2] 23))) := grew_alloc _ _ _
  have C1 := fun w => value_any x k w
  have C2 := fun w => rvalue_any x k w
  have CW := fun w => wakes16_any w
  generalize valueN x k = VN at *
  generalize valueE x k = VE at *
  obtain ⟨q1, q2, q3, q4⟩ := x
  dsimp only [vAs] at *
  clear h
  go_enter Try.func3, Try.ntmps3
  by_cases hn : n > 300
  · have j1 : (n : Int) > 300 := by omega
    clear C1 C2 CW HX0
    go_wp2
    go_ret
    exact ⟨rfl, grew_alloc _ _ _⟩
  · have j1 : ¬ (n : Int) > 300 := by omega
    have CT := fun w' (g : Grew w w') => twinPgs_any A n c l w' (HI.out.keep g) hA (by omega)
    have CP := fun w' (g : Grew w w') => rpledges_any A n c l w' (HI.out.keep g) (by omega)
    have CU := fun w' (g : Grew w w') => runits_any A n c l w1 a1 w' (HI.out.keep g) (by omega)
    have CH := fun w' (g : Grew w w') => rchange_any A n c l w1 a1 u w' (HI.out.keep g) (by omega)
    have HCL := Lib.hid (change_len l w1 a1 u)
    go_upto_region 3 with (fail)
    generalize w.alloc (.cells #[.int .i64 q1, .int .i64 q2, .int .i64 q3, .int .i64 q4] 23) = w0 at *
    generalize w.heap.size = N at *
    have x0 := HX0.out.at 0 (.int .i64 q1) rfl; have x1 := HX0.out.at 1 (.int .i64 q2) rfl; have x2 := HX0.out.at 2 (.int .i64 q3) rfl; have x3 := HX0.out.at 3 (.int .i64 q4) rfl
    go_upto_region 4 with (go_at_call 7; ((with_reducible refine (C1 _).mono ?_); rintro e wa ⟨rfl, hg⟩; have HX1 := Lib.hid (HX0.out.keep hg); have HG1 := Lib.hid (grew_trans HG0.out hg); clear hg C1 HX0 HG0 x0 x1 x2 x3))
    have x0 := HX1.out.at 0 (.int .i64 q1) rfl; have x1 := HX1.out.at 1 (.int .i64 q2) rfl; have x2 := HX1.out.at 2 (.int .i64 q3) rfl; have x3 := HX1.out.at 3 (.int .i64 q4) rfl
    go_upto_region 7 with (go_at_call 8; ((with_reducible refine (C2 _).mono ?_); rintro e wb ⟨rfl, hg⟩; have HG2 := Lib.hid (grew_trans HG1.out hg); clear hg C2 HX1 HG1 x0 x1 x2 x3))
    go_upto_region 8 with (go_at_call 9; ((with_reducible refine (CT _ HG2.out).mono ?_); rintro e w3 ⟨B, d, rfl, ho, hg⟩; have HG3 := Lib.hid (grew_trans HG2.out hg); have HB3 := Lib.hid (own_form ho); clear hg ho CT))
    have HRB : Hid (RowE enPg w3 B n l) := by have := HB3.out.1; rw [HL.out] at this; exact this
    have hld : n ≤ d := by have := HB3.out.2.2.1; rw [HL.out] at this; exact this
    have D1 := fun w' (g : Grew w3 w') => pcheck_any B n d l w' (HRB.out.keep g) (by omega)
    have D2 := fun w' (g : Grew w3 w') => units_any B n d l w1 a1 w' (HRB.out.keep g) (by omega)
    have D3 := fun w' (g : Grew w3 w') => change_any B n d l w1 a1 u w' (HRB.out.keep g) HB3.out.2.1 hld HB3.out.2.2.2 (by omega)
    have D4 := fun w' (g : Grew w w') (g3 : Grew w3 w') => keepPgs_yes B A n d c l w' (HRB.out.keep g3) (HI.out.keep g) (by omega)
    have HC : Hid (chkP l = if rightPg l = true then 0 else 14) := rfl
    generalize chkP l = ck at *
    generalize unitsL l w1 a1 = ul at *
    clear HI HB3 HRB
    generalize hR : rightPg l = R at *
    clear hR
    cases R
    · obtain rfl : ck = 14 := HC.out
      clear HC
      go_upto_region 10 with (first
        | (go_at_call 10; ((with_reducible refine (D1 _ (grew_refl _)).mono ?_); rintro e w4 ⟨rfl, hg⟩; have HG4 := Lib.hid hg; clear hg D1))
        | (go_at_call 11; ((with_reducible refine (CP _ (grew_trans HG3.out HG4.out)).mono ?_); rintro e w5 ⟨rfl, hg⟩; have HG5 := Lib.hid (grew_trans HG4.out hg); clear hg CP))
        | (go_at_call 12; ((with_reducible refine (D2 _ HG5.out).mono ?_); rintro e w6 ⟨rfl, hg⟩; have HG6 := Lib.hid (grew_trans HG5.out hg); clear hg D2))
        | (go_at_call 13; ((with_reducible refine (CU _ (grew_trans HG3.out HG6.out)).mono ?_); rintro e w7 ⟨rfl, hg⟩; have HG7 := Lib.hid (grew_trans HG6.out hg); clear hg CU)))
      clear HG4 HG5 HG6
      go_upto_region 11 with (go_at_call 14; ((with_reducible refine (D3 _ HG7.out).mono ?_); rintro e w8 ⟨v8, rfl, ho, hg⟩; have HO8 := Lib.hid ho; have HG8 := Lib.hid hg; clear hg ho D3))
      go_upto_region 12 with (go_at_call 15; ((with_reducible refine (CH _ (grew_trans (grew_trans HG3.out HG7.out) HG8.out)).mono ?_); rintro e w9 ⟨v9, rfl, ho, hg⟩; have HO9 := Lib.hid ho; have HG9 := Lib.hid hg; clear hg ho CH))
      obtain ⟨A8, c8, rfl, hs8⟩ := HO8.out.slab
      obtain ⟨A9, c9, rfl, -, -⟩ := HO9.out.form
      have hr8 := (own_form HO8.out).1
      have hr9 := (own_form HO9.out).1
      have DK := fun w' (g : Grew w9 w') => keepPgs_yes A8 A9 _ c8 c9 (changeL l w1 a1 u) w' ((hr8.keep HG9.out).keep g) (hr9.keep g) (by have := HCL.out; rw [HL.out] at this; omega)
      have HS9 : Hid ((changeL l w1 a1 u).length = 0 ∨ ∃ g, A8 = some ⟨g, 0, none⟩ ∧ w7.heap.size ≤ g ∧ Slab w9 g ((changeL l w1 a1 u).length * 3)) := by
        rcases hs8 with h1 | ⟨g, e, hb, hs⟩
        · exact .inl h1
        · exact .inr ⟨g, e, hb, hs.keep HG9.out⟩
      have HM : Hid ((changeL l w1 a1 u).length ≤ 1000) := by have := HCL.out; rw [HL.out] at this; show _ ≤ _; omega
      have HGA := Lib.hid (grew_trans HG8.out HG9.out)
      clear hr8 hr9 hs8 HO8 HO9 HG8 HG9 HCL
      generalize (changeL l w1 a1 u).length = m at *
      go_upto_region 13 with (go_at_call 16; ((with_reducible refine (DK _ (grew_refl _)).mono ?_); rintro e wc ⟨rfl, hg⟩; have HGC := Lib.hid (grew_trans HGA.out hg); have HSC : Hid (m = 0 ∨ ∃ g, A8 = some ⟨g, 0, none⟩ ∧ w7.heap.size ≤ g ∧ Slab wc g (m * 3)) := (HS9.out.imp (fun h => h) (fun ⟨g, e, hb, hs⟩ => ⟨g, e, hb, hs.keep hg⟩)); clear hg DK HGA HS9))
      go_wp2
      go_loopw [21] (fun vi wr => ∃ k : Nat, vi = .int .i64 k ∧ k ≤ m ∧ Hid (m = 0 ∨ ∃ g, A8 = some ⟨g, 0, none⟩ ∧ w7.heap.size ≤ g ∧ Slab wr g (m * 3)) ∧ Hid (Grew w7 wr)) (fun vi _ => m - (intOf vi).toNat)
      case atStart => exact ⟨0, rfl, Nat.zero_le _, HSC.out, HGC.out⟩
      case round =>
        clear HSC HGC
        obtain ⟨k, rfl, hk, HS, HGR⟩ := hrel
        have hm := HM.out
        by_cases hlt : k < m
        · obtain ⟨g, rfl, hb, hs⟩ : ∃ g, A8 = some ⟨g, 0, none⟩ ∧ w7.heap.size ≤ g ∧ Slab wr g (m * 3) := by
            rcases HS.out with h | h
            · omega
            · exact h
          obtain ⟨⟨x, b1⟩, b2⟩ := hs.2 (k * 3) (by omega)
          have b3 : (k : Int) < (m : Int) := by omega
          have HS3 := Lib.hid (hs.set g (k * 3) (.int .i64 (-77)))
          have HG3' := Lib.hid (grew_set HGR.out (p := ⟨g, k * 3, none⟩) (.int .i64 (-77)) hb)
          have HB2 := Lib.hid hb
          clear hs hb HS HGR
          go_wp2
          go_roundw
          case rel => exact ⟨k + 1, by go_num, by omega, .inr ⟨g, rfl, HB2.out, HS3.out⟩, HG3'.out⟩
          case measure => simp only [intOf]; omega
        · have D5 := D4 _ (grew_trans (grew_trans HG3.out HG7.out) HGR.out) (grew_trans HG7.out HGR.out)
          have HGZ := Lib.hid (grew_trans (grew_trans HG3.out HG7.out) HGR.out)
          clear D4 HS
          go_wp2_with (first
            | (go_at_call 16; ((with_reducible refine D5.mono ?_); rintro e wd ⟨rfl, hg⟩; have HGD := Lib.hid (grew_trans HGZ.out hg); clear hg D5))
            | (go_at_call 17; ((with_reducible refine (CW _).mono ?_); rintro e we ⟨rfl, hg⟩; have HGE := Lib.hid (grew_trans HGD.out hg); clear hg CW)))
          go_ret
          exact ⟨rfl, HGE.out⟩
    · obtain rfl : ck = 0 := HC.out
      clear HC
      go_upto_region 10 with (first
        | (go_at_call 10; ((with_reducible refine (D1 _ (grew_refl _)).mono ?_); rintro e w4 ⟨rfl, hg⟩; have HG4 := Lib.hid hg; clear hg D1))
        | (go_at_call 11; ((with_reducible refine (CP _ (grew_trans HG3.out HG4.out)).mono ?_); rintro e w5 ⟨rfl, hg⟩; have HG5 := Lib.hid (grew_trans HG4.out hg); clear hg CP))
        | (go_at_call 12; ((with_reducible refine (D2 _ HG5.out).mono ?_); rintro e w6 ⟨rfl, hg⟩; have HG6 := Lib.hid (grew_trans HG5.out hg); clear hg D2))
        | (go_at_call 13; ((with_reducible refine (CU _ (grew_trans HG3.out HG6.out)).mono ?_); rintro e w7 ⟨rfl, hg⟩; have HG7 := Lib.hid (grew_trans HG6.out hg); clear hg CU)))
      clear HG4 HG5 HG6
      go_upto_region 11 with (go_at_call 14; ((with_reducible refine (D3 _ HG7.out).mono ?_); rintro e w8 ⟨v8, rfl, ho, hg⟩; have HO8 := Lib.hid ho; have HG8 := Lib.hid hg; clear hg ho D3))
      go_upto_region 12 with (go_at_call 15; ((with_reducible refine (CH _ (grew_trans (grew_trans HG3.out HG7.out) HG8.out)).mono ?_); rintro e w9 ⟨v9, rfl, ho, hg⟩; have HO9 := Lib.hid ho; have HG9 := Lib.hid hg; clear hg ho CH))
      obtain ⟨A8, c8, rfl, hs8⟩ := HO8.out.slab
      obtain ⟨A9, c9, rfl, -, -⟩ := HO9.out.form
      have hr8 := (own_form HO8.out).1
      have hr9 := (own_form HO9.out).1
      have DK := fun w' (g : Grew w9 w') => keepPgs_yes A8 A9 _ c8 c9 (changeL l w1 a1 u) w' ((hr8.keep HG9.out).keep g) (hr9.keep g) (by have := HCL.out; rw [HL.out] at this; omega)
      have HS9 : Hid ((changeL l w1 a1 u).length = 0 ∨ ∃ g, A8 = some ⟨g, 0, none⟩ ∧ w7.heap.size ≤ g ∧ Slab w9 g ((changeL l w1 a1 u).length * 3)) := by
        rcases hs8 with h1 | ⟨g, e, hb, hs⟩
        · exact .inl h1
        · exact .inr ⟨g, e, hb, hs.keep HG9.out⟩
      have HM : Hid ((changeL l w1 a1 u).length ≤ 1000) := by have := HCL.out; rw [HL.out] at this; show _ ≤ _; omega
      have HGA := Lib.hid (grew_trans HG8.out HG9.out)
      clear hr8 hr9 hs8 HO8 HO9 HG8 HG9 HCL
      generalize (changeL l w1 a1 u).length = m at *
      go_upto_region 13 with (go_at_call 16; ((with_reducible refine (DK _ (grew_refl _)).mono ?_); rintro e wc ⟨rfl, hg⟩; have HGC := Lib.hid (grew_trans HGA.out hg); have HSC : Hid (m = 0 ∨ ∃ g, A8 = some ⟨g, 0, none⟩ ∧ w7.heap.size ≤ g ∧ Slab wc g (m * 3)) := (HS9.out.imp (fun h => h) (fun ⟨g, e, hb, hs⟩ => ⟨g, e, hb, hs.keep hg⟩)); clear hg DK HGA HS9))
      go_wp2
      go_loopw [21] (fun vi wr => ∃ k : Nat, vi = .int .i64 k ∧ k ≤ m ∧ Hid (m = 0 ∨ ∃ g, A8 = some ⟨g, 0, none⟩ ∧ w7.heap.size ≤ g ∧ Slab wr g (m * 3)) ∧ Hid (Grew w7 wr)) (fun vi _ => m - (intOf vi).toNat)
      case atStart => exact ⟨0, rfl, Nat.zero_le _, HSC.out, HGC.out⟩
      case round =>
        clear HSC HGC
        obtain ⟨k, rfl, hk, HS, HGR⟩ := hrel
        have hm := HM.out
        by_cases hlt : k < m
        · obtain ⟨g, rfl, hb, hs⟩ : ∃ g, A8 = some ⟨g, 0, none⟩ ∧ w7.heap.size ≤ g ∧ Slab wr g (m * 3) := by
            rcases HS.out with h | h
            · omega
            · exact h
          obtain ⟨⟨x, b1⟩, b2⟩ := hs.2 (k * 3) (by omega)
          have b3 : (k : Int) < (m : Int) := by omega
          have HS3 := Lib.hid (hs.set g (k * 3) (.int .i64 (-77)))
          have HG3' := Lib.hid (grew_set HGR.out (p := ⟨g, k * 3, none⟩) (.int .i64 (-77)) hb)
          have HB2 := Lib.hid hb
          clear hs hb HS HGR
          go_wp2
          go_roundw
          case rel => exact ⟨k + 1, by go_num, by omega, .inr ⟨g, rfl, HB2.out, HS3.out⟩, HG3'.out⟩
          case measure => simp only [intOf]; omega
        · have D5 := D4 _ (grew_trans (grew_trans HG3.out HG7.out) HGR.out) (grew_trans HG7.out HGR.out)
          have HGZ := Lib.hid (grew_trans (grew_trans HG3.out HG7.out) HGR.out)
          clear D4 HS
          go_wp2_with (first
            | (go_at_call 16; ((with_reducible refine D5.mono ?_); rintro e wd ⟨rfl, hg⟩; have HGD := Lib.hid (grew_trans HGZ.out hg); clear hg D5))
            | (go_at_call 17; ((with_reducible refine (CW _).mono ?_); rintro e we ⟨rfl, hg⟩; have HGE := Lib.hid (grew_trans HGD.out hg); clear hg CW)))
          go_ret
          exact ⟨rfl, HGE.out⟩
end Go.Proofs.Ytckdbbjeifindaa.NumK
namespace Go.Proofs.Ytckdbbjeifindaa.NumK
open Go.RowKit Go.ChangeShapes Go.WideShapes
set_option linter.unusedVariables false

/-! ### rolls among the arguments -/
abbrev spI : Sp Int := spInt .i64
abbrev spMb : Sp Mb := spPair spI (spPair spI spI)
abbrev spAs : Sp As := spPair spI (spPair spI (spPair spI spI))
abbrev spSh : Sp (List Int) := spArr 6 spI
abbrev spInA : Sp (Int × Int × Int × Int × Int × Int × List Int) := spPair spI (spPair spI (spPair spI (spPair spI (spPair spI (spPair spI spSh)))))
def toIn (x : Int × Int × Int × Int × Int × Int × List Int) : In :=
  ((x.1, x.2.1, x.2.2.1, x.2.2.2.1, x.2.2.2.2.1, x.2.2.2.2.2.1), (x.2.2.2.2.2.2.getD 0 0, x.2.2.2.2.2.2.getD 1 0, x.2.2.2.2.2.2.getD 2 0, x.2.2.2.2.2.2.getD 3 0, x.2.2.2.2.2.2.getD 4 0, x.2.2.2.2.2.2.getD 5 0))
theorem opens_i : Opens Try.prog 3 spI := opens_int Try.underlying3 (by kernel_rfl)
theorem opens_member : Opens Try.prog 91 spMb :=
  opens_struct Try.underlying91 (by kernel_rfl) (Fs.cons _ _ 0 rfl opens_i (Fs.cons _ _ 1 rfl opens_i (Fs.last _ 2 rfl opens_i)))
theorem opens_asset : Opens Try.prog 23 spAs :=
  opens_struct Try.underlying23 (by kernel_rfl) (Fs.cons _ _ 0 rfl opens_i (Fs.cons _ _ 1 rfl opens_i (Fs.cons _ _ 2 rfl opens_i (Fs.last _ 3 rfl opens_i))))
theorem opens_shifts : Opens Try.prog 95 spSh := opens_arr Try.underlying95 (by kernel_rfl) opens_i
theorem opens_instA : Opens Try.prog 97 spInA :=
  opens_struct Try.underlying97 (by kernel_rfl) (Fs.cons _ _ 0 rfl opens_i (Fs.cons _ _ 1 rfl opens_i (Fs.cons _ _ 2 rfl opens_i (Fs.cons _ _ 3 rfl opens_i (Fs.cons _ _ 4 rfl opens_i (Fs.cons _ _ 5 rfl opens_i (Fs.last _ 6 rfl opens_shifts)))))))

theorem sh_cells {w : World} {cs : List Value} {l : List Int} (h : spSh.rd w cs l) : cs = [.int .i64 (l.getD 0 0), .int .i64 (l.getD 1 0), .int .i64 (l.getD 2 0), .int .i64 (l.getD 3 0), .int .i64 (l.getD 4 0), .int .i64 (l.getD 5 0)] := by
  obtain ⟨h1, h2, h3⟩ := h
  have h2 : cs.length = 6 := h2
  have e : ∀ j (hj : j < 6), cs[j]'(by omega) = .int .i64 (l.getD j 0) := by
    intro j hj
    have h4 : ((cs.drop (j * 1)).take 1) = [.int .i64 l[j]] := (h3 j (by omega)).1
    rw [Nat.mul_one] at h4
    have h5 : ((cs.drop j).take 1)[0]? = some (.int .i64 l[j]) := by rw [h4]; rfl
    rw [List.getElem?_take, if_pos (by omega), List.getElem?_drop, Nat.add_zero, List.getElem?_eq_getElem (by omega)] at h5
    rw [Option.some.inj h5]
    simp [List.getD, show j < l.length by omega]
  obtain ⟨a, b, c, d, x, y, rfl⟩ : ∃ a b c d x y, cs = [a, b, c, d, x, y] := by
    match cs, h2 with
    | [a, b, c, d, x, y], _ => exact ⟨a, b, c, d, x, y, rfl⟩
  · have e0 : a = _ := e 0 (by omega); have e1 : b = _ := e 1 (by omega); have e2 : c = _ := e 2 (by omega); have e3 : d = _ := e 3 (by omega); have e4 : x = _ := e 4 (by omega); have e5 : y = _ := e 5 (by omega)
    rw [e0, e1, e2, e3, e4, e5]
theorem in_cells {w : World} {cs : List Value} {a} (h : spInA.rd w cs a) : cs = enIn.cs (toIn a) := by
  obtain ⟨c1, d1, rfl, ⟨rfl, _⟩, c2, d2, rfl, ⟨rfl, _⟩, c3, d3, rfl, ⟨rfl, _⟩, c4, d4, rfl, ⟨rfl, _⟩, c5, d5, rfl, ⟨rfl, _⟩, c6, d6, rfl, ⟨rfl, _⟩, hs⟩ := h
  have := sh_cells hs
  subst this
  rfl
def spIn : Sp In := spMap toIn spInA
theorem opens_inst : Opens Try.prog 97 spIn := opens_map toIn opens_instA
theorem in_rd {w : World} {cs : List Value} {a : In} (h : spIn.rd w cs a) : cs = enIn.cs a := by
  obtain ⟨x, hx, rfl⟩ := h
  exact in_cells hx
theorem mb_rd {w : World} {cs : List Value} {a : Mb} (h : spMb.rd w cs a) : cs = enMb.cs a := by
  obtain ⟨c1, d1, rfl, ⟨rfl, _⟩, c2, d2, rfl, ⟨rfl, _⟩, rfl, _⟩ := h
  rfl
theorem as_rd {w : World} {cs : List Value} {a : As} (h : spAs.rd w cs a) : cs = enAs.cs a := by
  obtain ⟨c1, d1, rfl, ⟨rfl, _⟩, c2, d2, rfl, ⟨rfl, _⟩, c3, d3, rfl, ⟨rfl, _⟩, rfl, _⟩ := h
  rfl
theorem rowE_of {α : Type} {A : Sp α} {E : En α} (hs : E.size = A.size) (hf : ∀ w cs a, A.rd w cs a → cs = E.cs a) {w : World} {ad : Option Addr} {n : Nat} {l : List α} (h : Row A w ad n l) : RowE E w ad n l := by
  have := Row.imp (A := A) (B := E.sp) (fun x => x) hs (fun cs a hr => hf w cs a hr) h
  rwa [List.map_id'] at this
theorem asset_of {w : World} {cs : Array Value} {a : As} (h : spAs.rd w cs.toList a) : Value.agg cs = vAs a := by
  have := as_rd h
  congr 1
  exact Array.toList_inj.1 (by rw [this]; rfl)

abbrev spRl : Sp Rl := spPair (spSlice spMb) (spPair (spSlice spIn) (spSlice spAs))
theorem opens_members : Opens Try.prog 44 (spSlice spMb) := opens_slice Try.underlying44 (by kernel_rfl) opens_member (by decide)
theorem opens_insts : Opens Try.prog 45 (spSlice spIn) := opens_slice Try.underlying45 (by kernel_rfl) opens_inst (by decide)
theorem opens_assets : Opens Try.prog 46 (spSlice spAs) := opens_slice Try.underlying46 (by kernel_rfl) opens_asset (by decide)
theorem opens_roll : Opens Try.prog 48 spRl :=
  opens_struct Try.underlying48 (by kernel_rfl) (Fs.cons _ _ 0 rfl opens_members (Fs.cons _ _ 1 rfl opens_insts (Fs.last _ 2 rfl opens_assets)))
/-! ### Heavy -/
def heavyR (n1 n2 n3 : Nat) : Bool := decide (n1 > 100) || (decide (n2 > 100) || decide (n3 > 100))
set_option maxRecDepth 100000 in
theorem heavy11_any (A1 A2 A3 : Option Addr) (n1 n2 n3 c1 c2 c3 : Nat) (w : World) :
    Calls Try.prog 32 #[rlV A1 A2 A3 n1 n2 n3 c1 c2 c3] w fun e w' => e = .returned (.bool (heavyR n1 n2 n3)) ∧ Grew w w' := by
  have HH : Hid (heavyR n1 n2 n3 = (decide (n1 > 100) || (decide (n2 > 100) || decide (n3 > 100)))) := rfl
  generalize heavyR n1 n2 n3 = H at *
  dsimp only [rlV]
  by_cases h1 : n1 > 100
  · have HF : Hid (H = true) := by show _ = _; rw [HH.out, decide_eq_true h1]; rfl
    have j1 : (n1 : Int) > 100 := by omega
    go_enter Try.func32, Try.ntmps32
    go_wp2
    go_ret
    exact ⟨ret_b HF.out.symm, grew_alloc _ _ _⟩
  · have j1 : ¬ (n1 : Int) > 100 := by omega
    by_cases h2 : n2 > 100
    · have HF : Hid (H = true) := by show _ = _; rw [HH.out, decide_eq_true h2]; simp
      have j2 : (n2 : Int) > 100 := by omega
      go_enter Try.func32, Try.ntmps32
      go_wp2
      go_ret
      exact ⟨ret_b HF.out.symm, grew_alloc _ _ _⟩
    · have j2 : ¬ (n2 : Int) > 100 := by omega
      by_cases h3 : n3 > 100
      · have HF : Hid (H = true) := by show _ = _; rw [HH.out, decide_eq_true h3]; simp
        have j3 : (n3 : Int) > 100 := by omega
        go_enter Try.func32, Try.ntmps32
        go_wp2
        go_ret
        exact ⟨ret_b HF.out.symm, grew_alloc _ _ _⟩
      · have HF : Hid (H = false) := by show _ = _; rw [HH.out, decide_eq_false h1, decide_eq_false h2, decide_eq_false h3]; rfl
        have j3 : ¬ (n3 : Int) > 100 := by omega
        go_enter Try.func32, Try.ntmps32
        go_wp2
        go_ret
        exact ⟨ret_b HF.out.symm, grew_alloc _ _ _⟩
end Go.Proofs.Ytckdbbjeifindaa.NumK
namespace Go.Proofs.Ytckdbbjeifindaa.NumK
open Go.RowKit

/-! ### Int: as money -/



end Go.Proofs.Ytckdbbjeifindaa.NumK
namespace Go.Proofs.Ytckdbbjeifindaa.NumK
open Go.RowKit

end Go.Proofs.Ytckdbbjeifindaa.NumK
namespace Go.Proofs.Ytckdbbjeifindaa.NumK
open Go.RowKit

end Go.Proofs.Ytckdbbjeifindaa.NumK
namespace Go.Proofs.Ytckdbbjeifindaa.NumK
open Go.RowKit
set_option linter.unusedVariables false

def qtys (l : List Po) : List Int := l.map (·.2.2.1)
def csts (l : List Po) : List Int := l.map (·.2.2.2)
/-- What the sums tell. -/
def SumPost (l : List Po) (w : World) (e : Ending) (w' : World) : Prop := e = .returned (.tuple #[.int .i64 (sumPQ l), .int .i64 (sumPC l), .int .i64 (sumPE l)]) ∧ Grew w w'
end Go.Proofs.Ytckdbbjeifindaa.NumK
namespace Go.Proofs.Ytckdbbjeifindaa.NumK
open Go.RowKit
set_option linter.unusedVariables false

/-- The quantities of an instrument, so far. -/
def rowI (l : List Po) (k : Nat) : List Int := qtys (l.filter (isI (k : Int)))
theorem Fam.set {κ α : Type} {E : En α} {w : World} {base : Nat} {t : TypeId} {v : κ → Value} {rows : κ → List α} (h : Fam E w base t v rows) (b i : Nat) (u : Value) (hb : b < base) : Fam E (w.setCell ⟨b, i, none⟩ u) base t v rows :=
  ⟨fun k => (h.own k).set b i u hb, h.ne⟩
end Go.Proofs.Ytckdbbjeifindaa.NumK
namespace Go.Proofs.Ytckdbbjeifindaa.NumK
open Go.RowKit
set_option linter.unusedVariables false

end Go.Proofs.Ytckdbbjeifindaa.NumK
namespace Go.Proofs.Ytckdbbjeifindaa.NumK
open Go.RowKit
set_option linter.unusedVariables false

end Go.Proofs.Ytckdbbjeifindaa.NumK
namespace Go.Proofs.Ytckdbbjeifindaa.NumK
open Go.RowKit
set_option linter.unusedVariables false

end Go.Proofs.Ytckdbbjeifindaa.NumK
