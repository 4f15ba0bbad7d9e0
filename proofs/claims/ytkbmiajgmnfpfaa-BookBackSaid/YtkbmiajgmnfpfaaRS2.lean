/- slices.Grow, Concat of two rows of positions. -/
import Derived.Test.YtkbmiajgmnfpfaaRQ
import Derived.Lib.AppendZerosOnto
import Derived.Deep.CutBlock
import Derived.Test.YtkbmiajgmnfpfaaRS
namespace Go.Proofs.Ytkbmiajgmnfpfaa.NumK
open Go.RowKit
set_option linter.unusedVariables false

theorem growPo0_any (w : World) : Calls Try.prog 64 #[.slice none 0 0, .int .i64 ((0 : Nat) : Int)] w fun e w' => ∃ v, e = .returned v ∧ OwnE enPo w' w.heap.size 36 v [] ∧ Grew w w' := by
  go_enter Try.func64, Try.ntmps64
  go_wp2
  go_ret
  exact ⟨_, rfl, OwnE.nil _ _ _ _, grew_refl _⟩
theorem growPo1_any (n : Nat) (w : World) (h0 : 0 < n) (hn : n ≤ 1000000) :
    Calls Try.prog 64 #[.slice none 0 0, .int .i64 n] w fun e w' => ∃ v, e = .returned v ∧ OwnE enPo w' w.heap.size 36 v [] ∧ Grew w w' := by
  obtain ⟨i0, hi0, hz0, hs0, hb0⟩ := info_parts info_po
  have h2 : wrap64 ((0 : Int) - (0 : Int)) = 0 := by unfold wrap64; omega
  have h3 : wrap64 ((n : Int) - 0) = (n : Int) := by unfold wrap64; omega
  have h4 : (n : Int) > 0 := by omega
  have h1 : ¬ ((n : Int) < 0) := by omega
  have hrz : ∀ ty, (Builtin.append_ #[23, 3] ty #[.slice none 0 0, .int .i64 (n : Int)]).run Try.prog w =
      .ok (.slice (some ⟨w.heap.size, 0, none⟩) (0 + n) (grownCap w (0 + n) 0 36)) (w.drew.alloc (.cells (([] : List Value).toArray ++ Builtin.zeroCells (vPo po0).cells n ++ Builtin.zeroCells (vPo po0).cells (grownCap w (0 + n) 0 36 - (0 + n))) 36)) := fun ty =>
    Lib.run_append_grow_zeros w 23 3 ty 36 i0 (vPo po0) .i64 .i64 Try.underlying23 Try.underlying3 hi0 hz0 none 0 0 [] (run_firstCells_none w.drew i0.size 0 0 0) n h0 (by rw [hs0]; decide) (by omega) (by omega) (by rw [hb0]; omega)
      (growslice_fits (by omega) (by rw [hb0]; omega))
  have hGn : n ≤ grownCap w (0 + n) 0 36 := by have := grownCap_ge w (0 + n) 0 36; omega
  have hGm : grownCap w (0 + n) 0 36 ≤ maxLen := grownCap_le_maxLen w (0 + n) 0 36 (by unfold maxLen; omega)
  have hzl : (Builtin.zeroCells (vPo po0).cells n).size = n * 4 := by simp [Builtin.zeroCells, Value.cells]
  rw [Nat.zero_add] at *
  generalize hG : grownCap w n 0 36 = G at *
  clear hG
  have hzm : (Builtin.zeroCells (vPo po0).cells (G - n)).size = (G - n) * 4 := by simp [Builtin.zeroCells, Value.cells]
  have HP : Hid (OwnE enPo (w.drew.alloc (.cells (([] : List Value).toArray ++ Builtin.zeroCells (vPo po0).cells n ++ Builtin.zeroCells (vPo po0).cells (G - n)) 36)) w.heap.size 36 (.slice (some ⟨w.heap.size, 0, none⟩) 0 G) []) :=
    ⟨by simp, .inr ⟨w.heap.size, G, _, rfl, Nat.le_refl _, heap_alloc_new w.drew _, by simp, hGm, by simp only [List.size_toArray, Array.size_append, List.length_nil, hzl, hzm]; show _ = G * 4; omega, by simp⟩⟩
  have HB : Hid (Grew w (w.drew.alloc (.cells (([] : List Value).toArray ++ Builtin.zeroCells (vPo po0).cells n ++ Builtin.zeroCells (vPo po0).cells (G - n)) 36))) := grew_trans (grew_drew (grew_refl w)) (grew_alloc _ _ _)
  clear hzl hzm hi0 hz0 hs0 hb0
  generalize w.drew.alloc (.cells (([] : List Value).toArray ++ Builtin.zeroCells (vPo po0).cells n ++ Builtin.zeroCells (vPo po0).cells (G - n)) 36) = w9 at *
  unfold maxLen at hGm
  go_enter Try.func64, Try.ntmps64
  go_wp2_with (at_builtin; refine Lib.wpList_append_run _ rfl _ _ _ _ rfl _ _ rfl rfl _ _ (hrz _) ?_)
  go_ret
  exact ⟨_, rfl, HP.out, HB.out⟩
theorem growPo_any (n : Nat) (w : World) (hn : n ≤ 1000000) :
    Calls Try.prog 64 #[.slice none 0 0, .int .i64 n] w fun e w' => ∃ v, e = .returned v ∧ OwnE enPo w' w.heap.size 36 v [] ∧ Grew w w' := by
  rcases Nat.eq_zero_or_pos n with h | h
  · subst h; exact growPo0_any w
  · exact growPo1_any n w h hn

set_option maxRecDepth 100000 in
set_option maxHeartbeats 2000000 in
theorem concatPo_any (B : Nat) (A1 A2 : Option Addr) (n1 n2 c1 c2 : Nat) (l1 l2 : List Po) (w : World) (hB : OwnC w B [.slice A1 n1 c1, .slice A2 n2 c2])
    (h1 : RowE enPo w A1 n1 l1) (h2 : RowE enPo w A2 n2 l2) (k1 : A1 = none → c1 = 0) (k2 : A2 = none → c2 = 0) (hn : n1 ≤ 100000 ∧ n2 ≤ 100000) :
    Calls Try.prog 44 #[.slice (some ⟨B, 0, none⟩) 2 2] w fun e w' => ∃ v, e = .returned v ∧ OwnE enPo w' w.heap.size 36 v (l1 ++ l2) ∧ Grew w w' := by
  have HB := Lib.hid hB
  have H1 := Lib.hid h1
  have H2 := Lib.hid h2
  have K1 := Lib.hid k1
  have K2 := Lib.hid k2
  have L1 := Lib.hid h1.len
  have L2 := Lib.hid h2.len
  clear hB h1 h2 k1 k2
  go_enter Try.func44, Try.ntmps44
  go_wp2
  go_loop [3, 5, 11] (fun v3 v5 v11 => ∃ j s : Nat, v11 = .int .i64 j ∧ v3 = .int .i64 s ∧ j ≤ 2 ∧ Hid ((j = 0 ∧ s = 0) ∨ (j = 1 ∧ s = n1) ∨ (j = 2 ∧ s = n1 + n2))) (fun _ _ v11 => 2 - (intOf v11).toNat)
  case atStart => exact ⟨0, 0, rfl, rfl, by omega, Or.inl ⟨rfl, rfl⟩⟩
  case round =>
    obtain ⟨j, s, rfl, rfl, hj, HS⟩ := hrel
    rcases HS.out with ⟨rfl, rfl⟩ | ⟨rfl, rfl⟩ | ⟨rfl, rfl⟩
    · have b0 : w.cell? ⟨B, 0, none⟩ = some (.slice A1 n1 c1) := HB.out.at 0 _ rfl
      have e1 : IntKind.i64.wrap (n1 : Int) = n1 := by rw [IntKind.wrap_i64]; omega
      have e2 : ¬ ((n1 : Int) < 0) := by omega
      clear HS hj
      go_wp2
      go_round
      case rel => exact ⟨1, n1, by go_num, by go_num, by omega, Or.inr (Or.inl ⟨rfl, rfl⟩)⟩
      case measure => simp only [intOf]; omega
    · have b0 : w.cell? ⟨B, 1, none⟩ = some (.slice A2 n2 c2) := HB.out.at 1 _ rfl
      have e1 : IntKind.i64.wrap ((s : Int) + (n2 : Int)) = ((s + n2 : Nat) : Int) := by rw [IntKind.wrap_i64]; omega
      have e2 : ¬ (((s + n2 : Nat) : Int) < 0) := by omega
      clear HS hj
      go_wp2
      go_round
      case rel => exact ⟨2, s + n2, by go_num, by go_num, by omega, Or.inr (Or.inr ⟨rfl, rfl⟩)⟩
      case measure => simp only [intOf]; omega
    · have CG := fun w => growPo_any (n1 + n2) w (by omega)
      have e3 : ((n1 + n2 : Nat) : Int) = ((n1 + n2 : Nat) : Int) := rfl
      clear HS hj
      generalize n1 + n2 = N at *
      go_wp2_with (go_at_call 64; ((with_reducible refine (CG _).mono ?_); rintro e w5 ⟨v, rfl, ho, hg⟩; have HO := Lib.hid ho; have HG5 := Lib.hid hg; clear ho hg CG))
      go_loopw [6, 8, 27] (fun v6 v8 v27 wr => ∃ j : Nat, v27 = .int .i64 j ∧ j ≤ 2 ∧ Hid ((j = 0 ∧ OwnE enPo wr w.heap.size 36 v6 []) ∨ (j = 1 ∧ OwnE enPo wr w.heap.size 36 v6 l1) ∨ (j = 2 ∧ OwnE enPo wr w.heap.size 36 v6 (l1 ++ l2))) ∧ Hid (Grew w wr)) (fun _ _ v27 _ => 2 - (intOf v27).toNat)
      case atStart => exact ⟨0, rfl, by omega, Or.inl ⟨rfl, HO.out⟩, HG5.out⟩
      case round =>
        obtain ⟨j, rfl, hj, HS, HG⟩ := hrel
        rcases HS.out with ⟨rfl, ho⟩ | ⟨rfl, ho⟩ | ⟨rfl, ho⟩
        · have b0 : wr.cell? ⟨B, 0, none⟩ = some (.slice A1 n1 c1) := (HB.out.keep HG.out).at 0 _ rfl
          have HV := Lib.hid ho
          have HZ : Hid (w.heap.size ≤ wr.heap.size) := HG.out.size
          clear HS hj HO ho
          go_wp2_with (at_builtin; refine (wpList_append_E rfl _ _ 23 36 (vPo po0) 32 rfl Try.underlying23 info_po rfl w.heap.size _ [] rfl HV.out A1 n1 c1 l1 rfl K1.out (H1.out.keep HG.out) (by simp; unfold maxLen; omega) (by simp; omega) HZ.out ?_); intro v' w' ho hb; rw [List.nil_append] at ho; have HP := Lib.hid ho; have HB2 : Hid (Grew w w') := Below.trans HG.out hb; clear ho hb)
          go_roundw
          case rel => exact ⟨1, by go_num, by omega, Or.inr (Or.inl ⟨rfl, HP.out⟩), HB2.out⟩
          case measure => simp only [intOf]; omega
        · have b0 : wr.cell? ⟨B, 1, none⟩ = some (.slice A2 n2 c2) := (HB.out.keep HG.out).at 1 _ rfl
          have HV := Lib.hid ho
          have HZ : Hid (w.heap.size ≤ wr.heap.size) := HG.out.size
          clear HS hj HO ho
          go_wp2_with (at_builtin; refine (wpList_append_E rfl _ _ 23 36 (vPo po0) 32 rfl Try.underlying23 info_po rfl w.heap.size _ l1 rfl HV.out A2 n2 c2 l2 rfl K2.out (H2.out.keep HG.out) (by rw [L1.out]; unfold maxLen; omega) (by rw [L1.out]; omega) HZ.out ?_); intro v' w' ho hb; have HP := Lib.hid ho; have HB2 : Hid (Grew w w') := Below.trans HG.out hb; clear ho hb)
          go_roundw
          case rel => exact ⟨2, by go_num, by omega, Or.inr (Or.inr ⟨rfl, HP.out⟩), HB2.out⟩
          case measure => simp only [intOf]; omega
        · have HP : Hid (OwnE enPo wr w.heap.size 36 u6 (l1 ++ l2)) := ho
          clear HS hj HO ho
          go_wp2
          go_ret
          exact ⟨_, rfl, HP.out, HG.out⟩
end Go.Proofs.Ytkbmiajgmnfpfaa.NumK
namespace Go.Proofs.Ytkbmiajgmnfpfaa.NumK
open Go.RowKit
set_option linter.unusedVariables false

theorem all_app {α : Type} {p : α → Bool} {l m : List α} (h : l.all p = true) (h2 : m.all p = true) : (l ++ m).all p = true := by rw [List.all_append, h, h2]; rfl
theorem leg_ok {x : Po} (h : okLeg x = true) : okAm x = true := by unfold okLeg at h; rw [Bool.and_eq_true] at h; exact h.2
theorem legs_am {l : List Po} (h : l.all okLeg = true) : l.all okAm = true := List.all_eq_true.2 fun x hx => leg_ok (List.all_eq_true.1 h x hx)
theorem parts_keys {l m : List Po} (h : rightPs l = true) (h2 : m.all okLeg = true) : ∀ x ∈ l ++ m, okK (keyP x) = true := fun x hx => by
  rcases List.mem_append.1 hx with h3 | h3
  · exact right_keys h x h3
  · exact leg_keys h2 x h3
theorem parts_am {l m : List Po} (h : rightPs l = true) (h2 : m.all okLeg = true) : (l ++ m).all okAm = true := all_app (legs_am (right_legs h)) (legs_am h2)
theorem parts_sum (l m : List Po) : sumK2 (l ++ m) = addF l m := by
  funext k
  unfold sumK2 addF
  rw [qK_app, cK_app]
theorem bookE_no {b : Bk} {n : Int} (hb : b = bk0) {w w' : World} (g : Grew w w') : BookE b n w (.returned (.tuple #[.agg #[.int .i64 0, .slice none 0 0, .slice none 0 0], .int .i64 n])) w' := by
  subst hb
  exact ⟨none, none, 0, 0, rfl, OwnB.nil _ _, g⟩
theorem addE_1 {b : Bk} {m : List Po} (h : rightB b = false) : addE b m = 14 ∧ addB b m = bk0 := by
  have : addE b m = 14 := by unfold addE; rw [h]; rfl
  refine ⟨this, ?_⟩
  unfold addB; rw [this]; rfl
theorem addE_2 {b : Bk} {m : List Po} (h : rightB b = true) (h2 : m.all okLeg = false) : addE b m = 3 ∧ addB b m = bk0 := by
  have : addE b m = 3 := by unfold addE; rw [if_pos h, h2]; rfl
  refine ⟨this, ?_⟩
  unfold addB; rw [this]; rfl
theorem addE_3 {b : Bk} {m : List Po} (h : rightB b = true) (h2 : m.all okLeg = true) (h3 : flatI m = false) : addE b m = 12 ∧ addB b m = bk0 := by
  have : addE b m = 12 := by unfold addE; rw [if_pos h, if_pos h2, h3]; rfl
  refine ⟨this, ?_⟩
  unfold addB; rw [this]; rfl
theorem addE_4 {b : Bk} {m : List Po} (h : rightB b = true) (h2 : m.all okLeg = true) (h3 : flatI m = true) (h4 : fits (addF b.2.2 m) = false) : addE b m = 1 ∧ addB b m = bk0 := by
  have : addE b m = 1 := by unfold addE; rw [if_pos h, if_pos h2, if_pos h3, h4]; rfl
  refine ⟨this, ?_⟩
  unfold addB; rw [this]; rfl
theorem addE_5 {b : Bk} {m : List Po} (h : rightB b = true) (h2 : m.all okLeg = true) (h3 : flatI m = true) (h4 : fits (addF b.2.2 m) = true) : addE b m = 0 ∧ addB b m = (b.1, b.2.1, plA (addF b.2.2 m)) := by
  have : addE b m = 0 := addE_ok.2 ⟨h, h2, h3, h4⟩
  exact ⟨this, addB_ok this⟩

set_option maxRecDepth 100000 in
set_option maxHeartbeats 8000000 in
theorem badd_any (b : Bk) (A1 A2 A3 : Option Addr) (n1 n2 n3 c1 c2 c3 : Nat) (m : List Po) (w : World) (h : InB w b A1 A2 n1 n2 c1 c2) (h3 : RowE enPo w A3 n3 m) (k3 : A3 = none → c3 = 0) (hn : n1 ≤ 10000 ∧ n2 ≤ 10000 ∧ n3 ≤ 10000) :
    Calls Try.prog 18 #[vBk b.1 A1 A2 n1 n2 c1 c2, .slice A3 n3 c3] w (BookE (addB b m) (addE b m) w) := by
  have CC := fun w' (g : Grew w w') => bcheck_any b A1 A2 n1 n2 c1 c2 w' (h.keep g) ⟨by omega, by omega⟩
  have CL := fun w' (g : Grew w w') => rightLegs_any A3 n3 c3 m w' (h3.keep g) (by omega)
  have HX0 : Hid (OwnC ((w.alloc (.cells #[.int .i64 b.1, .slice A1 n1 c1, .slice A2 n2 c2] 25)).alloc (.cells #[.int .i64 0, .slice none 0 0, .slice none 0 0] 25)) w.heap.size [.int .i64 b.1, .slice A1 n1 c1, .slice A2 n2 c2]) := (OwnC.new w [.int .i64 b.1, .slice A1 n1 c1, .slice A2 n2 c2] _ _ rfl).keep (grew_alloc _ _ _)
  have HY0 : Hid (OwnC ((w.alloc (.cells #[.int .i64 b.1, .slice A1 n1 c1, .slice A2 n2 c2] 25)).alloc (.cells #[.int .i64 0, .slice none 0 0, .slice none 0 0] 25)) (w.heap.size + 1) [.int .i64 0, .slice none 0 0, .slice none 0 0]) := OwnC.new _ [.int .i64 0, .slice none 0 0, .slice none 0 0] _ _ (by simp)
  have HG0 : Hid (Grew w ((w.alloc (.cells #[.int .i64 b.1, .slice A1 n1 c1, .slice A2 n2 c2] 25)).alloc (.cells #[.int .i64 0, .slice none 0 0, .slice none 0 0] 25))) := grew_trans (grew_alloc _ _ _) (grew_alloc _ _ _)
  by_cases hr : rightB b = true
  · rw [chkB_yes hr] at CC
    have hps := ((rightB_iff b).1 hr).2.2
    by_cases hl : m.all okLeg = true
    · rw [hl] at CL
      have CV := fun w' (g : Grew w w') => beven_any A3 n3 c3 m w' (h3.keep g) (leg_keys hl) (fun x hx => by have := leg_ok (List.all_eq_true.1 hl x hx); unfold okAm at this; rw [Bool.and_eq_true] at this; exact this.1) (by omega)
      have CO := fun w' (g : Grew w w') => concatPo_any w'.heap.size A2 A3 n2 n3 c2 c3 b.2.2 m (w'.alloc (.cells #[.slice A2 n2 c2, .slice A3 n3 c3] 23)) (OwnC.new w' [.slice A2 n2 c2, .slice A3 n3 c3] _ _ rfl) ((h.p.keep g).keep (grew_alloc _ _ _)) ((h3.keep g).keep (grew_alloc _ _ _)) h.k2 k3 ⟨by omega, by omega⟩
      have CJ := fun (A : Option Addr) (c : Nat) (w' : World) (hr : RowE enPo w' A (b.2.2 ++ m).length (b.2.2 ++ m)) => join_any A _ c (b.2.2 ++ m) w' hr (parts_keys hps hl) (parts_am hps hl) (by rw [List.length_append, h.p.len, h3.len]; omega)
      unfold JoinPost joinPE joinPL at CJ
      rw [parts_sum] at CJ
      simp only [List.length_append] at CJ
      by_cases hf : flatI m = true
      · rw [hf] at CV
        by_cases hx : fits (addF b.2.2 m) = true
        · obtain ⟨e1, e2⟩ := addE_5 hr hl hf hx
          rw [hx] at CJ
          simp only [if_true] at CJ
          rw [e1, e2]
          have CT := fun w' (g : Grew w w') => cloneTr_any A1 n1 c1 b.2.1 w' (h.t.keep g) h.k1 (by omega)
          have HF : Hid (∀ w' A' c' A'' c'', OwnB w' w.heap.size (b.1, b.2.1, plA (addF b.2.2 m)) A' A'' c' c'' → Grew w w' → BookE (b.1, b.2.1, plA (addF b.2.2 m)) 0 w (.returned (.tuple #[.agg #[.int .i64 b.1, .slice A' n1 c', .slice A'' (plA (addF b.2.2 m)).length c''], .int .i64 0])) w') := fun w' A' c' A'' c'' ho g => ⟨A', A'', c', c'', by rw [← h.t.len], ho, g⟩
          have HLT := Lib.hid h.t.len
          clear h h3 k3 e1 e2 hr hl hf hx hps
          generalize BookE (b.1, b.2.1, plA (addF b.2.2 m)) 0 w = PP at *
          generalize b.1 = nx at *
          generalize b.2.1 = lt at *
          generalize plA (addF b.2.2 m) = pl at *
          dsimp only [vBk]
          go_enter Try.func18, Try.ntmps18
          go_upto_region 1 with fail
          generalize (w.alloc (.cells #[.int .i64 nx, .slice A1 n1 c1, .slice A2 n2 c2] 25)).alloc (.cells #[.int .i64 0, .slice none 0 0, .slice none 0 0] 25) = w0 at *
          have x0 : w0.cell? ⟨w.heap.size, 0, none⟩ = some (.int .i64 nx) := HX0.out.at 0 _ rfl
          have x1 : w0.cell? ⟨w.heap.size, 1, none⟩ = some (.slice A1 n1 c1) := HX0.out.at 1 _ rfl
          have x2 : w0.cell? ⟨w.heap.size, 2, none⟩ = some (.slice A2 n2 c2) := HX0.out.at 2 _ rfl
          go_upto_region 11 with (first
            | (go_at_call 13; ((with_reducible refine (CC _ HG0.out).mono ?_); rintro e w1 ⟨rfl, hg⟩; have HG1 := Lib.hid (grew_trans HG0.out hg); have HX1 := Lib.hid (HX0.out.keep hg); have HY1 := Lib.hid (HY0.out.keep hg); clear hg CC x0 x1 x2))
            | (go_at_call 41; ((with_reducible refine (CL _ HG1.out).mono ?_); rintro e w2 ⟨rfl, hg⟩; have HG2 := Lib.hid (grew_trans HG1.out hg); have HX2 := Lib.hid (HX1.out.keep hg); have HY2 := Lib.hid (HY1.out.keep hg); clear hg CL))
            | (go_at_call 42; ((with_reducible refine (CV _ HG2.out).mono ?_); rintro e w3 ⟨rfl, hg⟩; have HG3 := Lib.hid (grew_trans HG2.out hg); have HX3 := Lib.hid (HX2.out.keep hg); have HY3 := Lib.hid (HY2.out.keep hg); have x2 : w3.cell? ⟨w.heap.size, 2, none⟩ = some (.slice A2 n2 c2) := HX3.out.at 2 _ rfl; clear hg CV))
            | (go_at_call 44; ((with_reducible refine (CO _ HG3.out).mono ?_); rintro e w4 ⟨v4, rfl, ho, hg⟩; obtain ⟨A4, c4, rfl, hr4, -⟩ := ho.form; rw [List.length_append] at hr4; have HR4 := Lib.hid hr4; have HG34 := Lib.hid (own_back hg); have HG4 := Lib.hid (grew_trans HG3.out HG34.out); have HX4 := Lib.hid (HX3.out.keep HG34.out); have HY4 := Lib.hid (HY3.out.keep HG34.out); clear hg ho hr4 CO))
            | (go_at_call 43; ((with_reducible refine (CJ _ _ _ HR4.out).mono ?_); rintro e w5 ⟨v5, rfl, ho, hg⟩; have HO5 := Lib.hid ho; have HW45 : Hid (w4.heap.size ≤ w5.heap.size) := hg.size; have HG5 := Lib.hid (grew_trans HG4.out hg); have HX5 := Lib.hid (HX4.out.keep hg); have HY5 := Lib.hid (HY4.out.keep hg); clear hg ho CJ)))
          obtain ⟨A5, c5, rfl, -⟩ := HO5.out.form
          have HS : Hid (∀ w', Grew w5 w' → w'.cell? ⟨w.heap.size, 0, none⟩ = some (.int .i64 nx) ∧ w'.cell? ⟨w.heap.size, 1, none⟩ = some (.slice A1 n1 c1)) := fun w' g => ⟨(HX5.out.keep g).at 0 _ rfl, (HX5.out.keep g).at 1 _ rfl⟩
          have HSZ : Hid (w.heap.size + 2 ≤ w4.heap.size) := by have := HY4.out.lt; show _ ≤ _; omega
          go_region_held3 (fun w' => w'.cell? ⟨w.heap.size, 0, none⟩ = some (.int .i64 nx) ∧ w'.cell? ⟨w.heap.size, 1, none⟩ = some (.slice A1 n1 c1))
            (first
              | exact ⟨HXP.out.at 0 _ rfl, HXP.out.at 1 _ rfl⟩
              | exact HS.out _ HG6.out
              | exact HS.out _ (grew_drew (grew_refl _))
              | (trace_state; fail))
            ((go_at_call 45; (with_reducible refine (CT _ (grew_drew HG5.out)).mono ?_); rintro e w6 ⟨A', c', rfl, ho, hg⟩; have HG6 : Hid (Grew w5 w6) := grew_trans (grew_drew (grew_refl _)) hg; have HO6 := Lib.hid ho; have HX6 := Lib.hid (HX5.out.keep HG6.out); have HY6 := Lib.hid (HY5.out.keep HG6.out); have HXP : Hid (OwnC (putC w6 (w.heap.size + 1) 0 [.int .i64 nx, .slice A' n1 c', .slice A5 pl.length c5]) w.heap.size [.int .i64 nx, .slice A1 n1 c1, .slice A2 n2 c2]) := OwnC.putO (by omega) _ _ _ HX6.out; have y0 : w6.cell? ⟨w.heap.size + 1, 0, none⟩ = some (.int .i64 0) := HY6.out.at 0 _ rfl; have f0 : w6.frozen? ⟨w.heap.size + 1, 0, none⟩ = false := HY6.out.fr 0 (by decide); have y1 : w6.cell? ⟨w.heap.size + 1, 1, none⟩ = some (.slice none 0 0) := HY6.out.at 1 _ rfl; have f1 : w6.frozen? ⟨w.heap.size + 1, 1, none⟩ = false := HY6.out.fr 1 (by decide); have y2 : w6.cell? ⟨w.heap.size + 1, 2, none⟩ = some (.slice none 0 0) := HY6.out.at 2 _ rfl; have f2 : w6.frozen? ⟨w.heap.size + 1, 2, none⟩ = false := HY6.out.fr 2 (by decide); clear ho hg))
          have HP := Lib.hid (HY6.out.all [.int .i64 nx, .slice A' n1 c', .slice A5 pl.length c5] rfl)
          have HGP := Lib.hid (grew_put (w := w) (w.heap.size + 1) (Nat.le_succ _) [.int .i64 nx, .slice A' n1 c', .slice A5 pl.length c5] 0 _ (grew_trans HG5.out HG6.out))
          have HOT := Lib.hid (OwnE.put (b := w.heap.size + 1) (base := w.heap.size + 2) (by omega) [.int .i64 nx, .slice A' n1 c', .slice A5 pl.length c5] 0 _ (HO6.out.mono (Nat.le_trans HSZ.out (Nat.le_trans HW45.out (Nat.le_refl _)))))
          have HOP := Lib.hid (OwnE.put (b := w.heap.size + 1) (base := w.heap.size + 2) (by omega) [.int .i64 nx, .slice A' n1 c', .slice A5 pl.length c5] 0 _ ((HO5.out.keep HG6.out).mono HSZ.out))
          have HAP : Hid (Apart A' A5) := fun x y hx hy => by
            have h1 : w5.heap.size ≤ x.block := (HO6.out.block x hx).1
            have h2 := (HO5.out.block y hy).2
            omega
          change Exit.then _ _ _ _ (putC w6 (w.heap.size + 1) 0 [.int .i64 nx, .slice A' n1 c', .slice A5 pl.length c5])
          clear y0 y1 y2 f0 f1 f2 HXP HX6 HY6 HS
          generalize putC w6 (w.heap.size + 1) 0 [.int .i64 nx, .slice A' n1 c', .slice A5 pl.length c5] = w9 at *
          have z0 : w9.cell? ⟨w.heap.size + 1, 0, none⟩ = _ := HP.out.at 0 _ rfl
          have z1 : w9.cell? ⟨w.heap.size + 1, 1, none⟩ = _ := HP.out.at 1 _ rfl
          have z2 : w9.cell? ⟨w.heap.size + 1, 2, none⟩ = _ := HP.out.at 2 _ rfl
          apply_assumption
          go_wp2
          refine bodyPost_ret (v := .tuple #[.agg #[.int .i64 nx, .slice A' n1 c', .slice A5 pl.length c5], .int .i64 0]) (by simp [results, Try.results18, go_sem, z0, z1, z2]) rfl ?_
          rw [← HLT.out] at HOT
          exact HF.out _ _ _ _ _ ⟨HOT.out.mono (by omega), HOP.out.mono (by omega), HAP.out⟩ HGP.out
        · rw [Bool.not_eq_true] at hx
          obtain ⟨e1, e2⟩ := addE_4 hr hl hf hx
          rw [hx] at CJ
          simp only [Bool.false_eq_true, if_false] at CJ
          rw [e1, e2]
          have HF : Hid (∀ w', Grew w w' → BookE bk0 1 w (.returned (.tuple #[.agg #[.int .i64 0, .slice none 0 0, .slice none 0 0], .int .i64 1])) w') := fun w' g => bookE_no rfl g
          clear h h3 k3 e1 e2 hr hl hf hx hps
          generalize BookE bk0 1 w = PP at *
          generalize b.1 = nx at *
          dsimp only [vBk]
          go_enter Try.func18, Try.ntmps18
          go_upto_region 1 with fail
          generalize (w.alloc (.cells #[.int .i64 nx, .slice A1 n1 c1, .slice A2 n2 c2] 25)).alloc (.cells #[.int .i64 0, .slice none 0 0, .slice none 0 0] 25) = w0 at *
          have x0 : w0.cell? ⟨w.heap.size, 0, none⟩ = some (.int .i64 nx) := HX0.out.at 0 _ rfl
          have x1 : w0.cell? ⟨w.heap.size, 1, none⟩ = some (.slice A1 n1 c1) := HX0.out.at 1 _ rfl
          have x2 : w0.cell? ⟨w.heap.size, 2, none⟩ = some (.slice A2 n2 c2) := HX0.out.at 2 _ rfl
          go_wp2_with (first
            | (go_at_call 13; ((with_reducible refine (CC _ HG0.out).mono ?_); rintro e w1 ⟨rfl, hg⟩; have HG1 := Lib.hid (grew_trans HG0.out hg); have HX1 := Lib.hid (HX0.out.keep hg); have HY1 := Lib.hid (HY0.out.keep hg); clear hg CC x0 x1 x2))
            | (go_at_call 41; ((with_reducible refine (CL _ HG1.out).mono ?_); rintro e w2 ⟨rfl, hg⟩; have HG2 := Lib.hid (grew_trans HG1.out hg); have HX2 := Lib.hid (HX1.out.keep hg); have HY2 := Lib.hid (HY1.out.keep hg); clear hg CL))
            | (go_at_call 42; ((with_reducible refine (CV _ HG2.out).mono ?_); rintro e w3 ⟨rfl, hg⟩; have HG3 := Lib.hid (grew_trans HG2.out hg); have HX3 := Lib.hid (HX2.out.keep hg); have HY3 := Lib.hid (HY2.out.keep hg); have x2 : w3.cell? ⟨w.heap.size, 2, none⟩ = some (.slice A2 n2 c2) := HX3.out.at 2 _ rfl; clear hg CV))
            | (go_at_call 44; ((with_reducible refine (CO _ HG3.out).mono ?_); rintro e w4 ⟨v4, rfl, ho, hg⟩; obtain ⟨A4, c4, rfl, hr4, -⟩ := ho.form; rw [List.length_append] at hr4; have HR4 := Lib.hid hr4; have HG34 := Lib.hid (own_back hg); have HG4 := Lib.hid (grew_trans HG3.out HG34.out); have HX4 := Lib.hid (HX3.out.keep HG34.out); have HY4 := Lib.hid (HY3.out.keep HG34.out); clear hg ho hr4 CO))
            | (go_at_call 43; ((with_reducible refine (CJ _ _ _ HR4.out).mono ?_); rintro e w5 ⟨v5, rfl, ho, hg⟩; have HO5 := Lib.hid ho; have HG5 := Lib.hid (grew_trans HG4.out hg); have HX5 := Lib.hid (HX4.out.keep hg); have HY5 := Lib.hid (HY4.out.keep hg); have y0 : w5.cell? ⟨w.heap.size + 1, 0, none⟩ = some (.int .i64 0) := HY5.out.at 0 _ rfl; have f0 : w5.frozen? ⟨w.heap.size + 1, 0, none⟩ = false := HY5.out.fr 0 (by decide); have y1 : w5.cell? ⟨w.heap.size + 1, 1, none⟩ = some (.slice none 0 0) := HY5.out.at 1 _ rfl; have f1 : w5.frozen? ⟨w.heap.size + 1, 1, none⟩ = false := HY5.out.fr 1 (by decide); have y2 : w5.cell? ⟨w.heap.size + 1, 2, none⟩ = some (.slice none 0 0) := HY5.out.at 2 _ rfl; have f2 : w5.frozen? ⟨w.heap.size + 1, 2, none⟩ = false := HY5.out.fr 2 (by decide); clear hg ho CJ)))
          have HP := HY5.out.all [.int .i64 0, .slice none 0 0, .slice none 0 0] rfl
          have HGP := grew_put (w := w) (w.heap.size + 1) (by omega) [.int .i64 0, .slice none 0 0, .slice none 0 0] 0 _ HG5.out
          change bodyPost _ _ _ _ _ (putC w5 (w.heap.size + 1) 0 [.int .i64 0, .slice none 0 0, .slice none 0 0])
          clear y0 y1 y2 f0 f1 f2
          generalize putC w5 (w.heap.size + 1) 0 [.int .i64 0, .slice none 0 0, .slice none 0 0] = w9 at *
          have z0 : w9.cell? ⟨w.heap.size + 1, 0, none⟩ = _ := HP.at 0 _ rfl
          have z1 : w9.cell? ⟨w.heap.size + 1, 1, none⟩ = _ := HP.at 1 _ rfl
          have z2 : w9.cell? ⟨w.heap.size + 1, 2, none⟩ = _ := HP.at 2 _ rfl
          refine bodyPost_ret (v := .tuple #[.agg #[.int .i64 0, .slice none 0 0, .slice none 0 0], .int .i64 1]) (by simp [results, Try.results18, go_sem, z0, z1, z2]) rfl ?_
          exact HF.out _ HGP
      · rw [Bool.not_eq_true] at hf
        obtain ⟨e1, e2⟩ := addE_3 hr hl hf
        rw [hf] at CV
        rw [e1, e2]
        have HF : Hid (∀ w', Grew w w' → BookE bk0 12 w (.returned (.tuple #[.agg #[.int .i64 0, .slice none 0 0, .slice none 0 0], .int .i64 12])) w') := fun w' g => bookE_no rfl g
        clear h h3 k3 e1 e2 hr hl hf hps CO CJ
        generalize BookE bk0 12 w = PP at *
        generalize b.1 = nx at *
        dsimp only [vBk]
        go_enter Try.func18, Try.ntmps18
        go_upto_region 1 with fail
        generalize (w.alloc (.cells #[.int .i64 nx, .slice A1 n1 c1, .slice A2 n2 c2] 25)).alloc (.cells #[.int .i64 0, .slice none 0 0, .slice none 0 0] 25) = w0 at *
        have x0 : w0.cell? ⟨w.heap.size, 0, none⟩ = some (.int .i64 nx) := HX0.out.at 0 _ rfl
        have x1 : w0.cell? ⟨w.heap.size, 1, none⟩ = some (.slice A1 n1 c1) := HX0.out.at 1 _ rfl
        have x2 : w0.cell? ⟨w.heap.size, 2, none⟩ = some (.slice A2 n2 c2) := HX0.out.at 2 _ rfl
        go_wp2_with (first
          | (go_at_call 13; ((with_reducible refine (CC _ HG0.out).mono ?_); rintro e w1 ⟨rfl, hg⟩; have HG1 := Lib.hid (grew_trans HG0.out hg); have HX1 := Lib.hid (HX0.out.keep hg); have HY1 := Lib.hid (HY0.out.keep hg); clear hg CC x0 x1 x2))
          | (go_at_call 41; ((with_reducible refine (CL _ HG1.out).mono ?_); rintro e w2 ⟨rfl, hg⟩; have HG2 := Lib.hid (grew_trans HG1.out hg); have HX2 := Lib.hid (HX1.out.keep hg); have HY2 := Lib.hid (HY1.out.keep hg); clear hg CL))
          | (go_at_call 42; ((with_reducible refine (CV _ HG2.out).mono ?_); rintro e w3 ⟨rfl, hg⟩; have HG3 := Lib.hid (grew_trans HG2.out hg); have HX3 := Lib.hid (HX2.out.keep hg); have HY3 := Lib.hid (HY2.out.keep hg); have y0 : w3.cell? ⟨w.heap.size + 1, 0, none⟩ = some (.int .i64 0) := HY3.out.at 0 _ rfl; have f0 : w3.frozen? ⟨w.heap.size + 1, 0, none⟩ = false := HY3.out.fr 0 (by decide); have y1 : w3.cell? ⟨w.heap.size + 1, 1, none⟩ = some (.slice none 0 0) := HY3.out.at 1 _ rfl; have f1 : w3.frozen? ⟨w.heap.size + 1, 1, none⟩ = false := HY3.out.fr 1 (by decide); have y2 : w3.cell? ⟨w.heap.size + 1, 2, none⟩ = some (.slice none 0 0) := HY3.out.at 2 _ rfl; have f2 : w3.frozen? ⟨w.heap.size + 1, 2, none⟩ = false := HY3.out.fr 2 (by decide); clear hg CV)))
        have HP := HY3.out.all [.int .i64 0, .slice none 0 0, .slice none 0 0] rfl
        have HGP := grew_put (w := w) (w.heap.size + 1) (by omega) [.int .i64 0, .slice none 0 0, .slice none 0 0] 0 _ HG3.out
        change bodyPost _ _ _ _ _ (putC w3 (w.heap.size + 1) 0 [.int .i64 0, .slice none 0 0, .slice none 0 0])
        clear y0 y1 y2 f0 f1 f2
        generalize putC w3 (w.heap.size + 1) 0 [.int .i64 0, .slice none 0 0, .slice none 0 0] = w9 at *
        have z0 : w9.cell? ⟨w.heap.size + 1, 0, none⟩ = _ := HP.at 0 _ rfl
        have z1 : w9.cell? ⟨w.heap.size + 1, 1, none⟩ = _ := HP.at 1 _ rfl
        have z2 : w9.cell? ⟨w.heap.size + 1, 2, none⟩ = _ := HP.at 2 _ rfl
        refine bodyPost_ret (v := .tuple #[.agg #[.int .i64 0, .slice none 0 0, .slice none 0 0], .int .i64 12]) (by simp [results, Try.results18, go_sem, z0, z1, z2]) rfl ?_
        exact HF.out _ HGP
    · rw [Bool.not_eq_true] at hl
      obtain ⟨e1, e2⟩ := addE_2 hr hl
      rw [hl] at CL
      rw [e1, e2]
      have HF : Hid (∀ w', Grew w w' → BookE bk0 3 w (.returned (.tuple #[.agg #[.int .i64 0, .slice none 0 0, .slice none 0 0], .int .i64 3])) w') := fun w' g => bookE_no rfl g
      clear h h3 k3 e1 e2 hr hl hps
      generalize BookE bk0 3 w = PP at *
      generalize b.1 = nx at *
      dsimp only [vBk]
      go_enter Try.func18, Try.ntmps18
      go_upto_region 1 with fail
      generalize (w.alloc (.cells #[.int .i64 nx, .slice A1 n1 c1, .slice A2 n2 c2] 25)).alloc (.cells #[.int .i64 0, .slice none 0 0, .slice none 0 0] 25) = w0 at *
      have x0 : w0.cell? ⟨w.heap.size, 0, none⟩ = some (.int .i64 nx) := HX0.out.at 0 _ rfl
      have x1 : w0.cell? ⟨w.heap.size, 1, none⟩ = some (.slice A1 n1 c1) := HX0.out.at 1 _ rfl
      have x2 : w0.cell? ⟨w.heap.size, 2, none⟩ = some (.slice A2 n2 c2) := HX0.out.at 2 _ rfl
      go_wp2_with (first
        | (go_at_call 13; ((with_reducible refine (CC _ HG0.out).mono ?_); rintro e w1 ⟨rfl, hg⟩; have HG1 := Lib.hid (grew_trans HG0.out hg); have HX1 := Lib.hid (HX0.out.keep hg); have HY1 := Lib.hid (HY0.out.keep hg); clear hg CC x0 x1 x2))
        | (go_at_call 41; ((with_reducible refine (CL _ HG1.out).mono ?_); rintro e w2 ⟨rfl, hg⟩; have HG2 := Lib.hid (grew_trans HG1.out hg); have HX2 := Lib.hid (HX1.out.keep hg); have HY2 := Lib.hid (HY1.out.keep hg); have y0 : w2.cell? ⟨w.heap.size + 1, 0, none⟩ = some (.int .i64 0) := HY2.out.at 0 _ rfl; have f0 : w2.frozen? ⟨w.heap.size + 1, 0, none⟩ = false := HY2.out.fr 0 (by decide); have y1 : w2.cell? ⟨w.heap.size + 1, 1, none⟩ = some (.slice none 0 0) := HY2.out.at 1 _ rfl; have f1 : w2.frozen? ⟨w.heap.size + 1, 1, none⟩ = false := HY2.out.fr 1 (by decide); have y2 : w2.cell? ⟨w.heap.size + 1, 2, none⟩ = some (.slice none 0 0) := HY2.out.at 2 _ rfl; have f2 : w2.frozen? ⟨w.heap.size + 1, 2, none⟩ = false := HY2.out.fr 2 (by decide); clear hg CL)))
      have HP := HY2.out.all [.int .i64 0, .slice none 0 0, .slice none 0 0] rfl
      have HGP := grew_put (w := w) (w.heap.size + 1) (by omega) [.int .i64 0, .slice none 0 0, .slice none 0 0] 0 _ HG2.out
      change bodyPost _ _ _ _ _ (putC w2 (w.heap.size + 1) 0 [.int .i64 0, .slice none 0 0, .slice none 0 0])
      clear y0 y1 y2 f0 f1 f2
      generalize putC w2 (w.heap.size + 1) 0 [.int .i64 0, .slice none 0 0, .slice none 0 0] = w9 at *
      have z0 : w9.cell? ⟨w.heap.size + 1, 0, none⟩ = _ := HP.at 0 _ rfl
      have z1 : w9.cell? ⟨w.heap.size + 1, 1, none⟩ = _ := HP.at 1 _ rfl
      have z2 : w9.cell? ⟨w.heap.size + 1, 2, none⟩ = _ := HP.at 2 _ rfl
      refine bodyPost_ret (v := .tuple #[.agg #[.int .i64 0, .slice none 0 0, .slice none 0 0], .int .i64 3]) (by simp [results, Try.results18, go_sem, z0, z1, z2]) rfl ?_
      exact HF.out _ HGP
  · rw [Bool.not_eq_true] at hr
    obtain ⟨e1, e2⟩ := addE_1 (m := m) hr
    rw [chkB_no hr] at CC
    rw [e1, e2]
    have HF : Hid (∀ w', Grew w w' → BookE bk0 14 w (.returned (.tuple #[.agg #[.int .i64 0, .slice none 0 0, .slice none 0 0], .int .i64 14])) w') := fun w' g => bookE_no rfl g
    clear h h3 k3 e1 e2 hr CL
    generalize BookE bk0 14 w = PP at *
    generalize b.1 = nx at *
    dsimp only [vBk]
    go_enter Try.func18, Try.ntmps18
    go_upto_region 1 with fail
    generalize (w.alloc (.cells #[.int .i64 nx, .slice A1 n1 c1, .slice A2 n2 c2] 25)).alloc (.cells #[.int .i64 0, .slice none 0 0, .slice none 0 0] 25) = w0 at *
    have x0 : w0.cell? ⟨w.heap.size, 0, none⟩ = some (.int .i64 nx) := HX0.out.at 0 _ rfl
    have x1 : w0.cell? ⟨w.heap.size, 1, none⟩ = some (.slice A1 n1 c1) := HX0.out.at 1 _ rfl
    have x2 : w0.cell? ⟨w.heap.size, 2, none⟩ = some (.slice A2 n2 c2) := HX0.out.at 2 _ rfl
    go_wp2_with (go_at_call 13; ((with_reducible refine (CC _ HG0.out).mono ?_); rintro e w1 ⟨rfl, hg⟩; have HG1 := Lib.hid (grew_trans HG0.out hg); have HX1 := Lib.hid (HX0.out.keep hg); have HY1 := Lib.hid (HY0.out.keep hg); have y0 : w1.cell? ⟨w.heap.size + 1, 0, none⟩ = some (.int .i64 0) := HY1.out.at 0 _ rfl; have f0 : w1.frozen? ⟨w.heap.size + 1, 0, none⟩ = false := HY1.out.fr 0 (by decide); have y1 : w1.cell? ⟨w.heap.size + 1, 1, none⟩ = some (.slice none 0 0) := HY1.out.at 1 _ rfl; have f1 : w1.frozen? ⟨w.heap.size + 1, 1, none⟩ = false := HY1.out.fr 1 (by decide); have y2 : w1.cell? ⟨w.heap.size + 1, 2, none⟩ = some (.slice none 0 0) := HY1.out.at 2 _ rfl; have f2 : w1.frozen? ⟨w.heap.size + 1, 2, none⟩ = false := HY1.out.fr 2 (by decide); clear hg CC x0 x1 x2))
    have HP := HY1.out.all [.int .i64 0, .slice none 0 0, .slice none 0 0] rfl
    have HGP := grew_put (w := w) (w.heap.size + 1) (by omega) [.int .i64 0, .slice none 0 0, .slice none 0 0] 0 _ HG1.out
    change bodyPost _ _ _ _ _ (putC w1 (w.heap.size + 1) 0 [.int .i64 0, .slice none 0 0, .slice none 0 0])
    clear y0 y1 y2 f0 f1 f2
    generalize putC w1 (w.heap.size + 1) 0 [.int .i64 0, .slice none 0 0, .slice none 0 0] = w9 at *
    have z0 : w9.cell? ⟨w.heap.size + 1, 0, none⟩ = _ := HP.at 0 _ rfl
    have z1 : w9.cell? ⟨w.heap.size + 1, 1, none⟩ = _ := HP.at 1 _ rfl
    have z2 : w9.cell? ⟨w.heap.size + 1, 2, none⟩ = _ := HP.at 2 _ rfl
    refine bodyPost_ret (v := .tuple #[.agg #[.int .i64 0, .slice none 0 0, .slice none 0 0], .int .i64 14]) (by simp [results, Try.results18, go_sem, z0, z1, z2]) rfl ?_
    exact HF.out _ HGP
end Go.Proofs.Ytkbmiajgmnfpfaa.NumK
