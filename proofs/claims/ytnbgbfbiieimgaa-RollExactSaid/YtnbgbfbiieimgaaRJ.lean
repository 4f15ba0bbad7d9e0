/- A list of In: slices.Grow, Concat; roll.put. -/
import Derived.Test.YtnbgbfbiieimgaaRD
import Derived.Deep.RegionHeld3
import Derived.Deep.CutBlock
import Derived.Test.YtnbgbfbiieimgaaRB
import Derived.Test.YtnbgbfbiieimgaaRA
import Derived.Test.YtnbgbfbiieimgaaRA2
namespace Go.Proofs.Ytnbgbfbiieimgaa.NumK
open Go.RowKit
set_option linter.unusedVariables false

/-- slices.Grow of nothing. -/
theorem growIn_any (n : Nat) (w : World) (h0 : 0 < n) (hn : n ≤ 1000000) :
    Calls Try.prog 84 #[.slice none 0 0, .int .i64 n] w fun e w' => ∃ v, e = .returned v ∧ OwnE enIn w' w.heap.size 38 v [] ∧ Grew w w' := by
  obtain ⟨i0, hi0, hz0, hs0, hb0⟩ := info_parts info_in
  have h2 : wrap64 ((0 : Int) - (0 : Int)) = 0 := by unfold wrap64; omega
  have h3 : wrap64 ((n : Int) - 0) = (n : Int) := by unfold wrap64; omega
  have h4 : (n : Int) > 0 := by omega
  have h1 : ¬ ((n : Int) < 0) := by omega
  have hrz : ∀ ty, (Builtin.append_ #[23, 3] ty #[.slice none 0 0, .int .i64 (n : Int)]).run Try.prog w =
      .ok (.slice (some ⟨w.heap.size, 0, none⟩) (0 + n) (grownCap w (0 + n) 0 38)) (w.drew.alloc (.cells (([] : List Value).toArray ++ Builtin.zeroCells (vIn in0).cells n ++ Builtin.zeroCells (vIn in0).cells (grownCap w (0 + n) 0 38 - (0 + n))) 38)) := fun ty =>
    Lib.run_append_grow_zeros w 23 3 ty 38 i0 (vIn in0) .i64 .i64 Try.underlying23 Try.underlying3 hi0 hz0 none 0 0 [] (run_firstCells_none w.drew i0.size 0 0 0) n h0 (by rw [hs0]; decide) (by omega) (by omega) (by rw [hb0]; omega)
      (growslice_fits (by omega) (by rw [hb0]; omega))
  have hGn : n ≤ grownCap w (0 + n) 0 38 := by have := grownCap_ge w (0 + n) 0 38; omega
  have hGm : grownCap w (0 + n) 0 38 ≤ maxLen := grownCap_le_maxLen w (0 + n) 0 38 (by unfold maxLen; omega)
  have hzl : (Builtin.zeroCells (vIn in0).cells n).size = n * 12 := by simp [Builtin.zeroCells, Value.cells]
  rw [Nat.zero_add] at *
  generalize hG : grownCap w n 0 38 = G at *
  clear hG
  have hzm : (Builtin.zeroCells (vIn in0).cells (G - n)).size = (G - n) * 12 := by simp [Builtin.zeroCells, Value.cells]
  have HP : Hid (OwnE enIn (w.drew.alloc (.cells (([] : List Value).toArray ++ Builtin.zeroCells (vIn in0).cells n ++ Builtin.zeroCells (vIn in0).cells (G - n)) 38)) w.heap.size 38 (.slice (some ⟨w.heap.size, 0, none⟩) 0 G) []) :=
    ⟨by simp, .inr ⟨w.heap.size, G, _, rfl, Nat.le_refl _, heap_alloc_new w.drew _, by simp, hGm, by simp only [List.size_toArray, Array.size_append, List.length_nil, hzl, hzm]; show _ = G * 12; omega, by simp⟩⟩
  have HB : Hid (Grew w (w.drew.alloc (.cells (([] : List Value).toArray ++ Builtin.zeroCells (vIn in0).cells n ++ Builtin.zeroCells (vIn in0).cells (G - n)) 38))) := grew_trans (grew_drew (grew_refl w)) (grew_alloc _ _ _)
  clear hzl hzm hi0 hz0 hs0 hb0
  generalize w.drew.alloc (.cells (([] : List Value).toArray ++ Builtin.zeroCells (vIn in0).cells n ++ Builtin.zeroCells (vIn in0).cells (G - n)) 38) = w9 at *
  unfold maxLen at hGm
  go_enter Try.func84, Try.ntmps84
  go_wp2_with (at_builtin; refine Lib.wpList_append_run _ rfl _ _ _ _ rfl _ _ rfl rfl _ _ (hrz _) ?_)
  go_ret
  exact ⟨_, rfl, HP.out, HB.out⟩

set_option maxRecDepth 100000 in
set_option maxHeartbeats 2000000 in
theorem concatIn_any (B : Nat) (A1 A2 A3 : Option Addr) (n1 n2 n3 c1 c2 c3 : Nat) (l1 l2 l3 : List In) (w : World) (hB : OwnC w B [.slice A1 n1 c1, .slice A2 n2 c2, .slice A3 n3 c3])
    (h1 : RowE enIn w A1 n1 l1) (h2 : RowE enIn w A2 n2 l2) (h3 : RowE enIn w A3 n3 l3) (k1 : A1 = none → c1 = 0) (k2 : A2 = none → c2 = 0) (k3 : A3 = none → c3 = 0) (h0 : 0 < n2) (hn : n1 ≤ 100000 ∧ n2 ≤ 100000 ∧ n3 ≤ 100000) :
    Calls Try.prog 78 #[.slice (some ⟨B, 0, none⟩) 3 3] w fun e w' => ∃ v, e = .returned v ∧ OwnE enIn w' w.heap.size 38 v (l1 ++ (l2 ++ l3)) ∧ Grew w w' := by
  have HB := Lib.hid hB
  have H1 := Lib.hid h1
  have H2 := Lib.hid h2
  have H3 := Lib.hid h3
  have K1 := Lib.hid k1
  have K2 := Lib.hid k2
  have K3 := Lib.hid k3
  have L1 := Lib.hid h1.len
  have L2 := Lib.hid h2.len
  have L3 := Lib.hid h3.len
  clear hB h1 h2 h3 k1 k2 k3
  go_enter Try.func78, Try.ntmps78
  go_wp2
  go_loop [3, 5, 11] (fun v3 v5 v11 => ∃ j s : Nat, v11 = .int .i64 j ∧ v3 = .int .i64 s ∧ j ≤ 3 ∧ Hid ((j = 0 ∧ s = 0) ∨ (j = 1 ∧ s = n1) ∨ (j = 2 ∧ s = n1 + n2) ∨ (j = 3 ∧ s = n1 + n2 + n3))) (fun _ _ v11 => 3 - (intOf v11).toNat)
  case atStart => exact ⟨0, 0, rfl, rfl, by omega, Or.inl ⟨rfl, rfl⟩⟩
  case round =>
    obtain ⟨j, s, rfl, rfl, hj, HS⟩ := hrel
    rcases HS.out with ⟨rfl, rfl⟩ | ⟨rfl, rfl⟩ | ⟨rfl, rfl⟩ | ⟨rfl, rfl⟩
    · have b0 : w.cell? ⟨B, 0, none⟩ = some (.slice A1 n1 c1) := HB.out.at 0 _ rfl
      have e1 : IntKind.i64.wrap (n1 : Int) = n1 := by rw [IntKind.wrap_i64]; omega
      have e2 : ¬ ((n1 : Int) < 0) := by omega
      clear HS hj
      go_wp2
      go_round
      case rel => exact ⟨1, n1, by go_num, by go_num, by omega, Or.inr (Or.inl ⟨rfl, rfl⟩)⟩
      case measure => simp only [intOf]; omega
    · have b0 : w.cell? ⟨B, 1, none⟩ = some (.slice A2 n2 c2) := HB.out.at 1 _ rfl
      have e1 : IntKind.i64.wrap ((s : Int) + (n2 : Int)) = ((s + n2 : Nat) : Int) := by rw [IntKind.wrap_i64]; omega
      have e2 : ¬ (((s + n2 : Nat) : Int) < 0) := by omega
      clear HS hj
      go_wp2
      go_round
      case rel => exact ⟨2, s + n2, by go_num, by go_num, by omega, Or.inr (Or.inr (Or.inl ⟨rfl, rfl⟩))⟩
      case measure => simp only [intOf]; omega
    · have b0 : w.cell? ⟨B, 2, none⟩ = some (.slice A3 n3 c3) := HB.out.at 2 _ rfl
      have e1 : IntKind.i64.wrap (((n1 + n2 : Nat) : Int) + (n3 : Int)) = ((n1 + n2 + n3 : Nat) : Int) := by rw [IntKind.wrap_i64]; omega
      have e2 : ¬ (((n1 + n2 + n3 : Nat) : Int) < 0) := by omega
      clear HS hj
      go_wp2
      go_round
      case rel => exact ⟨3, n1 + n2 + n3, by go_num, by go_num, by omega, Or.inr (Or.inr (Or.inr ⟨rfl, rfl⟩))⟩
      case measure => simp only [intOf]; omega
    · have CG := fun w => growIn_any (n1 + n2 + n3) w (by omega) (by omega)
      have e3 : ((n1 + n2 + n3 : Nat) : Int) = ((n1 + n2 + n3 : Nat) : Int) := rfl
      clear HS hj
      generalize n1 + n2 + n3 = N at *
      go_wp2_with (go_at_call 84; ((with_reducible refine (CG _).mono ?_); rintro e w5 ⟨v, rfl, ho, hg⟩; have HO := Lib.hid ho; have HG5 := Lib.hid hg; clear ho hg CG))
      go_loopw [6, 8, 27] (fun v6 v8 v27 wr => ∃ j : Nat, v27 = .int .i64 j ∧ j ≤ 3 ∧ Hid ((j = 0 ∧ OwnE enIn wr w.heap.size 38 v6 []) ∨ (j = 1 ∧ OwnE enIn wr w.heap.size 38 v6 l1) ∨ (j = 2 ∧ OwnE enIn wr w.heap.size 38 v6 (l1 ++ l2)) ∨ (j = 3 ∧ OwnE enIn wr w.heap.size 38 v6 (l1 ++ l2 ++ l3))) ∧ Hid (Grew w wr)) (fun _ _ v27 _ => 3 - (intOf v27).toNat)
      case atStart => exact ⟨0, rfl, by omega, Or.inl ⟨rfl, HO.out⟩, HG5.out⟩
      case round =>
        obtain ⟨j, rfl, hj, HS, HG⟩ := hrel
        rcases HS.out with ⟨rfl, ho⟩ | ⟨rfl, ho⟩ | ⟨rfl, ho⟩ | ⟨rfl, ho⟩
        · have b0 : wr.cell? ⟨B, 0, none⟩ = some (.slice A1 n1 c1) := (HB.out.keep HG.out).at 0 _ rfl
          have HV := Lib.hid ho
          have HZ : Hid (w.heap.size ≤ wr.heap.size) := HG.out.size
          clear HS hj HO ho
          go_wp2_with (at_builtin; refine (wpList_append_E rfl _ _ 23 38 (vIn in0) 96 rfl Try.underlying23 info_in rfl w.heap.size _ [] rfl HV.out A1 n1 c1 l1 rfl K1.out (H1.out.keep HG.out) (by simp; unfold maxLen; omega) (by simp; omega) HZ.out ?_); intro v' w' ho hb; rw [List.nil_append] at ho; have HP := Lib.hid ho; have HB2 : Hid (Grew w w') := Below.trans HG.out hb; clear ho hb)
          go_roundw
          case rel => exact ⟨1, by go_num, by omega, Or.inr (Or.inl ⟨rfl, HP.out⟩), HB2.out⟩
          case measure => simp only [intOf]; omega
        · have b0 : wr.cell? ⟨B, 1, none⟩ = some (.slice A2 n2 c2) := (HB.out.keep HG.out).at 1 _ rfl
          have HV := Lib.hid ho
          have HZ : Hid (w.heap.size ≤ wr.heap.size) := HG.out.size
          clear HS hj HO ho
          go_wp2_with (at_builtin; refine (wpList_append_E rfl _ _ 23 38 (vIn in0) 96 rfl Try.underlying23 info_in rfl w.heap.size _ l1 rfl HV.out A2 n2 c2 l2 rfl K2.out (H2.out.keep HG.out) (by rw [L1.out]; unfold maxLen; omega) (by rw [L1.out]; omega) HZ.out ?_); intro v' w' ho hb; have HP := Lib.hid ho; have HB2 : Hid (Grew w w') := Below.trans HG.out hb; clear ho hb)
          go_roundw
          case rel => exact ⟨2, by go_num, by omega, Or.inr (Or.inr (Or.inl ⟨rfl, HP.out⟩)), HB2.out⟩
          case measure => simp only [intOf]; omega
        · have b0 : wr.cell? ⟨B, 2, none⟩ = some (.slice A3 n3 c3) := (HB.out.keep HG.out).at 2 _ rfl
          have HV := Lib.hid ho
          have HZ : Hid (w.heap.size ≤ wr.heap.size) := HG.out.size
          clear HS hj HO ho
          go_wp2_with (at_builtin; refine (wpList_append_E rfl _ _ 23 38 (vIn in0) 96 rfl Try.underlying23 info_in rfl w.heap.size _ (l1 ++ l2) rfl HV.out A3 n3 c3 l3 rfl K3.out (H3.out.keep HG.out) (by rw [List.length_append, L1.out, L2.out]; unfold maxLen; omega) (by rw [List.length_append, L1.out, L2.out]; omega) HZ.out ?_); intro v' w' ho hb; have HP := Lib.hid ho; have HB2 : Hid (Grew w w') := Below.trans HG.out hb; clear ho hb)
          go_roundw
          case rel => exact ⟨3, by go_num, by omega, Or.inr (Or.inr (Or.inr ⟨rfl, HP.out⟩)), HB2.out⟩
          case measure => simp only [intOf]; omega
        · have HP : Hid (OwnE enIn wr w.heap.size 38 u6 (l1 ++ (l2 ++ l3))) := by show OwnE _ _ _ _ _ _; rw [← List.append_assoc]; exact ho
          clear HS hj HO ho
          go_wp2
          go_ret
          exact ⟨_, rfl, HP.out, HG.out⟩

set_option maxRecDepth 100000 in
set_option maxHeartbeats 4000000 in
theorem putIn_any (A : Option Addr) (n c : Nat) (l : List In) (x : In) (w : World) (h : RowE enIn w A n l) (hA : A = none → c = 0) (hr : Rise noIn l) (hnc : n ≤ c) (hc : c ≤ 9223372036854775807) (hn : n ≤ 1000) :
    Calls Try.prog 62 #[.slice A n c, noVIn, vIn x] w fun e w' => ∃ v, e = .returned v ∧ OwnE enIn w' w.heap.size 38 v (putL noIn l x) ∧ Grew w w' := by
  have HI := Lib.hid h
  have HA := Lib.hid hA
  have HL := Lib.hid h.len
  have HR := Lib.hid hr
  have CN := fun w => instNo_any x w
  have CS := fun (w1 : World) (m : Int) (g : Grew ((w.alloc (.cells #[noVIn] 74)).alloc (.cells (vIn x).cells 38)) w1) => searchIn_any A n c l m w.heap.size w1 ((h.keep (grew_alloc _ _ _)).keep (grew_trans (grew_alloc _ _ _) g)) hr (by omega) (by have := g.size; simp at this; omega)
    ((grew_cell g (p := ⟨w.heap.size, 0, none⟩) (by simp; omega)).trans (by simp))
  clear h hA hr
  obtain ⟨⟨q1, q2, q3, q4, q5, q6⟩, ⟨q7, q8, q9, q10, q11, q12⟩⟩ := x
  obtain ⟨nx, hnx⟩ : ∃ nx, nx = noIn ((q1, q2, q3, q4, q5, q6), (q7, q8, q9, q10, q11, q12)) := ⟨_, rfl⟩
  have HNX : Hid (nx = noIn ((q1, q2, q3, q4, q5, q6), (q7, q8, q9, q10, q11, q12))) := hnx
  rw [← hnx] at CN
  clear hnx
  dsimp only [vIn, noVIn] at CN CS ⊢
  simp only [Value.cells] at CS
  go_enter Try.func62, Try.ntmps62
  go_upto_region 2 with (first
    | (go_at_call 48; ((with_reducible refine (CN _).mono ?_); rintro e w1 ⟨rfl, hg⟩; have HG1 := Lib.hid hg; clear hg CN))
    | (go_at_call 76; ((with_reducible refine (CS _ _ HG1.out).mono ?_); rintro e w2 ⟨k, th, rfl, hf, hg⟩; have HF := Lib.hid hf; have HG2 := Lib.hid (grew_trans HG1.out hg); clear hg hf CS)))
  have hk : k ≤ n := HF.out.1
  have i1 : (k : Int) ≤ (n : Int) := by omega
  have i2 : (0 : Int) ≤ (k : Int) := by omega
  have HG3 : Hid (Grew w w2) := grew_trans (grew_trans (grew_alloc _ _ _) (grew_alloc _ _ _)) HG2.out
  have HPT : Hid ((l.take k = l.filter fun y => decide (noIn y < noIn ((q1, q2, q3, q4, q5, q6), (q7, q8, q9, q10, q11, q12)))) ∧ ((k < l.length ∧ noIn (l.getD k in0) = noIn ((q1, q2, q3, q4, q5, q6), (q7, q8, q9, q10, q11, q12))) → l.drop (k + 1) = l.filter fun y => decide (noIn ((q1, q2, q3, q4, q5, q6), (q7, q8, q9, q10, q11, q12)) < noIn y)) ∧ (¬ (k < l.length ∧ noIn (l.getD k in0) = noIn ((q1, q2, q3, q4, q5, q6), (q7, q8, q9, q10, q11, q12))) → l.drop k = l.filter fun y => decide (noIn ((q1, q2, q3, q4, q5, q6), (q7, q8, q9, q10, q11, q12)) < noIn y))) :=
    put_at HR.out ((q1, q2, q3, q4, q5, q6), (q7, q8, q9, q10, q11, q12)) k (by rw [HL.out]; exact hk) (fun i hi => by have := HF.out.2.1 i hi; rw [HNX.out] at this; exact this) (fun i hi hl => by have := HF.out.2.2.1 i hi (by rw [← HL.out]; exact hl); rw [HNX.out] at this; exact this)
  cases th
  · obtain ⟨A3, hA3⟩ : ∃ A3, (if c = k then A else Option.map (fun x => x.add (k * 12)) A) = A3 := ⟨_, rfl⟩
    have i3 : ¬ ((k : Int) > (c : Int)) := by omega
    have hno : ¬ (k < l.length ∧ noIn (l.getD k in0) = noIn ((q1, q2, q3, q4, q5, q6), (q7, q8, q9, q10, q11, q12))) := fun h => by
      have := HF.out.2.2.2.2 ⟨by rw [← HL.out]; exact h.1, by rw [HNX.out]; exact h.2⟩
      cases this
    have HX : Hid (RowE enIn w2 A3 (n - k) (l.drop k) ∧ (A3 = none → c - k = 0) ∧ n - k ≤ 1000) := by
      have h1 := HI.out.keep HG3.out
      refine ⟨?_, fun h => ?_, by omega⟩
      · rw [← hA3]
        split
        · next e =>
          have : n - k = 0 := by omega
          rw [this, List.drop_eq_nil_of_le (by rw [HL.out]; omega)]
          exact RowE.nil _ _ _
        · exact RowE.dropO h1 hk
      · rw [← hA3] at h
        split at h
        · omega
        · cases A with
          | none => have := HA.out rfl; omega
          | some a => cases h
    have HEQ : Hid (l.take k ++ ([((q1, q2, q3, q4, q5, q6), (q7, q8, q9, q10, q11, q12))] ++ l.drop k) = putL noIn l ((q1, q2, q3, q4, q5, q6), (q7, q8, q9, q10, q11, q12))) := by show _ = _; rw [HPT.out.1, HPT.out.2.2 hno]; rfl
    have H1 := Lib.hid (HI.out.keep HG3.out)
    have CC := concatIn_any (w2.heap.size + 1) A (some ⟨w2.heap.size, 0, none⟩) A3 k 1 (n - k) c 1 (c - k) (l.take k) [((q1, q2, q3, q4, q5, q6), (q7, q8, q9, q10, q11, q12))] (l.drop k) ((w2.alloc (.cells #[.int .i64 q1, .int .i64 q2, .int .i64 q3, .int .i64 q4, .int .i64 q5, .int .i64 q6, .int .i64 q7, .int .i64 q8, .int .i64 q9, .int .i64 q10, .int .i64 q11, .int .i64 q12] 38)).alloc (.cells #[.slice A k c, .slice (some ⟨w2.heap.size, 0, none⟩) 1 1, .slice A3 (n - k) (c - k)] 23)).drew
      ((OwnC.new (w2.alloc (.cells #[.int .i64 q1, .int .i64 q2, .int .i64 q3, .int .i64 q4, .int .i64 q5, .int .i64 q6, .int .i64 q7, .int .i64 q8, .int .i64 q9, .int .i64 q10, .int .i64 q11, .int .i64 q12] 38)) [.slice A k c, .slice (some ⟨w2.heap.size, 0, none⟩) 1 1, .slice A3 (n - k) (c - k)] 23 _ (by simp)).drew)
      ((H1.out.take hk).keep (grew_drew (grew_trans (grew_alloc _ _ _) (grew_alloc _ _ _)))) ((RowE.one enIn w2 ((q1, q2, q3, q4, q5, q6), (q7, q8, q9, q10, q11, q12)) 38 _ rfl).keep (grew_drew (grew_alloc _ _ _))) (HX.out.1.keep (grew_drew (grew_trans (grew_alloc _ _ _) (grew_alloc _ _ _))))
      HA.out (by intro h; cases h) HX.out.2.1 (by omega) ⟨by omega, by omega, by have := HX.out.2.2; omega⟩
    rw [HEQ.out] at CC
    have HK : Hid (∀ w', Grew w2 w' → (w'.cell? ⟨w.heap.size + 1, 0, none⟩ = some (.int .i64 q1) ∧ w'.cell? ⟨w.heap.size + 1, 1, none⟩ = some (.int .i64 q2) ∧ w'.cell? ⟨w.heap.size + 1, 2, none⟩ = some (.int .i64 q3) ∧ w'.cell? ⟨w.heap.size + 1, 3, none⟩ = some (.int .i64 q4) ∧ w'.cell? ⟨w.heap.size + 1, 4, none⟩ = some (.int .i64 q5) ∧ w'.cell? ⟨w.heap.size + 1, 5, none⟩ = some (.int .i64 q6) ∧ w'.cell? ⟨w.heap.size + 1, 6, none⟩ = some (.int .i64 q7) ∧ w'.cell? ⟨w.heap.size + 1, 7, none⟩ = some (.int .i64 q8) ∧ w'.cell? ⟨w.heap.size + 1, 8, none⟩ = some (.int .i64 q9) ∧ w'.cell? ⟨w.heap.size + 1, 9, none⟩ = some (.int .i64 q10) ∧ w'.cell? ⟨w.heap.size + 1, 10, none⟩ = some (.int .i64 q11) ∧ w'.cell? ⟨w.heap.size + 1, 11, none⟩ = some (.int .i64 q12))) := fun w' g => by
      have hh := ((OwnC.new (w.alloc (.cells #[.func (.func 48) #[] #[]] 74)) [.int .i64 q1, .int .i64 q2, .int .i64 q3, .int .i64 q4, .int .i64 q5, .int .i64 q6, .int .i64 q7, .int .i64 q8, .int .i64 q9, .int .i64 q10, .int .i64 q11, .int .i64 q12] 38 (w.heap.size + 1) (by simp)).keep HG2.out).keep g
      exact ⟨hh.at 0 _ rfl, hh.at 1 _ rfl, hh.at 2 _ rfl, hh.at 3 _ rfl, hh.at 4 _ rfl, hh.at 5 _ rfl, hh.at 6 _ rfl, hh.at 7 _ rfl, hh.at 8 _ rfl, hh.at 9 _ rfl, hh.at 10 _ rfl, hh.at 11 _ rfl⟩
    have HWS : Hid (w.heap.size ≤ w2.heap.size) := HG3.out.size
    have i4 : (k : Int) ≤ (c : Int) := by omega
    have i5 : ¬ ((k : Int) < 0) := by omega
    have i6 : k ≤ c := by omega
    go_upto_region 5 with fail
    go_region_held3 (fun w' => w'.cell? ⟨w.heap.size + 1, 0, none⟩ = some (.int .i64 q1) ∧ w'.cell? ⟨w.heap.size + 1, 1, none⟩ = some (.int .i64 q2) ∧ w'.cell? ⟨w.heap.size + 1, 2, none⟩ = some (.int .i64 q3) ∧ w'.cell? ⟨w.heap.size + 1, 3, none⟩ = some (.int .i64 q4) ∧ w'.cell? ⟨w.heap.size + 1, 4, none⟩ = some (.int .i64 q5) ∧ w'.cell? ⟨w.heap.size + 1, 5, none⟩ = some (.int .i64 q6) ∧ w'.cell? ⟨w.heap.size + 1, 6, none⟩ = some (.int .i64 q7) ∧ w'.cell? ⟨w.heap.size + 1, 7, none⟩ = some (.int .i64 q8) ∧ w'.cell? ⟨w.heap.size + 1, 8, none⟩ = some (.int .i64 q9) ∧ w'.cell? ⟨w.heap.size + 1, 9, none⟩ = some (.int .i64 q10) ∧ w'.cell? ⟨w.heap.size + 1, 10, none⟩ = some (.int .i64 q11) ∧ w'.cell? ⟨w.heap.size + 1, 11, none⟩ = some (.int .i64 q12))
      (first
        | (with_reducible exact HK.out _ (grew_drew (grew_refl _)))
        | (with_reducible exact HK.out _ (grew_drew (grew_alloc _ _ _)))
        | (with_reducible exact HK.out _ (grew_drew (grew_trans (grew_alloc _ _ _) (grew_alloc _ _ _))))
        | (with_reducible exact HK.out _ HG6.out))
      ((go_at_call 78; ((with_reducible refine CC.mono ?_); rintro e w6 ⟨v6, rfl, ho6, hg6⟩; have HO6 := Lib.hid ho6; have HG6 : Hid (Grew w2 w6) := grew_trans (grew_drew (grew_trans (grew_alloc _ _ _) (grew_alloc _ _ _))) hg6; clear ho6 hg6)))
    go_wp2
    go_ret
    exact ⟨_, rfl, HO6.out.mono (by have := HWS.out; simp; omega), grew_trans HG3.out HG6.out⟩
  · have hkn : k < n := (HF.out.2.2.2.1 rfl).1
    have hyes : k < l.length ∧ noIn (l.getD k in0) = noIn ((q1, q2, q3, q4, q5, q6), (q7, q8, q9, q10, q11, q12)) := ⟨by rw [HL.out]; exact hkn, by rw [← HNX.out]; exact (HF.out.2.2.2.1 rfl).2⟩
    obtain ⟨b, o, rfl, hb, hcells⟩ := HI.out.in hkn
    clear hcells hb
    have hck : ¬ c = k := by omega
    obtain ⟨A3, hA3⟩ : ∃ A3, (if c - k = 1 then some (⟨b, o + k * 12, none⟩ : Addr) else some ⟨b, o + k * 12 + 12, none⟩) = A3 := ⟨_, rfl⟩
    have HX : Hid (RowE enIn w2 A3 (n - k - 1) (l.drop (k + 1)) ∧ (A3 = none → c - k - 1 = 0) ∧ n - k - 1 ≤ 1000) := by
      have h1 := HI.out.keep HG3.out
      refine ⟨?_, fun h => ?_, by omega⟩
      · rw [← hA3]
        split
        · next e =>
          have : n - k - 1 = 0 := by omega
          rw [this, List.drop_eq_nil_of_le (by rw [HL.out]; omega)]
          exact RowE.nil _ _ _
        · have h2 := Row.drop (k := k + 1) h1 (by omega)
          rw [addr_add, show o + (k + 1) * enIn.sp.size = o + k * 12 + 12 by show o + (k + 1) * 12 = _; omega, show n - (k + 1) = n - k - 1 by omega] at h2
          exact h2
      · rw [← hA3] at h
        split at h <;> cases h
    have HEQ : Hid (l.take k ++ ([((q1, q2, q3, q4, q5, q6), (q7, q8, q9, q10, q11, q12))] ++ l.drop (k + 1)) = putL noIn l ((q1, q2, q3, q4, q5, q6), (q7, q8, q9, q10, q11, q12))) := by show _ = _; rw [HPT.out.1, HPT.out.2.1 hyes]; rfl
    have H1 := Lib.hid (HI.out.keep HG3.out)
    have CC := concatIn_any (w2.heap.size + 1) (some ⟨b, o, none⟩) (some ⟨w2.heap.size, 0, none⟩) A3 k 1 (n - k - 1) c 1 (c - k - 1) (l.take k) [((q1, q2, q3, q4, q5, q6), (q7, q8, q9, q10, q11, q12))] (l.drop (k + 1)) ((w2.alloc (.cells #[.int .i64 q1, .int .i64 q2, .int .i64 q3, .int .i64 q4, .int .i64 q5, .int .i64 q6, .int .i64 q7, .int .i64 q8, .int .i64 q9, .int .i64 q10, .int .i64 q11, .int .i64 q12] 38)).alloc (.cells #[.slice (some ⟨b, o, none⟩) k c, .slice (some ⟨w2.heap.size, 0, none⟩) 1 1, .slice A3 (n - k - 1) (c - k - 1)] 23)).drew
      ((OwnC.new (w2.alloc (.cells #[.int .i64 q1, .int .i64 q2, .int .i64 q3, .int .i64 q4, .int .i64 q5, .int .i64 q6, .int .i64 q7, .int .i64 q8, .int .i64 q9, .int .i64 q10, .int .i64 q11, .int .i64 q12] 38)) [.slice (some ⟨b, o, none⟩) k c, .slice (some ⟨w2.heap.size, 0, none⟩) 1 1, .slice A3 (n - k - 1) (c - k - 1)] 23 _ (by simp)).drew)
      ((H1.out.take hk).keep (grew_drew (grew_trans (grew_alloc _ _ _) (grew_alloc _ _ _)))) ((RowE.one enIn w2 ((q1, q2, q3, q4, q5, q6), (q7, q8, q9, q10, q11, q12)) 38 _ rfl).keep (grew_drew (grew_alloc _ _ _))) (HX.out.1.keep (grew_drew (grew_trans (grew_alloc _ _ _) (grew_alloc _ _ _))))
      HA.out (by intro h; cases h) HX.out.2.1 (by omega) ⟨by omega, by omega, by have := HX.out.2.2; omega⟩
    rw [HEQ.out] at CC
    have HK : Hid (∀ w', Grew w2 w' → (w'.cell? ⟨w.heap.size + 1, 0, none⟩ = some (.int .i64 q1) ∧ w'.cell? ⟨w.heap.size + 1, 1, none⟩ = some (.int .i64 q2) ∧ w'.cell? ⟨w.heap.size + 1, 2, none⟩ = some (.int .i64 q3) ∧ w'.cell? ⟨w.heap.size + 1, 3, none⟩ = some (.int .i64 q4) ∧ w'.cell? ⟨w.heap.size + 1, 4, none⟩ = some (.int .i64 q5) ∧ w'.cell? ⟨w.heap.size + 1, 5, none⟩ = some (.int .i64 q6) ∧ w'.cell? ⟨w.heap.size + 1, 6, none⟩ = some (.int .i64 q7) ∧ w'.cell? ⟨w.heap.size + 1, 7, none⟩ = some (.int .i64 q8) ∧ w'.cell? ⟨w.heap.size + 1, 8, none⟩ = some (.int .i64 q9) ∧ w'.cell? ⟨w.heap.size + 1, 9, none⟩ = some (.int .i64 q10) ∧ w'.cell? ⟨w.heap.size + 1, 10, none⟩ = some (.int .i64 q11) ∧ w'.cell? ⟨w.heap.size + 1, 11, none⟩ = some (.int .i64 q12))) := fun w' g => by
      have hh := ((OwnC.new (w.alloc (.cells #[.func (.func 48) #[] #[]] 74)) [.int .i64 q1, .int .i64 q2, .int .i64 q3, .int .i64 q4, .int .i64 q5, .int .i64 q6, .int .i64 q7, .int .i64 q8, .int .i64 q9, .int .i64 q10, .int .i64 q11, .int .i64 q12] 38 (w.heap.size + 1) (by simp)).keep HG2.out).keep g
      exact ⟨hh.at 0 _ rfl, hh.at 1 _ rfl, hh.at 2 _ rfl, hh.at 3 _ rfl, hh.at 4 _ rfl, hh.at 5 _ rfl, hh.at 6 _ rfl, hh.at 7 _ rfl, hh.at 8 _ rfl, hh.at 9 _ rfl, hh.at 10 _ rfl, hh.at 11 _ rfl⟩
    have HWS : Hid (w.heap.size ≤ w2.heap.size) := HG3.out.size
    have i4 : (k : Int) ≤ (c : Int) := by omega
    have i5 : ¬ ((k : Int) < 0) := by omega
    have i6 : k ≤ c := by omega
    go_upto_region 5 with fail
    go_region_held3 (fun w' => w'.cell? ⟨w.heap.size + 1, 0, none⟩ = some (.int .i64 q1) ∧ w'.cell? ⟨w.heap.size + 1, 1, none⟩ = some (.int .i64 q2) ∧ w'.cell? ⟨w.heap.size + 1, 2, none⟩ = some (.int .i64 q3) ∧ w'.cell? ⟨w.heap.size + 1, 3, none⟩ = some (.int .i64 q4) ∧ w'.cell? ⟨w.heap.size + 1, 4, none⟩ = some (.int .i64 q5) ∧ w'.cell? ⟨w.heap.size + 1, 5, none⟩ = some (.int .i64 q6) ∧ w'.cell? ⟨w.heap.size + 1, 6, none⟩ = some (.int .i64 q7) ∧ w'.cell? ⟨w.heap.size + 1, 7, none⟩ = some (.int .i64 q8) ∧ w'.cell? ⟨w.heap.size + 1, 8, none⟩ = some (.int .i64 q9) ∧ w'.cell? ⟨w.heap.size + 1, 9, none⟩ = some (.int .i64 q10) ∧ w'.cell? ⟨w.heap.size + 1, 10, none⟩ = some (.int .i64 q11) ∧ w'.cell? ⟨w.heap.size + 1, 11, none⟩ = some (.int .i64 q12))
      (first
        | (with_reducible exact HK.out _ (grew_drew (grew_refl _)))
        | (with_reducible exact HK.out _ (grew_drew (grew_alloc _ _ _)))
        | (with_reducible exact HK.out _ (grew_drew (grew_trans (grew_alloc _ _ _) (grew_alloc _ _ _))))
        | (with_reducible exact HK.out _ HG6.out))
      ((go_at_call 78; ((with_reducible refine CC.mono ?_); rintro e w6 ⟨v6, rfl, ho6, hg6⟩; have HO6 := Lib.hid ho6; have HG6 : Hid (Grew w2 w6) := grew_trans (grew_drew (grew_trans (grew_alloc _ _ _) (grew_alloc _ _ _))) hg6; clear ho6 hg6)))
    go_wp2
    go_ret
    exact ⟨_, rfl, HO6.out.mono (by have := HWS.out; simp; omega), grew_trans HG3.out HG6.out⟩
end Go.Proofs.Ytnbgbfbiieimgaa.NumK
namespace Go.Proofs.Ytnbgbfbiieimgaa.NumK
open Go.RowKit
set_option linter.unusedVariables false

set_option maxRecDepth 100000 in
set_option maxHeartbeats 2000000 in
theorem firstIn_any (A : Option Addr) (n c : Nat) (l : List In) (m : Int) (w : World) (h : RowE enIn w A n l) (hn : n ≤ 1000000) :
    Calls Try.prog 57 #[.slice A n c, .func (.func 48) #[] #[], .int .i64 m] w fun e w' => e = .returned (.tuple #[vIn (findL noIn in0 l m), .bool (hasL noIn l m)]) ∧ Grew w w' := by
  have HI := Lib.hid h
  have HL := Lib.hid h.len
  have HY := Lib.hid (find_yes noIn in0 l m)
  have HZ := Lib.hid (find_no noIn in0 l m)
  generalize findL noIn in0 l m = F at *
  generalize hasL noIn l m = B at *
  clear h
  dsimp only [vIn]
  go_enter Try.func57, Try.ntmps57
  go_wp2
  go_loopw [13] (fun v wr => ∃ j : Nat, v = .int .i64 j ∧ j ≤ n ∧ Hid (∀ i, i < j → noIn (l.getD i in0) ≠ m) ∧ Hid (OwnC wr w.heap.size [.int .i64 0, .int .i64 0, .int .i64 0, .int .i64 0, .int .i64 0, .int .i64 0, .int .i64 0, .int .i64 0, .int .i64 0, .int .i64 0, .int .i64 0, .int .i64 0]) ∧ Hid (Grew w wr)) (fun v _ => n - (intOf v).toNat)
  case atStart => exact ⟨0, rfl, by omega, (by intro i hi; omega), OwnC.new _ _ _ _ rfl, grew_alloc _ _ _⟩
  case round =>
    obtain ⟨j, rfl, hj, HK, HO, HG⟩ := hrel
    by_cases hlt : j < n
    · obtain ⟨b, o, rfl, hb, hc⟩ := (HI.out.keep HG.out).in hlt
      obtain ⟨a0, a1, a2, a3, a4, a5, a6, a7, a8, a9, a10, a11⟩ := hc j hlt
      clear hc hb
      have HY1 := Lib.hid (HY.out j (by rw [HL.out]; exact hlt) HK.out)
      have HK1 : Hid (noIn (l.getD j in0) ≠ m → ∀ i, i < j + 1 → noIn (l.getD i in0) ≠ m) := fun h i hi => by
        rcases Nat.lt_or_ge i j with h1 | h1
        · exact HK.out i h1
        · obtain rfl : i = j := by omega
          exact h
      have CX := fun w => instNo_any (l.getD j in0) w
      have i0 : (0 : Int) ≤ (j : Int) := by omega
      have i1 : (j : Int) < (n : Int) := by omega
      generalize noIn (l.getD j in0) = nx at *
      generalize l.getD j in0 = x at *
      obtain ⟨⟨q1, q2, q3, q4, q5, q6⟩, ⟨q7, q8, q9, q10, q11, q12⟩⟩ := x
      dsimp only at a0 a1 a2 a3 a4 a5 a6 a7 a8 a9 a10 a11 
      dsimp only [vIn] at CX
      have HO1 := Lib.hid (HO.out.keep (grew_alloc wr #[.int .i64 q1, .int .i64 q2, .int .i64 q3, .int .i64 q4, .int .i64 q5, .int .i64 q6, .int .i64 q7, .int .i64 q8, .int .i64 q9, .int .i64 q10, .int .i64 q11, .int .i64 q12] 38))
      by_cases he : nx = m
      · subst he
        obtain ⟨rfl, rfl⟩ := HY1.out rfl
        clear HY HZ HY1 HK1 HK HO
        go_wp2_with (go_at_call 48; ((with_reducible refine (CX _).mono ?_); rintro e w5 ⟨rfl, hg⟩; have x0 : w5.cell? ⟨wr.heap.size, 0, none⟩ = some (.int .i64 q1) := own_cell hg 0; have x1 : w5.cell? ⟨wr.heap.size, 1, none⟩ = some (.int .i64 q2) := own_cell hg 1; have x2 : w5.cell? ⟨wr.heap.size, 2, none⟩ = some (.int .i64 q3) := own_cell hg 2; have x3 : w5.cell? ⟨wr.heap.size, 3, none⟩ = some (.int .i64 q4) := own_cell hg 3; have x4 : w5.cell? ⟨wr.heap.size, 4, none⟩ = some (.int .i64 q5) := own_cell hg 4; have x5 : w5.cell? ⟨wr.heap.size, 5, none⟩ = some (.int .i64 q6) := own_cell hg 5; have x6 : w5.cell? ⟨wr.heap.size, 6, none⟩ = some (.int .i64 q7) := own_cell hg 6; have x7 : w5.cell? ⟨wr.heap.size, 7, none⟩ = some (.int .i64 q8) := own_cell hg 7; have x8 : w5.cell? ⟨wr.heap.size, 8, none⟩ = some (.int .i64 q9) := own_cell hg 8; have x9 : w5.cell? ⟨wr.heap.size, 9, none⟩ = some (.int .i64 q10) := own_cell hg 9; have x10 : w5.cell? ⟨wr.heap.size, 10, none⟩ = some (.int .i64 q11) := own_cell hg 10; have x11 : w5.cell? ⟨wr.heap.size, 11, none⟩ = some (.int .i64 q12) := own_cell hg 11; have HO5 := Lib.hid (HO1.out.keep hg); have r0 : w5.cell? ⟨w.heap.size, 0, none⟩ = some (.int .i64 0) := HO5.out.at 0 _ rfl; have r1 : w5.cell? ⟨w.heap.size, 1, none⟩ = some (.int .i64 0) := HO5.out.at 1 _ rfl; have r2 : w5.cell? ⟨w.heap.size, 2, none⟩ = some (.int .i64 0) := HO5.out.at 2 _ rfl; have r3 : w5.cell? ⟨w.heap.size, 3, none⟩ = some (.int .i64 0) := HO5.out.at 3 _ rfl; have r4 : w5.cell? ⟨w.heap.size, 4, none⟩ = some (.int .i64 0) := HO5.out.at 4 _ rfl; have r5 : w5.cell? ⟨w.heap.size, 5, none⟩ = some (.int .i64 0) := HO5.out.at 5 _ rfl; have r6 : w5.cell? ⟨w.heap.size, 6, none⟩ = some (.int .i64 0) := HO5.out.at 6 _ rfl; have r7 : w5.cell? ⟨w.heap.size, 7, none⟩ = some (.int .i64 0) := HO5.out.at 7 _ rfl; have r8 : w5.cell? ⟨w.heap.size, 8, none⟩ = some (.int .i64 0) := HO5.out.at 8 _ rfl; have r9 : w5.cell? ⟨w.heap.size, 9, none⟩ = some (.int .i64 0) := HO5.out.at 9 _ rfl; have r10 : w5.cell? ⟨w.heap.size, 10, none⟩ = some (.int .i64 0) := HO5.out.at 10 _ rfl; have r11 : w5.cell? ⟨w.heap.size, 11, none⟩ = some (.int .i64 0) := HO5.out.at 11 _ rfl; have f0 : w5.frozen? ⟨w.heap.size, 0, none⟩ = false := HO5.out.fr 0 (by decide); have f1 : w5.frozen? ⟨w.heap.size, 1, none⟩ = false := HO5.out.fr 1 (by decide); have f2 : w5.frozen? ⟨w.heap.size, 2, none⟩ = false := HO5.out.fr 2 (by decide); have f3 : w5.frozen? ⟨w.heap.size, 3, none⟩ = false := HO5.out.fr 3 (by decide); have f4 : w5.frozen? ⟨w.heap.size, 4, none⟩ = false := HO5.out.fr 4 (by decide); have f5 : w5.frozen? ⟨w.heap.size, 5, none⟩ = false := HO5.out.fr 5 (by decide); have f6 : w5.frozen? ⟨w.heap.size, 6, none⟩ = false := HO5.out.fr 6 (by decide); have f7 : w5.frozen? ⟨w.heap.size, 7, none⟩ = false := HO5.out.fr 7 (by decide); have f8 : w5.frozen? ⟨w.heap.size, 8, none⟩ = false := HO5.out.fr 8 (by decide); have f9 : w5.frozen? ⟨w.heap.size, 9, none⟩ = false := HO5.out.fr 9 (by decide); have f10 : w5.frozen? ⟨w.heap.size, 10, none⟩ = false := HO5.out.fr 10 (by decide); have f11 : w5.frozen? ⟨w.heap.size, 11, none⟩ = false := HO5.out.fr 11 (by decide); have HG5 := Lib.hid (grew_trans HG.out (own_back hg)); clear hg CX))
        have HP := HO5.out.all [.int .i64 q1, .int .i64 q2, .int .i64 q3, .int .i64 q4, .int .i64 q5, .int .i64 q6, .int .i64 q7, .int .i64 q8, .int .i64 q9, .int .i64 q10, .int .i64 q11, .int .i64 q12] rfl
        have HGP := grew_put w.heap.size (Nat.le_refl _) [.int .i64 q1, .int .i64 q2, .int .i64 q3, .int .i64 q4, .int .i64 q5, .int .i64 q6, .int .i64 q7, .int .i64 q8, .int .i64 q9, .int .i64 q10, .int .i64 q11, .int .i64 q12] 0 _ HG5.out
        change bodyPost _ _ _ _ _ (putC w5 w.heap.size 0 [.int .i64 q1, .int .i64 q2, .int .i64 q3, .int .i64 q4, .int .i64 q5, .int .i64 q6, .int .i64 q7, .int .i64 q8, .int .i64 q9, .int .i64 q10, .int .i64 q11, .int .i64 q12])
        generalize putC w5 w.heap.size 0 [.int .i64 q1, .int .i64 q2, .int .i64 q3, .int .i64 q4, .int .i64 q5, .int .i64 q6, .int .i64 q7, .int .i64 q8, .int .i64 q9, .int .i64 q10, .int .i64 q11, .int .i64 q12] = w9 at *
        have z0 : w9.cell? ⟨w.heap.size, 0, none⟩ = _ := HP.at 0 _ rfl; have z1 : w9.cell? ⟨w.heap.size, 1, none⟩ = _ := HP.at 1 _ rfl; have z2 : w9.cell? ⟨w.heap.size, 2, none⟩ = _ := HP.at 2 _ rfl; have z3 : w9.cell? ⟨w.heap.size, 3, none⟩ = _ := HP.at 3 _ rfl; have z4 : w9.cell? ⟨w.heap.size, 4, none⟩ = _ := HP.at 4 _ rfl; have z5 : w9.cell? ⟨w.heap.size, 5, none⟩ = _ := HP.at 5 _ rfl; have z6 : w9.cell? ⟨w.heap.size, 6, none⟩ = _ := HP.at 6 _ rfl; have z7 : w9.cell? ⟨w.heap.size, 7, none⟩ = _ := HP.at 7 _ rfl; have z8 : w9.cell? ⟨w.heap.size, 8, none⟩ = _ := HP.at 8 _ rfl; have z9 : w9.cell? ⟨w.heap.size, 9, none⟩ = _ := HP.at 9 _ rfl; have z10 : w9.cell? ⟨w.heap.size, 10, none⟩ = _ := HP.at 10 _ rfl; have z11 : w9.cell? ⟨w.heap.size, 11, none⟩ = _ := HP.at 11 _ rfl
        refine bodyPost_ret (v := .tuple #[.agg #[.int .i64 q1, .int .i64 q2, .int .i64 q3, .int .i64 q4, .int .i64 q5, .int .i64 q6, .int .i64 q7, .int .i64 q8, .int .i64 q9, .int .i64 q10, .int .i64 q11, .int .i64 q12], .bool true]) (by simp [results, Try.results57, go_sem, z0, z1, z2, z3, z4, z5, z6, z7, z8, z9, z10, z11]) rfl ?_
        exact ⟨rfl, HGP⟩
      · have he2 := he
        have HK2 := Lib.hid (HK1.out he2)
        clear HY HZ HY1 HK1 HK he2
        go_wp2_with (go_at_call 48; ((with_reducible refine (CX _).mono ?_); rintro e w5 ⟨rfl, hg⟩; have HO5 := Lib.hid (HO1.out.keep hg); have HG5 := Lib.hid (grew_trans HG.out (own_back hg)); clear hg CX))
        go_roundw
        case rel => exact ⟨j + 1, by go_num, by omega, HK2.out, HO5.out, HG5.out⟩
        case measure => simp only [intOf]; omega
    · obtain rfl : j = n := by omega
      obtain ⟨rfl, rfl⟩ := HZ.out (fun i hi => HK.out i (by rw [HL.out] at hi; exact hi))
      clear HY HZ HK
      have HO1 := Lib.hid (HO.out.keep (grew_alloc wr #[.int .i64 0, .int .i64 0, .int .i64 0, .int .i64 0, .int .i64 0, .int .i64 0, .int .i64 0, .int .i64 0, .int .i64 0, .int .i64 0, .int .i64 0, .int .i64 0] 38))
      have r0 : (wr.alloc (.cells #[.int .i64 0, .int .i64 0, .int .i64 0, .int .i64 0, .int .i64 0, .int .i64 0, .int .i64 0, .int .i64 0, .int .i64 0, .int .i64 0, .int .i64 0, .int .i64 0] 38)).cell? ⟨w.heap.size, 0, none⟩ = some (.int .i64 0) := HO1.out.at 0 _ rfl; have r1 : (wr.alloc (.cells #[.int .i64 0, .int .i64 0, .int .i64 0, .int .i64 0, .int .i64 0, .int .i64 0, .int .i64 0, .int .i64 0, .int .i64 0, .int .i64 0, .int .i64 0, .int .i64 0] 38)).cell? ⟨w.heap.size, 1, none⟩ = some (.int .i64 0) := HO1.out.at 1 _ rfl; have r2 : (wr.alloc (.cells #[.int .i64 0, .int .i64 0, .int .i64 0, .int .i64 0, .int .i64 0, .int .i64 0, .int .i64 0, .int .i64 0, .int .i64 0, .int .i64 0, .int .i64 0, .int .i64 0] 38)).cell? ⟨w.heap.size, 2, none⟩ = some (.int .i64 0) := HO1.out.at 2 _ rfl; have r3 : (wr.alloc (.cells #[.int .i64 0, .int .i64 0, .int .i64 0, .int .i64 0, .int .i64 0, .int .i64 0, .int .i64 0, .int .i64 0, .int .i64 0, .int .i64 0, .int .i64 0, .int .i64 0] 38)).cell? ⟨w.heap.size, 3, none⟩ = some (.int .i64 0) := HO1.out.at 3 _ rfl; have r4 : (wr.alloc (.cells #[.int .i64 0, .int .i64 0, .int .i64 0, .int .i64 0, .int .i64 0, .int .i64 0, .int .i64 0, .int .i64 0, .int .i64 0, .int .i64 0, .int .i64 0, .int .i64 0] 38)).cell? ⟨w.heap.size, 4, none⟩ = some (.int .i64 0) := HO1.out.at 4 _ rfl; have r5 : (wr.alloc (.cells #[.int .i64 0, .int .i64 0, .int .i64 0, .int .i64 0, .int .i64 0, .int .i64 0, .int .i64 0, .int .i64 0, .int .i64 0, .int .i64 0, .int .i64 0, .int .i64 0] 38)).cell? ⟨w.heap.size, 5, none⟩ = some (.int .i64 0) := HO1.out.at 5 _ rfl; have r6 : (wr.alloc (.cells #[.int .i64 0, .int .i64 0, .int .i64 0, .int .i64 0, .int .i64 0, .int .i64 0, .int .i64 0, .int .i64 0, .int .i64 0, .int .i64 0, .int .i64 0, .int .i64 0] 38)).cell? ⟨w.heap.size, 6, none⟩ = some (.int .i64 0) := HO1.out.at 6 _ rfl; have r7 : (wr.alloc (.cells #[.int .i64 0, .int .i64 0, .int .i64 0, .int .i64 0, .int .i64 0, .int .i64 0, .int .i64 0, .int .i64 0, .int .i64 0, .int .i64 0, .int .i64 0, .int .i64 0] 38)).cell? ⟨w.heap.size, 7, none⟩ = some (.int .i64 0) := HO1.out.at 7 _ rfl; have r8 : (wr.alloc (.cells #[.int .i64 0, .int .i64 0, .int .i64 0, .int .i64 0, .int .i64 0, .int .i64 0, .int .i64 0, .int .i64 0, .int .i64 0, .int .i64 0, .int .i64 0, .int .i64 0] 38)).cell? ⟨w.heap.size, 8, none⟩ = some (.int .i64 0) := HO1.out.at 8 _ rfl; have r9 : (wr.alloc (.cells #[.int .i64 0, .int .i64 0, .int .i64 0, .int .i64 0, .int .i64 0, .int .i64 0, .int .i64 0, .int .i64 0, .int .i64 0, .int .i64 0, .int .i64 0, .int .i64 0] 38)).cell? ⟨w.heap.size, 9, none⟩ = some (.int .i64 0) := HO1.out.at 9 _ rfl; have r10 : (wr.alloc (.cells #[.int .i64 0, .int .i64 0, .int .i64 0, .int .i64 0, .int .i64 0, .int .i64 0, .int .i64 0, .int .i64 0, .int .i64 0, .int .i64 0, .int .i64 0, .int .i64 0] 38)).cell? ⟨w.heap.size, 10, none⟩ = some (.int .i64 0) := HO1.out.at 10 _ rfl; have r11 : (wr.alloc (.cells #[.int .i64 0, .int .i64 0, .int .i64 0, .int .i64 0, .int .i64 0, .int .i64 0, .int .i64 0, .int .i64 0, .int .i64 0, .int .i64 0, .int .i64 0, .int .i64 0] 38)).cell? ⟨w.heap.size, 11, none⟩ = some (.int .i64 0) := HO1.out.at 11 _ rfl
      have f0 : (wr.alloc (.cells #[.int .i64 0, .int .i64 0, .int .i64 0, .int .i64 0, .int .i64 0, .int .i64 0, .int .i64 0, .int .i64 0, .int .i64 0, .int .i64 0, .int .i64 0, .int .i64 0] 38)).frozen? ⟨w.heap.size, 0, none⟩ = false := HO1.out.fr 0 (by decide); have f1 : (wr.alloc (.cells #[.int .i64 0, .int .i64 0, .int .i64 0, .int .i64 0, .int .i64 0, .int .i64 0, .int .i64 0, .int .i64 0, .int .i64 0, .int .i64 0, .int .i64 0, .int .i64 0] 38)).frozen? ⟨w.heap.size, 1, none⟩ = false := HO1.out.fr 1 (by decide); have f2 : (wr.alloc (.cells #[.int .i64 0, .int .i64 0, .int .i64 0, .int .i64 0, .int .i64 0, .int .i64 0, .int .i64 0, .int .i64 0, .int .i64 0, .int .i64 0, .int .i64 0, .int .i64 0] 38)).frozen? ⟨w.heap.size, 2, none⟩ = false := HO1.out.fr 2 (by decide); have f3 : (wr.alloc (.cells #[.int .i64 0, .int .i64 0, .int .i64 0, .int .i64 0, .int .i64 0, .int .i64 0, .int .i64 0, .int .i64 0, .int .i64 0, .int .i64 0, .int .i64 0, .int .i64 0] 38)).frozen? ⟨w.heap.size, 3, none⟩ = false := HO1.out.fr 3 (by decide); have f4 : (wr.alloc (.cells #[.int .i64 0, .int .i64 0, .int .i64 0, .int .i64 0, .int .i64 0, .int .i64 0, .int .i64 0, .int .i64 0, .int .i64 0, .int .i64 0, .int .i64 0, .int .i64 0] 38)).frozen? ⟨w.heap.size, 4, none⟩ = false := HO1.out.fr 4 (by decide); have f5 : (wr.alloc (.cells #[.int .i64 0, .int .i64 0, .int .i64 0, .int .i64 0, .int .i64 0, .int .i64 0, .int .i64 0, .int .i64 0, .int .i64 0, .int .i64 0, .int .i64 0, .int .i64 0] 38)).frozen? ⟨w.heap.size, 5, none⟩ = false := HO1.out.fr 5 (by decide); have f6 : (wr.alloc (.cells #[.int .i64 0, .int .i64 0, .int .i64 0, .int .i64 0, .int .i64 0, .int .i64 0, .int .i64 0, .int .i64 0, .int .i64 0, .int .i64 0, .int .i64 0, .int .i64 0] 38)).frozen? ⟨w.heap.size, 6, none⟩ = false := HO1.out.fr 6 (by decide); have f7 : (wr.alloc (.cells #[.int .i64 0, .int .i64 0, .int .i64 0, .int .i64 0, .int .i64 0, .int .i64 0, .int .i64 0, .int .i64 0, .int .i64 0, .int .i64 0, .int .i64 0, .int .i64 0] 38)).frozen? ⟨w.heap.size, 7, none⟩ = false := HO1.out.fr 7 (by decide); have f8 : (wr.alloc (.cells #[.int .i64 0, .int .i64 0, .int .i64 0, .int .i64 0, .int .i64 0, .int .i64 0, .int .i64 0, .int .i64 0, .int .i64 0, .int .i64 0, .int .i64 0, .int .i64 0] 38)).frozen? ⟨w.heap.size, 8, none⟩ = false := HO1.out.fr 8 (by decide); have f9 : (wr.alloc (.cells #[.int .i64 0, .int .i64 0, .int .i64 0, .int .i64 0, .int .i64 0, .int .i64 0, .int .i64 0, .int .i64 0, .int .i64 0, .int .i64 0, .int .i64 0, .int .i64 0] 38)).frozen? ⟨w.heap.size, 9, none⟩ = false := HO1.out.fr 9 (by decide); have f10 : (wr.alloc (.cells #[.int .i64 0, .int .i64 0, .int .i64 0, .int .i64 0, .int .i64 0, .int .i64 0, .int .i64 0, .int .i64 0, .int .i64 0, .int .i64 0, .int .i64 0, .int .i64 0] 38)).frozen? ⟨w.heap.size, 10, none⟩ = false := HO1.out.fr 10 (by decide); have f11 : (wr.alloc (.cells #[.int .i64 0, .int .i64 0, .int .i64 0, .int .i64 0, .int .i64 0, .int .i64 0, .int .i64 0, .int .i64 0, .int .i64 0, .int .i64 0, .int .i64 0, .int .i64 0] 38)).frozen? ⟨w.heap.size, 11, none⟩ = false := HO1.out.fr 11 (by decide)
      go_wp2
      have HG1 := Lib.hid (grew_trans HG.out (grew_alloc wr #[.int .i64 0, .int .i64 0, .int .i64 0, .int .i64 0, .int .i64 0, .int .i64 0, .int .i64 0, .int .i64 0, .int .i64 0, .int .i64 0, .int .i64 0, .int .i64 0] 38))
      have HP := HO1.out.all [.int .i64 0, .int .i64 0, .int .i64 0, .int .i64 0, .int .i64 0, .int .i64 0, .int .i64 0, .int .i64 0, .int .i64 0, .int .i64 0, .int .i64 0, .int .i64 0] rfl
      have HGP := grew_put w.heap.size (Nat.le_refl _) [.int .i64 0, .int .i64 0, .int .i64 0, .int .i64 0, .int .i64 0, .int .i64 0, .int .i64 0, .int .i64 0, .int .i64 0, .int .i64 0, .int .i64 0, .int .i64 0] 0 _ HG1.out
      change bodyPost _ _ _ _ _ (putC (wr.alloc (.cells #[.int .i64 0, .int .i64 0, .int .i64 0, .int .i64 0, .int .i64 0, .int .i64 0, .int .i64 0, .int .i64 0, .int .i64 0, .int .i64 0, .int .i64 0, .int .i64 0] 38)) w.heap.size 0 [.int .i64 0, .int .i64 0, .int .i64 0, .int .i64 0, .int .i64 0, .int .i64 0, .int .i64 0, .int .i64 0, .int .i64 0, .int .i64 0, .int .i64 0, .int .i64 0])
      generalize putC (wr.alloc (.cells #[.int .i64 0, .int .i64 0, .int .i64 0, .int .i64 0, .int .i64 0, .int .i64 0, .int .i64 0, .int .i64 0, .int .i64 0, .int .i64 0, .int .i64 0, .int .i64 0] 38)) w.heap.size 0 [.int .i64 0, .int .i64 0, .int .i64 0, .int .i64 0, .int .i64 0, .int .i64 0, .int .i64 0, .int .i64 0, .int .i64 0, .int .i64 0, .int .i64 0, .int .i64 0] = w9 at *
      have z0 : w9.cell? ⟨w.heap.size, 0, none⟩ = _ := HP.at 0 _ rfl; have z1 : w9.cell? ⟨w.heap.size, 1, none⟩ = _ := HP.at 1 _ rfl; have z2 : w9.cell? ⟨w.heap.size, 2, none⟩ = _ := HP.at 2 _ rfl; have z3 : w9.cell? ⟨w.heap.size, 3, none⟩ = _ := HP.at 3 _ rfl; have z4 : w9.cell? ⟨w.heap.size, 4, none⟩ = _ := HP.at 4 _ rfl; have z5 : w9.cell? ⟨w.heap.size, 5, none⟩ = _ := HP.at 5 _ rfl; have z6 : w9.cell? ⟨w.heap.size, 6, none⟩ = _ := HP.at 6 _ rfl; have z7 : w9.cell? ⟨w.heap.size, 7, none⟩ = _ := HP.at 7 _ rfl; have z8 : w9.cell? ⟨w.heap.size, 8, none⟩ = _ := HP.at 8 _ rfl; have z9 : w9.cell? ⟨w.heap.size, 9, none⟩ = _ := HP.at 9 _ rfl; have z10 : w9.cell? ⟨w.heap.size, 10, none⟩ = _ := HP.at 10 _ rfl; have z11 : w9.cell? ⟨w.heap.size, 11, none⟩ = _ := HP.at 11 _ rfl
      refine bodyPost_ret (v := .tuple #[.agg #[.int .i64 0, .int .i64 0, .int .i64 0, .int .i64 0, .int .i64 0, .int .i64 0, .int .i64 0, .int .i64 0, .int .i64 0, .int .i64 0, .int .i64 0, .int .i64 0], .bool false]) (by simp [results, Try.results57, go_sem, z0, z1, z2, z3, z4, z5, z6, z7, z8, z9, z10, z11]) rfl ?_
      exact ⟨rfl, HGP⟩
end Go.Proofs.Ytnbgbfbiieimgaa.NumK
namespace Go.Proofs.Ytnbgbfbiieimgaa.NumK
open Go.RowKit
set_option linter.unusedVariables false

set_option maxRecDepth 100000 in
set_option maxHeartbeats 2000000 in
theorem rfindIn_any (A1 A2 A3 : Option Addr) (n1 n2 n3 c1 c2 c3 : Nat) (l : List In) (m : Int) (w : World) (h : RowE enIn w A2 n2 l) (hn : n2 ≤ 1000000) :
    Calls Try.prog 16 #[.agg #[.slice A1 n1 c1, .slice A2 n2 c2, .slice A3 n3 c3], .int .i64 m] w fun e w' => e = .returned (.tuple #[vIn (findL noIn in0 l m), .bool (hasL noIn l m)]) ∧ Grew w w' := by
  have HI := Lib.hid h
  have HL := Lib.hid h.len
  have HY := Lib.hid (find_yes noIn in0 l m)
  have HZ := Lib.hid (find_no noIn in0 l m)
  generalize findL noIn in0 l m = F at *
  generalize hasL noIn l m = B at *
  clear h
  dsimp only [vIn]
  go_enter Try.func16, Try.ntmps16
  go_wp2
  have HG0 : Hid (Grew w ((w.alloc (.cells #[.slice A1 n1 c1, .slice A2 n2 c2, .slice A3 n3 c3] 26)).alloc (.cells #[.int .i64 0, .int .i64 0, .int .i64 0, .int .i64 0, .int .i64 0, .int .i64 0, .int .i64 0, .int .i64 0, .int .i64 0, .int .i64 0, .int .i64 0, .int .i64 0] 38))) := grew_trans (grew_alloc _ _ _) (grew_alloc _ _ _)
  have HX0 : Hid (OwnC ((w.alloc (.cells #[.slice A1 n1 c1, .slice A2 n2 c2, .slice A3 n3 c3] 26)).alloc (.cells #[.int .i64 0, .int .i64 0, .int .i64 0, .int .i64 0, .int .i64 0, .int .i64 0, .int .i64 0, .int .i64 0, .int .i64 0, .int .i64 0, .int .i64 0, .int .i64 0] 38)) w.heap.size [.slice A1 n1 c1, .slice A2 n2 c2, .slice A3 n3 c3]) := (OwnC.new w _ _ _ rfl).keep (grew_alloc _ _ _)
  have HO0 : Hid (OwnC ((w.alloc (.cells #[.slice A1 n1 c1, .slice A2 n2 c2, .slice A3 n3 c3] 26)).alloc (.cells #[.int .i64 0, .int .i64 0, .int .i64 0, .int .i64 0, .int .i64 0, .int .i64 0, .int .i64 0, .int .i64 0, .int .i64 0, .int .i64 0, .int .i64 0, .int .i64 0] 38)) (w.heap.size + 1) [.int .i64 0, .int .i64 0, .int .i64 0, .int .i64 0, .int .i64 0, .int .i64 0, .int .i64 0, .int .i64 0, .int .i64 0, .int .i64 0, .int .i64 0, .int .i64 0]) := OwnC.new _ _ _ _ (by simp)
  generalize (w.alloc (.cells #[.slice A1 n1 c1, .slice A2 n2 c2, .slice A3 n3 c3] 26)).alloc (.cells #[.int .i64 0, .int .i64 0, .int .i64 0, .int .i64 0, .int .i64 0, .int .i64 0, .int .i64 0, .int .i64 0, .int .i64 0, .int .i64 0, .int .i64 0, .int .i64 0] 38) = w0 at *
  go_loopw [6] (fun v wr => ∃ j : Nat, v = .int .i64 j ∧ j ≤ n2 ∧ Hid (∀ i, i < j → noIn (l.getD i in0) ≠ m) ∧ Hid (Grew w0 wr)) (fun v _ => n2 - (intOf v).toNat)
  case atStart => exact ⟨0, rfl, by omega, (by intro i hi; omega), grew_refl _⟩
  case round =>
    obtain ⟨j, rfl, hj, HK, HG1⟩ := hrel
    have HG := Lib.hid (grew_trans HG0.out HG1.out)
    have HO := Lib.hid (HO0.out.keep HG1.out)
    have px : wr.cell? ⟨w.heap.size, 1, none⟩ = some (.slice A2 n2 c2) := (HX0.out.keep HG1.out).at 1 _ rfl
    by_cases hlt : j < n2
    · obtain ⟨b, o, rfl, hb, hc⟩ := (HI.out.keep HG.out).in hlt
      obtain ⟨a0, a1, a2, a3, a4, a5, a6, a7, a8, a9, a10, a11⟩ := hc j hlt
      clear hc hb
      have HY1 := Lib.hid (HY.out j (by rw [HL.out]; exact hlt) HK.out)
      have HK1 : Hid (noIn (l.getD j in0) ≠ m → ∀ i, i < j + 1 → noIn (l.getD i in0) ≠ m) := fun h i hi => by
        rcases Nat.lt_or_ge i j with h1 | h1
        · exact HK.out i h1
        · obtain rfl : i = j := by omega
          exact h
      have HNX : Hid (noIn (l.getD j in0) = (l.getD j in0).1.1) := rfl
      have i0 : (0 : Int) ≤ (j : Int) := by omega
      have i1 : (j : Int) < (n2 : Int) := by omega
      generalize noIn (l.getD j in0) = nx at *
      generalize l.getD j in0 = x at *
      obtain ⟨⟨q1, q2, q3, q4, q5, q6⟩, ⟨q7, q8, q9, q10, q11, q12⟩⟩ := x
      dsimp only at a0 a1 a2 a3 a4 a5 a6 a7 a8 a9 a10 a11  HNX
      have he1 := HNX.out.symm
      subst he1
      by_cases he : q1 = m
      · subst he
        obtain ⟨rfl, rfl⟩ := HY1.out rfl
        clear HY HZ HY1 HK1 HK
        have r0 : wr.cell? ⟨w.heap.size + 1, 0, none⟩ = some (.int .i64 0) := HO.out.at 0 _ rfl; have r1 : wr.cell? ⟨w.heap.size + 1, 1, none⟩ = some (.int .i64 0) := HO.out.at 1 _ rfl; have r2 : wr.cell? ⟨w.heap.size + 1, 2, none⟩ = some (.int .i64 0) := HO.out.at 2 _ rfl; have r3 : wr.cell? ⟨w.heap.size + 1, 3, none⟩ = some (.int .i64 0) := HO.out.at 3 _ rfl; have r4 : wr.cell? ⟨w.heap.size + 1, 4, none⟩ = some (.int .i64 0) := HO.out.at 4 _ rfl; have r5 : wr.cell? ⟨w.heap.size + 1, 5, none⟩ = some (.int .i64 0) := HO.out.at 5 _ rfl; have r6 : wr.cell? ⟨w.heap.size + 1, 6, none⟩ = some (.int .i64 0) := HO.out.at 6 _ rfl; have r7 : wr.cell? ⟨w.heap.size + 1, 7, none⟩ = some (.int .i64 0) := HO.out.at 7 _ rfl; have r8 : wr.cell? ⟨w.heap.size + 1, 8, none⟩ = some (.int .i64 0) := HO.out.at 8 _ rfl; have r9 : wr.cell? ⟨w.heap.size + 1, 9, none⟩ = some (.int .i64 0) := HO.out.at 9 _ rfl; have r10 : wr.cell? ⟨w.heap.size + 1, 10, none⟩ = some (.int .i64 0) := HO.out.at 10 _ rfl; have r11 : wr.cell? ⟨w.heap.size + 1, 11, none⟩ = some (.int .i64 0) := HO.out.at 11 _ rfl
        have f0 : wr.frozen? ⟨w.heap.size + 1, 0, none⟩ = false := HO.out.fr 0 (by decide); have f1 : wr.frozen? ⟨w.heap.size + 1, 1, none⟩ = false := HO.out.fr 1 (by decide); have f2 : wr.frozen? ⟨w.heap.size + 1, 2, none⟩ = false := HO.out.fr 2 (by decide); have f3 : wr.frozen? ⟨w.heap.size + 1, 3, none⟩ = false := HO.out.fr 3 (by decide); have f4 : wr.frozen? ⟨w.heap.size + 1, 4, none⟩ = false := HO.out.fr 4 (by decide); have f5 : wr.frozen? ⟨w.heap.size + 1, 5, none⟩ = false := HO.out.fr 5 (by decide); have f6 : wr.frozen? ⟨w.heap.size + 1, 6, none⟩ = false := HO.out.fr 6 (by decide); have f7 : wr.frozen? ⟨w.heap.size + 1, 7, none⟩ = false := HO.out.fr 7 (by decide); have f8 : wr.frozen? ⟨w.heap.size + 1, 8, none⟩ = false := HO.out.fr 8 (by decide); have f9 : wr.frozen? ⟨w.heap.size + 1, 9, none⟩ = false := HO.out.fr 9 (by decide); have f10 : wr.frozen? ⟨w.heap.size + 1, 10, none⟩ = false := HO.out.fr 10 (by decide); have f11 : wr.frozen? ⟨w.heap.size + 1, 11, none⟩ = false := HO.out.fr 11 (by decide)
        go_wp2
        have HP := HO.out.all [.int .i64 q1, .int .i64 q2, .int .i64 q3, .int .i64 q4, .int .i64 q5, .int .i64 q6, .int .i64 q7, .int .i64 q8, .int .i64 q9, .int .i64 q10, .int .i64 q11, .int .i64 q12] rfl
        have HGP := grew_put (w.heap.size + 1) (Nat.le_succ _) [.int .i64 q1, .int .i64 q2, .int .i64 q3, .int .i64 q4, .int .i64 q5, .int .i64 q6, .int .i64 q7, .int .i64 q8, .int .i64 q9, .int .i64 q10, .int .i64 q11, .int .i64 q12] 0 _ HG.out
        change bodyPost _ _ _ _ _ (putC wr (w.heap.size + 1) 0 [.int .i64 q1, .int .i64 q2, .int .i64 q3, .int .i64 q4, .int .i64 q5, .int .i64 q6, .int .i64 q7, .int .i64 q8, .int .i64 q9, .int .i64 q10, .int .i64 q11, .int .i64 q12])
        generalize putC wr (w.heap.size + 1) 0 [.int .i64 q1, .int .i64 q2, .int .i64 q3, .int .i64 q4, .int .i64 q5, .int .i64 q6, .int .i64 q7, .int .i64 q8, .int .i64 q9, .int .i64 q10, .int .i64 q11, .int .i64 q12] = w9 at *
        have z0 : w9.cell? ⟨w.heap.size + 1, 0, none⟩ = _ := HP.at 0 _ rfl; have z1 : w9.cell? ⟨w.heap.size + 1, 1, none⟩ = _ := HP.at 1 _ rfl; have z2 : w9.cell? ⟨w.heap.size + 1, 2, none⟩ = _ := HP.at 2 _ rfl; have z3 : w9.cell? ⟨w.heap.size + 1, 3, none⟩ = _ := HP.at 3 _ rfl; have z4 : w9.cell? ⟨w.heap.size + 1, 4, none⟩ = _ := HP.at 4 _ rfl; have z5 : w9.cell? ⟨w.heap.size + 1, 5, none⟩ = _ := HP.at 5 _ rfl; have z6 : w9.cell? ⟨w.heap.size + 1, 6, none⟩ = _ := HP.at 6 _ rfl; have z7 : w9.cell? ⟨w.heap.size + 1, 7, none⟩ = _ := HP.at 7 _ rfl; have z8 : w9.cell? ⟨w.heap.size + 1, 8, none⟩ = _ := HP.at 8 _ rfl; have z9 : w9.cell? ⟨w.heap.size + 1, 9, none⟩ = _ := HP.at 9 _ rfl; have z10 : w9.cell? ⟨w.heap.size + 1, 10, none⟩ = _ := HP.at 10 _ rfl; have z11 : w9.cell? ⟨w.heap.size + 1, 11, none⟩ = _ := HP.at 11 _ rfl
        refine bodyPost_ret (v := .tuple #[.agg #[.int .i64 q1, .int .i64 q2, .int .i64 q3, .int .i64 q4, .int .i64 q5, .int .i64 q6, .int .i64 q7, .int .i64 q8, .int .i64 q9, .int .i64 q10, .int .i64 q11, .int .i64 q12], .bool true]) (by simp [results, Try.results16, go_sem, z0, z1, z2, z3, z4, z5, z6, z7, z8, z9, z10, z11]) rfl ?_
        exact ⟨rfl, HGP⟩
      · have he2 := he
        have HK2 := Lib.hid (HK1.out he2)
        clear HY HZ HY1 HK1 HK he2
        go_wp2
        go_roundw
        case rel => exact ⟨j + 1, by go_num, by omega, HK2.out, HG1.out⟩
        case measure => simp only [intOf]; omega
    · obtain rfl : j = n2 := by omega
      obtain ⟨rfl, rfl⟩ := HZ.out (fun i hi => HK.out i (by rw [HL.out] at hi; exact hi))
      clear HY HZ HK
      have r0 : wr.cell? ⟨w.heap.size + 1, 0, none⟩ = some (.int .i64 0) := HO.out.at 0 _ rfl; have r1 : wr.cell? ⟨w.heap.size + 1, 1, none⟩ = some (.int .i64 0) := HO.out.at 1 _ rfl; have r2 : wr.cell? ⟨w.heap.size + 1, 2, none⟩ = some (.int .i64 0) := HO.out.at 2 _ rfl; have r3 : wr.cell? ⟨w.heap.size + 1, 3, none⟩ = some (.int .i64 0) := HO.out.at 3 _ rfl; have r4 : wr.cell? ⟨w.heap.size + 1, 4, none⟩ = some (.int .i64 0) := HO.out.at 4 _ rfl; have r5 : wr.cell? ⟨w.heap.size + 1, 5, none⟩ = some (.int .i64 0) := HO.out.at 5 _ rfl; have r6 : wr.cell? ⟨w.heap.size + 1, 6, none⟩ = some (.int .i64 0) := HO.out.at 6 _ rfl; have r7 : wr.cell? ⟨w.heap.size + 1, 7, none⟩ = some (.int .i64 0) := HO.out.at 7 _ rfl; have r8 : wr.cell? ⟨w.heap.size + 1, 8, none⟩ = some (.int .i64 0) := HO.out.at 8 _ rfl; have r9 : wr.cell? ⟨w.heap.size + 1, 9, none⟩ = some (.int .i64 0) := HO.out.at 9 _ rfl; have r10 : wr.cell? ⟨w.heap.size + 1, 10, none⟩ = some (.int .i64 0) := HO.out.at 10 _ rfl; have r11 : wr.cell? ⟨w.heap.size + 1, 11, none⟩ = some (.int .i64 0) := HO.out.at 11 _ rfl
      have f0 : wr.frozen? ⟨w.heap.size + 1, 0, none⟩ = false := HO.out.fr 0 (by decide); have f1 : wr.frozen? ⟨w.heap.size + 1, 1, none⟩ = false := HO.out.fr 1 (by decide); have f2 : wr.frozen? ⟨w.heap.size + 1, 2, none⟩ = false := HO.out.fr 2 (by decide); have f3 : wr.frozen? ⟨w.heap.size + 1, 3, none⟩ = false := HO.out.fr 3 (by decide); have f4 : wr.frozen? ⟨w.heap.size + 1, 4, none⟩ = false := HO.out.fr 4 (by decide); have f5 : wr.frozen? ⟨w.heap.size + 1, 5, none⟩ = false := HO.out.fr 5 (by decide); have f6 : wr.frozen? ⟨w.heap.size + 1, 6, none⟩ = false := HO.out.fr 6 (by decide); have f7 : wr.frozen? ⟨w.heap.size + 1, 7, none⟩ = false := HO.out.fr 7 (by decide); have f8 : wr.frozen? ⟨w.heap.size + 1, 8, none⟩ = false := HO.out.fr 8 (by decide); have f9 : wr.frozen? ⟨w.heap.size + 1, 9, none⟩ = false := HO.out.fr 9 (by decide); have f10 : wr.frozen? ⟨w.heap.size + 1, 10, none⟩ = false := HO.out.fr 10 (by decide); have f11 : wr.frozen? ⟨w.heap.size + 1, 11, none⟩ = false := HO.out.fr 11 (by decide)
      go_wp2
      have HP := HO.out.all [.int .i64 0, .int .i64 0, .int .i64 0, .int .i64 0, .int .i64 0, .int .i64 0, .int .i64 0, .int .i64 0, .int .i64 0, .int .i64 0, .int .i64 0, .int .i64 0] rfl
      have HGP := grew_put (w.heap.size + 1) (Nat.le_succ _) [.int .i64 0, .int .i64 0, .int .i64 0, .int .i64 0, .int .i64 0, .int .i64 0, .int .i64 0, .int .i64 0, .int .i64 0, .int .i64 0, .int .i64 0, .int .i64 0] 0 _ HG.out
      change bodyPost _ _ _ _ _ (putC wr (w.heap.size + 1) 0 [.int .i64 0, .int .i64 0, .int .i64 0, .int .i64 0, .int .i64 0, .int .i64 0, .int .i64 0, .int .i64 0, .int .i64 0, .int .i64 0, .int .i64 0, .int .i64 0])
      generalize putC wr (w.heap.size + 1) 0 [.int .i64 0, .int .i64 0, .int .i64 0, .int .i64 0, .int .i64 0, .int .i64 0, .int .i64 0, .int .i64 0, .int .i64 0, .int .i64 0, .int .i64 0, .int .i64 0] = w9 at *
      have z0 : w9.cell? ⟨w.heap.size + 1, 0, none⟩ = _ := HP.at 0 _ rfl; have z1 : w9.cell? ⟨w.heap.size + 1, 1, none⟩ = _ := HP.at 1 _ rfl; have z2 : w9.cell? ⟨w.heap.size + 1, 2, none⟩ = _ := HP.at 2 _ rfl; have z3 : w9.cell? ⟨w.heap.size + 1, 3, none⟩ = _ := HP.at 3 _ rfl; have z4 : w9.cell? ⟨w.heap.size + 1, 4, none⟩ = _ := HP.at 4 _ rfl; have z5 : w9.cell? ⟨w.heap.size + 1, 5, none⟩ = _ := HP.at 5 _ rfl; have z6 : w9.cell? ⟨w.heap.size + 1, 6, none⟩ = _ := HP.at 6 _ rfl; have z7 : w9.cell? ⟨w.heap.size + 1, 7, none⟩ = _ := HP.at 7 _ rfl; have z8 : w9.cell? ⟨w.heap.size + 1, 8, none⟩ = _ := HP.at 8 _ rfl; have z9 : w9.cell? ⟨w.heap.size + 1, 9, none⟩ = _ := HP.at 9 _ rfl; have z10 : w9.cell? ⟨w.heap.size + 1, 10, none⟩ = _ := HP.at 10 _ rfl; have z11 : w9.cell? ⟨w.heap.size + 1, 11, none⟩ = _ := HP.at 11 _ rfl
      refine bodyPost_ret (v := .tuple #[.agg #[.int .i64 0, .int .i64 0, .int .i64 0, .int .i64 0, .int .i64 0, .int .i64 0, .int .i64 0, .int .i64 0, .int .i64 0, .int .i64 0, .int .i64 0, .int .i64 0], .bool false]) (by simp [results, Try.results16, go_sem, z0, z1, z2, z3, z4, z5, z6, z7, z8, z9, z10, z11]) rfl ?_
      exact ⟨rfl, HGP⟩

set_option maxRecDepth 100000 in
theorem pfindIn_any (A1 A2 A3 : Option Addr) (n1 n2 n3 c1 c2 c3 : Nat) (l : List In) (m : Int) (w : World) (h : RowE enIn w A2 n2 l) (_hn : n2 ≤ 1000000)
    (hC : ∀ w, RowE enIn w A2 n2 l → Calls Try.prog 57 #[.slice A2 n2 c2, .func (.func 48) #[] #[], .int .i64 m] w fun e w' => e = .returned (.tuple #[vIn (findL noIn in0 l m), .bool (hasL noIn l m)]) ∧ Grew w w') :
    Calls Try.prog 15 #[.agg #[.slice A1 n1 c1, .slice A2 n2 c2, .slice A3 n3 c3], .int .i64 m] w fun e w' => e = .returned (.tuple #[vIn (findL noIn in0 l m), .bool (hasL noIn l m)]) ∧ Grew w w' := by
  have HI := Lib.hid h
  have CF := fun w' (g : Grew w w') => hC w' (h.keep g)
  generalize findL noIn in0 l m = F at *
  generalize hasL noIn l m = B at *
  clear h
  obtain ⟨⟨q1, q2, q3, q4, q5, q6⟩, ⟨q7, q8, q9, q10, q11, q12⟩⟩ := F
  dsimp only [vIn] at CF ⊢
  have HO : Hid (OwnC ((w.alloc (.cells #[.slice A1 n1 c1, .slice A2 n2 c2, .slice A3 n3 c3] 26)).alloc (.cells #[.int .i64 0, .int .i64 0, .int .i64 0, .int .i64 0, .int .i64 0, .int .i64 0, .int .i64 0, .int .i64 0, .int .i64 0, .int .i64 0, .int .i64 0, .int .i64 0] 38)) (w.heap.size + 1) [.int .i64 0, .int .i64 0, .int .i64 0, .int .i64 0, .int .i64 0, .int .i64 0, .int .i64 0, .int .i64 0, .int .i64 0, .int .i64 0, .int .i64 0, .int .i64 0]) := OwnC.new _ _ _ _ (by simp)
  go_enter Try.func15, Try.ntmps15
  go_wp2_with (go_at_call 57; ((with_reducible refine (CF _ (grew_trans (grew_alloc _ _ _) (grew_alloc _ _ _))).mono ?_); rintro e w5 ⟨rfl, hg⟩; have HO5 := Lib.hid (HO.out.keep hg); have HG5 : Hid (Grew w w5) := grew_trans (grew_trans (grew_alloc _ _ _) (grew_alloc _ _ _)) hg; have r0 : w5.cell? ⟨w.heap.size + 1, 0, none⟩ = some (.int .i64 0) := HO5.out.at 0 _ rfl; have r1 : w5.cell? ⟨w.heap.size + 1, 1, none⟩ = some (.int .i64 0) := HO5.out.at 1 _ rfl; have r2 : w5.cell? ⟨w.heap.size + 1, 2, none⟩ = some (.int .i64 0) := HO5.out.at 2 _ rfl; have r3 : w5.cell? ⟨w.heap.size + 1, 3, none⟩ = some (.int .i64 0) := HO5.out.at 3 _ rfl; have r4 : w5.cell? ⟨w.heap.size + 1, 4, none⟩ = some (.int .i64 0) := HO5.out.at 4 _ rfl; have r5 : w5.cell? ⟨w.heap.size + 1, 5, none⟩ = some (.int .i64 0) := HO5.out.at 5 _ rfl; have r6 : w5.cell? ⟨w.heap.size + 1, 6, none⟩ = some (.int .i64 0) := HO5.out.at 6 _ rfl; have r7 : w5.cell? ⟨w.heap.size + 1, 7, none⟩ = some (.int .i64 0) := HO5.out.at 7 _ rfl; have r8 : w5.cell? ⟨w.heap.size + 1, 8, none⟩ = some (.int .i64 0) := HO5.out.at 8 _ rfl; have r9 : w5.cell? ⟨w.heap.size + 1, 9, none⟩ = some (.int .i64 0) := HO5.out.at 9 _ rfl; have r10 : w5.cell? ⟨w.heap.size + 1, 10, none⟩ = some (.int .i64 0) := HO5.out.at 10 _ rfl; have r11 : w5.cell? ⟨w.heap.size + 1, 11, none⟩ = some (.int .i64 0) := HO5.out.at 11 _ rfl; have f0 : w5.frozen? ⟨w.heap.size + 1, 0, none⟩ = false := HO5.out.fr 0 (by decide); have f1 : w5.frozen? ⟨w.heap.size + 1, 1, none⟩ = false := HO5.out.fr 1 (by decide); have f2 : w5.frozen? ⟨w.heap.size + 1, 2, none⟩ = false := HO5.out.fr 2 (by decide); have f3 : w5.frozen? ⟨w.heap.size + 1, 3, none⟩ = false := HO5.out.fr 3 (by decide); have f4 : w5.frozen? ⟨w.heap.size + 1, 4, none⟩ = false := HO5.out.fr 4 (by decide); have f5 : w5.frozen? ⟨w.heap.size + 1, 5, none⟩ = false := HO5.out.fr 5 (by decide); have f6 : w5.frozen? ⟨w.heap.size + 1, 6, none⟩ = false := HO5.out.fr 6 (by decide); have f7 : w5.frozen? ⟨w.heap.size + 1, 7, none⟩ = false := HO5.out.fr 7 (by decide); have f8 : w5.frozen? ⟨w.heap.size + 1, 8, none⟩ = false := HO5.out.fr 8 (by decide); have f9 : w5.frozen? ⟨w.heap.size + 1, 9, none⟩ = false := HO5.out.fr 9 (by decide); have f10 : w5.frozen? ⟨w.heap.size + 1, 10, none⟩ = false := HO5.out.fr 10 (by decide); have f11 : w5.frozen? ⟨w.heap.size + 1, 11, none⟩ = false := HO5.out.fr 11 (by decide); clear hg CF))
  have HP := HO5.out.all [.int .i64 q1, .int .i64 q2, .int .i64 q3, .int .i64 q4, .int .i64 q5, .int .i64 q6, .int .i64 q7, .int .i64 q8, .int .i64 q9, .int .i64 q10, .int .i64 q11, .int .i64 q12] rfl
  have HGP := grew_put (w.heap.size + 1) (Nat.le_succ _) [.int .i64 q1, .int .i64 q2, .int .i64 q3, .int .i64 q4, .int .i64 q5, .int .i64 q6, .int .i64 q7, .int .i64 q8, .int .i64 q9, .int .i64 q10, .int .i64 q11, .int .i64 q12] 0 _ HG5.out
  change bodyPost _ _ _ _ _ (putC w5 (w.heap.size + 1) 0 [.int .i64 q1, .int .i64 q2, .int .i64 q3, .int .i64 q4, .int .i64 q5, .int .i64 q6, .int .i64 q7, .int .i64 q8, .int .i64 q9, .int .i64 q10, .int .i64 q11, .int .i64 q12])
  generalize putC w5 (w.heap.size + 1) 0 [.int .i64 q1, .int .i64 q2, .int .i64 q3, .int .i64 q4, .int .i64 q5, .int .i64 q6, .int .i64 q7, .int .i64 q8, .int .i64 q9, .int .i64 q10, .int .i64 q11, .int .i64 q12] = w9 at *
  have z0 : w9.cell? ⟨w.heap.size + 1, 0, none⟩ = _ := HP.at 0 _ rfl; have z1 : w9.cell? ⟨w.heap.size + 1, 1, none⟩ = _ := HP.at 1 _ rfl; have z2 : w9.cell? ⟨w.heap.size + 1, 2, none⟩ = _ := HP.at 2 _ rfl; have z3 : w9.cell? ⟨w.heap.size + 1, 3, none⟩ = _ := HP.at 3 _ rfl; have z4 : w9.cell? ⟨w.heap.size + 1, 4, none⟩ = _ := HP.at 4 _ rfl; have z5 : w9.cell? ⟨w.heap.size + 1, 5, none⟩ = _ := HP.at 5 _ rfl; have z6 : w9.cell? ⟨w.heap.size + 1, 6, none⟩ = _ := HP.at 6 _ rfl; have z7 : w9.cell? ⟨w.heap.size + 1, 7, none⟩ = _ := HP.at 7 _ rfl; have z8 : w9.cell? ⟨w.heap.size + 1, 8, none⟩ = _ := HP.at 8 _ rfl; have z9 : w9.cell? ⟨w.heap.size + 1, 9, none⟩ = _ := HP.at 9 _ rfl; have z10 : w9.cell? ⟨w.heap.size + 1, 10, none⟩ = _ := HP.at 10 _ rfl; have z11 : w9.cell? ⟨w.heap.size + 1, 11, none⟩ = _ := HP.at 11 _ rfl
  refine bodyPost_ret (v := .tuple #[.agg #[.int .i64 q1, .int .i64 q2, .int .i64 q3, .int .i64 q4, .int .i64 q5, .int .i64 q6, .int .i64 q7, .int .i64 q8, .int .i64 q9, .int .i64 q10, .int .i64 q11, .int .i64 q12], .bool B]) (by simp [results, Try.results15, go_sem, z0, z1, z2, z3, z4, z5, z6, z7, z8, z9, z10, z11]) rfl ?_
  exact ⟨rfl, HGP⟩
end Go.Proofs.Ytnbgbfbiieimgaa.NumK
