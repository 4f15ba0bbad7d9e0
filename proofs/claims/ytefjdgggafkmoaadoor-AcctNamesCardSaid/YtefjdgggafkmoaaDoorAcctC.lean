/- All accounts of kinds; the program's and the reference's. -/
import Derived.Test.YtefjdgggafkmoaaDoorAcctB
import Derived.Deep.CutBlock
namespace Go.Proofs.YtefjdgggafkmoaaDoor.NumK
open Go.RowKit

def whoAcs (k m : Int) : List Ac := [(k, m, 0), (k, m, 1), (k, m, 2)]
/-- n members' accounts from the first on. -/
def whosAcs (k f : Int) (n : Nat) : List Ac := (List.range n).flatMap fun i : Nat => whoAcs k (f + i)
def kindL (k : Int) : List Ac := if ownedK k then whosAcs k 1 16 else whosAcs k 0 1
def allTo (kinds : List Int) (n : Nat) : List Ac := (List.range n).flatMap fun i : Nat => if kinds.contains ((i : Int) + 1) then kindL ((i : Int) + 1) else []
def allL (kinds : List Int) : List Ac := allTo kinds 6

theorem whosAcs_succ (k f : Int) (n : Nat) : whosAcs k f (n + 1) = whosAcs k f n ++ whoAcs k (f + n) := by
  unfold whosAcs
  rw [List.range_succ, List.flatMap_append]; simp
theorem allTo_succ (kinds : List Int) (n : Nat) : allTo kinds (n + 1) = allTo kinds n ++ (if kinds.contains ((n : Int) + 1) then kindL ((n : Int) + 1) else []) := by
  unfold allTo
  rw [List.range_succ, List.flatMap_append]; simp
theorem whosAcs_len (k f : Int) (n : Nat) : (whosAcs k f n).length = n * 3 := by
  induction n with
  | zero => rfl
  | succ n ih => rw [whosAcs_succ, List.length_append, ih]; simp [whoAcs]; omega
theorem kindL_len (k : Int) : (kindL k).length ≤ 48 := by
  unfold kindL; split <;> rw [whosAcs_len] <;> omega
theorem allTo_len (kinds : List Int) (n : Nat) : (allTo kinds n).length ≤ n * 48 := by
  induction n with
  | zero => simp [allTo]
  | succ n ih =>
    rw [allTo_succ, List.length_append]
    have := kindL_len ((n : Int) + 1)
    split
    · omega
    · simp only [List.length_nil]; omega

theorem info_ac : (Tryd.prog.info? 23).map (fun i => (i.zero, i.size, i.bytes)) = some (some (acV 0 0 0), 3, 24) := by kernel_rfl
theorem rowE_one (w : World) (k m c : Int) (t : TypeId) (N : Nat) (hN : w.heap.size = N) : RowE enAc (w.alloc (.cells #[.int .i64 k, .int .i64 m, .int .i64 c] t)) (some ⟨N, 0, none⟩) 1 [(k, m, c)] := by
  subst hN
  refine ⟨rfl, fun _ => ⟨_, _, rfl, by simp, fun j hj => ?_⟩⟩
  have : j = 0 := by simpa using hj
  subst this
  refine ⟨_, rfl, fun i hi => ?_⟩
  have hi : i < 3 := hi
  match i, hi with
  | 0, _ => simp [enAc]
  | 1, _ => simp [enAc]
  | 2, _ => simp [enAc]

theorem contains_any (A : Option Addr) (n c : Nat) (zs : List Int) (x : Int) (w : World) (h : Ints w A n zs) (hn : n ≤ 9223372036854775807) :
    Calls Tryd.prog 30 #[.slice A n c, .int .i64 x] w fun e w' => e = .returned (.bool (zs.contains x)) ∧ w = w' := by
  rcases Nat.eq_zero_or_pos n with rfl | h0
  · have hz : zs = [] := List.eq_nil_of_length_eq_zero h.1
    subst hz
    exact (Tryd.slices_Contains_int_empty A c x w).mono fun e w' h => ⟨h.1, h.2.symm⟩
  · obtain ⟨b, o, rfl, hb, hc⟩ := h.2 h0
    have hl := h.1
    refine (Tryd.slices_Contains_int b o n c zs x w (by omega) hn (fun j hj => hc j (by omega))).mono fun e w' h => ⟨?_, h.2.symm⟩
    rw [h.1, List.take_of_length_le (by omega)]

set_option maxRecDepth 100000 in
theorem appendKind_any (base : Nat) (v : Value) (l : List Ac) (k : Int) (w : World) (hO : OwnE enAc w base 23 v l) (hb : base ≤ w.heap.size) (hl : l.length ≤ 1000000) :
    Calls Tryd.prog 31 #[v, .int .i64 k] w fun e w' => ∃ v', e = .returned v' ∧ OwnE enAc w' base 23 v' (l ++ kindL k) ∧ Below base w w' := by
  have C := whos_any k
  have HK : Hid (kindL k = if ownedK k then whosAcs k 1 16 else whosAcs k 0 1) := rfl
  obtain ⟨f, n, hf, hn, hkl, hn16⟩ : ∃ (f : Int) (n : Nat), (if ownedK k then (1 : Int) else 0) = f ∧ (if ownedK k then (16 : Int) else 0) = f + n - 1 ∧ kindL k = whosAcs k f n ∧ (n ≤ 16 ∧ 0 ≤ f ∧ f ≤ 1) := by
    cases ho : ownedK k
    · exact ⟨0, 1, by simp, by simp, by rw [HK.out, ho]; simp, by omega⟩
    · exact ⟨1, 16, by simp, by simp, by rw [HK.out, ho]; simp, by omega⟩
  rw [hf, hn] at C
  obtain ⟨hn1, hn2, hn3⟩ := hn16
  have HKL := Lib.hid hkl
  have HO := Lib.hid hO
  clear HK hf hn hkl hO
  obtain ⟨g, hg⟩ : ∃ g : Int, f + n - 1 = g := ⟨_, rfl⟩
  rw [hg] at C
  have HG := Lib.hid hg
  have hg' : g ≤ 16 := by omega
  clear hg
  go_enter Tryd.func31, Tryd.ntmps31
  go_wp2_with (go_at_call 23; ((with_reducible refine (C _).mono ?_); rintro e w' ⟨rfl, rfl⟩))
  go_loopw [0, 7] (fun v0 v7 wr => ∃ (i : Nat) (m : Int), v7 = .int .i64 m ∧ Hid (m = f + i) ∧ m ≤ 17 ∧ i ≤ n ∧ Hid (OwnE enAc wr base 23 v0 (l ++ whosAcs k f i)) ∧ Hid (Below base w wr)) (fun _ v7 _ => (17 - intOf v7).toNat)
  case atStart => exact ⟨0, f, rfl, Lib.hid (by simp), by omega, by omega, by show OwnE _ _ _ _ _ _; simpa [whosAcs] using HO.out, Below.refl _ _⟩
  case round =>
    obtain ⟨i, m, rfl, HM, hm17, hi, HO1, HB1⟩ := hrel
    have m0 : (0 : Int) ≤ m := by have := HM.out; omega
    by_cases hlt : m ≤ g
    · have hi' : i < n := by have := HM.out; have := HG.out; omega
      have HWB := Lib.hid (Nat.le_trans hb HB1.out.size)
      go_wp2
      go_loopw [0, 20] (fun v0 v20 wr2 => ∃ (j : Nat), v20 = .int .i64 j ∧ j ≤ 3 ∧ Hid (OwnE enAc wr2 base 23 v0 (l ++ whosAcs k f i ++ (whoAcs k m).take j)) ∧ Hid (Below base w wr2)) (fun _ v20 _ => 3 - (intOf v20).toNat)
      case atStart => exact ⟨0, rfl, by omega, by show OwnE _ _ _ _ _ _; simpa using HO1.out, HB1.out⟩
      case round =>
        obtain ⟨j, rfl, hj, HO2, HB2⟩ := hrel
        have HBS := Lib.hid (Nat.le_trans hb HB2.out.size)
        by_cases hjl : j < 3
        · have HLL : Hid ((l ++ whosAcs k f i ++ (whoAcs k m).take j).length ≤ 1000100) := by
            show _ ≤ _
            rw [List.length_append, List.length_append, whosAcs_len, List.length_take]; omega
          have HT : Hid (l ++ whosAcs k f i ++ (whoAcs k m).take (j + 1) = l ++ whosAcs k f i ++ (whoAcs k m).take j ++ [(k, m, (j : Int))]) := by
            show _ = _
            rw [List.append_assoc _ _ [_]]
            congr 1
            match j, hjl with
            | 0, _ => rfl
            | 1, _ => rfl
            | 2, _ => rfl
          go_wp2_with (at_builtin; refine (wpList_append_E rfl _ _ 38 23 (acV 0 0 0) 24 rfl Tryd.underlying38 info_ac rfl base _ _ rfl (HO2.out.keep (grew_alloc _ _ _)) _ 1 1 [(k, m, (j : Int))] rfl (by intro h; cases h) (rowE_one _ _ _ _ _ _ (by simp)) (by have := HLL.out; unfold maxLen; omega) (by have := HLL.out; omega) (by have := HBS.out; simp; omega) ?_); intro v5 w5 hv hb5; rw [← HT.out] at hv; have HV5 := Lib.hid hv; have HB5 := Lib.hid (HB2.out.trans ((Below.mono (grew_alloc _ _ _) HBS.out).trans hb5)); clear hv hb5)
          go_roundw
          case rel => exact ⟨j + 1, by go_num, by omega, HV5, HB5⟩
          case measure => simp only [intOf]; omega
        · obtain rfl : j = 3 := by omega
          have HE : Hid (l ++ whosAcs k f (i + 1) = l ++ whosAcs k f i ++ (whoAcs k m).take 3) := by
            show _ = _
            rw [whosAcs_succ, ← HM.out, List.append_assoc]; rfl
          rw [← HE.out] at HO2
          clear HE
          go_wp2
          go_roundw
          case rel => exact ⟨i + 1, m + 1, by go_num, by have := HM.out; show _ = _; omega, by omega, by omega, HO2, HB2⟩
          case measure => simp only [intOf]; omega
    · have hi' : i = n := by have := HM.out; have := HG.out; omega
      subst hi'
      rw [← HKL.out] at HO1
      go_wp2
      go_ret
      exact ⟨_, rfl, HO1.out, HB1.out⟩

set_option maxRecDepth 100000 in
theorem all_any (A : Option Addr) (n c : Nat) (kinds : List Int) (w : World) (h : Ints w A n kinds) (hn : n ≤ 9223372036854775807) :
    Calls Tryd.prog 20 #[.slice A n c] w fun e w' => ∃ v', e = .returned v' ∧ OwnE enAc w' w.heap.size 23 v' (allL kinds) ∧ Grew w w' := by
  have HI := Lib.hid h
  clear h
  go_enter Tryd.func20, Tryd.ntmps20
  go_wp2
  go_loopw [3, 4] (fun v3 v4 wr => ∃ j : Nat, v4 = .int .i64 ((j : Int) + 1) ∧ j ≤ 6 ∧ Hid (OwnE enAc wr w.heap.size 23 v3 (allTo kinds j)) ∧ Hid (Grew w wr)) (fun _ v4 _ => 7 - (intOf v4).toNat)
  case atStart => exact ⟨0, rfl, by omega, OwnE.nil enAc _ _ _, grew_refl _⟩
  case round =>
    obtain ⟨j, rfl, hj, HO, HG⟩ := hrel
    by_cases hlt : j < 6
    · have CC := contains_any A n c kinds ((j : Int) + 1) wr (HI.out.keep HG.out) hn
      have HT : Hid (allTo kinds (j + 1) = allTo kinds j ++ (if kinds.contains ((j : Int) + 1) then kindL ((j : Int) + 1) else [])) := allTo_succ kinds j
      have HL : Hid ((allTo kinds j).length ≤ 1000000) := by show _ ≤ _; have := allTo_len kinds j; omega
      have CA := fun v (h : OwnE enAc wr w.heap.size 23 v (allTo kinds j)) => appendKind_any w.heap.size v (allTo kinds j) ((j : Int) + 1) wr h HG.out.size HL.out
      clear HL
      cases hb : kinds.contains ((j : Int) + 1)
      · rw [hb] at CC HT
        have he : allTo kinds (j + 1) = allTo kinds j := by rw [HT.out]; simp
        rw [← he] at HO
        clear HT he hb CA
        go_wp2_with (go_at_call 30; ((with_reducible refine CC.mono ?_); rintro e w' ⟨rfl, rfl⟩))
        go_roundw
        case rel => exact ⟨j + 1, by go_num, by omega, HO, HG⟩
        case measure => simp only [intOf]; omega
      · rw [hb, if_pos rfl] at HT
        rw [hb] at CC
        clear hb
        go_wp2_with (first
          | (go_at_call 30; ((with_reducible refine CC.mono ?_); rintro e w' ⟨rfl, rfl⟩))
          | (go_at_call 31; ((with_reducible refine (CA _ HO.out).mono ?_); rintro e w1 ⟨v5, rfl, hv, hb5⟩; rw [← HT.out] at hv; have HV5 := Lib.hid hv; have HG5 : Hid (Grew w w1) := Below.trans HG.out hb5; clear hv hb5)))
        go_roundw
        case rel => exact ⟨j + 1, by go_num, by omega, HV5, HG5⟩
        case measure => simp only [intOf]; omega
    · obtain rfl : j = 6 := by omega
      go_wp2
      go_ret
      exact ⟨_, rfl, HO.out, HG.out⟩

/-- An account of a row, cell by cell. -/
theorem RowE.ac {w : World} {n : Nat} {l : List Ac} {A : Option Addr} (h : RowE enAc w A n l) {j : Nat} (hj : j < n) :
    ∃ b o, A = some ⟨b, o, none⟩ ∧ b < w.heap.size ∧ w.cell? ⟨b, o + j * 3, none⟩ = some (.int .i64 (l.getD j (0, 0, 0)).1) ∧ w.cell? ⟨b, o + j * 3 + 1, none⟩ = some (.int .i64 (l.getD j (0, 0, 0)).2.1) ∧ w.cell? ⟨b, o + j * 3 + 2, none⟩ = some (.int .i64 (l.getD j (0, 0, 0)).2.2) := by
  have hl := h.len
  obtain ⟨b, o, e, hb, hc⟩ := h.at (by omega)
  have hj' : j < l.length := by omega
  have e1 : l.getD j (0, 0, 0) = l[j] := by simp [List.getD, hj']
  rw [e1]
  exact ⟨b, o, e, hb, hc j hj' 0 (by decide), hc j hj' 1 (by decide), hc j hj' 2 (by decide)⟩

theorem sameA_iff (a b : Ac) : sameA a.1 a.2.1 a.2.2 b.1 b.2.1 b.2.2 = decide (a = b) := by
  rw [Bool.eq_iff_iff]
  simp [sameA, Prod.ext_iff, and_assoc]

theorem take_snoc {α : Type} (l : List α) (k : Nat) (d : α) (h : k < l.length) : l.take (k + 1) = l.take k ++ [l.getD k d] := by
  rw [List.take_succ_eq_append_getElem h]; simp [List.getD, h]

set_option maxRecDepth 100000 in
theorem keepAccts_any (A B : Option Addr) (n m c d : Nat) (l r : List Ac) (w : World) (h : RowE enAc w A n l) (h2 : RowE enAc w B m r) (hn : n ≤ 1000000) :
    Calls Tryd.prog 21 #[.slice A n c, .slice B m d] w fun e w' => e = .returned (.bool (decide (l = r))) ∧ Grew w w' := by
  have HI := Lib.hid h
  have HJ := Lib.hid h2
  have HL := Lib.hid h.len
  have HM := Lib.hid h2.len
  clear h h2
  by_cases hnm : n = m
  · subst hnm
    go_enter Tryd.func21, Tryd.ntmps21
    go_wp2
    go_loopw [5] (fun v5 wr => ∃ j : Nat, v5 = .int .i64 j ∧ j ≤ n ∧ Hid (l.take j = r.take j) ∧ Hid (Grew w wr)) (fun v5 _ => n - (intOf v5).toNat)
    case atStart => exact ⟨0, rfl, by omega, rfl, grew_refl _⟩
    case round =>
      obtain ⟨j, rfl, hj, HE, HG⟩ := hrel
      by_cases hlt : j < n
      · obtain ⟨b, o, rfl, hb, a1, a2, a3⟩ := (HI.out.keep HG.out).ac hlt
        obtain ⟨b2, o2, rfl, hb2, a4, a5, a6⟩ := (HJ.out.keep HG.out).ac hlt
        have HT1 := Lib.hid (take_snoc l j (0, 0, 0) (by rw [HL.out]; exact hlt))
        have HT2 := Lib.hid (take_snoc r j (0, 0, 0) (by rw [HM.out]; exact hlt))
        have x1 : ∀ p : GrewTo wr, p.to.cell? ⟨b, o + j * 3, none⟩ = _ := fun p => (grew_cell p.h (p := ⟨b, o + j * 3, none⟩) hb).trans a1
        have x2 : ∀ p : GrewTo wr, p.to.cell? ⟨b, o + j * 3 + 1, none⟩ = _ := fun p => (grew_cell p.h (p := ⟨b, o + j * 3 + 1, none⟩) hb).trans a2
        have x3 : ∀ p : GrewTo wr, p.to.cell? ⟨b, o + j * 3 + 2, none⟩ = _ := fun p => (grew_cell p.h (p := ⟨b, o + j * 3 + 2, none⟩) hb).trans a3
        have y1 : ∀ p : GrewTo wr, p.to.cell? ⟨b2, o2 + j * 3, none⟩ = _ := fun p => (grew_cell p.h (p := ⟨b2, o2 + j * 3, none⟩) hb2).trans a4
        have y2 : ∀ p : GrewTo wr, p.to.cell? ⟨b2, o2 + j * 3 + 1, none⟩ = _ := fun p => (grew_cell p.h (p := ⟨b2, o2 + j * 3 + 1, none⟩) hb2).trans a5
        have y3 : ∀ p : GrewTo wr, p.to.cell? ⟨b2, o2 + j * 3 + 2, none⟩ = _ := fun p => (grew_cell p.h (p := ⟨b2, o2 + j * 3 + 2, none⟩) hb2).trans a6
        have CK := fun w => keepAcct_any (l.getD j (0, 0, 0)).1 (l.getD j (0, 0, 0)).2.1 (l.getD j (0, 0, 0)).2.2 (r.getD j (0, 0, 0)).1 (r.getD j (0, 0, 0)).2.1 (r.getD j (0, 0, 0)).2.2 w
        rw [sameA_iff] at CK
        have HEQ : Hid (decide (l.getD j (0, 0, 0) = r.getD j (0, 0, 0)) = decide (l.getD j (0, 0, 0) = r.getD j (0, 0, 0))) := rfl
        clear a1 a2 a3 a4 a5 a6
        generalize hX : l.getD j (0, 0, 0) = X at *
        generalize hY : r.getD j (0, 0, 0) = Y at *
        have i0 : (0 : Int) ≤ (j : Int) := by omega
        have i1 : (j : Int) < (n : Int) := by omega
        unfold acV at CK
        by_cases hxy : X = Y
        · rw [decide_eq_true hxy] at CK
          have HN : Hid (l.take (j + 1) = r.take (j + 1)) := by show _ = _; rw [HT1.out, HT2.out, HE.out, hxy]
          clear HT1 HT2 HEQ hxy hX hY
          generalize X.1 = q1 at *
          generalize X.2.1 = q2 at *
          generalize X.2.2 = q3 at *
          generalize Y.1 = p1 at *
          generalize Y.2.1 = p2 at *
          generalize Y.2.2 = p3 at *
          go_wp2_with fail
          refine wp_region_grew (by kernel_rfl) (by kernel_rfl) ?_
          repeat (go_big_quiet_step (with_reducible exact calls_grew (CK _)))
          refine wpQuiet_nil ?_
          intro w2 hw'
          have HG2 := Lib.hid (grew_trans HG.out (grew_of hw'))
          clear hw' x1 x2 x3 y1 y2 y3
          go_wp2
          go_roundw
          case rel => exact ⟨j + 1, by go_num, by omega, HN, HG2⟩
          case measure => simp only [intOf]; omega
        · rw [decide_eq_false hxy] at CK
          have HN : Hid (false = decide (l = r)) := by
            show _ = _
            symm; rw [decide_eq_false_iff_not]; rintro rfl; exact hxy (hX.symm.trans hY)
          clear HT1 HT2 HEQ hxy hX hY
          generalize X.1 = q1 at *
          generalize X.2.1 = q2 at *
          generalize X.2.2 = q3 at *
          generalize Y.1 = p1 at *
          generalize Y.2.1 = p2 at *
          generalize Y.2.2 = p3 at *
          go_wp2_with fail
          refine wp_region_grew (by kernel_rfl) (by kernel_rfl) ?_
          repeat (go_big_quiet_step (with_reducible exact calls_grew (CK _)))
          refine wpQuiet_nil ?_
          intro w2 hw'
          have HG2 := Lib.hid (grew_trans HG.out (grew_of hw'))
          clear hw' x1 x2 x3 y1 y2 y3
          go_wp2
          go_ret
          exact ⟨ret_b HN.out, HG2.out⟩
      · obtain rfl : j = n := by omega
        have HN : Hid (true = decide (l = r)) := by
          show _ = _
          have := HE.out
          rw [List.take_of_length_le (by rw [HL.out]; exact Nat.le_refl _), List.take_of_length_le (by rw [HM.out]; exact Nat.le_refl _)] at this
          symm; rw [decide_eq_true_iff]; exact this
        go_wp2
        go_ret
        exact ⟨ret_b HN.out, HG.out⟩
  · have d1 : ((n : Int) != (m : Int)) = true := by simp; omega
    have HN : Hid (false = decide (l = r)) := by
      show _ = _
      symm; rw [decide_eq_false_iff_not]; rintro rfl; exact hnm (HL.out.symm.trans HM.out)
    go_enter Tryd.func21, Tryd.ntmps21
    go_wp2
    go_ret
    exact ⟨ret_b HN.out, grew_refl _⟩
end Go.Proofs.YtefjdgggafkmoaaDoor.NumK
