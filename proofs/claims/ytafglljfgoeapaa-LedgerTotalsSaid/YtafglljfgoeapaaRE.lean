/- All accounts of kinds: the reference's (cut out of AcctD). -/
import Derived.Test.YtafglljfgoeapaaRD
import Derived.Test.YtafglljfgoeapaaRA2
import Derived.Test.YtafglljfgoeapaaRC
namespace Go.Proofs.Ytafglljfgoeapaa.NumK
open Go.RowKit

def rightsOf (l : List Ac) : List Ac := l.filter fun a => rightA a.1 a.2.1 a.2.2
def refWhos (k : Int) (n : Nat) : List Ac := (List.range n).flatMap fun i : Nat => rightsOf (whoAcs k i)
theorem refWhos_succ (k : Int) (n : Nat) : refWhos k (n + 1) = refWhos k n ++ rightsOf (whoAcs k n) := by
  unfold refWhos
  rw [List.range_succ, List.flatMap_append]; simp
theorem refWhos_len (k : Int) (n : Nat) : (refWhos k n).length ≤ n * 3 := by
  induction n with
  | zero => simp [refWhos]
  | succ n ih =>
    rw [refWhos_succ, List.length_append]
    have : (rightsOf (whoAcs k n)).length ≤ 3 := by unfold rightsOf; exact Nat.le_trans (List.length_filter_le _ _) (by simp [whoAcs])
    omega
theorem contains_snoc (l : List Int) (y k : Int) : (l ++ [y]).contains k = (l.contains k || decide (y = k)) := by
  rw [Bool.eq_iff_iff]
  simp only [List.contains_iff_mem, List.mem_append, List.mem_singleton, Bool.or_eq_true, decide_eq_true_eq]
  constructor
  · rintro (h | h)
    · exact Or.inl h
    · exact Or.inr h.symm
  · rintro (h | h)
    · exact Or.inl h
    · exact Or.inr h.symm
theorem refWhos_17 (j : Nat) (hj : j < 6) : refWhos ((j : Int) + 1) 17 = kindL ((j : Int) + 1) := by
  have : j = 0 ∨ j = 1 ∨ j = 2 ∨ j = 3 ∨ j = 4 ∨ j = 5 := by omega
  rcases this with rfl | rfl | rfl | rfl | rfl | rfl <;> decide +kernel

set_option maxRecDepth 100000 in
set_option maxHeartbeats 2000000 in
theorem r8all_any (A : Option Addr) (n c : Nat) (kinds : List Int) (w : World) (h : Ints w A n kinds) (hn : n ≤ 9223372036854775807) :
    Calls Try.prog 38 #[.slice A n c] w fun e w' => ∃ v', e = .returned v' ∧ OwnE enAc w' w.heap.size 27 v' (allL kinds) ∧ Grew w w' := by
  have HI := Lib.hid h
  have HLn := Lib.hid h.1
  clear h
  go_enter Try.func38, Try.ntmps38
  go_wp2
  go_loopw [3, 4] (fun v3 v4 wr => ∃ j : Nat, v4 = .int .i64 ((j : Int) + 1) ∧ j ≤ 6 ∧ Hid (OwnE enAc wr w.heap.size 27 v3 (allTo kinds j)) ∧ Hid (Grew w wr)) (fun _ v4 _ => 7 - (intOf v4).toNat)
  case atStart => exact ⟨0, rfl, by omega, OwnE.nil enAc _ _ _, grew_refl _⟩
  case round =>
    obtain ⟨j, rfl, hj, HO, HG⟩ := hrel
    by_cases hlt : j < 6
    · have HT : Hid (allTo kinds (j + 1) = allTo kinds j ++ (if kinds.contains ((j : Int) + 1) then kindL ((j : Int) + 1) else [])) := allTo_succ kinds j
      have HK17 := Lib.hid (refWhos_17 j hlt)
      have HL : Hid ((allTo kinds j).length ≤ 288) := by show _ ≤ _; have := allTo_len kinds j; omega
      have HJ := Lib.hid hj
      obtain ⟨k, hk⟩ : ∃ k : Int, k = (j : Int) + 1 := ⟨_, rfl⟩
      have HKJ := Lib.hid hk
      have k1 : 1 ≤ k ∧ k ≤ 6 := by omega
      obtain ⟨k1, k6⟩ := k1
      rw [← hk] at HT HK17 ⊢
      clear hk hj
      go_wp2
      -- is the kind one of kinds
      go_loopw [5, 6] (fun v5 v6 wx => ∃ (i : Nat) (bb : Bool), v6 = .int .i64 i ∧ i ≤ n ∧ v5 = .bool bb ∧ Hid (bb = (kinds.take i).contains k) ∧ Hid (OwnE enAc wx w.heap.size 27 u3 (allTo kinds j)) ∧ Hid (Grew w wx)) (fun _ v6 _ => n - (intOf v6).toNat)
      case atStart => exact ⟨0, false, rfl, by omega, rfl, by show _ = _; simp, HO.out, HG.out⟩
      case round =>
        obtain ⟨i, bb, rfl, hi, rfl, HB, HO, HG⟩ := hrel
        by_cases hin : i < n
        · obtain ⟨b, o, rfl, hb, hc⟩ := (HI.out.keep HG.out).2 (by omega)
          have c1 := hc i hin
          have HTS : Hid ((kinds.take (i + 1)).contains k = ((kinds.take i).contains k || decide (kinds.getD i 0 = k))) := by
            show _ = _
            rw [take_snoc kinds i 0 (by rw [HLn.out]; exact hin), contains_snoc]
          have i1 : (i : Int) < (n : Int) := by omega
          clear hc
          generalize kinds.getD i 0 = y at *
          rw [← HB.out] at HTS
          clear HB
          cases bb
          · go_wp2
            go_roundw
            case rel => exact ⟨i + 1, _, by go_num, by omega, rfl, by show _ = _; rw [HTS.out, Bool.eq_iff_iff]; simp, HO, HG⟩
            case measure => simp only [intOf]; omega
          · go_wp2
            go_roundw
            case rel => exact ⟨i + 1, _, by go_num, by omega, rfl, by show _ = _; rw [HTS.out, Bool.eq_iff_iff]; simp, HO, HG⟩
            case measure => simp only [intOf]; omega
        · obtain rfl : i = n := by omega
          have hbb : bb = kinds.contains k := by rw [HB.out, List.take_of_length_le (by rw [HLn.out]; exact Nat.le_refl _)]
          rw [← hbb] at HT
          clear hbb HB
          cases bb
          · have he : allTo kinds (j + 1) = allTo kinds j := by rw [HT.out]; simp
            rw [← he] at HO
            clear HT he
            go_wp2
            go_loopw [3, 7] (fun v3 v7 wx => v7 = .int .i64 0 ∧ Hid (OwnE enAc wx w.heap.size 27 v3 (allTo kinds (j + 1))) ∧ Hid (Grew w wx)) (fun _ _ _ => 0)
            case atStart => exact ⟨rfl, HO, HG⟩
            case round =>
              obtain ⟨rfl, HO, HG⟩ := hrel
              go_wp2
              go_roundw
              case rel => exact ⟨j + 1, by rw [HKJ.out]; go_num, by omega, HO, HG⟩
              case measure => simp only [intOf]; rw [HKJ.out]; omega
          · rw [if_pos rfl, ← HK17.out] at HT
            go_wp2
            go_loopw [3, 7] (fun v3 v7 wx => ∃ m : Nat, v7 = .int .i64 m ∧ m ≤ 17 ∧ Hid (OwnE enAc wx w.heap.size 27 v3 (allTo kinds j ++ refWhos k m)) ∧ Hid (Grew w wx)) (fun _ v7 _ => 17 - (intOf v7).toNat)
            case atStart => exact ⟨0, rfl, by omega, by show OwnE _ _ _ _ _ _; simpa [refWhos] using HO.out, HG.out⟩
            case round =>
              obtain ⟨m, rfl, hm, HO, HG⟩ := hrel
              by_cases hm17 : m < 17
              · have HMS := Lib.hid (refWhos_succ k m)
                have HML := Lib.hid (refWhos_len k m)
                go_wp2
                go_loopw [3, 8] (fun v3 v8 wx => ∃ q : Nat, v8 = .int .i64 q ∧ q ≤ 3 ∧ Hid (OwnE enAc wx w.heap.size 27 v3 (allTo kinds j ++ refWhos k m ++ rightsOf ((whoAcs k m).take q))) ∧ Hid (Grew w wx)) (fun _ v8 _ => 3 - (intOf v8).toNat)
                case atStart => exact ⟨0, rfl, by omega, by show OwnE _ _ _ _ _ _; simpa [rightsOf] using HO.out, HG⟩
                case round =>
                  obtain ⟨q, rfl, hq, HO, HG⟩ := hrel
                  by_cases hq3 : q < 3
                  · have HQ : Hid (rightsOf ((whoAcs k m).take (q + 1)) = rightsOf ((whoAcs k m).take q) ++ rightsOf [(k, (m : Int), (q : Int))]) := by
                      show _ = _
                      unfold rightsOf
                      rw [← List.filter_append]
                      congr 1
                      match q, hq3 with
                      | 0, _ => rfl
                      | 1, _ => rfl
                      | 2, _ => rfl
                    have HQL : Hid ((allTo kinds j ++ refWhos k m ++ rightsOf ((whoAcs k m).take q)).length ≤ 1000) := by
                      show _ ≤ _
                      rw [List.length_append, List.length_append]
                      have h1 := HL.out
                      have h2 := HML.out
                      have h3 : (rightsOf ((whoAcs k m).take q)).length ≤ 3 := by unfold rightsOf; exact Nat.le_trans (List.length_filter_le _ _) (by rw [List.length_take]; omega)
                      omega
                    have CR := r8right_any k m q
                    have HRS : Hid (rightsOf [(k, (m : Int), (q : Int))] = if rightA k m q then [(k, (m : Int), (q : Int))] else []) := by
                      show _ = _
                      unfold rightsOf
                      rw [List.filter_cons, List.filter_nil]
                    unfold acV at CR
                    clear HML hlt hm hin hi
                    generalize rightA k m q = rb at *
                    cases rb
                    · have he : rightsOf ((whoAcs k m).take (q + 1)) = rightsOf ((whoAcs k m).take q) := by rw [HQ.out, HRS.out]; simp
                      rw [← he] at HO
                      clear he HRS HQ HQL HMS
                      go_wp2_with (go_at_call 27; ((with_reducible refine (CR _).mono ?_); rintro e w1 ⟨rfl, hg⟩; have HG1 := Lib.hid hg; clear hg))
                      go_roundw
                      case rel => exact ⟨q + 1, by go_num, by omega, HO.out.keep (own_back HG1.out), grew_trans HG.out (own_back HG1.out)⟩
                      case measure => simp only [intOf]; omega
                    · rw [HRS.out, if_pos rfl] at HQ
                      have HT2 : Hid (allTo kinds j ++ refWhos k m ++ rightsOf ((whoAcs k m).take (q + 1)) = allTo kinds j ++ refWhos k m ++ rightsOf ((whoAcs k m).take q) ++ [(k, (m : Int), (q : Int))]) := by
                        show _ = _; rw [HQ.out, List.append_assoc _ _ [_]]
                      clear HRS HQ HMS
                      go_wp2_with (first
                        | (go_at_call 27; ((with_reducible refine (CR _).mono ?_); rintro e w1 ⟨rfl, hg⟩; have d0 : w1.cell? ⟨wr.heap.size, 0, none⟩ = some (.int .i64 k) := own_cell hg 0; have d1 : w1.cell? ⟨wr.heap.size, 1, none⟩ = some (.int .i64 m) := own_cell hg 1; have d2 : w1.cell? ⟨wr.heap.size, 2, none⟩ = some (.int .i64 q) := own_cell hg 2; have HG1 := Lib.hid (own_back hg); have HB1 := Lib.hid (Nat.le_trans HG.out.size HG1.out.size); clear hg))
                        | (at_builtin; refine (wpList_append_E rfl _ _ 72 27 (acV 0 0 0) 24 rfl Try.underlying72 info_ac rfl w.heap.size _ _ rfl ((HO.out.keep HG1.out).keep (grew_alloc _ _ _)) _ 1 1 [(k, (m : Int), (q : Int))] rfl (by intro h; cases h) (rowE_one _ _ _ _ _ _ (by simp)) (by have := HQL.out; unfold maxLen; omega) (by have := HQL.out; omega) (by have := HB1.out; simp; omega) ?_); intro v5 w5 hv hb5; rw [← HT2.out] at hv; have HV5 := Lib.hid hv; have HG5 : Hid (Grew w w5) := Below.trans (grew_trans HG.out HG1.out) ((Below.mono (grew_alloc _ _ _) HB1.out).trans hb5); clear hv hb5))
                      go_roundw
                      case rel => exact ⟨q + 1, by go_num, by omega, HV5, HG5⟩
                      case measure => simp only [intOf]; omega
                  · obtain rfl : q = 3 := by omega
                    have he : allTo kinds j ++ refWhos k (m + 1) = allTo kinds j ++ refWhos k m ++ rightsOf ((whoAcs k m).take 3) := by
                      rw [HMS.out, ← List.append_assoc]; rfl
                    rw [← he] at HO
                    clear he HMS HML
                    go_wp2
                    go_roundw
                    case rel => exact ⟨m + 1, by go_num, by omega, HO, HG⟩
                    case measure => simp only [intOf]; omega
              · obtain rfl : m = 17 := by omega
                rw [← HT.out] at HO
                clear HT
                go_wp2
                go_roundw
                case rel => exact ⟨j + 1, by rw [HKJ.out]; go_num, by omega, HO, HG⟩
                case measure => simp only [intOf]; rw [HKJ.out]; omega
    · obtain rfl : j = 6 := by omega
      go_wp2
      go_ret
      exact ⟨_, rfl, HO.out, HG.out⟩
end Go.Proofs.Ytafglljfgoeapaa.NumK
namespace Go.Proofs.Ytafglljfgoeapaa.NumK
open Go.RowKit

def floorA (k m c : Int) : Int := if rightA k m c && (decide (k = 3) || decide (k = 4)) then 0 else -4611686018427387904
def lessA (k m c k' m' c' : Int) : Bool := if k = k' then if m = m' then decide (c < c') else decide (m < m') else decide (k < k')

theorem less_any (k m c k' m' c' : Int) (w : World) : Calls Try.prog 47 #[acV k m c, acV k' m' c'] w fun e w' => e = .returned (.bool (lessA k m c k' m' c')) ∧ Grew w w' := by
  unfold acV
  go_enter Try.func47, Try.ntmps47
  go_wp2
  all_goals go_ret
  all_goals exact ⟨ret_b (by simp_all [lessA]), grew_trans (grew_alloc _ _ _) (grew_alloc _ _ _)⟩

theorem floor_any (k m c : Int) (w : World) : Calls Try.prog 46 #[acV k m c] w fun e w' => e = .returned (.int .i64 (floorA k m c)) ∧ Grew w w' := by
  have C := aright_any k m c
  have HF : Hid (floorA k m c = if rightA k m c && (decide (k = 3) || decide (k = 4)) then 0 else -4611686018427387904) := rfl
  generalize floorA k m c = F at *
  generalize rightA k m c = r at *
  unfold acV at *
  go_enter Try.func46, Try.ntmps46
  go_wp2_with (go_at_call 44; ((with_reducible refine (C _).mono ?_); rintro e w' ⟨rfl, hg⟩; have d0 : w'.cell? ⟨w.heap.size, 0, none⟩ = some (.int .i64 k) := own_cell hg 0; have HG := Lib.hid (own_back hg); clear hg))
  all_goals go_ret
  all_goals exact ⟨ret_i (by have := HF.out; simp_all), HG.out⟩

theorem refFloor_any (k m c : Int) (w : World) : Calls Try.prog 30 #[acV k m c] w fun e w' => e = .returned (.int .i64 (floorA k m c)) ∧ Grew w w' := by
  have C := r8right_any k m c
  have HF : Hid (floorA k m c = if rightA k m c && (decide (k = 3) || decide (k = 4)) then 0 else -4611686018427387904) := rfl
  generalize floorA k m c = F at *
  generalize rightA k m c = r at *
  unfold acV at *
  go_enter Try.func30, Try.ntmps30
  go_wp2_with (go_at_call 27; ((with_reducible refine (C _).mono ?_); rintro e w' ⟨rfl, hg⟩; have d0 : w'.cell? ⟨w.heap.size, 0, none⟩ = some (.int .i64 k) := own_cell hg 0; have HG := Lib.hid (own_back hg); clear hg))
  all_goals go_ret
  all_goals exact ⟨ret_i (by have := HF.out; simp_all), HG.out⟩

theorem refLess_any (k m c k' m' c' : Int) (w : World) : Calls Try.prog 31 #[acV k m c, acV k' m' c'] w fun e w' => e = .returned (.bool (lessA k m c k' m' c')) ∧ Grew w w' := by
  unfold acV
  go_enter Try.func31, Try.ntmps31
  go_wp2
  all_goals go_ret
  all_goals exact ⟨ret_b (by simp_all [lessA]), grew_trans (grew_alloc _ _ _) (grew_alloc _ _ _)⟩

end Go.Proofs.Ytafglljfgoeapaa.NumK
namespace Go.Proofs.Ytafglljfgoeapaa.NumK
open Go.RowKit

/-- The account, the amount. -/
abbrev Lg := Ac × Int
def legV (k m c n : Int) : Value := .agg #[.int .i64 k, .int .i64 m, .int .i64 c, .int .i64 n]
def enLg : En Lg := ⟨4, fun l => [.int .i64 l.1.1, .int .i64 l.1.2.1, .int .i64 l.1.2.2, .int .i64 l.2], fun _ => rfl, fun a v hv => by
  simp at hv; rcases hv with rfl | rfl | rfl | rfl <;> rfl, by decide⟩
abbrev lg0 : Lg := ((0, 0, 0), 0)
theorem info_lg : (Try.prog.info? 53).map (fun i => (i.zero, i.size, i.bytes)) = some (some (legV 0 0 0 0), 4, 32) := by kernel_rfl

/-- A leg of a row, cell by cell. -/
theorem RowE.lg {w : World} {n : Nat} {l : List Lg} {A : Option Addr} (h : RowE enLg w A n l) {j : Nat} (hj : j < n) :
    ∃ b o, A = some ⟨b, o, none⟩ ∧ b < w.heap.size ∧ w.cell? ⟨b, o + j * 4, none⟩ = some (.int .i64 (l.getD j lg0).1.1) ∧ w.cell? ⟨b, o + j * 4 + 1, none⟩ = some (.int .i64 (l.getD j lg0).1.2.1)
      ∧ w.cell? ⟨b, o + j * 4 + 2, none⟩ = some (.int .i64 (l.getD j lg0).1.2.2) ∧ w.cell? ⟨b, o + j * 4 + 3, none⟩ = some (.int .i64 (l.getD j lg0).2) := by
  have hl := h.len
  obtain ⟨b, o, e, hb, hc⟩ := h.at (by omega)
  have hj' : j < l.length := by omega
  have e1 : l.getD j lg0 = l[j] := by simp [List.getD, hj']
  rw [e1]
  exact ⟨b, o, e, hb, hc j hj' 0 (by decide), hc j hj' 1 (by decide), hc j hj' 2 (by decide), hc j hj' 3 (by decide)⟩

def okL (x : Lg) : Bool := rightA x.1.1 x.1.2.1 x.1.2.2 && isMoney x.2
def mayL (l : List Lg) : Bool := l.all okL
theorem may_no (l : List Lg) (j : Nat) (h : j < l.length) (h2 : okL (l.getD j lg0) = false) : false = mayL l := by
  symm
  unfold mayL
  rw [List.all_eq_false]
  exact ⟨l.getD j lg0, by rw [show l.getD j lg0 = l[j] by simp [List.getD, h]]; exact List.getElem_mem h, by rw [h2]; decide⟩
theorem may_succ (l : List Lg) (j : Nat) (h : j < l.length) : mayL (l.take (j + 1)) = (mayL (l.take j) && okL (l.getD j lg0)) := by
  unfold mayL
  rw [take_snoc l j lg0 h, List.all_append]; simp

theorem num1 (n : Int) (w : World) (N : Nat) (hN : w.heap.size = N) :
    Calls Try.prog 45 #[.slice (some ⟨N, 0, none⟩) 1 1] (w.alloc (.cells #[.int .i64 n] 3)) fun e w' => e = .returned (.bool (isMoney n)) ∧ (w.alloc (.cells #[.int .i64 n] 3)) = w' := by
  subst hN
  have C := right_any (some ⟨w.heap.size, 0, none⟩) 1 1 [n] _ (ints1 w n 3) (by omega)
  rwa [show [n].all isMoney = isMoney n by simp] at C

set_option maxRecDepth 100000 in
theorem legsRight_any (A : Option Addr) (n c : Nat) (l : List Lg) (w : World) (h : RowE enLg w A n l) (hn : n ≤ 9223372036854775807) :
    Calls Try.prog 49 #[.slice A n c] w fun e w' => e = .returned (.bool (mayL l)) ∧ Grew w w' := by
  have HI := Lib.hid h
  have HL := Lib.hid h.len
  clear h
  go_enter Try.func49, Try.ntmps49
  go_wp2
  go_loopw [7] (fun v7 wr => ∃ j : Nat, v7 = .int .i64 j ∧ j ≤ n ∧ Hid (mayL (l.take j) = true) ∧ Hid (Grew w wr)) (fun v7 _ => n - (intOf v7).toNat)
  case atStart => exact ⟨0, rfl, by omega, rfl, grew_refl _⟩
  case round =>
    obtain ⟨j, rfl, hj, HM, HG⟩ := hrel
    by_cases hlt : j < n
    · obtain ⟨b, o, rfl, hb, a1, a2, a3, a4⟩ := (HI.out.keep HG.out).lg hlt
      have HS := Lib.hid (may_succ l j (by rw [HL.out]; exact hlt))
      have HN : Hid (okL (l.getD j lg0) = false → false = mayL l) := may_no l j (by rw [HL.out]; exact hlt)
      have CR := fun w => aright_any (l.getD j lg0).1.1 (l.getD j lg0).1.2.1 (l.getD j lg0).1.2.2 w
      have C1 := fun w N hN => num1 (l.getD j lg0).2 w N hN
      have HO : Hid (okL (l.getD j lg0) = (rightA (l.getD j lg0).1.1 (l.getD j lg0).1.2.1 (l.getD j lg0).1.2.2 && isMoney (l.getD j lg0).2)) := rfl
      have i1 : (j : Int) < (n : Int) := by omega
      clear hb
      generalize okL (l.getD j lg0) = ok at *
      unfold acV at CR
      generalize rightA (l.getD j lg0).1.1 (l.getD j lg0).1.2.1 (l.getD j lg0).1.2.2 = R at *
      generalize isMoney (l.getD j lg0).2 = M at *
      generalize (l.getD j lg0).1.1 = q1 at *
      generalize (l.getD j lg0).1.2.1 = q2 at *
      generalize (l.getD j lg0).1.2.2 = q3 at *
      generalize (l.getD j lg0).2 = q4 at *
      cases R
      · have HF := Lib.hid (HN.out (by rw [HO.out]; rfl))
        clear HN HS HO C1
        go_wp2_with (go_at_call 44; ((with_reducible refine (CR _).mono ?_); rintro e w1 ⟨rfl, hg⟩; have HG1 := Lib.hid (grew_trans HG.out (own_back hg)); clear hg))
        go_ret
        exact ⟨ret_b HF.out, HG1.out⟩
      · cases M
        · have HF := Lib.hid (HN.out (by rw [HO.out]; rfl))
          clear HN HS HO
          go_wp2_with (first
            | (go_at_call 44; ((with_reducible refine (CR _).mono ?_); rintro e w1 ⟨rfl, hg⟩; have d4 : w1.cell? ⟨wr.heap.size, 3, none⟩ = some (.int .i64 q4) := own_cell hg 3; have HG1 := Lib.hid (grew_trans HG.out (own_back hg)); clear hg))
            | (go_at_call 45; ((with_reducible refine (C1 _ _ rfl).mono ?_); rintro e w2 ⟨rfl, rfl⟩)))
          go_ret
          exact ⟨ret_b HF.out, grew_trans HG1.out (grew_alloc _ _ _)⟩
        · have HM2 : Hid (mayL (l.take (j + 1)) = true) := by show _ = _; rw [HS.out, HM.out, HO.out]; rfl
          clear HN HS HO
          go_wp2_with (first
            | (go_at_call 44; ((with_reducible refine (CR _).mono ?_); rintro e w1 ⟨rfl, hg⟩; have d4 : w1.cell? ⟨wr.heap.size, 3, none⟩ = some (.int .i64 q4) := own_cell hg 3; have HG1 := Lib.hid (grew_trans HG.out (own_back hg)); clear hg))
            | (go_at_call 45; ((with_reducible refine (C1 _ _ rfl).mono ?_); rintro e w2 ⟨rfl, rfl⟩)))
          go_roundw
          case rel => exact ⟨j + 1, by go_num, by omega, HM2, grew_trans HG1.out (grew_alloc _ _ _)⟩
          case measure => simp only [intOf]; omega
    · obtain rfl : j = n := by omega
      have HE : Hid (true = mayL l) := by
        have := HM.out
        rw [List.take_of_length_le (by rw [HL.out]; exact Nat.le_refl _)] at this
        exact this.symm
      go_wp2
      go_ret
      exact ⟨ret_b HE.out, HG.out⟩
end Go.Proofs.Ytafglljfgoeapaa.NumK
namespace Go.Proofs.Ytafglljfgoeapaa.NumK
open Go.RowKit

theorem twinLegs_any (A : Option Addr) (n c : Nat) (l : List Lg) (w : World) (h : RowE enLg w A n l) (hA : A = none → c = 0) (hn : n ≤ 1000000) :
    Calls Try.prog 26 #[.slice A n c] w fun e w' => ∃ v, e = .returned v ∧ OwnE enLg w' w.heap.size 53 v l ∧ Grew w w' := by
  have HI := Lib.hid h
  have HA := Lib.hid hA
  clear h hA
  go_enter Try.func26, Try.ntmps26
  go_wp2_with (at_builtin; refine (wpList_append_E rfl _ _ 25 53 (legV 0 0 0 0) 32 rfl Try.underlying25 info_lg rfl w.heap.size _ [] rfl (OwnE.nil enLg _ _ _) A n c l rfl HA.out HI.out (by simp; unfold maxLen; omega) (by simp; omega) (Nat.le_refl _) ?_); intro v' w' ho hb; rw [List.nil_append] at ho; have HP := Lib.hid ho; have HB : Hid (Grew w w') := hb; clear ho hb)
  go_ret
  exact ⟨_, rfl, HP.out, HB.out⟩

set_option maxRecDepth 100000 in
theorem refMay_any (A : Option Addr) (n c : Nat) (l : List Lg) (w : World) (h : RowE enLg w A n l) (hn : n ≤ 9223372036854775807) :
    Calls Try.prog 52 #[.slice A n c] w fun e w' => e = .returned (.bool (mayL l)) ∧ Grew w w' := by
  have HI := Lib.hid h
  have HL := Lib.hid h.len
  clear h
  go_enter Try.func52, Try.ntmps52
  go_wp2
  go_loopw [3] (fun v7 wr => ∃ j : Nat, v7 = .int .i64 j ∧ j ≤ n ∧ Hid (mayL (l.take j) = true) ∧ Hid (Grew w wr)) (fun v7 _ => n - (intOf v7).toNat)
  case atStart => exact ⟨0, rfl, by omega, rfl, grew_refl _⟩
  case round =>
    obtain ⟨j, rfl, hj, HM, HG⟩ := hrel
    by_cases hlt : j < n
    · obtain ⟨b, o, rfl, hb, a1, a2, a3, a4⟩ := (HI.out.keep HG.out).lg hlt
      have HS := Lib.hid (may_succ l j (by rw [HL.out]; exact hlt))
      have HN : Hid (okL (l.getD j lg0) = false → false = mayL l) := may_no l j (by rw [HL.out]; exact hlt)
      have CR := fun w => r8right_any (l.getD j lg0).1.1 (l.getD j lg0).1.2.1 (l.getD j lg0).1.2.2 w
      have C1 := fun w => refRight_any (l.getD j lg0).2 w
      have HO : Hid (okL (l.getD j lg0) = (rightA (l.getD j lg0).1.1 (l.getD j lg0).1.2.1 (l.getD j lg0).1.2.2 && isMoney (l.getD j lg0).2)) := rfl
      have i1 : (j : Int) < (n : Int) := by omega
      have HB := Lib.hid hb
      clear hb
      generalize okL (l.getD j lg0) = ok at *
      unfold acV at CR
      generalize rightA (l.getD j lg0).1.1 (l.getD j lg0).1.2.1 (l.getD j lg0).1.2.2 = R at *
      generalize isMoney (l.getD j lg0).2 = M at *
      generalize (l.getD j lg0).1.1 = q1 at *
      generalize (l.getD j lg0).1.2.1 = q2 at *
      generalize (l.getD j lg0).1.2.2 = q3 at *
      generalize (l.getD j lg0).2 = q4 at *
      cases R
      · have HF := Lib.hid (HN.out (by rw [HO.out]; rfl))
        clear HN HS HO C1
        go_wp2_with (go_at_call 27; ((with_reducible refine (CR _).mono ?_); rintro e w1 ⟨rfl, hg⟩; have HG1 := Lib.hid (grew_trans HG.out hg); clear hg))
        go_ret
        exact ⟨ret_b HF.out, HG1.out⟩
      · cases M
        · have HF := Lib.hid (HN.out (by rw [HO.out]; rfl))
          clear HN HS HO
          go_wp2_with (first
            | (go_at_call 27; ((with_reducible refine (CR _).mono ?_); rintro e w1 ⟨rfl, hg⟩; have d4 : w1.cell? ⟨b, o + j * 4 + 3, none⟩ = some (.int .i64 q4) := (grew_cell hg (p := ⟨b, o + j * 4 + 3, none⟩) HB.out).trans a4; have HG1 := Lib.hid (grew_trans HG.out hg); clear hg))
            | (go_at_call 29; ((with_reducible refine (C1 _).mono ?_); rintro e w2 ⟨rfl, rfl⟩)))
          go_ret
          exact ⟨ret_b HF.out, HG1.out⟩
        · have HM2 : Hid (mayL (l.take (j + 1)) = true) := by show _ = _; rw [HS.out, HM.out, HO.out]; rfl
          clear HN HS HO
          go_wp2_with (first
            | (go_at_call 27; ((with_reducible refine (CR _).mono ?_); rintro e w1 ⟨rfl, hg⟩; have d4 : w1.cell? ⟨b, o + j * 4 + 3, none⟩ = some (.int .i64 q4) := (grew_cell hg (p := ⟨b, o + j * 4 + 3, none⟩) HB.out).trans a4; have HG1 := Lib.hid (grew_trans HG.out hg); clear hg))
            | (go_at_call 29; ((with_reducible refine (C1 _).mono ?_); rintro e w2 ⟨rfl, rfl⟩)))
          go_roundw
          case rel => exact ⟨j + 1, by go_num, by omega, HM2, HG1⟩
          case measure => simp only [intOf]; omega
    · obtain rfl : j = n := by omega
      have HE : Hid (true = mayL l) := by
        have := HM.out
        rw [List.take_of_length_le (by rw [HL.out]; exact Nat.le_refl _)] at this
        exact this.symm
      go_wp2
      go_ret
      exact ⟨ret_b HE.out, HG.out⟩
end Go.Proofs.Ytafglljfgoeapaa.NumK
