/- The sums of legs: the document's. -/
import Derived.Test.YtgblhliinjgofaaRO
import Derived.Test.YtgblhliinjgofaaRH
import Derived.Test.YtgblhliinjgofaaRN
namespace Go.Proofs.Ytgblhliinjgofaa.NumK
open Go.RowKit
set_option linter.unusedVariables false

def qtys (l : List Po) : List Int := l.map (·.2.2.1)
def csts (l : List Po) : List Int := l.map (·.2.2.2)
theorem qtys_len (l : List Po) : (qtys l).length = l.length := by simp [qtys]
theorem csts_len (l : List Po) : (csts l).length = l.length := by simp [csts]
theorem qtys_succ (l : List Po) (j : Nat) (h : j < l.length) : qtys (l.take (j + 1)) = qtys (l.take j) ++ [(l.getD j po0).2.2.1] := by
  unfold qtys; rw [List.take_succ_eq_append_getElem h, List.map_append, getD_at l po0 j h]; rfl
theorem csts_succ (l : List Po) (j : Nat) (h : j < l.length) : csts (l.take (j + 1)) = csts (l.take j) ++ [(l.getD j po0).2.2.2] := by
  unfold csts; rw [List.take_succ_eq_append_getElem h, List.map_append, getD_at l po0 j h]; rfl
theorem okAm_all (l : List Po) : l.all okAm = ((qtys l).all isMoney && (csts l).all isMoney) := by
  induction l with
  | nil => rfl
  | cons x l ih =>
    rw [List.all_cons, ih]
    show (isMoney x.2.2.1 && isMoney x.2.2.2 && _) = ((isMoney x.2.2.1 && (qtys l).all isMoney) && (isMoney x.2.2.2 && (csts l).all isMoney))
    cases isMoney x.2.2.1 <;> cases isMoney x.2.2.2 <;> simp
theorem ok_succ (l : List Po) (j : Nat) (h : j < l.length) : (l.take (j + 1)).all okAm = ((l.take j).all okAm && okAm (l.getD j po0)) := by
  rw [List.take_succ_eq_append_getElem h, List.all_append, getD_at l po0 j h]; simp
theorem ok_not (l : List Po) (j : Nat) (h : j < l.length) (hx : okAm (l.getD j po0) = false) : l.all okAm = false := by
  rw [List.all_eq_false]
  exact ⟨_, getD_mem l po0 j h, by rw [hx]; decide⟩
theorem money_in (zs : List Int) (h : zs.all isMoney = true) : ∀ z ∈ zs, -9223372036854775808 ≤ z ∧ z ≤ 9223372036854775807 := fun z hz => by
  have := (isMoney_iff z).1 ((List.all_eq_true.1 h) z hz); omega

/-- What the sums tell. -/
def SumPost (l : List Po) (w : World) (e : Ending) (w' : World) : Prop := e = .returned (.tuple #[.int .i64 (sumPQ l), .int .i64 (sumPC l), .int .i64 (sumPE l)]) ∧ Grew w w'
theorem sumP_arg {l : List Po} (h : l.all okAm = false) : sumPE l = 3 ∧ sumPQ l = 0 ∧ sumPC l = 0 := by
  have : sumPE l = 3 := by unfold sumPE; rw [h]; rfl
  refine ⟨this, ?_, ?_⟩
  · unfold sumPQ; rw [this]; rfl
  · unfold sumPC; rw [this]; rfl
theorem sumP_big {l : List Po} (h : l.all okAm = true) (h2 : (isMoney (qtys l).sum && isMoney (csts l).sum) = false) : sumPE l = 1 ∧ sumPQ l = 0 ∧ sumPC l = 0 := by
  have : sumPE l = 1 := by unfold sumPE; rw [if_pos h]; show (if (isMoney (qtys l).sum && isMoney (csts l).sum) = true then (0 : Int) else 1) = 1; rw [h2]; rfl
  refine ⟨this, ?_, ?_⟩
  · unfold sumPQ; rw [this]; rfl
  · unfold sumPC; rw [this]; rfl
theorem sumP_ok {l : List Po} (h : l.all okAm = true) (h2 : isMoney (qtys l).sum = true) (h3 : isMoney (csts l).sum = true) : sumPE l = 0 ∧ sumPQ l = (qtys l).sum ∧ sumPC l = (csts l).sum := by
  have : sumPE l = 0 := by unfold sumPE; rw [if_pos h]; show (if (isMoney (qtys l).sum && isMoney (csts l).sum) = true then (0 : Int) else 1) = 0; rw [h2, h3]; rfl
  refine ⟨this, ?_, ?_⟩
  · unfold sumPQ; rw [if_pos this]; rfl
  · unfold sumPC; rw [if_pos this]; rfl
theorem post_arg {l : List Po} (h : l.all okAm = false) (w w' : World) (g : Grew w w') : SumPost l w (.returned (.tuple #[.int .i64 0, .int .i64 0, .int .i64 3])) w' := by
  obtain ⟨h1, h2, h3⟩ := sumP_arg h
  exact ⟨by rw [h1, h2, h3], g⟩
theorem post_big {l : List Po} (h : l.all okAm = true) (h2 : (isMoney (qtys l).sum && isMoney (csts l).sum) = false) (w w' : World) (g : Grew w w') : SumPost l w (.returned (.tuple #[.int .i64 0, .int .i64 0, .int .i64 1])) w' := by
  obtain ⟨h1, h2, h3⟩ := sumP_big h h2
  exact ⟨by rw [h1, h2, h3], g⟩
theorem post_ok {l : List Po} (h : l.all okAm = true) (h2 : isMoney (qtys l).sum = true) (h3 : isMoney (csts l).sum = true) (w w' : World) (g : Grew w w') : SumPost l w (.returned (.tuple #[.int .i64 (qtys l).sum, .int .i64 (csts l).sum, .int .i64 0])) w' := by
  obtain ⟨h1, h2, h3⟩ := sumP_ok h h2 h3
  exact ⟨by rw [h1, h2, h3], g⟩

set_option maxRecDepth 100000 in
set_option maxHeartbeats 4000000 in
theorem rsumP_any (A : Option Addr) (n c : Nat) (l : List Po) (w : World) (h : RowE enPo w A n l) (hn : n ≤ 100000) :
    Calls Try.prog 20 #[.slice A n c] w (SumPost l w) := by
  have HI := Lib.hid h
  have HL := Lib.hid h.len
  have HN := Lib.hid (@post_arg l)
  have HB := Lib.hid (@post_big l)
  have HY := Lib.hid (@post_ok l)
  clear h
  generalize hPP : SumPost l w = PP at *
  replace HN : Hid (l.all okAm = false → ∀ w', Grew w w' → PP (.returned (.tuple #[.int .i64 0, .int .i64 0, .int .i64 3])) w') := fun h w' g => hPP ▸ HN.out h w w' g
  replace HB : Hid (l.all okAm = true → (isMoney (qtys l).sum && isMoney (csts l).sum) = false → ∀ w', Grew w w' → PP (.returned (.tuple #[.int .i64 0, .int .i64 0, .int .i64 1])) w') := fun h h2 w' g => hPP ▸ HB.out h h2 w w' g
  replace HY : Hid (l.all okAm = true → isMoney (qtys l).sum = true → isMoney (csts l).sum = true → ∀ w', Grew w w' → PP (.returned (.tuple #[.int .i64 (qtys l).sum, .int .i64 (csts l).sum, .int .i64 0])) w') := fun h h2 h3 w' g => hPP ▸ HY.out h h2 h3 w w' g
  clear hPP
  go_enter Try.func20, Try.ntmps20
  go_wp2
  go_loopw [5, 6, 7] (fun va vb vi wr => ∃ j : Nat, vi = .int .i64 j ∧ j ≤ n ∧ Hid ((l.take j).all okAm = true) ∧ Hid (Two enInt enInt wr w.heap.size 3 3 va vb (qtys (l.take j)) (csts (l.take j))) ∧ Hid (Grew w wr)) (fun _ _ vi _ => n - (intOf vi).toNat)
  case atStart => exact ⟨0, rfl, by omega, rfl, Two.nil _ _ _ _ _ _, grew_refl _⟩
  case round =>
    obtain ⟨j, rfl, hj, HM, HT, HG⟩ := hrel
    by_cases hlt : j < n
    · have hjl : j < l.length := by rw [HL.out]; exact hlt
      obtain ⟨b, o, rfl, hb, hc⟩ := HI.out.po hlt
      have HCP : Hid (∀ w', Grew w w' → CPo w' b (o + j * 4) (l.getD j po0)) := fun w' g => (hc j hlt).keep g hb
      obtain ⟨a0, a1, a2, a3⟩ := HCP.out _ HG.out
      clear hc
      have HQ := Lib.hid (qtys_succ l j hjl)
      have HC := Lib.hid (csts_succ l j hjl)
      have HK := Lib.hid (ok_succ l j hjl)
      have HX := Lib.hid (ok_not l j hjl)
      have HO : Hid (okAm (l.getD j po0) = (isMoney (l.getD j po0).2.2.1 && isMoney (l.getD j po0).2.2.2)) := rfl
      have hlq : (qtys (l.take j)).length = j := by rw [qtys_len, List.length_take]; omega
      have hlc : (csts (l.take j)).length = j := by rw [csts_len, List.length_take]; omega
      have HLQ := Lib.hid hlq
      have HLC := Lib.hid hlc
      clear hb hlq hlc
      have CR1 := fun w => refRight_any (l.getD j po0).2.2.1 w
      have CR2 := fun w => refRight_any (l.getD j po0).2.2.2 w
      have i0 : (0 : Int) ≤ (j : Int) := by omega
      have i1 : (j : Int) < (n : Int) := by omega
      generalize okAm (l.getD j po0) = ok at *
      generalize l.getD j po0 = x at *
      obtain ⟨q1, q2, q3, q4⟩ := x
      dsimp only at a0 a1 a2 a3 CR1 CR2 HQ HC HO
      generalize isMoney q3 = M1 at *
      generalize isMoney q4 = M2 at *
      cases M1
      · have HF := Lib.hid (HN.out (HX.out (by rw [HO.out]; rfl)))
        clear HN HB HY HK HX HO HQ HC
        go_wp2_with (first
          | (go_at_call 36; ((with_reducible refine (CR1 _).mono ?_); rintro e w1 ⟨rfl, rfl⟩)))
        go_ret3; exact HF.out _ HG.out
      · cases M2
        · have HF := Lib.hid (HN.out (HX.out (by rw [HO.out]; rfl)))
          clear HN HB HY HK HX HO HQ HC
          go_wp2_with (first
            | (go_at_call 36; ((with_reducible refine (CR1 _).mono ?_); rintro e w1 ⟨rfl, rfl⟩))
            | (go_at_call 36; ((with_reducible refine (CR2 _).mono ?_); rintro e w1 ⟨rfl, rfl⟩)))
          go_ret3; exact HF.out _ HG.out
        · have HK2 : Hid ((l.take (j + 1)).all okAm = true) := by show _ = _; rw [HK.out, HM.out, HO.out]; rfl
          clear HN HB HY HK HX HO
          go_wp2_with (first
            | (go_at_call 36; ((with_reducible refine (CR1 _).mono ?_); rintro e w1 ⟨rfl, rfl⟩))
            | (go_at_call 36; ((with_reducible refine (CR2 _).mono ?_); rintro e w1 ⟨rfl, rfl⟩))
            | (at_builtin; refine (wpList_two (E := enInt) (F := enInt) (s := 3) (t := 3) (base := w.heap.size) rfl _ _ 67 (.int .i64 0) 8 rfl Try.underlying67 info_int1 rfl (HT.out.keep (grew_alloc wr _ _)) rfl _ q3 rfl (RowE.one1 enInt wr q3 _ _ _ rfl rfl) (by rw [HLQ.out]; unfold maxLen; omega) (by rw [HLQ.out]; omega) (Nat.le_trans HG.out.size (by simp)) ?_); intro v1 w1 ht hb; have HT1 := Lib.hid ht; have HG1 : Hid (Grew w w1) := Below.trans (grew_trans HG.out (grew_alloc _ _ _)) hb; have a3b : w1.cell? ⟨b, o + j * 4 + 3, none⟩ = some (.int .i64 q4) := (HCP.out _ HG1.out).2.2.2; clear ht hb)
            | (at_builtin; refine (wpList_two (E := enInt) (F := enInt) (s := 3) (t := 3) (base := w.heap.size) rfl _ _ 67 (.int .i64 0) 8 rfl Try.underlying67 info_int1 rfl (HT1.out.swap.keep (grew_alloc w1 _ _)) rfl _ q4 rfl (RowE.one1 enInt w1 q4 _ _ _ rfl rfl) (by rw [HLC.out]; unfold maxLen; omega) (by rw [HLC.out]; omega) (Nat.le_trans HG1.out.size (by simp)) ?_); intro v2 w2 ht hb; have HT2 := Lib.hid ht.swap; have HG2 : Hid (Grew w w2) := Below.trans (grew_trans HG1.out (grew_alloc _ _ _)) hb; clear ht hb))
          go_roundw
          case rel => exact ⟨j + 1, by go_num, by omega, HK2, (by rw [HQ.out, HC.out]; exact HT2.out), HG2.out⟩
          case measure => simp only [intOf]; omega
    · obtain rfl : j = n := by omega
      have ht : l.take j = l := List.take_of_length_le (by rw [HL.out]; exact Nat.le_refl _)
      rw [ht] at HM HT
      obtain ⟨A3, c3, hv3, hr3, -, -, -⟩ := HT.out.a.form
      obtain ⟨A4, c4, hv4, hr4, -, -, -⟩ := HT.out.b.form
      rw [qtys_len, HL.out] at hv3 hr3
      rw [csts_len, HL.out] at hv4 hr4
      subst hv3 hv4
      have hok := okAm_all l
      rw [HM.out] at hok
      have hok2 := (Bool.and_eq_true _ _).mp hok.symm
      have CA := add_any A3 _ c3 _ wr (ints_of_E hr3) (money_in _ hok2.1) (by omega)
      have CB := fun w' (g : Grew wr w') => add_any A4 _ c4 _ w' (ints_of_E (hr4.keep g)) (money_in _ hok2.2) (by omega)
      have HB2 := Lib.hid (HB.out HM.out)
      have HY2 := Lib.hid (HY.out HM.out)
      clear HN HB HY hok hok2 hr3 hr4 ht
      have HV1 : Hid (isMoney (qtys l).sum = true → intV (qtys l).sum = (qtys l).sum) := fun h => by unfold intV; rw [if_pos h]
      have HV2 : Hid (isMoney (csts l).sum = true → intV (csts l).sum = (csts l).sum) := fun h => by unfold intV; rw [if_pos h]
      generalize (qtys l).sum = Sq at *
      generalize (csts l).sum = Sc at *
      generalize intV Sq = Vq at *
      generalize intV Sc = Vc at *
      generalize isMoney Sq = M1 at *
      generalize isMoney Sc = M2 at *
      clear HT
      cases M1
      · have HF := Lib.hid (HB2.out rfl)
        clear HB2 HY2 HV1 HV2
        go_wp2_with (first
          | (go_at_call 37; ((with_reducible refine CA.mono ?_); rintro e w1 ⟨rfl, hg⟩; have HG1 := Lib.hid hg; clear hg))
          | (go_at_call 37; ((with_reducible refine (CB _ HG1.out).mono ?_); rintro e w2 ⟨rfl, hg⟩; have HG2 := Lib.hid (grew_trans HG1.out hg); clear hg)))
        go_ret3
        exact HF.out _ (grew_trans HG.out HG2.out)
      · obtain rfl := HV1.out rfl
        cases M2
        · have HF := Lib.hid (HB2.out rfl)
          clear HB2 HY2 HV1 HV2
          go_wp2_with (first
            | (go_at_call 37; ((with_reducible refine CA.mono ?_); rintro e w1 ⟨rfl, hg⟩; have HG1 := Lib.hid hg; clear hg))
            | (go_at_call 37; ((with_reducible refine (CB _ HG1.out).mono ?_); rintro e w2 ⟨rfl, hg⟩; have HG2 := Lib.hid (grew_trans HG1.out hg); clear hg)))
          go_ret3
          exact HF.out _ (grew_trans HG.out HG2.out)
        · obtain rfl := HV2.out rfl
          have HF := Lib.hid (HY2.out rfl rfl)
          clear HB2 HY2 HV1 HV2
          go_wp2_with (first
            | (go_at_call 37; ((with_reducible refine CA.mono ?_); rintro e w1 ⟨rfl, hg⟩; have HG1 := Lib.hid hg; clear hg))
            | (go_at_call 37; ((with_reducible refine (CB _ HG1.out).mono ?_); rintro e w2 ⟨rfl, hg⟩; have HG2 := Lib.hid (grew_trans HG1.out hg); clear hg)))
          go_ret3
          exact HF.out _ (grew_trans HG.out HG2.out)
end Go.Proofs.Ytgblhliinjgofaa.NumK
