/- entry.Check. -/
import Derived.Test.YtafglljfgoeapaaRH
import Derived.Test.YtafglljfgoeapaaRI
import Derived.Test.YtafglljfgoeapaaRC
import Derived.Test.YtafglljfgoeapaaRE
namespace Go.Proofs.Ytafglljfgoeapaa.NumK
open Go.RowKit

def checkE (l : List Lg) : Int := if l.length = 0 then 2 else if 64 < l.length then 5 else if mayL l then (if evenL l then 0 else 12) else 3

set_option maxRecDepth 100000 in
theorem check_any (A : Option Addr) (n c : Nat) (l : List Lg) (w : World) (h : RowE enLg w A n l) (hn : n ≤ 1000000) :
    Calls Try.prog 35 #[.slice A n c] w fun e w' => e = .returned (.int .i64 (checkE l)) ∧ Grew w w' := by
  have HI := Lib.hid h
  have HL := h.len
  have CR := fun w (h : RowE enLg w A n l) => legsRight_any A n c l w h (by omega)
  have CE := fun w (h : RowE enLg w A n l) hm => even_any A n c l w h hm hn
  have HE : Hid (checkE l = if n = 0 then 2 else if 64 < n then 5 else if mayL l then (if evenL l then 0 else 12) else 3) := by show _ = _; unfold checkE; rw [HL]
  generalize checkE l = R at *
  clear h HL
  by_cases h0 : n = 0
  · have HR : Hid (R = 2) := by show _ = _; rw [HE.out, if_pos h0]
    subst h0
    go_enter Try.func35, Try.ntmps35
    go_wp2
    go_ret
    exact ⟨ret_i HR.out.symm, grew_refl _⟩
  · have d0 : ((n : Int) == 0) = false := by simp; omega
    by_cases h1 : 64 < n
    · have HR : Hid (R = 5) := by show _ = _; rw [HE.out, if_neg h0, if_pos h1]
      have i1 : (64 : Int) < (n : Int) := by omega
      clear h0
      go_enter Try.func35, Try.ntmps35
      go_wp2
      go_ret
      exact ⟨ret_i HR.out.symm, grew_refl _⟩
    · have HR1 : Hid (R = if mayL l then (if evenL l then 0 else 12) else 3) := by show _ = _; rw [HE.out, if_neg h0, if_neg h1]
      have i1 : ¬ (64 : Int) < (n : Int) := by omega
      clear h0 HE
      by_cases hm : mayL l = true
      · rw [hm] at CR
        have HR2 : Hid (R = if evenL l then 0 else 12) := by show _ = _; rw [HR1.out, hm]; rfl
        have CE2 := fun w h => CE w h hm
        clear CE HR1 hm
        generalize evenL l = ev at *
        cases ev
        · go_enter Try.func35, Try.ntmps35
          go_wp2_with (first
            | (go_at_call 49; ((with_reducible refine (CR _ HI.out).mono ?_); rintro e w1 ⟨rfl, hg⟩; have HG1 := Lib.hid hg; clear hg))
            | (go_at_call 50; ((with_reducible refine (CE2 _ (HI.out.keep HG1.out)).mono ?_); rintro e w2 ⟨rfl, hg⟩; have HG2 := Lib.hid (grew_trans HG1.out hg); clear hg)))
          go_ret
          exact ⟨ret_i HR2.out.symm, HG2.out⟩
        · go_enter Try.func35, Try.ntmps35
          go_wp2_with (first
            | (go_at_call 49; ((with_reducible refine (CR _ HI.out).mono ?_); rintro e w1 ⟨rfl, hg⟩; have HG1 := Lib.hid hg; clear hg))
            | (go_at_call 50; ((with_reducible refine (CE2 _ (HI.out.keep HG1.out)).mono ?_); rintro e w2 ⟨rfl, hg⟩; have HG2 := Lib.hid (grew_trans HG1.out hg); clear hg)))
          go_ret
          exact ⟨ret_i HR2.out.symm, HG2.out⟩
      · rw [Bool.not_eq_true] at hm
        rw [hm] at CR
        have HR2 : Hid (R = 3) := by show _ = _; rw [HR1.out, hm]; rfl
        clear CE HR1 hm
        go_enter Try.func35, Try.ntmps35
        go_wp2_with (go_at_call 49; ((with_reducible refine (CR _ HI.out).mono ?_); rintro e w1 ⟨rfl, hg⟩; have HG1 := Lib.hid hg; clear hg))
        go_ret
        exact ⟨ret_i HR2.out.symm, HG1.out⟩

end Go.Proofs.Ytafglljfgoeapaa.NumK
namespace Go.Proofs.Ytafglljfgoeapaa.NumK
open Go.RowKit

def enInt : En Int := ⟨1, fun n => [.int .i64 n], fun _ => rfl, fun n v hv => by simp at hv; rw [hv]; rfl, by decide⟩
theorem info_int1 : (Try.prog.info? 3).map (fun i => (i.zero, i.size, i.bytes)) = some (some (.int .i64 0), 1, 8) := by kernel_rfl
theorem ints_of_E {w : World} {A : Option Addr} {n : Nat} {l : List Int} (h : RowE enInt w A n l) : Ints w A n l := by
  refine ⟨h.len, fun hn => ?_⟩
  obtain ⟨b, o, e, hb, hc⟩ := h.at hn
  refine ⟨b, o, e, hb, fun j hj => ?_⟩
  have hj2 : j < l.length := by rw [h.len]; exact hj
  have := hc j hj2 0 (by decide)
  rw [show o + j * enInt.size + 0 = o + j by show o + j * 1 + 0 = _; omega] at this
  rw [this]
  simp [enInt, List.getD, hj2]
theorem rowI_one (w : World) (n : Int) (t : TypeId) (N : Nat) (hN : w.heap.size = N) : RowE enInt (w.alloc (.cells #[.int .i64 n] t)) (some ⟨N, 0, none⟩) 1 [n] := by
  subst hN
  refine ⟨rfl, fun _ => ⟨_, _, rfl, by simp, fun j hj => ⟨_, rfl, fun i hi => ?_⟩⟩⟩
  have hi : i < 1 := hi
  have hj : j < 1 := hj
  match j, hj, i, hi with
  | 0, _, 0, _ => exact (World.cell?_alloc_at _ _ _ _ rfl).trans rfl

theorem same_any (k m c k' m' c' : Int) (w : World) : Calls Try.prog 34 #[acV k m c, acV k' m' c'] w fun e w' => e = .returned (.bool (sameA k m c k' m' c')) ∧ Grew w w' := by
  unfold acV
  go_enter Try.func34, Try.ntmps34
  go_wp2
  all_goals go_ret
  all_goals exact ⟨ret_b (by rw [Bool.eq_iff_iff]; simp_all [sameA]), grew_trans (grew_alloc _ _ _) (grew_alloc _ _ _)⟩

/-- The amounts of the legs of which p holds. -/
def amts (p : Lg → Bool) (l : List Lg) : List Int := (l.filter p).map (·.2)
theorem amts_snoc (p : Lg → Bool) (l : List Lg) (j : Nat) (h : j < l.length) : amts p (l.take (j + 1)) = amts p (l.take j) ++ if p (l.getD j lg0) then [(l.getD j lg0).2] else [] := by
  unfold amts
  rw [take_snoc l j lg0 h, List.filter_append, List.map_append]
  congr 1
  generalize l.getD j lg0 = x
  cases h : p x
  · simp [h]
  · simp [h]
theorem amts_len (p : Lg → Bool) (l : List Lg) : (amts p l).length ≤ l.length := by
  unfold amts; rw [List.length_map]; exact List.length_filter_le _ _
theorem amts_in (p : Lg → Bool) (l : List Lg) (h : mayL l = true) : ∀ z ∈ amts p l, -9223372036854775808 ≤ z ∧ z ≤ 9223372036854775807 := by
  intro z hz
  unfold amts at hz
  obtain ⟨x, hx, rfl⟩ := List.mem_map.1 hz
  have h1 := (List.all_eq_true.1 h) x (List.mem_filter.1 hx).1
  have := (okL_parts h1).2
  omega
theorem amts_C (l : List Lg) (c : Int) : (amts (fun x => decide (x.1.2.2 = c)) l).sum = sumC l c := rfl
theorem amts_A (l : List Lg) (a : Ac) : (amts (fun x => decide (x.1 = a)) l).sum = sumA l a := rfl
theorem intV_ne (s : Int) : (isMoney s = true ∧ intV s = 0) ↔ s = 0 := by
  unfold intV
  constructor
  · rintro ⟨h1, h2⟩; rw [h1] at h2; exact h2
  · rintro rfl; exact ⟨by decide, by decide⟩

set_option maxRecDepth 100000 in
set_option maxHeartbeats 2000000 in
theorem refCheck_any (A : Option Addr) (n c : Nat) (l : List Lg) (w : World) (h : RowE enLg w A n l) (hn : n ≤ 90000) :
    Calls Try.prog 37 #[.slice A n c] w fun e w' => e = .returned (.int .i64 (checkE l)) ∧ Grew w w' := by
  have HI := Lib.hid h
  have HL := Lib.hid h.len
  have CR := fun w (h : RowE enLg w A n l) => refMay_any A n c l w h (by omega)
  have HE : Hid (checkE l = if n = 0 then 2 else if 64 < n then 5 else if mayL l then (if evenL l then 0 else 12) else 3) := by show _ = _; unfold checkE; rw [h.len]
  generalize checkE l = R at *
  clear h
  by_cases h0 : n = 0
  · have HR : Hid (R = 2) := by show _ = _; rw [HE.out, if_pos h0]
    subst h0
    go_enter Try.func37, Try.ntmps37
    go_wp2
    go_ret
    exact ⟨ret_i HR.out.symm, grew_refl _⟩
  · have d0 : ((n : Int) == 0) = false := by simp; omega
    by_cases h1 : 64 < n
    · have HR : Hid (R = 5) := by show _ = _; rw [HE.out, if_neg h0, if_pos h1]
      have i1 : (64 : Int) < (n : Int) := by omega
      clear h0
      go_enter Try.func37, Try.ntmps37
      go_wp2
      go_ret
      exact ⟨ret_i HR.out.symm, grew_refl _⟩
    · have HR1 : Hid (R = if mayL l then (if evenL l then 0 else 12) else 3) := by show _ = _; rw [HE.out, if_neg h0, if_neg h1]
      have i1 : ¬ (64 : Int) < (n : Int) := by omega
      clear h0 HE
      by_cases hm : mayL l = true
      · rw [hm] at CR
        have HR2 : Hid (R = if evenL l then 0 else 12) := by show _ = _; rw [HR1.out, hm]; rfl
        have HM := Lib.hid hm
        have HEV : Hid ((∀ q : Nat, q < 3 → sumC l q = 0) → R = 0) := fun h => by
          rw [HR2.out]; unfold evenL; rw [show sumC l 0 = 0 from h 0 (by omega), show sumC l 1 = 0 from h 1 (by omega), show sumC l 2 = 0 from h 2 (by omega)]; rfl
        have HNE : Hid (∀ q : Nat, q < 3 → ¬ sumC l q = 0 → R = 12) := fun q hq h => by
          rw [HR2.out, if_neg]
          unfold evenL
          have : q = 0 ∨ q = 1 ∨ q = 2 := by omega
          rcases this with rfl | rfl | rfl
          · simp only [Bool.and_eq_true, decide_eq_true_eq]; exact fun hh => h hh.1.1
          · simp only [Bool.and_eq_true, decide_eq_true_eq]; exact fun hh => h hh.1.2
          · simp only [Bool.and_eq_true, decide_eq_true_eq]; exact fun hh => h hh.2
        clear HR1 HR2 hm
        go_enter Try.func37, Try.ntmps37
        go_wp2_with (go_at_call 52; ((with_reducible refine (CR _ HI.out).mono ?_); rintro e w1 ⟨rfl, hg⟩; have HG1 := Lib.hid hg; clear hg CR))
        go_loopw [3] (fun v3 wr => ∃ q : Nat, v3 = .int .i64 q ∧ q ≤ 3 ∧ Hid (∀ i : Nat, i < q → sumC l i = 0) ∧ Hid (Grew w wr)) (fun v3 _ => 3 - (intOf v3).toNat)
        case atStart => exact ⟨0, rfl, by omega, (by intro i hi; omega), HG1.out⟩
        case round =>
          clear HG1
          obtain ⟨q, rfl, hq, HQ, HG⟩ := hrel
          generalize wr = wo at *
          by_cases hq3 : q < 3
          · have i9 : (q : Int) < 3 := by omega
            go_wp2
            go_loopw [4, 5] (fun v4 v5 wx => ∃ j : Nat, v5 = .int .i64 j ∧ j ≤ n ∧ Hid (OwnE enInt wx wo.heap.size 3 v4 (amts (fun x => decide (x.1.2.2 = (q : Int))) (l.take j))) ∧ Hid (Grew wo wx)) (fun _ v5 _ => n - (intOf v5).toNat)
            case atStart => exact ⟨0, rfl, by omega, OwnE.nil enInt _ _ _, grew_refl _⟩
            case round =>
              obtain ⟨j, rfl, hj, HO, HG2⟩ := hrel
              by_cases hlt : j < n
              · have hjl : j < l.length := by rw [HL.out]; exact hlt
                obtain ⟨b, o, rfl, hb, a1, a2, a3, a4⟩ := (HI.out.keep (grew_trans HG.out HG2.out)).lg hlt
                have HA := Lib.hid (amts_snoc (fun x => decide (x.1.2.2 = (q : Int))) l j hjl)
                have HAL : Hid ((amts (fun x => decide (x.1.2.2 = (q : Int))) (l.take j)).length ≤ 90000) := by show _ ≤ _; have := amts_len (fun x => decide (x.1.2.2 = (q : Int))) (l.take j); rw [List.length_take] at this; omega
                have i2 : (j : Int) < (n : Int) := by omega
                have i3 : (0 : Int) ≤ (j : Int) := by omega
                have HSZ : Hid (wo.heap.size ≤ wr.heap.size) := HG2.out.size
                clear hb a1 a2
                generalize l.getD j lg0 = x at *
                by_cases hc : x.1.2.2 = (q : Int)
                · have HA1 : Hid (amts (fun x => decide (x.1.2.2 = (q : Int))) (l.take (j + 1)) = amts (fun x => decide (x.1.2.2 = (q : Int))) (l.take j) ++ [x.2]) := by show _ = _; rw [HA.out, if_pos (by simpa using hc)]
                  rw [hc] at a3
                  clear HA hc
                  generalize x.2 = q4 at *
                  go_wp2_with (at_builtin; refine (wpList_append_E rfl _ _ 28 3 (.int .i64 0) 8 rfl Try.underlying28 info_int1 rfl wo.heap.size _ _ rfl (HO.out.keep (grew_alloc _ _ _)) _ 1 1 [q4] rfl (by intro h; cases h) (rowI_one _ _ _ _ rfl) (by have := HAL.out; unfold maxLen; omega) (by have := HAL.out; omega) (Nat.le_trans HSZ.out (grew_alloc wr _ _).size) ?_); intro v6 w6 hv hb6; rw [← HA1.out] at hv; have HV6 := Lib.hid hv; have HG6 : Hid (Grew wo w6) := Below.trans (grew_trans HG2.out (grew_alloc _ _ _)) hb6; clear hv hb6)
                  go_roundw
                  case rel => exact ⟨j + 1, by go_num, by omega, HV6.out, HG6.out⟩
                  case measure => simp only [intOf]; omega
                · have HA1 : Hid (amts (fun x => decide (x.1.2.2 = (q : Int))) (l.take (j + 1)) = amts (fun x => decide (x.1.2.2 = (q : Int))) (l.take j)) := by show _ = _; rw [HA.out, if_neg (by simpa using hc), List.append_nil]
                  rw [← HA1.out] at HO
                  have d1 : (x.1.2.2 == (q : Int)) = false := by simpa using hc
                  clear HA hc
                  generalize x.1.2.2 = q3 at *
                  go_wp2
                  go_roundw
                  case rel => exact ⟨j + 1, by go_num, by omega, HO.out, HG2.out⟩
                  case measure => simp only [intOf]; omega
              · obtain rfl : j = n := by omega
                rw [List.take_of_length_le (by rw [HL.out]; exact Nat.le_refl _)] at HO
                obtain ⟨A3, c3, rfl, hr3, _⟩ := HO.out.form
                have CA := add_any A3 _ c3 _ wr (ints_of_E hr3) (amts_in _ l HM.out) (Nat.le_trans (amts_len _ l) (by rw [HL.out]; omega))
                rw [amts_C] at CA
                have HNE1 := Lib.hid (HNE.out q hq3)
                have HQ1 : Hid (sumC l q = 0 → ∀ i : Nat, i < q + 1 → sumC l i = 0) := fun h i hi => by
                  rcases Nat.lt_or_ge i q with h1 | h1
                  · exact HQ.out i h1
                  · obtain rfl : i = q := by omega
                    exact h
                have HIV := Lib.hid (intV_ne (sumC l q))
                generalize (amts (fun x => decide (x.1.2.2 = (q : Int))) l).length = N3 at *
                clear hr3 HO
                generalize sumC l (q : Int) = s at *
                by_cases hs : s = 0
                · have HQ2 := Lib.hid (HQ1.out hs)
                  obtain ⟨e1, e2⟩ := HIV.out.2 hs
                  rw [e1, e2] at CA
                  clear HQ1 HNE1 HIV hs e1 e2
                  go_wp2_with (go_at_call 39; ((with_reducible refine CA.mono ?_); rintro e w7 ⟨rfl, hg⟩; have HG7 := Lib.hid (grew_trans HG.out (grew_trans HG2.out hg)); clear hg CA))
                  go_roundw
                  case rel => exact ⟨q + 1, by go_num, by omega, HQ2.out, HG7.out⟩
                  case measure => simp only [intOf]; omega
                · have HR12 := Lib.hid (HNE1.out hs)
                  cases hmm : isMoney s
                  · rw [hmm] at CA
                    clear HQ1 HNE1 HIV hs hmm
                    generalize intV s = iv at *
                    go_wp2_with (go_at_call 39; ((with_reducible refine CA.mono ?_); rintro e w7 ⟨rfl, hg⟩; have HG7 := Lib.hid (grew_trans HG.out (grew_trans HG2.out hg)); clear hg CA))
                    go_ret
                    exact ⟨ret_i HR12.out.symm, HG7.out⟩
                  · rw [hmm, intV_in hmm] at CA
                    have d1 : (s != 0) = true := by simpa using hs
                    clear HQ1 HNE1 HIV hs hmm
                    go_wp2_with (go_at_call 39; ((with_reducible refine CA.mono ?_); rintro e w7 ⟨rfl, hg⟩; have HG7 := Lib.hid (grew_trans HG.out (grew_trans HG2.out hg)); clear hg CA))
                    go_ret
                    exact ⟨ret_i HR12.out.symm, HG7.out⟩
          · obtain rfl : q = 3 := by omega
            have HR0 := Lib.hid (HEV.out HQ.out)
            go_wp2
            go_ret
            exact ⟨ret_i HR0.out.symm, HG.out⟩
      · rw [Bool.not_eq_true] at hm
        rw [hm] at CR
        have HR2 : Hid (R = 3) := by show _ = _; rw [HR1.out, hm]; rfl
        clear HR1 hm
        go_enter Try.func37, Try.ntmps37
        go_wp2_with (go_at_call 52; ((with_reducible refine (CR _ HI.out).mono ?_); rintro e w1 ⟨rfl, hg⟩; have HG1 := Lib.hid hg; clear hg))
        go_ret
        exact ⟨ret_i HR2.out.symm, HG1.out⟩
end Go.Proofs.Ytafglljfgoeapaa.NumK
namespace Go.Proofs.Ytafglljfgoeapaa.NumK
open Go.RowKit

theorem sumA_reverse (l : List Lg) (a : Ac) : sumA l.reverse a = sumA l a := by
  induction l with
  | nil => rfl
  | cons x l ih => rw [List.reverse_cons, sumA_append, ih, sumA_one, sumA_cons]; omega
theorem may_reverse (l : List Lg) : mayL l.reverse = mayL l := by unfold mayL; rw [List.all_reverse]
theorem may_append (l m : List Lg) : mayL (l ++ m) = (mayL l && mayL m) := by unfold mayL; rw [List.all_append]
theorem join_congr {l m : List Lg} (h : mayL l = mayL m) (hs : ∀ a, sumA l a = sumA m a) : joinE l = joinE m ∧ joinL l = joinL m := by
  have e : sumA l = sumA m := funext hs
  have h1 : joinE l = joinE m := by unfold joinE; rw [h, e]
  exact ⟨h1, by unfold joinL; rw [h1, e]⟩
theorem join_zero {l : List Lg} (h : joinE l = 0) : mayL l = true ∧ ∀ a ∈ allK, isMoney (sumA l a) = true := by
  unfold joinE at h
  by_cases hm : mayL l = true
  · rw [if_pos hm] at h
    refine ⟨hm, ?_⟩
    by_cases h2 : allK.all (fun a => isMoney (sumA l a)) = true
    · exact List.all_eq_true.1 h2
    · rw [if_neg h2] at h; cases h
  · rw [if_neg hm] at h; cases h
theorem join_of {l : List Lg} (hm : mayL l = true) (h : ∀ a ∈ allK, isMoney (sumA l a) = true) : joinE l = 0 := by
  unfold joinE
  rw [if_pos hm, if_pos (List.all_eq_true.2 h)]

theorem allK_nodup : allK.Nodup := by decide +kernel
def pick (f : Ac → Int) (a : Ac) : Option Lg := if f a = 0 then none else some (a, f a)
theorem sumA_pick (f : Ac → Int) (L : List Ac) (hd : L.Nodup) (b : Ac) : sumA (L.filterMap (pick f)) b = if b ∈ L then f b else 0 := by
  induction L with
  | nil => simp [sumA_nil]
  | cons a L ih =>
    rw [List.nodup_cons] at hd
    have ih := ih hd.2
    rw [List.filterMap_cons]
    by_cases hab : a = b
    · subst hab
      rw [if_neg hd.1] at ih
      rw [if_pos (by simp)]
      by_cases h0 : f a = 0
      · rw [show pick f a = none by unfold pick; rw [if_pos h0], h0]; exact ih
      · rw [show pick f a = some (a, f a) by unfold pick; rw [if_neg h0]]
        dsimp only
        rw [sumA_cons, ih]; simp
    · have hmem : (if b ∈ a :: L then f b else 0) = if b ∈ L then f b else 0 := by simp [Ne.symm hab]
      rw [hmem, ← ih]
      by_cases h0 : f a = 0
      · rw [show pick f a = none by unfold pick; rw [if_pos h0]]
      · rw [show pick f a = some (a, f a) by unfold pick; rw [if_neg h0]]
        dsimp only
        rw [sumA_cons, if_neg hab]; omega
theorem joinF_pick (f : Ac → Int) : joinF f 108 = allK.filterMap (pick f) := by
  unfold joinF
  rw [List.take_of_length_le (by rw [allK_len]; exact Nat.le_refl _)]; rfl
theorem sumA_out (l : List Lg) (a : Ac) (hm : mayL l = true) (h : a ∉ allK) : sumA l a = 0 := by
  induction l with
  | nil => rfl
  | cons x l ih =>
    rw [may_cons] at hm
    rw [sumA_cons, ih hm.2, if_neg]
    · rfl
    · rintro rfl
      exact h (mem_allK x.1 (okL_parts hm.1).1)
/-- What is joined stands as what was joined. -/
theorem joined {l : List Lg} (h : joinE l = 0) : mayL (joinL l) = true ∧ ∀ a, sumA (joinL l) a = sumA l a := by
  obtain ⟨hm, hk⟩ := join_zero h
  have e : joinL l = allK.filterMap (pick (sumA l)) := by unfold joinL; rw [if_pos h, joinF_pick]
  rw [e]
  constructor
  · unfold mayL
    rw [List.all_eq_true]
    intro x hx
    obtain ⟨a, ha, hp⟩ := List.mem_filterMap.1 hx
    unfold pick at hp
    split at hp
    · cases hp
    · cases hp
      unfold okL
      rw [hk a ha, Bool.and_true]
      exact allK_right a ha
  · intro a
    rw [sumA_pick _ _ allK_nodup]
    split
    · rfl
    · rename_i hn; rw [sumA_out l a hm hn]
theorem join_again {l : List Lg} (h : joinE l = 0) : joinE (joinL l) = 0 ∧ joinL (joinL l) = joinL l := by
  obtain ⟨h1, h2⟩ := joined h
  obtain ⟨e1, e2⟩ := join_congr (l := joinL l) (m := l) (by rw [h1, (join_zero h).1]) h2
  exact ⟨e1.trans h, e2⟩

/-! ### currencies -/
theorem sumC_append (l m : List Lg) (c : Int) : sumC (l ++ m) c = sumC l c + sumC m c := by
  unfold sumC
  rw [List.filter_append, List.map_append, List.sum_append]
theorem sumC_cons (x : Lg) (l : List Lg) (c : Int) : sumC (x :: l) c = (if x.1.2.2 = c then x.2 else 0) + sumC l c := by
  unfold sumC
  by_cases h : x.1.2.2 = c
  · simp [h]
  · simp [h]
theorem sum_if (L : List Ac) (b : Ac) (v : Int) (hd : L.Nodup) : (L.map fun a => if b = a then v else 0).sum = if b ∈ L then v else 0 := by
  induction L with
  | nil => simp
  | cons a L ih =>
    rw [List.nodup_cons] at hd
    rw [List.map_cons, List.sum_cons, ih hd.2]
    by_cases h : b = a
    · subst h; simp [hd.1]
    · simp [h]
theorem sum_add (L : List Ac) (f g : Ac → Int) : (L.map fun a => f a + g a).sum = (L.map f).sum + (L.map g).sum := by
  induction L with
  | nil => rfl
  | cons a L ih => simp only [List.map_cons, List.sum_cons, ih]; omega
theorem sumC_eq (l : List Lg) (c : Int) (hm : mayL l = true) : sumC l c = ((allK.filter fun a => decide (a.2.2 = c)).map (sumA l)).sum := by
  induction l with
  | nil =>
    have : ∀ L : List Ac, (L.map (sumA [])).sum = 0 := by
      intro L
      induction L with
      | nil => rfl
      | cons a L ih => rw [List.map_cons, List.sum_cons, ih]; rfl
    rw [this]; rfl
  | cons x l ih =>
    rw [may_cons] at hm
    have e : sumA (x :: l) = fun a => (if x.1 = a then x.2 else 0) + sumA l a := funext (sumA_cons x l)
    rw [sumC_cons, ih hm.2, e, sum_add, sum_if _ _ _ (allK_nodup.filter _)]
    congr 1
    have hin := mem_allK x.1 (okL_parts hm.1).1
    by_cases hc : x.1.2.2 = c
    · rw [if_pos hc, if_pos (List.mem_filter.2 ⟨hin, by simpa using hc⟩)]
    · rw [if_neg hc, if_neg (fun h => hc (by simpa using (List.mem_filter.1 h).2))]
theorem even_congr {l m : List Lg} (hl : mayL l = true) (hm : mayL m = true) (hs : ∀ a, sumA l a = sumA m a) : evenL l = evenL m := by
  have e : sumA l = sumA m := funext hs
  have hc : ∀ c, sumC l c = sumC m c := fun c => by rw [sumC_eq l c hl, sumC_eq m c hm, e]
  unfold evenL
  rw [hc, hc, hc]
theorem check_zero {l : List Lg} : checkE l = 0 ↔ l.length ≠ 0 ∧ l.length ≤ 64 ∧ mayL l = true ∧ evenL l = true := by
  unfold checkE
  by_cases h0 : l.length = 0
  · rw [if_pos h0]; simp [h0]
  · rw [if_neg h0]
    by_cases h1 : 64 < l.length
    · rw [if_pos h1]; constructor
      · intro h; cases h
      · rintro ⟨_, h, _⟩; omega
    · rw [if_neg h1]
      by_cases h2 : mayL l = true
      · rw [if_pos h2]
        by_cases h3 : evenL l = true
        · rw [if_pos h3]; exact ⟨fun _ => ⟨h0, by omega, h2, h3⟩, fun _ => rfl⟩
        · rw [if_neg h3]; constructor
          · intro h; cases h
          · rintro ⟨_, _, _, h⟩; exact absurd h h3
      · rw [if_neg h2]; constructor
        · intro h; cases h
        · rintro ⟨_, _, h, _⟩; exact absurd h h2
theorem check_joined {l : List Lg} (h : joinE l = 0) (hc : checkE l = 0) (h0 : (joinL l).length ≠ 0) (h1 : (joinL l).length ≤ 64) : checkE (joinL l) = 0 := by
  rw [check_zero] at *
  obtain ⟨_, _, hm, he⟩ := hc
  obtain ⟨h2, h3⟩ := joined h
  exact ⟨h0, h1, h2, by rw [even_congr h2 hm h3]; exact he⟩
theorem even_append (l m : List Lg) (h1 : evenL l = true) (h2 : evenL m = true) : evenL (l ++ m) = true := by
  unfold evenL at *
  simp only [Bool.and_eq_true, decide_eq_true_eq] at *
  rw [sumC_append, sumC_append, sumC_append]
  omega
theorem check_append {l m : List Lg} (h1 : checkE l = 0) (h2 : checkE m = 0) (h : (l ++ m).length ≤ 64) : checkE (l ++ m) = 0 := by
  rw [check_zero] at *
  exact ⟨by rw [List.length_append]; omega, h, by rw [may_append, h1.2.2.1, h2.2.2.1]; rfl, even_append l m h1.2.2.2 h2.2.2.2⟩
theorem join_append {l m : List Lg} (h1 : joinE l = 0) (h2 : joinE m = 0) : joinE (joinL l ++ joinL m) = joinE (l ++ m) ∧ joinL (joinL l ++ joinL m) = joinL (l ++ m) := by
  obtain ⟨a1, a2⟩ := joined h1
  obtain ⟨b1, b2⟩ := joined h2
  refine join_congr ?_ fun a => ?_
  · rw [may_append, may_append, a1, b1, (join_zero h1).1, (join_zero h2).1]
  · rw [sumA_append, sumA_append, a2, b2]

/-! ### turns -/
theorem money_neg (n : Int) (h : isMoney n = true) : isMoney (-n) = true := by rw [isMoney_iff] at *; omega
theorem turnL_may (l : List Lg) (h : mayL l = true) : turnL l = l.map fun x => (x.1, -x.2) := by
  unfold turnL
  refine List.map_congr_left fun x hx => ?_
  have := List.all_eq_true.1 h x hx
  unfold okL at this
  simp only [Bool.and_eq_true] at this
  rw [capV_in this.2]
theorem may_turn (l : List Lg) (h : mayL l = true) : mayL (turnL l) = true := by
  rw [turnL_may l h]
  unfold mayL at *
  rw [List.all_map, List.all_eq_true] at *
  intro x hx
  have := h x hx
  unfold okL at this
  simp only [Bool.and_eq_true] at this
  show okL (x.1, -x.2) = true
  unfold okL
  simp only [Bool.and_eq_true]
  exact ⟨this.1, money_neg _ this.2⟩
theorem turn_turn (l : List Lg) (h : mayL l = true) : turnL (turnL l) = l := by
  rw [turnL_may _ (may_turn l h), turnL_may l h, List.map_map]
  conv => rhs; rw [← List.map_id l]
  refine List.map_congr_left fun x _ => ?_
  simp
theorem sumA_turn (l : List Lg) (h : mayL l = true) (a : Ac) : sumA (turnL l) a = -sumA l a := by
  rw [turnL_may l h]
  clear h
  induction l with
  | nil => rfl
  | cons x l ih =>
    rw [List.map_cons, sumA_cons, sumA_cons, ih]
    dsimp only
    split <;> omega
theorem join_turn {l : List Lg} (h : joinE l = 0) : joinE (l ++ turnL l) = 0 ∧ joinL (l ++ turnL l) = [] := by
  have hm := (join_zero h).1
  have hs : ∀ a, sumA (l ++ turnL l) a = 0 := fun a => by rw [sumA_append, sumA_turn l hm]; omega
  have h1 : joinE (l ++ turnL l) = 0 := join_of (by rw [may_append, hm, may_turn l hm]; rfl) (fun a _ => by rw [hs]; decide)
  refine ⟨h1, ?_⟩
  unfold joinL
  rw [if_pos h1, joinF_pick, List.filterMap_eq_nil_iff]
  intro a _
  unfold pick
  rw [if_pos (hs a)]

/-! ### moves -/
theorem check_move_arg (a b : Ac) (n : Int) (h : rightA a.1 a.2.1 a.2.2 = false ∨ rightA b.1 b.2.1 b.2.2 = false) : checkE (moveL a b n) = 3 := by
  have hm : mayL (moveL a b n) = false := by
    rw [Bool.eq_false_iff]
    intro hh
    unfold moveL at hh
    rw [may_cons, may_cons] at hh
    have h1 := (okL_parts hh.1).1
    have h2 := (okL_parts hh.2.1).1
    dsimp only at h1 h2
    rcases h with h | h
    · rw [h] at h1; cases h1
    · rw [h] at h2; cases h2
  unfold checkE
  rw [hm]
  rfl
theorem check_move (a b : Ac) (n : Int) (ha : rightA a.1 a.2.1 a.2.2 = true) (hb : rightA b.1 b.2.1 b.2.2 = true) :
    checkE (moveL a b n) = if a.2.2 = b.2.2 ∨ capV n = 0 then 0 else 12 := by
  have hcap := capV_bounds n
  have hm : mayL (moveL a b n) = true := by
    unfold moveL
    rw [may_cons, may_cons]
    refine ⟨?_, ?_, rfl⟩
    · unfold okL; simp only [Bool.and_eq_true]; exact ⟨ha, by rw [isMoney_iff]; omega⟩
    · unfold okL; simp only [Bool.and_eq_true]; exact ⟨hb, by rw [isMoney_iff]; omega⟩
  have hca : 0 ≤ a.2.2 ∧ a.2.2 < 3 := by unfold rightA at ha; simp only [Bool.and_eq_true, decide_eq_true_eq] at ha; exact ha.1.2
  have hcb : 0 ≤ b.2.2 ∧ b.2.2 < 3 := by unfold rightA at hb; simp only [Bool.and_eq_true, decide_eq_true_eq] at hb; exact hb.1.2
  have hs : ∀ c, sumC (moveL a b n) c = (if a.2.2 = c then -(capV n) else 0) + (if b.2.2 = c then capV n else 0) := fun c => by
    unfold moveL
    rw [sumC_cons, sumC_cons, show sumC [] c = 0 from rfl]; dsimp only; omega
  have he : evenL (moveL a b n) = decide (a.2.2 = b.2.2 ∨ capV n = 0) := by
    unfold evenL
    rw [hs, hs, hs, Bool.eq_iff_iff]
    simp only [Bool.and_eq_true, decide_eq_true_eq]
    generalize a.2.2 = p at *
    generalize b.2.2 = q at *
    generalize capV n = x at *
    have hp : p = 0 ∨ p = 1 ∨ p = 2 := by omega
    have hq : q = 0 ∨ q = 1 ∨ q = 2 := by omega
    rcases hp with rfl | rfl | rfl <;> rcases hq with rfl | rfl | rfl <;> simp <;> omega
  unfold checkE
  rw [hm, he]
  by_cases h : a.2.2 = b.2.2 ∨ capV n = 0
  · rw [if_pos h, decide_eq_true h]; rfl
  · rw [if_neg h, decide_eq_false h]; rfl
end Go.Proofs.Ytafglljfgoeapaa.NumK
namespace Go.Proofs.Ytafglljfgoeapaa.NumK
open Go.RowKit

theorem grew_below {w w2 w3 : World} {base : Nat} (h : Grew w w2) (k : Below base w2 w3) (hb : w.heap.size ≤ base) : Grew w w3 := Below.trans h (Below.mono k hb)

/-- A slice of legs that a call owns. -/
structure Mine (w : World) (base : Nat) (A : Option Addr) (n c : Nat) (l : List Lg) : Prop where
  row : RowE enLg w A n l
  nil : A = none → c = 0
  own : OwnE enLg w base 53 (.slice A n c) l
theorem Mine.of {w : World} {base : Nat} {v : Value} {l : List Lg} (h : OwnE enLg w base 53 v l) : ∃ A c, v = .slice A l.length c ∧ Mine w base A l.length c l := by
  obtain ⟨A, c, rfl, hr, hn, _⟩ := h.form
  exact ⟨A, c, rfl, hr, hn, h⟩
theorem Mine.keep {w w' : World} {base : Nat} {A : Option Addr} {n c : Nat} {l : List Lg} (h : Mine w base A n c l) (g : Grew w w') : Mine w' base A n c l := ⟨h.row.keep g, h.nil, h.own.keep g⟩
theorem Mine.slab {w : World} {base : Nat} {A : Option Addr} {n c : Nat} {l : List Lg} (h : Mine w base A n c l) : n = 0 ∨ ∃ g, A = some ⟨g, 0, none⟩ ∧ base ≤ g ∧ Slab w g (n * 4) := by
  obtain ⟨A', c', e, h2⟩ := h.own.slab
  have hl := h.row.len
  cases e
  rcases h2 with h2 | h2
  · left; omega
  · right; rw [hl] at h2; exact h2

theorem twin_form (A : Option Addr) (n c : Nat) (l : List Lg) (w : World) (h : RowE enLg w A n l) (hA : A = none → c = 0) (hn : n ≤ 1000000) :
    Calls Try.prog 26 #[.slice A n c] w fun e w' => ∃ A' c', e = .returned (.slice A' n c') ∧ Mine w' w.heap.size A' n c' l ∧ Grew w w' :=
  (twinLegs_any A n c l w h hA hn).mono fun e w' ⟨v, he, ho, hg⟩ => by
    obtain ⟨A', c', rfl, hm⟩ := Mine.of ho
    rw [h.len] at hm he
    exact ⟨A', c', he, hm, hg⟩
theorem join_form (A : Option Addr) (n c : Nat) (l : List Lg) (w : World) (h : RowE enLg w A n l) (hn : n ≤ 1000000) :
    Calls Try.prog 51 #[.slice A n c] w fun e w' => ∃ A' c', e = .returned (.tuple #[.slice A' (joinL l).length c', .int .i64 (joinE l)]) ∧ Mine w' w.heap.size A' (joinL l).length c' (joinL l) ∧ Grew w w' :=
  (join_any A n c l w h hn).mono fun e w' ⟨v, he, ho, hg⟩ => by
    obtain ⟨A', c', rfl, hm⟩ := Mine.of ho
    exact ⟨A', c', he, hm, hg⟩
theorem refTurn_form (A : Option Addr) (n c : Nat) (l : List Lg) (w : World) (h : RowE enLg w A n l) (hn : n ≤ 1000000) :
    Calls Try.prog 25 #[.slice A n c] w fun e w' => ∃ A' c', e = .returned (.slice A' n c') ∧ RowE enLg w' A' n (turnL l) ∧ Grew w w' :=
  (refTurn_any A n c l w h hn).mono fun e w' ⟨v, he, ho, hg⟩ => by
    obtain ⟨A', c', rfl, hm⟩ := Mine.of ho
    have hr := hm.row
    rw [turnL_len, h.len] at hr he
    exact ⟨A', c', he, hr, hg⟩
end Go.Proofs.Ytafglljfgoeapaa.NumK
