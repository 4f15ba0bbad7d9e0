/- Package auction: Tear. -/
import Derived.Test.YtahioajpmlochaaGreatRH15
import Derived.Test.YtahioajpmlochaaGreatRH3
import Derived.Test.YtahioajpmlochaaGreatRH14
import Derived.Test.YtahioajpmlochaaGreatRH18
import Derived.Test.YtahioajpmlochaaGreatRH7
import Derived.Deep.RegionHeld3
namespace Go.Proofs.YtahioajpmlochaaGreat.NumK
open Go.RowKit
set_option linter.unusedVariables false

theorem absA_nonneg (n : Int) : 0 ≤ absA n := by unfold absA; omega
/-- Those on the other side have at most so much each. -/
theorem oth_pos {l : List Po} (h : rightPs l = true) (n q : Int) : ∀ x ∈ othP l n q, absA x.2.2.1 ≤ 1099511627776 := by
  intro x hx
  have h1 : x ∈ l := (List.mem_filter.1 hx).1
  have h2 := ((rightPs_iff _).1 h).1 x h1
  have h3 := (okPo_iff x).1 h2
  have h4 := (okQ_iff _).1 h3.2.1
  unfold absA
  omega
theorem othW_le {l : List Po} (h : rightPs l = true) (n q : Int) : ∀ z ∈ othW l n q, 0 ≤ z ∧ z ≤ 1099511627776 := by
  intro z hz
  unfold othW at hz
  obtain ⟨p, hp, rfl⟩ := List.mem_map.1 hz
  exact ⟨absA_nonneg _, oth_pos h n q p hp⟩
theorem sum_le_len (zs : List Int) (B : Int) (h : ∀ z ∈ zs, 0 ≤ z ∧ z ≤ B) : 0 ≤ zs.sum ∧ zs.sum ≤ zs.length * B := by
  induction zs with
  | nil => simp
  | cons z zs ih =>
    have h1 := h z (by simp)
    have h2 := ih (fun y hy => h y (List.mem_cons_of_mem _ hy))
    rw [List.sum_cons, List.length_cons, show ((zs.length + 1 : Nat) : Int) * B = zs.length * B + B by rw [Int.natCast_add, Int.add_mul]; simp]
    omega
theorem tornF_take : ∀ (xs : List Po) (ps : List Int) (c : Int) (i : Nat), i < xs.length → i < ps.length → tornF (xs.take (i + 1)) (ps.take (i + 1)) c = tornF (xs.take i) (ps.take i) c ++ (if 0 < ps.getD i 0 then [((xs.getD i po0).1, ps.getD i 0, c)] else [])
  | [], _, _, i, h, _ => absurd h (Nat.not_lt_zero _)
  | x :: xs, [], _, i, _, h => absurd h (Nat.not_lt_zero _)
  | x :: xs, p :: ps, c, 0, _, _ => by
    simp only [List.take_succ_cons, List.take_zero, List.getD_cons_zero]
    unfold tornF
    by_cases hp : 0 < p
    · simp [hp, tornF]
    · simp [hp, tornF]
  | x :: xs, p :: ps, c, i + 1, h, h2 => by
    have ih := tornF_take xs ps c i (by simpa using h) (by simpa using h2)
    simp only [List.take_succ_cons, List.getD_cons_succ]
    rw [tornF, tornF, ih]
    by_cases hp : 0 < p
    · simp [hp]
    · simp [hp]
theorem tornF_len : ∀ (xs : List Po) (ps : List Int) (c : Int), (tornF xs ps c).length ≤ xs.length
  | [], _, _ => by simp [tornF]
  | x :: xs, [], _ => by simp [tornF]
  | x :: xs, p :: ps, c => by
    rw [tornF]
    have := tornF_len xs ps c
    split <;> simp <;> omega

theorem range_getD (zs : List Int) (L : Nat) (h : zs.length = L) : (List.range L).map (fun k => zs.getD k 0) = zs := by
  subst h
  apply List.ext_getElem
  · simp
  · intro i h1 h2; simp [List.getD, h2]
def TearPost (F : List Po) (zs : List Int) (m : Int) (w : World) (e : Ending) (w' : World) : Prop :=
  ∃ v s t, e = .returned (.tuple #[v, .int .i64 0]) ∧ Pl (rs m zs) zs.length s t ∧ OwnE enD3 w' w.heap.size 40 v (tornF F ((List.range zs.length).map (pt m zs t)) 0) ∧ Grew w w'

set_option maxRecDepth 100000 in
set_option maxHeartbeats 16000000 in
theorem tear_any (b : Bk) (A1 A2 : Option Addr) (n1 n2 c1 c2 : Nat) (k1 k2 q cc m : Int) (w : World) (h : InB w b A1 A2 n1 n2 c1 c2) (hr : rightB b = true) (hof : ofP b.2.2 (k1, k2) = (k1, k2, q, cc)) (hm0 : 0 ≤ m) (hm1 : m ≤ 1099511627776) (hs : m ≤ (othW b.2.2 k2 q).sum) :
    Calls Tryz.prog 6 #[vBk b.1 A1 A2 n1 n2 c1 c2, .agg #[.int .i64 k1, .int .i64 k2], .int .i64 m] w (TearPost (othP b.2.2 k2 q) (othW b.2.2 k2 q) m w) := by
  have HI := Lib.hid h
  have hlen := right_lens hr
  have hn1 : n1 ≤ 100000 := by have := h.t.len; omega
  have hn2 : n2 ≤ 128 := by have := h.p.len; omega
  have CC := fun w' (g : Grew w w') => bcheck_any b A1 A2 n1 n2 c1 c2 w' (h.keep g) ⟨hn1, by omega⟩
  have CO := fun w' (g : Grew w w') => bof_any b A1 A2 n1 n2 c1 c2 k1 k2 w' (h.keep g) (by omega)
  have CA := fun w' (g : Grew w w') => against_any A2 n2 c2 b.2.2 (k1, k2, q, cc) w' (h.p.keep g) (by omega)
  have CW := fun w => auwithin_any m 0 1099511627776 w
  rw [show wi m 0 1099511627776 = true from (wi_iff _ _ _).2 ⟨hm0, hm1⟩] at CW
  rw [chkB_yes hr] at CC
  rw [hof] at CO
  have hps := ((rightB_iff b).1 hr).2.2
  have HZW := Lib.hid (othW_le hps k2 q)
  have HWD := Lib.hid (oth_w_at b.2.2 k2 q)
  have hFl : (othP b.2.2 k2 q).length ≤ 128 := by have := othP_len b.2.2 k2 q; have := h.p.len; omega
  have hZL : (othW b.2.2 k2 q).length = (othP b.2.2 k2 q).length := by unfold othW; rw [List.length_map]
  have hsb := sum_le_len (othW b.2.2 k2 q) 1099511627776 (othW_le hps k2 q)
  dsimp only at CA
  generalize othW b.2.2 k2 q = zs at *
  generalize othP b.2.2 k2 q = F at *
  have hmon : zs.all isMoney = true := by
    rw [List.all_eq_true]; intro z hz; exact (isMoney_iff _).2 (by have := HZW.out z hz; omega)
  have hsum : zs.sum ≤ 140737488355328 := by
    have : (zs.length : Int) * 1099511627776 ≤ 128 * 1099511627776 := by
      have : (zs.length : Int) ≤ 128 := by omega
      omega
    omega
  have hSV : sumV zs = zs.sum := by
    rw [sumV_in hmon]; unfold capV; rw [if_pos ((isMoney_iff _).2 (by omega))]
  have hCH : chkE m zs = 0 := by
    unfold chkE
    have e1 : isMoney m = true := (isMoney_iff _).2 (by omega)
    have e2 : hasNeg zs = false := by
      cases hh : hasNeg zs
      · rfl
      · unfold hasNeg at hh
        obtain ⟨z, hz, hz2⟩ := List.any_eq_true.1 hh
        have := HZW.out z hz
        simp at hz2; omega
    rw [e1, hmon, e2, decide_eq_true hm0]
    simp only [Bool.and_self, Bool.not_false, if_true]
    rw [if_pos (by omega)]
  have HSP : Hid (∀ A w e w', SplitPost m zs zs.length w e w' → ∃ B s t, w.heap.size ≤ B ∧ Pl (rs m zs) zs.length s t ∧ e = .returned (.tuple #[.slice (some ⟨B, 0, none⟩) zs.length zs.length, .int .i64 0]) ∧ RowI w' B zs.length (pt m zs t) ∧ Grew w w') := fun (A : Unit) w e w' hp => by
    obtain ⟨hg, hp⟩ := hp
    rcases hp with ⟨h1, _⟩ | ⟨_, h2, h3, _⟩ | ⟨_, B, s, t, h4, h5, h6, h7⟩
    · exact absurd hCH h1
    · exact absurd (by omega) h3
    · exact ⟨B, s, t, h4, h5, h6, h7, hg⟩
  have HSV := Lib.hid hSV
  obtain ⟨L, hL⟩ : ∃ L, L = F.length := ⟨_, rfl⟩
  have HZL : Hid (zs.length = L) := by show _ = _; rw [hZL, hL]
  have hL128 : L ≤ 128 := by omega
  clear hsb hlen hFl hZL hmon hSV hCH hps hr hof h
  obtain ⟨nx, lt, lp⟩ := b
  dsimp only [vBk] at *
  have HX0 : Hid (OwnC ((w.alloc (.cells #[.int .i64 nx, .slice A1 n1 c1, .slice A2 n2 c2] 28)).alloc (.cells #[.int .i64 k1, .int .i64 k2] 24)) w.heap.size [.int .i64 nx, .slice A1 n1 c1, .slice A2 n2 c2]) := (OwnC.new w [.int .i64 nx, .slice A1 n1 c1, .slice A2 n2 c2] _ _ rfl).keep (grew_alloc _ _ _)
  have HY0 : Hid (OwnC ((w.alloc (.cells #[.int .i64 nx, .slice A1 n1 c1, .slice A2 n2 c2] 28)).alloc (.cells #[.int .i64 k1, .int .i64 k2] 24)) (w.heap.size + 1) [.int .i64 k1, .int .i64 k2]) := OwnC.new _ [.int .i64 k1, .int .i64 k2] _ _ (by simp)
  have HG0 : Hid (Grew w ((w.alloc (.cells #[.int .i64 nx, .slice A1 n1 c1, .slice A2 n2 c2] 28)).alloc (.cells #[.int .i64 k1, .int .i64 k2] 24))) := grew_trans (grew_alloc _ _ _) (grew_alloc _ _ _)
  go_enter Tryz.func6, Tryz.ntmps6
  go_upto_region 1 with (fail)
  generalize ((w.alloc (.cells #[.int .i64 nx, .slice A1 n1 c1, .slice A2 n2 c2] 28)).alloc (.cells #[.int .i64 k1, .int .i64 k2] 24)) = w0 at *
  generalize hN : w.heap.size = N at *
  have HN := Lib.hid hN
  clear hN
  have x0 := HX0.out.at 0 _ rfl
  have x1 := HX0.out.at 1 _ rfl
  have x2 := HX0.out.at 2 _ rfl
  have CC1 := CC w0 HG0.out
  clear CC
  go_upto_region 6 with (first
    | (go_at_call 12; ((with_reducible refine CC1.mono ?_); rintro e w1 ⟨rfl, hg⟩; have HG1 := Lib.hid hg; clear hg CC1))
    | (go_at_call 13; ((with_reducible refine (CW _).mono ?_); rintro e w1' ⟨rfl, rfl⟩)))
  have HGA := Lib.hid (grew_trans HG0.out HG1.out)
  have HS : Hid (∀ w', Grew w1 w' → w'.cell? ⟨N, 0, none⟩ = some (.int .i64 nx) ∧ w'.cell? ⟨N, 1, none⟩ = some (.slice A1 n1 c1) ∧ w'.cell? ⟨N, 2, none⟩ = some (.slice A2 n2 c2) ∧ w'.cell? ⟨N + 1, 0, none⟩ = some (.int .i64 k1) ∧ w'.cell? ⟨N + 1, 1, none⟩ = some (.int .i64 k2)) := fun w' g =>
    ⟨((HX0.out.keep HG1.out).keep g).at 0 _ rfl, ((HX0.out.keep HG1.out).keep g).at 1 _ rfl, ((HX0.out.keep HG1.out).keep g).at 2 _ rfl, ((HY0.out.keep HG1.out).keep g).at 0 _ rfl, ((HY0.out.keep HG1.out).keep g).at 1 _ rfl⟩
  clear x0 x1 x2 HX0 HY0 HG0 HG1 CW
  have CO1 := fun w' (g : Grew w1 w') => CO w' (grew_trans HGA.out g)
  have CA1 := fun w' (g : Grew w1 w') => CA w' (grew_trans HGA.out g)
  clear CO CA
  dsimp only [vPo] at CO1 CA1
  generalize hN1 : N + 1 = N1 at *
  clear hN1
  go_region_held3 (fun w' => w'.cell? ⟨N, 0, none⟩ = some (.int .i64 nx) ∧ w'.cell? ⟨N, 1, none⟩ = some (.slice A1 n1 c1) ∧ w'.cell? ⟨N, 2, none⟩ = some (.slice A2 n2 c2) ∧ w'.cell? ⟨N1, 0, none⟩ = some (.int .i64 k1) ∧ w'.cell? ⟨N1, 1, none⟩ = some (.int .i64 k2))
    (first
      | (with_reducible exact HS.out _ (grew_drew (grew_refl _)))
      | (with_reducible exact HS.out _ HG2.out)
      | (exact HS.out _ HG3.out))
    (first
      | (go_at_call 15; ((with_reducible refine (CO1 _ (grew_drew (grew_refl _))).mono ?_); rintro e w2 ⟨rfl, hg⟩; have HG2 : Hid (Grew w1 w2) := grew_trans (grew_drew (grew_refl _)) hg; clear hg))
      | (go_at_call 14; ((with_reducible refine (CA1 _ HG2.out).mono ?_); rintro e w3 ⟨v3, rfl, ho, hg⟩; have HG3 : Hid (Grew w1 w3) := grew_trans HG2.out hg; have HO3 := Lib.hid ho; clear ho hg)))
  all_goals
    (obtain ⟨AF, cF, rfl, hrf, -⟩ := HO3.out.form
     rw [← hL] at hrf ⊢
     have HRF := Lib.hid hrf
     have HGB := Lib.hid (grew_trans HGA.out HG3.out)
     have hmk := run_ints w3 L (by omega)
     have HLF := Lib.hid hL
     clear hrf HO3 CO1 CA1 HS HGA HG2 HG3 hL)
  have HRI : Hid (RowI (w3.alloc (.cells (madeCells #[.int .i64 0] L) 3)) w3.heap.size L (fun k => if k < 0 then zs.getD k 0 else 0)) := (RowI.made w3 3 L).congr (fun k _ => by rw [if_neg (Nat.not_lt_zero _)])
  have HGM : Hid (Grew w3 (w3.alloc (.cells (madeCells #[.int .i64 0] L) 3))) := grew_alloc _ _ _
  go_upto_region 8 with (fail)
  clear hmk
  generalize w3.alloc (.cells (madeCells #[.int .i64 0] L) 3) = w4 at *
  generalize hSB : w3.heap.size = SB at *
  have HSB := Lib.hid hSB
  clear hSB
  go_wp2_with (fail)
  go_loopw [11, 12, 39] (fun v11 v12 v39 wr => ∃ j : Nat, v39 = .int .i64 j ∧ j ≤ L ∧ Hid (RowI wr SB L (fun k => if k < j then zs.getD k 0 else 0)) ∧ Hid (Grew w3 wr)) (fun _ _ v39 _ => L - (intOf v39).toNat)
  case atStart => exact ⟨0, rfl, by omega, HRI.out, HGM.out⟩
  case round =>
    clear HRI HGM
    obtain ⟨j, rfl, hj, HRI, HG⟩ := hrel
    by_cases hlt : j < L
    · obtain ⟨b, o, rfl, hb, hc⟩ := (HRF.out.keep HG.out).po hlt
      obtain ⟨a0, a1, a2, a3⟩ := hc j hlt
      have hwd := HWD.out j (by rw [← HLF.out]; exact hlt)
      have hzj := HZW.out (zs.getD j 0) (getD_mem zs 0 j (by rw [HZL.out]; exact hlt))
      have i0 : (0 : Int) ≤ (j : Int) := by omega
      have i1 : (j : Int) < (L : Int) := by omega
      clear hc hb
      generalize F.getD j po0 = x at *
      obtain ⟨p1, p2, p3, p4⟩ := x
      dsimp only at a0 a1 a2 a3 hwd
      have HWJ := Lib.hid hwd
      rw [hwd] at hzj
      clear hwd
      have hzz : -1099511627776 ≤ p3 ∧ p3 ≤ 1099511627776 := by unfold absA at hzj; omega
      clear hzj
      obtain ⟨hz1, hz2⟩ := hzz
      have CS := fun w => ausize_any p3 w (by omega) (by omega)
      have HAB : Hid (max p3 (-p3) = absA p3) := rfl
      rw [HAB.out] at CS
      clear HAB
      have HX : Hid (OwnC (wr.alloc (.cells #[.int .i64 p1, .int .i64 p2, .int .i64 p3, .int .i64 p4] 31)) wr.heap.size [.int .i64 p1, .int .i64 p2, .int .i64 p3, .int .i64 p4]) := OwnC.new wr [.int .i64 p1, .int .i64 p2, .int .i64 p3, .int .i64 p4] _ _ rfl
      have HR5 := Lib.hid (HRI.out.keep (grew_alloc wr #[.int .i64 p1, .int .i64 p2, .int .i64 p3, .int .i64 p4] 31))
      have HG5 := Lib.hid (grew_trans HG.out (grew_alloc wr #[.int .i64 p1, .int .i64 p2, .int .i64 p3, .int .i64 p4] 31))
      go_upto_region 11 with (fail)
      generalize (wr.alloc (.cells #[.int .i64 p1, .int .i64 p2, .int .i64 p3, .int .i64 p4] 31)) = w5 at *
      generalize wr.heap.size = NP at *
      have u2 := HX.out.at 2 _ rfl
      obtain ⟨s1, s2⟩ := HR5.out.2 j hlt
      have HRN : Hid (RowI (w5.setCell ⟨SB, j, none⟩ (.int .i64 (absA p3))) SB L (fun k => if k < j + 1 then zs.getD k 0 else 0)) := (HR5.out.set j (absA p3)).congr (fun k hk => by
        by_cases c1 : k = j
        · rw [if_pos c1, if_pos (by omega), c1, HWJ.out]
        · rw [if_neg c1]
          by_cases c2 : k < j
          · rw [if_pos c2, if_pos (by omega)]
          · rw [if_neg c2, if_neg (by omega)])
      have HGN : Hid (Grew w3 (w5.setCell ⟨SB, j, none⟩ (.int .i64 (absA p3)))) := Below.setCell HG5.out (p := ⟨SB, j, none⟩) (by rw [HSB.out]; exact Nat.le_refl _) _
      clear HRI HG HX HR5 HG5 a0 a1 a2 a3
      generalize absA p3 = ab at *
      go_wp2_with (go_at_call 16; ((with_reducible refine (CS _).mono ?_); rintro e w6 ⟨rfl, rfl⟩))
      clear u2 s1 s2
      go_roundw
      case rel => exact ⟨j + 1, by go_num, by omega, HRN.out, HGN.out⟩
      case measure => simp only [intOf]; omega
    · obtain rfl : j = L := by omega
      have HIN : Hid (Ints wr (some ⟨SB, 0, none⟩) j zs) := by
        have h1 := (HRI.out.congr (e := fun k => zs.getD k 0) (fun k hk => by rw [if_pos hk])).ints
        rw [range_getD zs j HZL.out] at h1
        exact h1
      have CS := sum_any (some ⟨SB, 0, none⟩) j j zs wr HIN.out (by omega)
      rw [HSV.out] at CS
      have hms : ¬ m > zs.sum := by omega
      have HSUM : Hid (∀ k : Int, k = zs.sum → ¬ m > k) := fun k hk => by omega
      go_upto_region 14 with (go_at_call 17; ((with_reducible refine CS.mono ?_); rintro e w6 ⟨rfl, hg⟩; have HG6 := Lib.hid hg; clear hg CS))
      have HIN6 : Ints w6 (some ⟨SB, 0, none⟩) j zs := HIN.out.keep HG6.out
      have CSP := split_any m (some ⟨SB, 0, none⟩) j j zs w6 HIN6 (by omega)
      have HF6 := Lib.hid ((HRF.out.keep HG.out).keep HG6.out)
      have HGC := Lib.hid (grew_trans HGB.out (grew_trans HG.out HG6.out))
      rw [HZL.out] at HSP
      have CSP2 := CSP.mono (fun e w' hp => HSP.out () w6 e w' hp)
      clear CSP HIN6 HIN HRI HG HG6 HRF HSB HSUM
      generalize zs.sum = SS at *
      go_upto_region 17 with (go_at_call 18; ((with_reducible refine CSP2.mono ?_); rintro e w7 ⟨B, s, t, hB, hpl, rfl, hri, hg⟩; have HPL := Lib.hid hpl; have HPT := Lib.hid hri; have HG7 := Lib.hid hg; clear hB hpl hri hg CSP2))
      have HF7 := Lib.hid (HF6.out.keep HG7.out)
      have HGD := Lib.hid (grew_trans HGC.out HG7.out)
      clear HF6 HGC HG7
      obtain ⟨ps, hps⟩ : ∃ ps, ps = (List.range zs.length).map (pt m zs t) := ⟨_, rfl⟩
      have HPS := Lib.hid hps
      have HPL2 : Hid (ps.length = j) := by show _ = _; rw [hps, List.length_map, List.length_range, HZL.out]
      have HPG : Hid (∀ i, i < j → ps.getD i 0 = pt m zs t i) := fun i hi => by
        rw [hps, getD_at _ 0 i (by rw [List.length_map, List.length_range, HZL.out]; exact hi), List.getElem_map, List.getElem_range]
      clear hps
      go_wp2_with (fail)
      go_loopw [17, 18, 19, 67] (fun v17 v18 v19 v67 wr => ∃ i : Nat, v67 = .int .i64 i ∧ i ≤ j ∧ Hid (OwnE enD3 wr w7.heap.size 40 v17 (tornF (F.take i) (ps.take i) 0)) ∧ Hid (Grew w7 wr)) (fun _ _ _ v67 _ => j - (intOf v67).toNat)
      case atStart => exact ⟨0, rfl, by omega, OwnE.nil _ _ _ _, grew_refl _⟩
      case round =>
        obtain ⟨i, rfl, hi, HT, HG⟩ := hrel
        by_cases hlt2 : i < j
        · obtain ⟨b, o, rfl, hb, hc⟩ := (HF7.out.keep HG.out).po hlt2
          obtain ⟨a0, a1, a2, a3⟩ := hc i hlt2
          have HST := Lib.hid (tornF_take F ps 0 i (by rw [← HLF.out]; exact hlt2) (by rw [HPL2.out]; exact hlt2))
          rw [HPG.out i hlt2] at HST
          have HLL : Hid ((tornF (F.take i) (ps.take i) 0).length ≤ 128) := by show _ ≤ _; have := tornF_len (F.take i) (ps.take i) 0; rw [List.length_take] at this; omega
          have hpc := fun w' (g : Grew w7 w') => ((HPT.out.keep g).2 i hlt2).1
          have i0 : (0 : Int) ≤ (i : Int) := by omega
          have i1 : (i : Int) < (j : Int) := by omega
          clear hc hb
          generalize F.getD i po0 = x at *
          obtain ⟨p1, p2, p3, p4⟩ := x
          dsimp only at a0 a1 a2 a3 HST
          generalize pt m zs t i = P at *
          have HX : Hid (OwnC (wr.alloc (.cells #[.int .i64 p1, .int .i64 p2, .int .i64 p3, .int .i64 p4] 31)) wr.heap.size [.int .i64 p1, .int .i64 p2, .int .i64 p3, .int .i64 p4]) := OwnC.new wr [.int .i64 p1, .int .i64 p2, .int .i64 p3, .int .i64 p4] _ _ rfl
          have HNE2 := Lib.hid (own_ne HT.out (Nat.le_refl wr.heap.size))
          have HT5 := Lib.hid (HT.out.keep (grew_alloc wr #[.int .i64 p1, .int .i64 p2, .int .i64 p3, .int .i64 p4] 31))
          have HG5 := Lib.hid (grew_trans HG.out (grew_alloc wr #[.int .i64 p1, .int .i64 p2, .int .i64 p3, .int .i64 p4] 31))
          go_upto_region 21 with (fail)
          generalize (wr.alloc (.cells #[.int .i64 p1, .int .i64 p2, .int .i64 p3, .int .i64 p4] 31)) = w8 at *
          generalize wr.heap.size = NP at *
          have HS : Hid (∀ w', Grew w8 w' → w'.cell? ⟨NP, 0, none⟩ = some (.int .i64 p1) ∧ w'.cell? ⟨B, i, none⟩ = some (.int .i64 P)) := fun w' g => ⟨(HX.out.keep g).at 0 _ rfl, hpc w' (grew_trans HG5.out g)⟩
          obtain ⟨u0, v0⟩ := HS.out _ (grew_refl _)
          clear HT HG a0 a1 a2 a3
          by_cases hP : 0 < P
          · have d1 : P > 0 := hP
            have HF : Hid (tornF (F.take (i + 1)) (ps.take (i + 1)) 0 = tornF (F.take i) (ps.take i) 0 ++ [(p1, P, 0)]) := by show _ = _; rw [HST.out, if_pos hP]
            clear HST
            go_upto_region 22 with (fail)
            clear u0 v0
            go_region_held3 (fun w' => w'.cell? ⟨NP, 0, none⟩ = some (.int .i64 p1) ∧ w'.cell? ⟨B, i, none⟩ = some (.int .i64 P))
              (first
                | (with_reducible exact HS.out _ (grew_drew (grew_refl _)))
                | (with_reducible exact HS.out _ (grew_trans (grew_drew (grew_refl _)) (grew_alloc _ _ _)))
                | (with_reducible exact HS.out _ (grew_drew (grew_alloc _ _ _)))
                | (exact HK9.out))
              (first
                | (refine step_append_G (E := enD3) rfl _ _ 33 40 (vFi fi0) 24 rfl Tryz.underlying33 info_fi rfl w7.heap.size _ _ rfl (HT5.out.keep (grew_trans (grew_drew (grew_refl _)) (grew_alloc _ _ _))) _ 1 1 [(p1, P, 0)] rfl (RowE.one enD3 _ (p1, P, 0) 40 _ rfl) (by have := HLL.out; unfold maxLen; omega) (by have := HLL.out; omega) (Nat.le_trans HG5.out.size (grew_trans (grew_drew (grew_refl _)) (grew_alloc _ _ _)).size) ?_; intro v9 w9 hv hb hgb; have HV9 := Lib.hid hv; have HG9 : Hid (Grew w7 w9) := Below.trans (grew_trans HG5.out (grew_trans (grew_drew (grew_refl _)) (grew_alloc _ _ _))) hb; have HK9 : Hid (w9.cell? ⟨NP, 0, none⟩ = some (.int .i64 p1) ∧ w9.cell? ⟨B, i, none⟩ = some (.int .i64 P)) := ⟨((HX.out.keep (grew_trans (grew_drew (grew_refl _)) (grew_alloc _ _ _))).grown hgb HNE2.out).at 0 _ rfl, hpc w9 HG9.out⟩; clear hv hb hgb))
            all_goals
              (go_wp2
               go_roundw
               case rel => exact ⟨i + 1, by go_num, by omega, by rw [HF.out]; exact HV9.out, HG9.out⟩
               case measure => simp only [intOf]; omega)
          · have d1 : ¬ P > 0 := hP
            have HF : Hid (tornF (F.take (i + 1)) (ps.take (i + 1)) 0 = tornF (F.take i) (ps.take i) 0) := by show _ = _; rw [HST.out, if_neg hP, List.append_nil]
            clear HST
            go_wp2
            go_roundw
            case rel => exact ⟨i + 1, by go_num, by omega, by rw [HF.out]; exact HT5.out, HG5.out⟩
            case measure => simp only [intOf]; omega
        · obtain rfl : i = j := by omega
          have HFF : Hid (tornF (F.take i) (ps.take i) 0 = tornF F ps 0) := by show _ = _; rw [List.take_of_length_le (by rw [← HLF.out]; exact Nat.le_refl _), List.take_of_length_le (by rw [HPL2.out]; exact Nat.le_refl _)]
          rw [HFF.out] at HT
          go_wp2
          go_ret2
          refine ⟨_, s, t, rfl, by rw [HZL.out]; exact HPL.out, ?_, grew_trans HGD.out HG.out⟩
          rw [← HPS.out]
          exact HT.out.mono (by have := HGD.out.size; have := HN.out; omega)
end Go.Proofs.YtahioajpmlochaaGreat.NumK
