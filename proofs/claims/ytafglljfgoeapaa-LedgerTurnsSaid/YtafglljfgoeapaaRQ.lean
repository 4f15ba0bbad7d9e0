/- ledger.Total and ledger.Post. -/
import Derived.Test.YtafglljfgoeapaaRO
namespace Go.Proofs.Ytafglljfgoeapaa.NumK
open Go.RowKit

theorem totP (cur : Int) (ks : List Int) (K : Option Addr) (kn kc : Nat) (b1 b2 : Nat) (w : World) (h1 : w.cell? ⟨b1, 0, none⟩ = some (.int .i64 cur)) (l1 : b1 < w.heap.size) (h2 : w.cell? ⟨b2, 0, none⟩ = some (.slice K kn kc)) (l2 : b2 < w.heap.size) (hk : Ints w K kn ks) (hn : kn ≤ 90000) :
    CntOK 41 #[.pointer (some ⟨b1, 0, none⟩), .pointer (some ⟨b2, 0, none⟩)] (inK cur ks) w := by
  refine ⟨fun w1 hg x => ?_⟩
  have c1 : w1.cell? ⟨b1, 0, none⟩ = some (.int .i64 cur) := (grew_cell hg (p := ⟨b1, 0, none⟩) l1).trans h1
  have m1 : b1 < w1.heap.size := Nat.lt_of_lt_of_le l1 hg.size
  have c2 : w1.cell? ⟨b2, 0, none⟩ = some (.slice K kn kc) := (grew_cell hg (p := ⟨b2, 0, none⟩) l2).trans h2
  have m2 : b2 < w1.heap.size := Nat.lt_of_lt_of_le l2 hg.size
  have HK := Lib.hid (hk.keep hg)
  have HR : Hid (inK cur ks x = (decide (x.1.2.2 = cur) && ks.contains x.1.1)) := rfl
  generalize inK cur ks x = R at *
  clear hg h1 h2 l1 l2 hk
  unfold legV
  show Calls Try.prog _ #[.agg #[.int .i64 x.1.1, .int .i64 x.1.2.1, .int .i64 x.1.2.2, .int .i64 x.2], .pointer (some ⟨b1, 0, none⟩), .pointer (some ⟨b2, 0, none⟩)] w1 _
  have CC := fun w h => contains_any K kn kc ks x.1.1 w h (by omega)
  generalize ks.contains x.1.1 = bb at *
  generalize x.1.1 = q1 at *
  generalize x.1.2.1 = q2 at *
  generalize x.1.2.2 = q3 at *
  generalize x.2 = q4 at *
  by_cases hc : q3 = cur
  · have HR1 : Hid (R = bb) := by show _ = _; rw [HR.out, decide_eq_true hc]; rfl
    have d1 : (q3 == cur) = true := by simpa using hc
    clear HR hc
    go_enter Try.func41, Try.ntmps41
    go_wp2_with (go_at_call 42; ((with_reducible refine (CC _ (HK.out.keep (grew_alloc _ _ _))).mono ?_); rintro e w2 ⟨rfl, rfl⟩; clear CC))
    go_ret
    exact ⟨ret_b HR1.out.symm, grew_alloc _ _ _⟩
  · have HR1 : Hid (R = false) := by show _ = _; rw [HR.out, decide_eq_false hc]; rfl
    have d1 : (q3 == cur) = false := by simpa using hc
    clear HR hc CC
    go_enter Try.func41, Try.ntmps41
    go_wp2
    go_ret
    exact ⟨ret_b HR1.out.symm, grew_alloc _ _ _⟩

def totV (last : Int) (l : List Lg) (cur : Int) (ks : List Int) : Int := if ledgerB last l then capV (sumK l cur ks) else 0
def totE (last : Int) (l : List Lg) (cur : Int) (ks : List Int) : Int := if ledgerB last l then capE (sumK l cur ks) else 14

set_option maxRecDepth 100000 in
theorem ltotal_any (last cur : Int) (A K : Option Addr) (n c kn kc : Nat) (l : List Lg) (ks : List Int) (w : World) (h : RowE enLg w A n l) (h2 : Ints w K kn ks) (hn : n ≤ 90000) (hk : kn ≤ 90000) :
    Calls Try.prog 19 #[ldV last A n c, .int .i64 cur, .slice K kn kc] w fun e w' => e = .returned (.tuple #[.int .i64 (totV last l cur ks), .int .i64 (totE last l cur ks)]) ∧ Grew w w' := by
  have HI := Lib.hid h
  have HJ := Lib.hid h2
  have CC := fun w h => lcheck_any last A n c l w h hn
  clear h h2
  have eg := enters_of Try.func41 (by kernel_rfl) rfl
  by_cases hb : ledgerB last l = true
  · have HV : Hid (totV last l cur ks = capV (sumK l cur ks)) := by show _ = _; unfold totV; rw [if_pos hb]
    have HE : Hid (totE last l cur ks = capE (sumK l cur ks)) := by show _ = _; unfold totE; rw [if_pos hb]
    rw [if_pos hb] at CC
    have HM := Lib.hid (amts_money (inK cur ks) l (rightB_may (ledger_parts hb).2.1))
    have CT : ∀ w1, Grew (((w.alloc (.cells #[.int .i64 last, .slice A n c] 24)).alloc (.cells #[.int .i64 cur] 3)).alloc (.cells #[.slice K kn kc] 28)) w1 →
        Calls Try.prog 40 #[.slice A n c, .func (.func 41) #[] #[.pointer (some ⟨w.heap.size + 1, 0, none⟩), .pointer (some ⟨w.heap.size + 1 + 1, 0, none⟩)]] w1 fun e w' => e = .returned (.tuple #[.int .i64 (totV last l cur ks), .int .i64 (totE last l cur ks)]) ∧ Grew w1 w' := by
      intro w1 hg
      obtain ⟨t1, t2, t3, _⟩ := three_new w #[.int .i64 last, .slice A n c] #[.int .i64 cur] #[.slice K kn kc] 24 3 28
      have hs : w.heap.size + 3 ≤ w1.heap.size := by have := hg.size; simp at this; omega
      have hgw : Grew w w1 := grew_trans (grew_trans (grew_alloc _ _ _) (grew_trans (grew_alloc _ _ _) (grew_alloc _ _ _))) hg
      have e1 : w1.cell? ⟨w.heap.size + 1, 0, none⟩ = some (.int .i64 cur) := (grew_cell hg (p := ⟨w.heap.size + 1, 0, none⟩) (by show _ + 1 < (World.alloc _ _).heap.size; simp)).trans (t2 0)
      have e2 : w1.cell? ⟨w.heap.size + 1 + 1, 0, none⟩ = some (.slice K kn kc) := (grew_cell hg (p := ⟨w.heap.size + 1 + 1, 0, none⟩) (by show _ + 1 + 1 < (World.alloc _ _).heap.size; simp)).trans (t3 0)
      rw [HV.out, HE.out]
      refine (btotal_any _ _ _ A n c l _ eg (totP cur ks K kn kc _ _ w1 e1 (by omega) e2 (by omega) (HJ.out.keep hgw) hk) (HI.out.keep hgw) hn).mono ?_
      rintro e w' ⟨rfl, hg⟩
      rw [sumV_in HM.out, sumE_in HM.out]
      exact ⟨rfl, hg⟩
    unfold ldV
    unfold ldV at CC
    clear eg
    go_enter Try.func19, Try.ntmps19
    go_wp2_with (first
      | (go_at_call 12; ((with_reducible refine (CC _ (HI.out.keep (grew_trans (grew_alloc _ _ _) (grew_trans (grew_alloc _ _ _) (grew_alloc _ _ _))))).mono ?_); rintro e w1 ⟨rfl, hg⟩; have d1 : w1.cell? ⟨w.heap.size, 1, none⟩ = some (.slice A n c) := (grew_cell hg (p := ⟨w.heap.size, 1, none⟩) (by show _ < (World.alloc _ _).heap.size; simp; omega)).trans ((three_new w _ _ _ _ _ _).1 1); have HG1 := Lib.hid hg; clear hg CC))
      | (go_at_call 40; ((with_reducible refine (CT _ HG1.out).mono ?_); rintro e w2 ⟨rfl, hg⟩; have HG2 := Lib.hid hg; clear hg CT)))
    go_ret2
    exact ⟨rfl, grew_trans (grew_trans (grew_alloc _ _ _) (grew_trans (grew_alloc _ _ _) (grew_alloc _ _ _))) (grew_trans HG1.out HG2.out)⟩
  · have HV : Hid (totV last l cur ks = 0) := by show _ = _; unfold totV; rw [if_neg hb]
    have HE : Hid (totE last l cur ks = 14) := by show _ = _; unfold totE; rw [if_neg hb]
    rw [if_neg hb] at CC
    unfold ldV
    unfold ldV at CC
    clear eg
    go_enter Try.func19, Try.ntmps19
    go_wp2_with (go_at_call 12; ((with_reducible refine (CC _ (HI.out.keep (grew_trans (grew_alloc _ _ _) (grew_trans (grew_alloc _ _ _) (grew_alloc _ _ _))))).mono ?_); rintro e w1 ⟨rfl, hg⟩; have HG1 := Lib.hid hg; clear hg CC))
    go_ret2
    exact ⟨by rw [HV.out, HE.out]; rfl, grew_trans (grew_trans (grew_alloc _ _ _) (grew_trans (grew_alloc _ _ _) (grew_alloc _ _ _))) HG1.out⟩
end Go.Proofs.Ytafglljfgoeapaa.NumK
namespace Go.Proofs.Ytafglljfgoeapaa.NumK
open Go.RowKit

theorem post_no {last : Int} {l : List Lg} {id : Int} {m : List Lg} {e : Int} (h : postE last l id m = e) (h0 : e ≠ 0) : postN last l id m = 0 ∧ postL last l id m = [] := by
  subst h
  exact ⟨by unfold postN; rw [if_neg h0], by unfold postL; rw [if_neg h0]⟩
theorem post_yes {last : Int} {l : List Lg} {id : Int} {m : List Lg} (h : postE last l id m = 0) : postN last l id m = id ∧ postL last l id m = addL l m := by
  refine ⟨by unfold postN; rw [if_pos h], ?_⟩
  unfold postL addL
  rw [if_pos h, if_pos (postE_zero.1 h).2.2.2.2.2]
theorem postE_1 {last : Int} {l : List Lg} {id : Int} {m : List Lg} (h : ¬ ledgerB last l = true) : postE last l id m = 14 := by unfold postE; rw [if_neg h]
theorem postE_2 {last : Int} {l : List Lg} {id : Int} {m : List Lg} (h : ledgerB last l = true) (h2 : id < 1 ∨ 1099511627776 < id) : postE last l id m = 3 := by unfold postE; rw [if_pos h, if_pos h2]
theorem postE_3 {last : Int} {l : List Lg} {id : Int} {m : List Lg} (h : ledgerB last l = true) (h2 : ¬ (id < 1 ∨ 1099511627776 < id)) (h3 : id ≤ last) : postE last l id m = 18 := by unfold postE; rw [if_pos h, if_neg h2, if_pos h3]
theorem postE_4 {last : Int} {l : List Lg} {id : Int} {m : List Lg} (h : ledgerB last l = true) (h2 : ¬ (id < 1 ∨ 1099511627776 < id)) (h3 : ¬ id ≤ last) (h4 : ¬ checkE m = 0) : postE last l id m = checkE m := by unfold postE; rw [if_pos h, if_neg h2, if_neg h3, if_neg h4]
theorem postE_5 {last : Int} {l : List Lg} {id : Int} {m : List Lg} (h : ledgerB last l = true) (h2 : ¬ (id < 1 ∨ 1099511627776 < id)) (h3 : ¬ id ≤ last) (h4 : checkE m = 0) : postE last l id m = addE l m := by unfold postE; rw [if_pos h, if_neg h2, if_neg h3, if_pos h4]

/-- What Post leaves. -/
def PostP (last : Int) (l : List Lg) (id : Int) (m : List Lg) (w : World) (e : Ending) (w' : World) : Prop :=
  ∃ A' c', e = .returned (.tuple #[ldV (postN last l id m) A' (postL last l id m).length c', .int .i64 (postE last l id m)]) ∧ OwnE enLg w' w.heap.size 64 (.slice A' (postL last l id m).length c') (postL last l id m) ∧ Grew w w'
theorem postP_no {last : Int} {l : List Lg} {id : Int} {m : List Lg} {e : Int} {w w' : World} (h : postE last l id m = e) (h0 : e ≠ 0) (g : Grew w w') : PostP last l id m w (.returned (.tuple #[.agg #[.int .i64 0, .slice none 0 0], .int .i64 e])) w' := by
  obtain ⟨h1, h2⟩ := post_no h h0
  unfold PostP
  rw [h1, h2, h]
  exact ⟨none, 0, rfl, OwnE.nil enLg _ _ _, g⟩
theorem postP_yes {last : Int} {l : List Lg} {id : Int} {m : List Lg} {w w' : World} {A : Option Addr} {c : Nat} (h : postE last l id m = 0) (ho : OwnE enLg w' w.heap.size 64 (.slice A (addL l m).length c) (addL l m)) (g : Grew w w') : PostP last l id m w (.returned (.tuple #[.agg #[.int .i64 id, .slice A (addL l m).length c], .int .i64 0])) w' := by
  obtain ⟨h1, h2⟩ := post_yes h
  unfold PostP
  rw [h1, h2, h]
  exact ⟨A, c, rfl, ho, g⟩
theorem own2_box (w : World) (last : Int) (A : Option Addr) (n c : Nat) (t1 t2 : TypeId) : Own2 ((w.alloc (.cells #[.int .i64 last, .slice A n c] t1)).alloc (.cells #[.int .i64 0, .slice none 0 0] t2)) (w.heap.size + 1) (.int .i64 0) (.slice none 0 0) :=
  Own2.new _ _ _ _ _ (by simp)
theorem box_keep {w w1 : World} {cs c2 : Array Value} {t t2 : TypeId} (h : Grew ((w.alloc (.cells cs t)).alloc (.cells c2 t2)) w1) (i : Nat) : w1.cell? ⟨w.heap.size, i, none⟩ = cs[i]? := (two_cells h).1 i

set_option maxRecDepth 100000 in
set_option maxHeartbeats 2000000 in
theorem lpost_any (last id : Int) (A B : Option Addr) (n c m d : Nat) (l ls : List Lg) (w : World) (h : RowE enLg w A n l) (h2 : RowE enLg w B m ls) (hB : B = none → d = 0) (hn : n ≤ 90000) (hm : m ≤ 90000) :
    Calls Try.prog 15 #[ldV last A n c, .int .i64 id, .slice B m d] w (PostP last l id ls w) := by
  have HI := Lib.hid h
  have HJ := Lib.hid h2
  have HB := Lib.hid hB
  have CC := fun w h => lcheck_any last A n c l w h hn
  have CD := fun w h => check_any B m d ls w h (by omega)
  clear h h2 hB
  unfold ldV
  unfold ldV at CC
  by_cases hb : ledgerB last l = true
  · rw [if_pos hb] at CC
    by_cases h1 : id < 1
    · have HE := Lib.hid (postE_2 (m := ls) hb (Or.inl h1))
      clear CD hb
      go_enter Try.func15, Try.ntmps15
      go_wp2_with (go_at_call 12; ((with_reducible refine (CC _ (HI.out.keep (grew_trans (grew_alloc _ _ _) (grew_alloc _ _ _)))).mono ?_); rintro e w1 ⟨rfl, hg⟩; have HO1 := Lib.hid ((own2_box w last A n c _ _).keep hg); obtain ⟨e0, e1, f0, f1, lt⟩ := HO1.out; have d0 : w1.cell? ⟨w.heap.size, 0, none⟩ = some (.int .i64 last) := box_keep hg 0; have d1 : w1.cell? ⟨w.heap.size, 1, none⟩ = some (.slice A n c) := box_keep hg 1; have hd0 : w.heap.size < w1.heap.size := (by have := hg.size; simp at this; omega); have HG1 := Lib.hid (grew_trans (grew_trans (grew_alloc _ _ _) (grew_alloc _ _ _)) hg); clear hg CC))
      have K := HO1.out.set (.int .i64 0) (.slice none 0 0)
      have r0 := K.c0
      have r1 := K.c1
      refine bodyPost_ret (v := .tuple #[.agg #[.int .i64 0, .slice none 0 0], .int .i64 3]) (by simp [results, Try.results15, go_sem, r0, r1]) rfl ?_
      exact postP_no HE.out (by decide) (grew_set (grew_set HG1.out _ (by show _ ≤ w.heap.size + 1; omega)) _ (by show _ ≤ w.heap.size + 1; omega))
    · by_cases h2 : 1099511627776 < id
      · have HE := Lib.hid (postE_2 (m := ls) hb (Or.inr h2))
        clear CD hb
        go_enter Try.func15, Try.ntmps15
        go_wp2_with (go_at_call 12; ((with_reducible refine (CC _ (HI.out.keep (grew_trans (grew_alloc _ _ _) (grew_alloc _ _ _)))).mono ?_); rintro e w1 ⟨rfl, hg⟩; have HO1 := Lib.hid ((own2_box w last A n c _ _).keep hg); obtain ⟨e0, e1, f0, f1, lt⟩ := HO1.out; have d0 : w1.cell? ⟨w.heap.size, 0, none⟩ = some (.int .i64 last) := box_keep hg 0; have d1 : w1.cell? ⟨w.heap.size, 1, none⟩ = some (.slice A n c) := box_keep hg 1; have hd0 : w.heap.size < w1.heap.size := (by have := hg.size; simp at this; omega); have HG1 := Lib.hid (grew_trans (grew_trans (grew_alloc _ _ _) (grew_alloc _ _ _)) hg); clear hg CC))
        have K := HO1.out.set (.int .i64 0) (.slice none 0 0)
        have r0 := K.c0
        have r1 := K.c1
        refine bodyPost_ret (v := .tuple #[.agg #[.int .i64 0, .slice none 0 0], .int .i64 3]) (by simp [results, Try.results15, go_sem, r0, r1]) rfl ?_
        exact postP_no HE.out (by decide) (grew_set (grew_set HG1.out _ (by show _ ≤ w.heap.size + 1; omega)) _ (by show _ ≤ w.heap.size + 1; omega))
      · have h12 : ¬ (id < 1 ∨ 1099511627776 < id) := by omega
        by_cases h3 : id ≤ last
        · have HE := Lib.hid (postE_3 (m := ls) hb h12 h3)
          clear CD hb h12
          go_enter Try.func15, Try.ntmps15
          go_wp2_with (go_at_call 12; ((with_reducible refine (CC _ (HI.out.keep (grew_trans (grew_alloc _ _ _) (grew_alloc _ _ _)))).mono ?_); rintro e w1 ⟨rfl, hg⟩; have HO1 := Lib.hid ((own2_box w last A n c _ _).keep hg); obtain ⟨e0, e1, f0, f1, lt⟩ := HO1.out; have d0 : w1.cell? ⟨w.heap.size, 0, none⟩ = some (.int .i64 last) := box_keep hg 0; have d1 : w1.cell? ⟨w.heap.size, 1, none⟩ = some (.slice A n c) := box_keep hg 1; have hd0 : w.heap.size < w1.heap.size := (by have := hg.size; simp at this; omega); have HG1 := Lib.hid (grew_trans (grew_trans (grew_alloc _ _ _) (grew_alloc _ _ _)) hg); clear hg CC))
          have K := HO1.out.set (.int .i64 0) (.slice none 0 0)
          have r0 := K.c0
          have r1 := K.c1
          refine bodyPost_ret (v := .tuple #[.agg #[.int .i64 0, .slice none 0 0], .int .i64 18]) (by simp [results, Try.results15, go_sem, r0, r1]) rfl ?_
          exact postP_no HE.out (by decide) (grew_set (grew_set HG1.out _ (by show _ ≤ w.heap.size + 1; omega)) _ (by show _ ≤ w.heap.size + 1; omega))
        · by_cases h4 : checkE ls = 0
          · have HE5 := Lib.hid (postE_5 hb h12 h3 h4)
            rw [h4] at CD
            have hmay : mayL (l ++ ls) = true := by rw [may_append, rightB_may (ledger_parts hb).2.1, (check_zero.1 h4).2.2.1]; rfl
            have CA := fun w h h2 => ladd_any A B n c m d l ls w h h2 HB.out hmay hn hm
            clear hmay hb h12 h4
            by_cases h5 : addE l ls = 0
            · have HE := Lib.hid (HE5.out.trans h5)
              rw [h5] at CA
              clear HE5 h5
              go_enter Try.func15, Try.ntmps15
              go_wp2_with (first
                | (go_at_call 12; ((with_reducible refine (CC _ (HI.out.keep (grew_trans (grew_alloc _ _ _) (grew_alloc _ _ _)))).mono ?_); rintro e w1 ⟨rfl, hg⟩; have HO1 := Lib.hid ((own2_box w last A n c _ _).keep hg); obtain ⟨e0, e1, f0, f1, lt⟩ := HO1.out; have d0 : w1.cell? ⟨w.heap.size, 0, none⟩ = some (.int .i64 last) := box_keep hg 0; have d1 : w1.cell? ⟨w.heap.size, 1, none⟩ = some (.slice A n c) := box_keep hg 1; have hd0 : w.heap.size < w1.heap.size := (by have := hg.size; simp at this; omega); have HG1 := Lib.hid (grew_trans (grew_trans (grew_alloc _ _ _) (grew_alloc _ _ _)) hg); clear hg CC))
                | (go_at_call 35; ((with_reducible refine (CD _ (HJ.out.keep HG1.out)).mono ?_); rintro e w2 ⟨rfl, hg⟩; have HO2 := Lib.hid (HO1.out.keep hg); clear e0 e1 f0 f1 lt; obtain ⟨e0, e1, f0, f1, lt⟩ := HO2.out; have d2 : w2.cell? ⟨w.heap.size, 1, none⟩ = some (.slice A n c) := (grew_cell hg (p := ⟨w.heap.size, 1, none⟩) hd0).trans d1; clear d0 d1 hd0; have HG2 := Lib.hid (grew_trans HG1.out hg); clear hg CD))
                | (go_at_call 36; ((with_reducible refine (CA _ (HI.out.keep HG2.out) (HJ.out.keep HG2.out)).mono ?_); rintro e w3 ⟨v3, rfl, hown, hg⟩; have HO3 := Lib.hid (HO2.out.keep hg); clear e0 e1 f0 f1 lt; obtain ⟨e0, e1, f0, f1, lt⟩ := HO3.out; obtain ⟨A3, c3, rfl, -⟩ := hown.form; have HW3 := Lib.hid hown; have HG3 := Lib.hid (grew_trans HG2.out hg); clear hg CA d2 hown)))
              have K := HO3.out.set (.int .i64 id) (.slice A3 (addL l ls).length c3)
              have r0 := K.c0
              have r1 := K.c1
              refine bodyPost_ret (v := .tuple #[.agg #[.int .i64 id, .slice A3 (addL l ls).length c3], .int .i64 0]) (by simp [results, Try.results15, go_sem, r0, r1]) rfl ?_
              exact postP_yes HE.out (((HW3.out.set (w.heap.size + 1) 0 _ HO2.out.lt).set (w.heap.size + 1) 1 _ HO2.out.lt).mono HG2.out.size) (grew_set (grew_set HG3.out _ (by show _ ≤ w.heap.size + 1; omega)) _ (by show _ ≤ w.heap.size + 1; omega))
            · have HE := HE5
              generalize addE l ls = ae at *
              have d5 : (ae != 0) = true := by simpa using h5
              have HNZ := Lib.hid h5
              clear HE5 h5
              go_enter Try.func15, Try.ntmps15
              go_wp2_with (first
                | (go_at_call 12; ((with_reducible refine (CC _ (HI.out.keep (grew_trans (grew_alloc _ _ _) (grew_alloc _ _ _)))).mono ?_); rintro e w1 ⟨rfl, hg⟩; have HO1 := Lib.hid ((own2_box w last A n c _ _).keep hg); obtain ⟨e0, e1, f0, f1, lt⟩ := HO1.out; have d0 : w1.cell? ⟨w.heap.size, 0, none⟩ = some (.int .i64 last) := box_keep hg 0; have d1 : w1.cell? ⟨w.heap.size, 1, none⟩ = some (.slice A n c) := box_keep hg 1; have hd0 : w.heap.size < w1.heap.size := (by have := hg.size; simp at this; omega); have HG1 := Lib.hid (grew_trans (grew_trans (grew_alloc _ _ _) (grew_alloc _ _ _)) hg); clear hg CC))
                | (go_at_call 35; ((with_reducible refine (CD _ (HJ.out.keep HG1.out)).mono ?_); rintro e w2 ⟨rfl, hg⟩; have HO2 := Lib.hid (HO1.out.keep hg); clear e0 e1 f0 f1 lt; obtain ⟨e0, e1, f0, f1, lt⟩ := HO2.out; have d2 : w2.cell? ⟨w.heap.size, 1, none⟩ = some (.slice A n c) := (grew_cell hg (p := ⟨w.heap.size, 1, none⟩) hd0).trans d1; clear d0 d1 hd0; have HG2 := Lib.hid (grew_trans HG1.out hg); clear hg CD))
                | (go_at_call 36; ((with_reducible refine (CA _ (HI.out.keep HG2.out) (HJ.out.keep HG2.out)).mono ?_); rintro e w3 ⟨v3, rfl, hown, hg⟩; have HO3 := Lib.hid (HO2.out.keep hg); clear e0 e1 f0 f1 lt; obtain ⟨e0, e1, f0, f1, lt⟩ := HO3.out; obtain ⟨A3, c3, rfl, -⟩ := hown.form; have HW3 := Lib.hid hown; have HG3 := Lib.hid (grew_trans HG2.out hg); clear hg CA d2 hown)))
              have K := HO3.out.set (.int .i64 0) (.slice none 0 0)
              have r0 := K.c0
              have r1 := K.c1
              refine bodyPost_ret (v := .tuple #[.agg #[.int .i64 0, .slice none 0 0], .int .i64 ae]) (by simp [results, Try.results15, go_sem, r0, r1]) rfl ?_
              exact postP_no HE.out HNZ.out (grew_set (grew_set HG3.out _ (by show _ ≤ w.heap.size + 1; omega)) _ (by show _ ≤ w.heap.size + 1; omega))
          · have HE := Lib.hid (postE_4 hb h12 h3 h4)
            generalize checkE ls = ce at *
            have d4 : (ce != 0) = true := by simpa using h4
            have HNZ := Lib.hid h4
            clear hb h12 h4
            go_enter Try.func15, Try.ntmps15
            go_wp2_with (first
              | (go_at_call 12; ((with_reducible refine (CC _ (HI.out.keep (grew_trans (grew_alloc _ _ _) (grew_alloc _ _ _)))).mono ?_); rintro e w1 ⟨rfl, hg⟩; have HO1 := Lib.hid ((own2_box w last A n c _ _).keep hg); obtain ⟨e0, e1, f0, f1, lt⟩ := HO1.out; have d0 : w1.cell? ⟨w.heap.size, 0, none⟩ = some (.int .i64 last) := box_keep hg 0; have d1 : w1.cell? ⟨w.heap.size, 1, none⟩ = some (.slice A n c) := box_keep hg 1; have hd0 : w.heap.size < w1.heap.size := (by have := hg.size; simp at this; omega); have HG1 := Lib.hid (grew_trans (grew_trans (grew_alloc _ _ _) (grew_alloc _ _ _)) hg); clear hg CC))
              | (go_at_call 35; ((with_reducible refine (CD _ (HJ.out.keep HG1.out)).mono ?_); rintro e w2 ⟨rfl, hg⟩; have HO2 := Lib.hid (HO1.out.keep hg); clear e0 e1 f0 f1 lt; obtain ⟨e0, e1, f0, f1, lt⟩ := HO2.out; have d2 : w2.cell? ⟨w.heap.size, 1, none⟩ = some (.slice A n c) := (grew_cell hg (p := ⟨w.heap.size, 1, none⟩) hd0).trans d1; clear d0 d1 hd0; have HG2 := Lib.hid (grew_trans HG1.out hg); clear hg CD)))
            have K := HO2.out.set (.int .i64 0) (.slice none 0 0)
            have r0 := K.c0
            have r1 := K.c1
            refine bodyPost_ret (v := .tuple #[.agg #[.int .i64 0, .slice none 0 0], .int .i64 ce]) (by simp [results, Try.results15, go_sem, r0, r1]) rfl ?_
            exact postP_no HE.out HNZ.out (grew_set (grew_set HG2.out _ (by show _ ≤ w.heap.size + 1; omega)) _ (by show _ ≤ w.heap.size + 1; omega))
  · rw [if_neg hb] at CC
    have HE := Lib.hid (postE_1 (id := id) (m := ls) hb)
    clear CD hb
    go_enter Try.func15, Try.ntmps15
    go_wp2_with (go_at_call 12; ((with_reducible refine (CC _ (HI.out.keep (grew_trans (grew_alloc _ _ _) (grew_alloc _ _ _)))).mono ?_); rintro e w1 ⟨rfl, hg⟩; have HO1 := Lib.hid ((own2_box w last A n c _ _).keep hg); obtain ⟨e0, e1, f0, f1, lt⟩ := HO1.out; have d0 : w1.cell? ⟨w.heap.size, 0, none⟩ = some (.int .i64 last) := box_keep hg 0; have d1 : w1.cell? ⟨w.heap.size, 1, none⟩ = some (.slice A n c) := box_keep hg 1; have hd0 : w.heap.size < w1.heap.size := (by have := hg.size; simp at this; omega); have HG1 := Lib.hid (grew_trans (grew_trans (grew_alloc _ _ _) (grew_alloc _ _ _)) hg); clear hg CC))
    have K := HO1.out.set (.int .i64 0) (.slice none 0 0)
    have r0 := K.c0
    have r1 := K.c1
    refine bodyPost_ret (v := .tuple #[.agg #[.int .i64 0, .slice none 0 0], .int .i64 14]) (by simp [results, Try.results15, go_sem, r0, r1]) rfl ?_
    exact postP_no HE.out (by decide) (grew_set (grew_set HG1.out _ (by show _ ≤ w.heap.size + 1; omega)) _ (by show _ ≤ w.heap.size + 1; omega))
end Go.Proofs.Ytafglljfgoeapaa.NumK
