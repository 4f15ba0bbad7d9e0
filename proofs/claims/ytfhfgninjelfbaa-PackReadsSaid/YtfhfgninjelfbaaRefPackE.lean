/- The reference's Reader: Mark, Text. -/
import Derived.Test.YtfhfgninjelfbaaRefPackD
import Derived.StillTailTactics
namespace Go.Proofs.Ytfhfgninjelfbaa.NumK
open Go.RowKit

set_option maxRecDepth 100000 in
set_option maxHeartbeats 2000000 in
theorem refRMark_any (p : Nat) (A : Option Addr) (n c : Nat) (bs : List UInt8) (s : RS) (w : World) (h : QD w p A n c bs s) :
    Calls Try.prog 22 #[.pointer (some ⟨p, 0, none⟩)] w (QPost p A n c bs (.bool (rM s).1) (rM s).2 w) := by
  have HD := Lib.hid h
  obtain ⟨hp, ho, hn, hb, hA, t, ht, hl, h0, h1, h2, f1, f2, _⟩ := h
  by_cases he : s.e = 0
  · have HE := Lib.hid he
    have HL := Lib.hid (hl he)
    have HB := Lib.hid hb
    have HBL := Lib.hid hb.1
    have HP0 := Lib.hid hp
    have HF1 := Lib.hid f1
    rw [he] at h2
    have CN := fun w' (g : Grew w w') => none_any p A n c bs s 4 w' (HD.out.keep g) (by omega)
    have hF : rFail s 4 = .fail 4 := by unfold rFail; rw [if_pos he]
    rw [hF] at CN
    clear hl he hb hA ho f1 f2 hF
    by_cases hend : t = n
    · have HV : Hid (rM s = (false, .fail 4)) := by
        show _ = _; unfold rM; rw [if_pos HE.out, HL.out, List.drop_of_length_le (by rw [HBL.out]; omega)]
      subst hend
      have d0 : decide (t ≤ t) = true := decide_eq_true (by omega)
      go_enter Try.func22, Try.ntmps22
      go_wp2
      go_quiet (fail)
      have HG2 : Hid (Grew w (w.drewN nq)) := grew_drewN (grew_refl _) _
      generalize w.drewN nq = w2 at HG2 ⊢
      have CN2 := CN _ HG2.out
      clear CN
      go_wp2_with (go_at_call 39; ((with_reducible refine CN2.mono ?_); rintro e w3 ⟨rfl, hq, ht⟩; have HQ3 := Lib.hid hq; have HT3 := Lib.hid ht; clear hq ht CN2))
      go_ret
      exact ⟨by rw [HV.out]; rfl, by rw [HV.out]; exact HQ3.out, ((Turn.refl p w).grew HG2.out).trans HT3.out⟩
    · have hlt : t < n := by omega
      obtain ⟨b, o, rfl, hbb, hc⟩ := HB.out.2 (by omega)
      have hcell := hc t hlt
      have hcons : s.l = bs.getD t 0 :: bs.drop (t + 1) := by
        rw [HL.out, List.drop_eq_getElem_cons (by rw [HBL.out]; exact hlt)]
        simp [List.getD, show t < bs.length from by rw [HBL.out]; exact hlt]
      have HON := Lib.hid (HD.out.on HE.out (t + 1) hlt)
      generalize bs.getD t 0 = ch at *
      have d0 : decide (n ≤ t) = false := decide_eq_false (by omega)
      have i0 : (0 : Int) ≤ (t : Int) := by omega
      have i1 : (t : Int) < (n : Int) := by omega
      by_cases hu : 1 < ch.toNat
      · have HV : Hid (rM s = (false, .fail 4)) := by
          show _ = _; unfold rM; rw [if_pos HE.out, hcons]; dsimp only; rw [if_pos hu]
        have d1 : decide ((1 : Int) < (ch.toNat : Int)) = true := decide_eq_true (by omega)
        clear hcons hc hend
        generalize ch.toNat = u at *
        go_enter Try.func22, Try.ntmps22
        go_wp2
        go_quiet (fail)
        have HG2 : Hid (Grew w (w.drewN nq)) := grew_drewN (grew_refl _) _
        generalize w.drewN nq = w2 at HG2 ⊢
        have CN2 := CN _ HG2.out
        clear CN
        go_wp2_with (go_at_call 39; ((with_reducible refine CN2.mono ?_); rintro e w3 ⟨rfl, hq, ht⟩; have HQ3 := Lib.hid hq; have HT3 := Lib.hid ht; clear hq ht CN2))
        go_ret
        exact ⟨by rw [HV.out]; rfl, by rw [HV.out]; exact HQ3.out, ((Turn.refl p w).grew HG2.out).trans HT3.out⟩
      · have HV : Hid (rM s = (decide (ch.toNat = 1), ⟨bs.drop (t + 1), 0⟩)) := by
          show _ = _; unfold rM; rw [if_pos HE.out, hcons]; dsimp only; rw [if_neg hu]
        have d1 : decide ((1 : Int) < (ch.toNat : Int)) = false := decide_eq_false (by omega)
        have hne : b ≠ p := by
          have := HD.out.2.2.2.2.1 (by omega) _ rfl
          exact this
        have hs1 : IntKind.i64.wrap ((t : Int) + 1 - 1) = (t : Int) := by rw [IntKind.wrap_i64]; omega
        clear hcons hc hend CN
        generalize ch.toNat = u at *
        go_enter Try.func22, Try.ntmps22
        go_wp2
        go_quiet (fail)
        have HG2 : Hid (Grew w (w.drewN nq)) := grew_drewN (grew_refl _) _
        have c0' : (w.drewN nq).cell? ⟨p, 0, none⟩ = some (.slice (some ⟨b, o, none⟩) n c) := h0
        have c1' : (w.drewN nq).cell? ⟨p, 1, none⟩ = some (.int .i64 t) := h1
        have hcell' := (show (w.drewN nq).cell? ⟨b, o + t, none⟩ = _ from hcell)
        have f1' : (w.drewN nq).frozen? ⟨p, 1, none⟩ = false := HF1.out
        have HON2 : Hid (QD ((w.drewN nq).setCell ⟨p, 1, none⟩ (.int .i64 ((t + 1 : Nat) : Int))) p (some ⟨b, o, none⟩) n c bs ⟨bs.drop (t + 1), 0⟩) := (HD.out.keep HG2.out).on HE.out (t + 1) hlt
        generalize w.drewN nq = w2 at HG2 c0' c1' hcell' f1' HON2 ⊢
        go_wp2
        have k0 : (w2.setCell ⟨p, 1, none⟩ (.int .i64 ((t : Int) + 1))).cell? ⟨p, 0, none⟩ = some (.slice (some ⟨b, o, none⟩) n c) := (World.cell?_setCell_other _ _ _ _ (by intro e; simp only [Addr.mk.injEq] at e; omega)).trans c0'
        have k1 : (w2.setCell ⟨p, 1, none⟩ (.int .i64 ((t : Int) + 1))).cell? ⟨p, 1, none⟩ = some (.int .i64 ((t : Int) + 1)) := World.cell?_setCell_same _ _ _ c1'
        have k2 : (w2.setCell ⟨p, 1, none⟩ (.int .i64 ((t : Int) + 1))).cell? ⟨b, o + t, none⟩ = some (.int .u8 (u : Int)) := (World.cell?_setCell_other _ _ _ _ (by intro e; simp only [Addr.mk.injEq] at e; omega)).trans hcell'
        have HT2 : Hid (Turn p w (w2.setCell ⟨p, 1, none⟩ (.int .i64 ((t : Int) + 1)))) := ((Turn.refl p w).grew HG2.out).setCell 1 _
        have e1 : ((t + 1 : Nat) : Int) = (t : Int) + 1 := by omega
        rw [e1] at HON2
        clear e1
        generalize w2.setCell ⟨p, 1, none⟩ (.int .i64 ((t : Int) + 1)) = w3 at *
        go_quiet (fail)
        have HG4 : Hid (Grew w3 (w3.drewN nq)) := grew_drewN (grew_refl _) _
        generalize w3.drewN nq = w4 at HG4 ⊢
        go_wp2
        go_ret
        exact ⟨ret_b (by rw [HV.out]; dsimp only; rw [Bool.eq_iff_iff]; simp; omega), by rw [HV.out]; exact HON2.out.keep HG4.out, HT2.out.grew HG4.out⟩
  · have HV := Lib.hid (rM_bad he)
    rw [HV.out]
    have d : (s.e != 0) = true := by simpa using he
    clear he hl ht hA hb hn ho
    go_enter Try.func22, Try.ntmps22
    go_wp2
    go_ret
    exact ⟨rfl, HD.out, Turn.refl _ _⟩

theorem ite_some {P : Prop} [Decidable P] (x y : Addr) (h : (if P then some x else some y) = (none : Option Addr)) : False := by
  split at h <;> cases h
theorem bys_cut {w : World} {b o n c t T : Nat} {bs : List UInt8} (h : Bys w (some ⟨b, o, none⟩) n bs) (ht : t ≤ T) (hT : T ≤ n) (hc : n ≤ c) : Bys w (if c = t then some ⟨b, o, none⟩ else some ⟨b, o + t, none⟩) (T - t) ((bs.drop t).take (T - t)) := by
  by_cases e : c = t
  · have h0 : T - t = 0 := by omega
    rw [h0, List.take_zero]; exact bys0 _ _
  · rw [if_neg e]
    exact (h.drop (by omega)).take (by omega)

def QTPost (p : Nat) (A : Option Addr) (n c : Nat) (bs l : List UInt8) (s' : RS) (w : World) (e : Ending) (w' : World) : Prop :=
  ∃ A2 n2 c2, e = .returned (.slice A2 n2 c2) ∧ Bys w' A2 n2 l ∧ QD w' p A n c bs s' ∧ Turn p w w'

set_option maxRecDepth 100000 in
set_option maxHeartbeats 2000000 in
theorem refRText_any (p : Nat) (A : Option Addr) (n c : Nat) (bs : List UInt8) (s : RS) (w : World) (h : QD w p A n c bs s) :
    Calls Try.prog 24 #[.pointer (some ⟨p, 0, none⟩)] w (QTPost p A n c bs (rT s).1 (rT s).2 w) := by
  have C1 := refRInt_any p A n c bs s w h
  have hz := @rI_zero s
  have hb := rI_bd s
  have hne : (rI s).2.e = 0 → 0 < n := by
    intro he
    obtain ⟨g0, g1⟩ := rI_was he
    obtain ⟨_, _, _, hbs, _, t, _, hl, _⟩ := h
    rcases Nat.eq_zero_or_pos n with h0 | h0
    · have : bs = [] := List.eq_nil_of_length_eq_zero (by rw [hbs.1, h0])
      rw [hl g0, this] at g1
      simp [encI] at g1
      have := vb_pos (zig (rI s).1)
      rw [g1.1] at this
      simp at this
    · exact h0
  have HT0 : Hid (rT s = if (rI s).2.e = 0 then
    (if (rI s).1 < 0 then ([], .fail 4) else if 65536 < (rI s).1 then ([], .fail 5)
     else if ((rI s).2.l.length : Int) < (rI s).1 then ([], .fail 4) else ((rI s).2.l.take (rI s).1.toNat, ⟨(rI s).2.l.drop (rI s).1.toNat, 0⟩))
    else ([], (rI s).2)) := rfl
  generalize rT s = out at *
  generalize (rI s).1 = v at *
  generalize (rI s).2 = s1 at *
  clear h
  have HNE := Lib.hid hne
  clear hne
  go_enter Try.func24, Try.ntmps24
  go_upto_region 2 with (go_at_call 20; ((with_reducible refine C1.mono ?_); rintro e w1 ⟨rfl, hq, ht⟩; have HQ1 := Lib.hid hq; have HT1 := Lib.hid ht; clear hq ht))
  clear C1
  obtain ⟨hp, ho, hn, hbs, hA, t, ht, hl, h0, h1, h2, f1, f2, hc1, hc2⟩ := HQ1.out
  have HFAIL := Lib.hid (fun x (hx : x ≠ 0) => none_any p A n c bs s1 x w1 HQ1.out hx)
  by_cases he : s1.e = 0
  · have hn0 := HNE.out he
    obtain ⟨b, o, rfl, hbb, _⟩ := hbs.2 hn0
    have hF : ∀ x, rFail s1 x = .fail x := fun x => by unfold rFail; rw [if_pos he]
    have HE := Lib.hid he
    have HL := Lib.hid (hl he)
    have HB := Lib.hid hbs
    have HBL := Lib.hid hbs.1
    have HF1 := Lib.hid f1
    rw [he] at h2
    clear ho hbs hA hl he hz f1 f2 hbb
    by_cases v1 : v < 0
    · have HO : Hid (out = ([], .fail 4)) := by show _ = _; rw [HT0.out, if_pos HE.out, if_pos v1]
      have CN := HFAIL.out 4 (by omega)
      rw [hF 4] at CN
      clear HFAIL hF
      go_wp2_with (go_at_call 39; ((with_reducible refine CN.mono ?_); rintro e w3 ⟨rfl, hq, ht⟩; have HQ3 := Lib.hid hq; have HT3 := Lib.hid ht; clear hq ht CN))
      go_ret
      exact ⟨none, 0, 0, rfl, by rw [HO.out]; exact bys0 _ _, by rw [HO.out]; exact HQ3.out, HT1.out.trans HT3.out⟩
    · by_cases v2 : 65536 < v
      · have HO : Hid (out = ([], .fail 5)) := by show _ = _; rw [HT0.out, if_pos HE.out, if_neg v1, if_pos v2]
        have CN := HFAIL.out 5 (by omega)
        rw [hF 5] at CN
        clear HFAIL hF
        go_wp2_with (go_at_call 39; ((with_reducible refine CN.mono ?_); rintro e w3 ⟨rfl, hq, ht⟩; have HQ3 := Lib.hid hq; have HT3 := Lib.hid ht; clear hq ht CN))
        go_ret
        exact ⟨none, 0, 0, rfl, by rw [HO.out]; exact bys0 _ _, by rw [HO.out]; exact HQ3.out, HT1.out.trans HT3.out⟩
      · obtain ⟨k, rfl⟩ := Int.eq_ofNat_of_zero_le (show 0 ≤ v by omega)
        have hll : s1.l.length = n - t := by rw [HL.out, List.length_drop, HBL.out]
        have hsub : IntKind.i64.wrap ((n : Int) - (t : Int)) = ((n - t : Nat) : Int) := by rw [IntKind.wrap_i64]; omega
        have hm : ∃ m, m = n - t := ⟨_, rfl⟩
        obtain ⟨m, hm⟩ := hm
        rw [← hm] at hll hsub
        have HM := Lib.hid hm
        have HLL := Lib.hid hll
        have hmn : m ≤ n := by omega
        have HX : Hid ((out : List UInt8 × RS) = if (m : Int) < (k : Int) then ([], .fail 4) else (s1.l.take k, ⟨s1.l.drop k, 0⟩)) := by
          show _ = _; rw [HT0.out, if_pos HE.out, if_neg v1, if_neg v2, hll]; rfl
        clear HT0 hll hm
        by_cases v3 : m < k
        · have HO : Hid (out = ([], .fail 4)) := by show _ = _; rw [HX.out, if_pos (by omega)]
          have CN := fun w' (g : Grew w1 w') => none_any p _ n c bs s1 4 w' (HQ1.out.keep g) (by omega)
          rw [hF 4] at CN
          have d0 : decide (m < k) = true := decide_eq_true v3
          clear HFAIL hF
          go_wp2
          go_quiet (fail)
          have HG2 : Hid (Grew w1 (w1.drewN nq)) := grew_drewN (grew_refl _) _
          generalize w1.drewN nq = w2 at HG2 ⊢
          have CN2 := CN _ HG2.out
          clear CN
          go_wp2_with (go_at_call 39; ((with_reducible refine CN2.mono ?_); rintro e w3 ⟨rfl, hq, ht⟩; have HQ3 := Lib.hid hq; have HT3 := Lib.hid ht; clear hq ht CN2))
          go_ret
          exact ⟨none, 0, 0, rfl, by rw [HO.out]; exact bys0 _ _, by rw [HO.out]; exact HQ3.out, (HT1.out.grew HG2.out).trans HT3.out⟩
        · have HO : Hid (out = (s1.l.take k, ⟨s1.l.drop k, 0⟩)) := by show _ = _; rw [HX.out, if_neg (by omega)]
          have d0 : decide (m < k) = false := decide_eq_false v3
          have hsum : IntKind.i64.wrap ((t : Int) + (k : Int)) = ((t + k : Nat) : Int) := by rw [IntKind.wrap_i64]; omega
          have hT : ∃ T, T = t + k := ⟨_, rfl⟩
          obtain ⟨T, hT⟩ := hT
          rw [← hT] at hsum
          have HTT := Lib.hid hT
          have i0 : (0 : Int) ≤ (t : Int) := by omega
          have i1 : (t : Int) ≤ (T : Int) := by omega
          have i2 : (T : Int) ≤ (c : Int) := by have := HM.out; omega
          clear HFAIL hF hT HX
          go_wp2
          go_quiet (fail)
          have HG2 : Hid (Grew w1 (w1.drewN nq)) := grew_drewN (grew_refl _) _
          have c0' : (w1.drewN nq).cell? ⟨p, 0, none⟩ = some (.slice (some ⟨b, o, none⟩) n c) := h0
          have c1' : (w1.drewN nq).cell? ⟨p, 1, none⟩ = some (.int .i64 t) := h1
          have HF1' : Hid ((w1.drewN nq).frozen? ⟨p, 1, none⟩ = false) := HF1.out
          generalize w1.drewN nq = w2 at HG2 c0' c1' HF1' ⊢
          go_wp2
          go_still_tail 16, (by kernel_rfl)
          change wpList _ _ _ _ _ w2.drew
          have hg2 : Grew w2 w2.drew := Below.drew (grew_refl _)
          have HG3 : Hid (Grew w1 w2.drew) := grew_trans HG2.out hg2
          have c1'' : w2.drew.cell? ⟨p, 1, none⟩ = some (.int .i64 t) := c1'
          have f1'' : w2.drew.frozen? ⟨p, 1, none⟩ = false := HF1'.out
          clear hg2 c0' c1'
          generalize w2.drew = w3 at *
          refine (wpList_append_bytes (by rfl) _ _ (by rfl) w3.heap.size (.slice none 0 0) 0 [] (by rfl) (World.ownsRow_nil _ _ _ _) (if c = t then some ⟨b, o, none⟩ else some ⟨b, o + t, none⟩) (T - t) (c - t) ((bs.drop t).take (T - t)) ?_ ?_ (bys_cut (HB.out.keep HG3.out) (by omega) (by have := HTT.out; have := HM.out; omega) (by omega)) (by have := HTT.out; have := HM.out; omega) (Nat.le_refl _) ?_)
          · rfl
          · exact fun h => (ite_some _ _ h).elim
          · intro v' w4 ho hb'
            rw [Nat.zero_add, List.nil_append] at ho
            have e1 : T - t = k := by have := HTT.out; omega
            rw [e1] at ho
            obtain ⟨A4, c4, rfl, hb4, _, hfr⟩ := bys_of_own ho
            have HG4 : Hid (Grew w1 w4) := grew_trans HG3.out hb'
            have hk2 : w4.cell? ⟨p, 1, none⟩ = some (.int .i64 t) := (grew_cell hb' (p := ⟨p, 1, none⟩) (Nat.lt_of_lt_of_le hp HG3.out.size)).trans c1''
            have hf2 : w4.frozen? ⟨p, 1, none⟩ = false := (Below.frozen hb' (p := ⟨p, 1, none⟩) (Nat.lt_of_lt_of_le hp HG3.out.size)).trans f1''
            have HQ4 := Lib.hid ((HQ1.out.keep HG4.out).on HE.out T (by have := HTT.out; have := HM.out; omega))
            have hpast : Past p A4 := (hfr w3 (Nat.le_refl _)).past (Nat.lt_of_lt_of_le hp HG3.out.size)
            have HFIN : Hid (QTPost p (some ⟨b, o, none⟩) n c bs out.1 out.2 w (.returned (.slice A4 k c4)) (w4.setCell ⟨p, 1, none⟩ (.int .i64 (T : Int)))) := by
              refine ⟨A4, k, c4, rfl, ?_, ?_, (HT1.out.grew HG4.out).setCell 1 _⟩
              · rw [HO.out]
                dsimp only
                rw [HL.out]
                exact hb4.turn ((Turn.refl p w4).setCell 1 _) (fun _ a ha => by have := hpast a ha; omega)
              · rw [HO.out]
                dsimp only
                rw [HL.out, List.drop_drop, ← HTT.out]
                exact HQ4.out
            rw [e1]
            clear ho hb' hb4 c1'' f1'' HQ4 hpast hfr e1
            go_wp2
            all_goals
              go_ret
              first
                | exact HFIN.out
                | (have hfin := HFIN.out; rw [(by assumption : c = t)] at hfin; exact hfin)
  · have HO : Hid (out = ([], s1)) := by show _ = _; rw [HT0.out, if_neg he]
    have d : (s1.e != 0) = true := by simpa using he
    clear he hl ht hA hbs hn ho hz HFAIL
    go_wp2
    go_ret
    exact ⟨none, 0, 0, rfl, by rw [HO.out]; exact bys0 _ _, by rw [HO.out]; exact HQ1.out, HT1.out⟩
end Go.Proofs.Ytfhfgninjelfbaa.NumK
