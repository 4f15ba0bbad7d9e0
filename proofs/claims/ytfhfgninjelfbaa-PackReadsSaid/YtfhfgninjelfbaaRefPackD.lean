/- The reference's Reader: Int. -/
import Derived.Test.YtfhfgninjelfbaaRefPackC
import Derived.Deep.CutBlock
namespace Go.Proofs.Ytfhfgninjelfbaa.NumK
open Go.RowKit

theorem add_shift (z g i : Nat) (hz : z < 128 ^ i) (hi : i ≤ 9) (hg : g < 128) (h9 : i = 9 → g ≤ 1) :
    IntKind.u64.wrap ((z : Int) + IntKind.u64.wrap ((g : Int) * 2 ^ min (7 * i) 64)) = ((z + g * 128 ^ i : Nat) : Int) ∧ z + g * 128 ^ i < 18446744073709551616 := by
  obtain ⟨_, h2⟩ := or_shift z g i hz hi hg h9
  have hm : min (7 * i) 64 = 7 * i := by omega
  have hp : (2 : Int) ^ (7 * i) = ((2 ^ (7 * i) : Nat) : Int) := by simp
  have hq : 128 ^ i = 2 ^ (7 * i) := by rw [Nat.pow_mul]
  rw [hm, hp, ← hq]
  generalize 128 ^ i = k at *
  have hw : IntKind.u64.wrap ((g : Int) * (k : Int)) = ((g * k : Nat) : Int) := by
    rw [IntKind.wrap_u64, ← Int.natCast_mul]; omega
  rw [hw, IntKind.wrap_u64]
  exact ⟨by omega, h2⟩

/-- Where the reference's Int stands. -/
def At2 (l0 : List UInt8) (i z : Nat) (r : List UInt8) : Prop := i ≤ 9 ∧ z < 128 ^ i ∧ dv 0 0 l0 = dv i z r
theorem At2.nothing {l0 : List UInt8} {i z : Nat} (h : At2 l0 i z []) : dv 0 0 l0 = none := by rw [h.2.2, dv]
def brk (i u : Nat) : Prop := (i = 9 ∧ 1 < u) ∨ (0 < i ∧ u = 0)
theorem At2.no {l0 r : List UInt8} {i z : Nat} {c : UInt8} (h : At2 l0 i z (c :: r)) (hb : brk i c.toNat) : dv 0 0 l0 = none := by
  rw [h.2.2, dv, if_pos]
  unfold brk at hb; omega
theorem At2.last {l0 r : List UInt8} {i z : Nat} {c : UInt8} (h : At2 l0 i z (c :: r)) (hb : ¬ brk i c.toNat) (hc : c.toNat < 128) :
    ∃ a : Nat, a < 18446744073709551616 ∧ IntKind.u64.wrap ((z : Int) + IntKind.u64.wrap (((c.toNat % 128 : Nat) : Int) * 2 ^ min (7 * i) 64)) = (a : Int) ∧ dv 0 0 l0 = some (a, r) := by
  unfold brk at hb
  obtain ⟨h1, h2⟩ := add_shift z (c.toNat % 128) i h.2.1 h.1 (by omega) (by omega)
  refine ⟨_, h2, h1, ?_⟩
  have := h.1
  rw [h.2.2, dv, if_neg (by omega), if_pos hc]
theorem At2.next {l0 r : List UInt8} {i z : Nat} {c : UInt8} (h : At2 l0 i z (c :: r)) (hb : ¬ brk i c.toNat) (hc : ¬ c.toNat < 128) :
    ∃ a : Nat, IntKind.u64.wrap ((z : Int) + IntKind.u64.wrap (((c.toNat % 128 : Nat) : Int) * 2 ^ min (7 * i) 64)) = (a : Int) ∧ At2 l0 (i + 1) a r := by
  unfold brk at hb
  have := h.1
  obtain ⟨h1, h2⟩ := add_shift z (c.toNat % 128) i h.2.1 h.1 (by omega) (by omega)
  refine ⟨_, h1, by omega, ?_, ?_⟩
  · have hz := h.2.1
    have : (z + c.toNat % 128 * 128 ^ i) < (c.toNat % 128 + 1) * 128 ^ i := by rw [Nat.add_mul]; omega
    refine Nat.lt_of_lt_of_le this ?_
    rw [Nat.pow_succ, Nat.mul_comm]
    exact Nat.mul_le_mul_left _ (by omega)
  · rw [h.2.2, dv, if_neg (by omega), if_neg hc]

theorem zag_odd {a : Nat} (h : a % 2 = 1) : zag a = -((a : Int) / 2) - 1 := by unfold zag; rw [if_pos h]; omega
theorem zag_even {a : Nat} (h : ¬ a % 2 = 1) : zag a = (a : Int) / 2 := by unfold zag; rw [if_neg h]; omega

set_option maxRecDepth 100000 in
set_option maxHeartbeats 2000000 in
theorem refRInt_any (p : Nat) (A : Option Addr) (n c : Nat) (bs : List UInt8) (s : RS) (w : World) (h : QD w p A n c bs s) :
    Calls Try.prog 20 #[.pointer (some ⟨p, 0, none⟩)] w (QPost p A n c bs (.int .i64 (rI s).1) (rI s).2 w) := by
  have HD := Lib.hid h
  obtain ⟨hp, ho, hn, hb, hA, t, ht, hl, h0, h1, h2, f1, f2, _⟩ := h
  by_cases he : s.e = 0
  · have HE := Lib.hid he
    have HL := Lib.hid (hl he)
    have HB := Lib.hid hb
    have HBL := Lib.hid hb.1
    rw [he] at h2
    clear hl he hb hA ho
    go_enter Try.func20, Try.ntmps20
    go_wp2
    go_loopw [3, 4] (fun v3 v4 wr => ∃ (i z : Nat), v3 = .int .u64 z ∧ v4 = .int .i64 i ∧ t + i ≤ n ∧ i ≤ 9 ∧ Hid (At2 s.l i z (s.l.drop i)) ∧ Hid (Grew w wr)) (fun _ v4 _ => 10 - (intOf v4).toNat)
    case atStart => exact ⟨0, 0, rfl, rfl, by omega, by omega, ⟨by omega, by simp, by simp⟩, grew_refl _⟩
    case round =>
      obtain ⟨i, z, rfl, rfl, hti, hi, HAT, HG⟩ := hrel
      have c0 : wr.cell? ⟨p, 0, none⟩ = some (.slice A n c) := (grew_cell HG.out (p := ⟨p, 0, none⟩) hp).trans h0
      have c1 : wr.cell? ⟨p, 1, none⟩ = some (.int .i64 t) := (grew_cell HG.out (p := ⟨p, 1, none⟩) hp).trans h1
      have HFR : Hid (wr.frozen? ⟨p, 1, none⟩ = false) := (Below.frozen HG.out (p := ⟨p, 1, none⟩) hp).trans f1
      have HHP := Lib.hid hp
      have HTI : Hid (s.l.drop i = bs.drop (t + i)) := by show _ = _; rw [HL.out, List.drop_drop]
      have hT : ∃ T, T = t + i := ⟨_, rfl⟩
      obtain ⟨T, hT⟩ := hT
      have hsum : IntKind.i64.wrap ((t : Int) + (i : Int)) = (T : Int) := by rw [hT, IntKind.wrap_i64]; omega
      rw [← hT] at HTI
      have hTn : T ≤ n := by omega
      have HTT := Lib.hid hT
      have HTIN := Lib.hid hti
      have hi10 : (i : Int) < 10 := by omega
      clear hT hti hp h0 h1 h2 f1 f2
      by_cases hend : T = n
      · have hnil : s.l.drop i = [] := by rw [HTI.out]; exact List.drop_of_length_le (by rw [HBL.out]; omega)
        have HV : Hid (rI s = (0, .fail 4)) := rI_none HE.out (by have := HAT.out; rw [hnil] at this; exact this.nothing)
        have CN := fun w' (g : Grew w w') => none_any p A n c bs s 4 w' (HD.out.keep g) (by omega)
        have hF : rFail s 4 = .fail 4 := by unfold rFail; rw [if_pos HE.out]
        rw [hF] at CN
        subst hend
        have d0 : decide (T ≤ T) = true := decide_eq_true (by omega)
        clear hnil hF HAT
        go_wp2
        go_quiet (fail)
        have HG2 : Hid (Grew w (wr.drewN nq)) := grew_drewN HG.out _
        generalize wr.drewN nq = w2 at HG2 ⊢
        have CN2 := CN _ HG2.out
        clear CN
        go_wp2_with (go_at_call 39; ((with_reducible refine CN2.mono ?_); rintro e w3 ⟨rfl, hq, ht⟩; have HQ3 := Lib.hid hq; have HT3 := Lib.hid ht; clear hq ht CN2))
        go_ret
        exact ⟨by rw [HV.out]; rfl, by rw [HV.out]; exact HQ3.out, ((Turn.refl p w).grew HG2.out).trans HT3.out⟩
      · have hlt : T < n := by omega
        obtain ⟨b, o, rfl, hbb, hc⟩ := (HB.out.keep HG.out).2 (by omega)
        have hcell := hc T hlt
        have hcons : s.l.drop i = bs.getD T 0 :: s.l.drop (i + 1) := by
          have e2 : s.l.drop (i + 1) = bs.drop (T + 1) := by rw [HL.out, List.drop_drop]; congr 1; have := HTT.out; omega
          rw [HTI.out, e2, List.drop_eq_getElem_cons (by rw [HBL.out]; exact hlt)]
          simp [List.getD, show T < bs.length from by rw [HBL.out]; exact hlt]
        have HREST : Hid (s.l.drop (i + 1) = bs.drop (T + 1)) := by show _ = _; rw [HL.out, List.drop_drop]; congr 1; have := HTT.out; omega
        rw [hcons] at HAT
        generalize bs.getD T 0 = ch at *
        have HNO := Lib.hid (fun hb => rI_none HE.out (HAT.out.no hb))
        have HLAST := Lib.hid (fun hb hc => HAT.out.last hb hc)
        have HNEXT := Lib.hid (fun hb hc => HAT.out.next hb hc)
        have HCN := Lib.hid (fun w' (g : Grew w w') => none_any p _ n c bs s 4 w' (HD.out.keep g) (by omega))
        have HF : Hid (rFail s 4 = .fail 4) := by show _ = _; unfold rFail; rw [if_pos HE.out]
        have HON := Lib.hid (fun w' (g : Grew w w') => (HD.out.keep g).on HE.out (T + 1) hlt)
        have hu := ch.toNat_lt
        have d0 : decide (n ≤ T) = false := decide_eq_false (by omega)
        have i0 : (0 : Int) ≤ (T : Int) := by omega
        have i1 : (T : Int) < (n : Int) := by omega
        have hmod : (ch.toNat : Int) % 128 = ((ch.toNat % 128 : Nat) : Int) := by omega
        have hsh : ∃ sh, sh = 7 * i := ⟨_, rfl⟩
        obtain ⟨sh, hsh⟩ := hsh
        rw [← hsh] at HLAST HNEXT
        have hmul : 7 * (i : Int) = (sh : Int) := by omega
        have hsh9 : sh ≤ 63 := by omega
        have hmin : min sh 64 = sh := by omega
        rw [hmin] at HLAST HNEXT
        clear hmin
        have hg128 : ch.toNat % 128 < 128 := by omega
        clear hcons HAT hc hend hsh
        generalize ch.toNat % 128 = g at *
        generalize ch.toNat = u at *
        by_cases hb : brk i u
        · have HV := Lib.hid (HNO.out hb)
          have CN := HCN.out
          rw [HF.out] at CN
          unfold brk at hb
          clear HNO HLAST HNEXT HON HCN
          have hbi : (((i : Int) == 9) = true ∧ 0 < i ∧ 1 < u) ∨ (((i : Int) == 9) = false ∧ 0 < i ∧ u = 0) ∨ (((i : Int) == 9) = true ∧ 0 < i ∧ u = 0) := by
            rcases hb with ⟨h1, h2⟩ | ⟨h1, h2⟩
            · exact Or.inl ⟨by simp; omega, by omega, h2⟩
            · by_cases h9 : i = 9
              · exact Or.inr (Or.inr ⟨by simp; omega, h1, h2⟩)
              · exact Or.inr (Or.inl ⟨by simp; omega, h1, h2⟩)
          clear hb
          rcases hbi with ⟨q9, q0, q1⟩ | ⟨q9, q0, rfl⟩ | ⟨q9, q0, rfl⟩
          all_goals
            go_wp2
            go_quiet (fail)
            have HG2 : Hid (Grew w (wr.drewN nq)) := grew_drewN HG.out _
            have c0' : (wr.drewN nq).cell? ⟨p, 0, none⟩ = some (.slice (some ⟨b, o, none⟩) n c) := c0
            have c1' : (wr.drewN nq).cell? ⟨p, 1, none⟩ = some (.int .i64 t) := c1
            have hcell' := (show (wr.drewN nq).cell? ⟨b, o + T, none⟩ = _ from hcell)
            generalize wr.drewN nq = w2 at HG2 c0' c1' hcell' ⊢
            go_wp2
            go_quiet (fail)
            have HG3 : Hid (Grew w (w2.drewN nq)) := grew_drewN HG2.out _
            generalize w2.drewN nq = w3 at HG3 ⊢
            have CN2 := CN _ HG3.out
            clear CN
            go_wp2_with (go_at_call 39; ((with_reducible refine CN2.mono ?_); rintro e w4 ⟨rfl, hq, ht⟩; have HQ3 := Lib.hid hq; have HT3 := Lib.hid ht; clear hq ht CN2))
            go_ret
            exact ⟨by rw [HV.out]; rfl, by rw [HV.out]; exact HQ3.out, ((Turn.refl p w).grew HG3.out).trans HT3.out⟩
        · have hbi : (((i : Int) == 9) = true ∧ 0 < i ∧ ¬ 1 < u ∧ ((u : Int) == 0) = false) ∨ (((i : Int) == 9) = false ∧ ¬ 0 < i) ∨ (((i : Int) == 9) = false ∧ 0 < i ∧ ((u : Int) == 0) = false) := by
            unfold brk at hb
            by_cases h9 : i = 9
            · exact Or.inl ⟨by simp; omega, by omega, by omega, by simp; omega⟩
            · by_cases h0 : 0 < i
              · exact Or.inr (Or.inr ⟨by simp; omega, h0, by simp; omega⟩)
              · exact Or.inr (Or.inl ⟨by simp; omega, h0⟩)
          clear HNO HCN
          by_cases hc : u < 128
          · obtain ⟨a, ha, he, hr⟩ := HLAST.out hb hc
            have HV := Lib.hid (rI_some HE.out hr)
            clear HLAST HNEXT hr hb
            have HZ1 := Lib.hid (@zag_odd a)
            have HZ2 := Lib.hid (@zag_even a)
            rcases hbi with ⟨q9, q0, q1, q2⟩ | ⟨q9, q0⟩ | ⟨q9, q0, q2⟩
            all_goals
              by_cases hodd : a % 2 = 1
              case' pos =>
                have HZ := Lib.hid (HZ1.out hodd)
                have hbit : (((a : Int) % 2) == 1) = true := by simp; omega
              case' neg =>
                have HZ := Lib.hid (HZ2.out hodd)
                have hbit : (((a : Int) % 2) == 1) = false := by simp; omega
              all_goals
                clear HZ1 HZ2 hodd
                go_wp2
                go_quiet (fail)
                have HG2 : Hid (Grew w (wr.drewN nq)) := grew_drewN HG.out _
                have c0' : (wr.drewN nq).cell? ⟨p, 0, none⟩ = some (.slice (some ⟨b, o, none⟩) n c) := c0
                have c1' : (wr.drewN nq).cell? ⟨p, 1, none⟩ = some (.int .i64 t) := c1
                have hcell' := (show (wr.drewN nq).cell? ⟨b, o + T, none⟩ = _ from hcell)
                have HFR2 : Hid ((wr.drewN nq).frozen? ⟨p, 1, none⟩ = false) := HFR.out
                generalize wr.drewN nq = w2 at HG2 HFR2 c0' c1' hcell' ⊢
                go_wp2
                go_quiet (fail)
                have HG3 : Hid (Grew w (w2.drewN nq)) := grew_drewN HG2.out _
                have c1'' : (w2.drewN nq).cell? ⟨p, 1, none⟩ = some (.int .i64 t) := c1'
                have f1'' : (w2.drewN nq).frozen? ⟨p, 1, none⟩ = false := HFR2.out
                generalize w2.drewN nq = w3 at HG3 c1'' f1'' ⊢
                go_wp2
                go_ret
                refine ⟨ret_i (by rw [HV.out]; exact HZ.out.symm), ?_, ((Turn.refl p w).grew HG3.out).setCell 1 _⟩
                rw [HV.out]
                have := HON.out w3 HG3.out
                rw [← HREST.out] at this
                exact this
          · obtain ⟨a, he, hnx⟩ := HNEXT.out hb hc
            have HNX := Lib.hid hnx
            have HI8 : Hid (i + 1 ≤ 9 ∧ t + (i + 1) ≤ n) := ⟨hnx.1, by have := HTT.out; omega⟩
            clear HLAST HNEXT hnx hb
            rcases hbi with ⟨q9, q0, q1, q2⟩ | ⟨q9, q0⟩ | ⟨q9, q0, q2⟩
            · exact absurd hc (by omega)
            all_goals
              go_wp2
              go_quiet (fail)
              have HG2 : Hid (Grew w (wr.drewN nq)) := grew_drewN HG.out _
              have c0' : (wr.drewN nq).cell? ⟨p, 0, none⟩ = some (.slice (some ⟨b, o, none⟩) n c) := c0
              have c1' : (wr.drewN nq).cell? ⟨p, 1, none⟩ = some (.int .i64 t) := c1
              have hcell' := (show (wr.drewN nq).cell? ⟨b, o + T, none⟩ = _ from hcell)
              generalize wr.drewN nq = w2 at HG2 c0' c1' hcell' ⊢
              go_wp2
              go_quiet (fail)
              have HG3 : Hid (Grew w (w2.drewN nq)) := grew_drewN HG2.out _
              generalize w2.drewN nq = w3 at HG3 ⊢
              go_wp2
              go_roundw
              case rel => exact ⟨i + 1, a, rfl, by go_num, HI8.out.2, HI8.out.1, HNX, HG3⟩
              case measure => simp only [intOf]; omega
  · have CN : True := trivial
    have HV := Lib.hid (rI_bad he)
    rw [HV.out]
    have d : (s.e != 0) = true := by simpa using he
    clear he hl ht hA hb hn ho
    go_enter Try.func20, Try.ntmps20
    go_wp2
    go_ret
    exact ⟨rfl, HD.out, Turn.refl _ _⟩
end Go.Proofs.Ytfhfgninjelfbaa.NumK
