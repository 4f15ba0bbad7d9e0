/- The law ShareFair. -/
import Derived.Test.YtkkemmfghjgmeaaSplitGot
namespace Go.Proofs.Ytkkemmfghjgmeaa.NumK
open Go.RowKit

theorem lf_zero (l : List Int) : lf 0 l = 0 := by
  unfold lf
  have : sm (qs 0 l) l.length = sm (fun _ => 0) l.length := sm_congr fun k _ => by unfold qs; simp
  rw [this, sm_zero]; rfl

/-- Who has more weight, or as much and stands ahead, gets no less. -/
theorem pt_up {T : Int} {l : List Int} {s t : Nat → Nat} (hT : 0 ≤ T) (h0 : ∀ x ∈ l, 0 ≤ x) (P : Pl (rs T l) l.length s t) {x y : Nat} (hx : x < l.length) (hy : y < l.length)
    (hw : wt l y ≤ wt l x) (he : wt l y = wt l x → x < y) : pt T l t y ≤ pt T l t x := by
  have hS := sum_nonneg h0
  have hm : T * wt l y ≤ T * wt l x := Int.mul_le_mul_of_nonneg_left hw hT
  have hq : qs T l y ≤ qs T l x := by
    unfold qs
    rcases Int.lt_or_eq_of_le hS with c | c
    · exact Int.ediv_le_ediv c hm
    · rw [← c, Int.ediv_zero, Int.ediv_zero]; exact Int.le_refl _
  unfold pt
  rcases Int.lt_or_eq_of_le hq with c | c
  · split <;> split <;> omega
  · rw [c]
    by_cases c1 : (t y : Int) < lf T l
    · have e1 := qr T l x
      have e2 := qr T l y
      rw [c] at e2
      have hr : rs T l y ≤ rs T l x := by omega
      have hA : Ah (rs T l) x y := by
        rcases Int.lt_or_eq_of_le hr with d | d
        · exact Or.inl d
        · refine Or.inr ⟨d.symm, ?_⟩
          rcases Int.lt_or_eq_of_le hw with f | f
          · have hTe : T * wt l y = T * wt l x := by omega
            have hTz : T = 0 := by
              rcases Int.lt_or_eq_of_le hT with g | g
              · have := Int.mul_lt_mul_of_pos_left f g; omega
              · exact g.symm
            rw [hTz, lf_zero] at c1; omega
          · exact he f
      have := (P.ahead hx hy).2 hA
      rw [if_pos c1, if_pos (by omega)]; exact Int.le_refl _
    · rw [if_neg c1]; split <;> omega
theorem pt_near {T : Int} {l : List Int} {t : Nat → Nat} {x y : Nat} (hw : wt l x = wt l y) : pt T l t x ≤ pt T l t y + 1 := by
  have : qs T l x = qs T l y := by unfold qs; rw [hw]
  unfold pt
  rw [this]
  split <;> split <;> omega
theorem pt_fits {T : Int} {l : List Int} {t : Nat → Nat} (hT : 0 ≤ T) (hT2 : T ≤ 4611686018427387904) (h0 : ∀ x ∈ l, 0 ≤ x) (k : Nat) : 0 ≤ pt T l t k ∧ pt T l t k ≤ 4611686018427387905 := by
  have := qs_nonneg hT h0 k
  have := qs_le hT h0 k
  unfold pt
  split <;> omega

set_option maxRecDepth 100000 in
set_option maxHeartbeats 4000000 in
theorem shareFair_walk (T : Int) (A : Option Addr) (n c : Nat) (zs : List Int) (w : World) (hz : Ints w A n zs) (hn : n ≤ 9223372036854775807) :
    Calls Try.prog 5 #[.int .i64 T, .slice A n c] w fun e w' => e = .returned (.bool true) ∧ Grew w w' := by
  have C1 := may03_any T A n c zs w hz hn
  have HZ := Lib.hid hz
  have CW := fun w => wakes03_any w
  clear hz
  by_cases hm : mayB T zs = true
  · rw [hm] at C1
    obtain ⟨m1, m2, m3, m4, m5⟩ := mayB_chk hm
    have hl := HZ.out.1
    have hn2 : n ≤ 200 := by omega
    have H0 := Lib.hid (fun x hx => (m3 x hx).1 : ∀ x ∈ zs, 0 ≤ x)
    have HL := Lib.hid hl
    have CS := Lib.hid (fun w' (g : Grew w w') => split_got T A n c zs w' (HZ.out.keep g) hn)
    clear m1 m2 m3 hl hm
    by_cases hE : spE T zs = 0
    · have HE := Lib.hid hE
      clear hE
      go_enter Try.func5, Try.ntmps5
      go_wp2_with (first
        | (go_at_call 18; ((with_reducible refine C1.mono ?_); rintro e w1 ⟨rfl, hg1⟩; have HG1 := Lib.hid hg1; clear hg1))
        | (go_at_call 11; ((with_reducible refine (CS.out _ HG1.out).mono ?_); rintro e w2 ⟨A5, n5, c5, ps, rfl, hI5, hV5, hn5, hg5, hB5, _⟩; obtain ⟨B, rfl, _, rfl, hR5⟩ := hB5 HE.out; rw [HE.out, HL.out]; have HR5 := Lib.hid hR5; have HV5 := Lib.hid hV5; have HG2 : Hid (Grew w w2) := grew_trans HG1.out hg5; clear hI5 hV5 hg5 hR5 hB5)))
      obtain ⟨_, s, t, P, hps⟩ := HV5.out.2 HE.out
      have HRP : Hid (RowI w2 B n (pt T zs t)) := by
        have := HR5.out
        rw [HL.out] at this
        exact this.congr (fun k hk => by rw [hps]; simp [List.getD, HL.out, hk])
      have HP := Lib.hid P
      clear C1 CS HV5 HR5 hps P
      go_loopw [7, 8] (fun vi v8 wr => ∃ i : Nat, vi = .int .i64 i ∧ i ≤ n ∧ Hid (RowI wr B n (pt T zs t)) ∧ Hid (Grew w wr)) (fun vi _ _ => n - (intOf vi).toNat)
      case atStart => exact ⟨0, rfl, Nat.zero_le _, HRP, HG2⟩
      case round =>
        clear HRP HG2
        obtain ⟨i, rfl, hi, HR, HG⟩ := hrel
        by_cases hlt : i < n
        · go_wp2
          go_loopw [8] (fun vk wr => ∃ k : Nat, vk = .int .i64 k ∧ i < k ∧ k ≤ n ∧ Hid (RowI wr B n (pt T zs t)) ∧ Hid (Grew w wr)) (fun vk _ => n - (intOf vk).toNat)
          case atStart => exact ⟨i + 1, by go_num, by omega, by omega, HR, HG⟩
          case round =>
            clear HR HG
            obtain ⟨k, rfl, hik, hk, HR, HG⟩ := hrel
            by_cases hlt2 : k < n
            · obtain ⟨b, o, rfl, hb, hc⟩ := (HZ.out.keep HG.out).2 (by omega)
              have a1 : wr.cell? ⟨b, o + i, none⟩ = some (.int .i64 (wt zs i)) := hc i hlt
              have a2 : wr.cell? ⟨b, o + k, none⟩ = some (.int .i64 (wt zs k)) := hc k hlt2
              have a3 := (HR.out.2 i hlt).1
              have a4 := (HR.out.2 k hlt2).1
              have a5 : (i : Int) < (n : Int) := by omega
              have a6 : (k : Int) < (n : Int) := by omega
              obtain ⟨f1, f2⟩ := pt_fits (t := t) m4 m5 H0.out i
              obtain ⟨f3, f4⟩ := pt_fits (t := t) m4 m5 H0.out k
              have hP := HP.out
              have u1 : wt zs k ≤ wt zs i → pt T zs t k ≤ pt T zs t i := fun h => pt_up m4 H0.out hP (by have := HL.out; omega) (by have := HL.out; omega) h (fun _ => hik)
              have u2 : wt zs i < wt zs k → pt T zs t i ≤ pt T zs t k := fun h => pt_up m4 H0.out hP (by have := HL.out; omega) (by have := HL.out; omega) (by omega) (fun e => by omega)
              have u3 : wt zs i = wt zs k → pt T zs t i ≤ pt T zs t k + 1 := fun h => pt_near h
              clear hc hP
              generalize wt zs i = x at *
              generalize wt zs k = y at *
              generalize hpi : pt T zs t i = p at *
              generalize hpk : pt T zs t k = q at *
              clear hpi hpk
              have g3 : IntKind.i64.wrap (q + 1) = q + 1 := by rw [IntKind.wrap_i64]; omega
              by_cases c1 : x = y
              · subst c1
                as_aux_lemma =>
                  have v1 := u1 (Int.le_refl _)
                  have v3 := u3 rfl
                  have d1 : decide (p < q) = false := decide_eq_false (by omega)
                  have d2 : decide (q + 1 < p) = false := decide_eq_false (by omega)
                  clear u1 u2 u3
                  go_wp2_with fail
                  (try dsimp only [List.append])
                  go_quiet (fail)
                  have HG3 : Hid (Grew w (wr.drewN nq)) := grew_drewN HG.out _
                  have HR3 : Hid (RowI (wr.drewN nq) B n (pt T zs t)) := HR.out.keep (grew_drewN (grew_refl _) _)
                  clear a1 a2 a3 a4 HG HR
                  generalize wr.drewN nq = w3 at HG3 HR3 ⊢
                  go_wp2
                  go_roundw
                  case rel => exact ⟨k + 1, by go_num, by omega, by omega, HR3, HG3⟩
                  case measure => simp only [intOf]; omega
              · have d0 : (x == y) = false := by simpa using c1
                by_cases c2 : y < x
                · as_aux_lemma =>
                  have v1 := u1 (by omega)
                  have d1 : decide (p < q) = false := decide_eq_false (by omega)
                  have d2 : decide (y < x) = true := decide_eq_true c2
                  have d3 : decide (x < y) = false := decide_eq_false (by omega)
                  clear u1 u2 u3 c1
                  go_wp2_with fail
                  (try dsimp only [List.append])
                  go_quiet (fail)
                  have HG3 : Hid (Grew w (wr.drewN nq)) := grew_drewN HG.out _
                  have HR3 : Hid (RowI (wr.drewN nq) B n (pt T zs t)) := HR.out.keep (grew_drewN (grew_refl _) _)
                  clear a1 a2 a3 a4 HG HR
                  generalize wr.drewN nq = w3 at HG3 HR3 ⊢
                  go_wp2
                  go_roundw
                  case rel => exact ⟨k + 1, by go_num, by omega, by omega, HR3, HG3⟩
                  case measure => simp only [intOf]; omega
                · as_aux_lemma =>
                  have v1 := u2 (by omega)
                  have d1 : decide (q < p) = false := decide_eq_false (by omega)
                  have d2 : decide (y < x) = false := decide_eq_false c2
                  have d3 : decide (x < y) = true := decide_eq_true (by omega)
                  clear u1 u2 u3 c1
                  go_wp2_with fail
                  (try dsimp only [List.append])
                  go_quiet (fail)
                  have HG3 : Hid (Grew w (wr.drewN nq)) := grew_drewN HG.out _
                  have HR3 : Hid (RowI (wr.drewN nq) B n (pt T zs t)) := HR.out.keep (grew_drewN (grew_refl _) _)
                  clear a1 a2 a3 a4 HG HR
                  generalize wr.drewN nq = w3 at HG3 HR3 ⊢
                  go_wp2
                  go_roundw
                  case rel => exact ⟨k + 1, by go_num, by omega, by omega, HR3, HG3⟩
                  case measure => simp only [intOf]; omega
            · go_wp2
              go_roundw
              case rel => exact ⟨i + 1, by go_num, by omega, HR, HG⟩
              case measure => simp only [intOf]; omega
        · go_wp2_with (go_at_call 17; ((with_reducible refine (CW _).mono ?_); rintro e w8 ⟨rfl, hg8⟩; have HG8 := Lib.hid hg8; clear hg8))
          go_ret
          exact ⟨rfl, grew_trans HG.out HG8.out⟩
    · have d1 : (spE T zs != 0) = true := by simpa using hE
      have HE := Lib.hid hE
      clear hE
      generalize hE2 : spE T zs = E at d1
      have HE2 := Lib.hid hE2
      clear hE2
      go_enter Try.func5, Try.ntmps5
      go_wp2_with (first
        | (go_at_call 18; ((with_reducible refine C1.mono ?_); rintro e w1 ⟨rfl, hg1⟩; have HG1 := Lib.hid hg1; clear hg1))
        | (go_at_call 11; ((with_reducible refine (CS.out _ HG1.out).mono ?_); rintro e w2 ⟨A5, n5, c5, ps, rfl, hI5, hV5, hn5, hg5, hB5, _⟩; rw [HE2.out]; have HG2 : Hid (Grew w w2) := grew_trans HG1.out hg5; clear hI5 hV5 hg5 hB5))
        | (go_at_call 17; ((with_reducible refine (CW _).mono ?_); rintro e w8 ⟨rfl, hg8⟩; have HG8 := Lib.hid hg8; clear hg8)))
      go_ret
      exact ⟨rfl, grew_trans HG2.out HG8.out⟩
  · simp only [Bool.not_eq_true] at hm
    rw [hm] at C1
    clear hm
    go_enter Try.func5, Try.ntmps5
    go_wp2_with (go_at_call 18; ((with_reducible refine C1.mono ?_); rintro e w1 ⟨rfl, hg1⟩; have HG1 := Lib.hid hg1; clear hg1))
    go_ret
    exact ⟨rfl, HG1.out⟩
end Go.Proofs.Ytkkemmfghjgmeaa.NumK
