/- The law ShareAll. -/
import Derived.Test.YtkkemmfghjgmeaaShareFair
import Derived.Test.YtkkemmfghjgmeaaRef01C
import Derived.Test.YtkkemmfghjgmeaaRefLess
import Derived.Deep.DeepCutAuto
import Derived.Deep.CutBlock
namespace Go.Proofs.Ytkkemmfghjgmeaa.NumK
open Go.RowKit

/-- What one part is held against. -/
theorem pt_all {T : Int} {l : List Int} {s t : Nat → Nat} (h0 : ∀ x ∈ l, 0 ≤ x) (hS : 0 < l.sum) (P : Pl (rs T l) l.length s t) {k : Nat} (hk : k < l.length) :
    (wt l k = 0 → pt T l t k = 0) ∧ (T ≤ l.sum → pt T l t k ≤ wt l k) ∧ (pt T l t k - 1) * l.sum < T * wt l k ∧ T * wt l k < (pt T l t k + 1) * l.sum := by
  have e := qr T l k
  obtain ⟨r0, r1⟩ := rs_bd T l k hS
  have hm : (t k : Int) < lf T l → 0 < rs T l k := more_pos hS P k hk
  have hq0 : wt l k = 0 → qs T l k = 0 ∧ rs T l k = 0 := fun h => by unfold qs rs; rw [h]; simp
  have hqy : T ≤ l.sum → T * wt l k ≤ l.sum * wt l k := fun h => Int.mul_le_mul_of_nonneg_right h (wt_nonneg h0 k)
  have hlt : ∀ q y : Int, q * l.sum < l.sum * y → q < y := fun q y h => by rw [Int.mul_comm q] at h; exact Int.lt_of_mul_lt_mul_left h (by omega)
  have hle : ∀ q y : Int, q * l.sum ≤ l.sum * y → q ≤ y := fun q y h => by rw [Int.mul_comm q] at h; exact Int.le_of_mul_le_mul_left h hS
  have h1 := hlt (qs T l k) (wt l k)
  have h2 := hle (qs T l k) (wt l k)
  unfold pt
  generalize qs T l k = q at *
  generalize rs T l k = r at *
  generalize wt l k = y at *
  generalize T * y = Ty at *
  generalize l.sum * y = Sy at *
  by_cases c : (t k : Int) < lf T l
  · rw [if_pos c]
    have hr := hm c
    refine ⟨fun h => ?_, fun h => ?_, ?_, ?_⟩
    · have := hq0 h; omega
    · have := hqy h; have := h1 (by omega); omega
    · rw [show q + 1 - 1 = q from by omega]; omega
    · rw [Int.add_mul, Int.add_mul]; omega
  · rw [if_neg c]
    refine ⟨fun h => ?_, fun h => ?_, ?_, ?_⟩
    · have := hq0 h; omega
    · have := hqy h; have := h2 (by omega); omega
    · rw [Int.add_zero, Int.sub_mul]; omega
    · rw [Int.add_zero, Int.add_mul]; omega

theorem spE_pos {T : Int} {l : List Int} (h1 : chkE T l = 0) (h2 : l.sum ≠ 0) : spE T l = 0 := by
  unfold spE; rw [h1, if_neg (by omega), if_neg (fun h => h2 h.1)]
theorem spE_none {T : Int} {l : List Int} (h1 : chkE T l = 0) (h2 : l.sum = 0) : spE T l = if T = 0 then 0 else 2 := by
  unfold spE; rw [h1, if_neg (by omega)]
  by_cases c : T = 0
  · rw [if_pos c, if_neg (fun h => h.2 c)]
  · rw [if_neg c, if_pos ⟨h2, c⟩]

theorem sm_up {g : Nat → Int} (h : ∀ k, 0 ≤ g k) (i d : Nat) : sm g i ≤ sm g (i + d) := by
  induction d with
  | zero => exact Int.le_refl _
  | succ d ih => have := h (i + d); rw [show i + (d + 1) = (i + d) + 1 from rfl, sm]; omega
theorem pt_mid {T : Int} {l : List Int} {s t : Nat → Nat} (hT : 0 ≤ T) (h0 : ∀ x ∈ l, 0 ≤ x) (hz : l.sum = 0 → T = 0) (P : Pl (rs T l) l.length s t) (i : Nat) (hi : i ≤ l.length) : 0 ≤ T - sm (pt T l t) i ∧ T - sm (pt T l t) i ≤ T := by
  have hp : ∀ k, 0 ≤ pt T l t k := fun k => by have := qs_nonneg hT h0 k; unfold pt; split <;> omega
  have a1 := sm_up hp i (l.length - i)
  rw [show i + (l.length - i) = l.length from by omega, pt_sum h0 hz P] at a1
  have a2 := sm_up hp 0 i
  rw [Nat.zero_add] at a2
  have : sm (pt T l t) 0 = 0 := rfl
  omega

set_option maxRecDepth 100000 in
set_option maxHeartbeats 8000000 in
theorem shareAll_walk (T : Int) (A : Option Addr) (n c : Nat) (zs : List Int) (w : World) (hz : Ints w A n zs) (hn : n ≤ 9223372036854775807) :
    Calls Try.prog 4 #[.int .i64 T, .slice A n c] w fun e w' => e = .returned (.bool true) ∧ Grew w w' := by
  have C1 := may03_any T A n c zs w hz hn
  have HZ := Lib.hid hz
  have CW := fun w => wakes03_any w
  clear hz
  by_cases hm : mayB T zs = true
  · rw [hm] at C1
    obtain ⟨m1, m2, m3, m4, m5⟩ := mayB_chk hm
    have hl := HZ.out.1
    have hn2 : n ≤ 200 := by omega
    have H0 := Lib.hid (fun x hx => (m3 x hx).1 : ∀ x ∈ zs, 0 ≤ x)
    have HL := Lib.hid hl
    have M1 := Lib.hid m1
    have M3 := Lib.hid m3
    have CS := Lib.hid (fun w' (g : Grew w w') => split_got T A n c zs w' (HZ.out.keep g) hn)
    have hsm : isWide zs.sum = true := by
      have h2 := sumTo_bd zs zs.length H0.out (by rw [List.all_eq_true]; intro x hx; have := m3 x hx; exact (isMoney_iff x).2 (by omega)) (by omega)
      unfold sumTo at h2
      rw [List.take_length] at h2
      exact wide_in _ (by omega)
    have HW := Lib.hid hsm
    clear m1 m2 m3 hl hm hsm
    go_enter Try.func4, Try.ntmps4
    go_wp2_with (first
      | (go_at_call 18; ((with_reducible refine C1.mono ?_); rintro e w1 ⟨rfl, hg1⟩; have HG1 := Lib.hid hg1; clear hg1))
      | (go_at_call 11; ((with_reducible refine (CS.out _ HG1.out).mono ?_); rintro e w2 ⟨A5, n5, c5, ps, rfl, hI5, hV5, hn5, hg5, hB5, hN5⟩; have HV5 := Lib.hid hV5; have HB5 := Lib.hid hB5; have HN5 := Lib.hid hN5; have HW1 : Hid (w.heap.size ≤ w1.heap.size) := HG1.out.size; have HG2 : Hid (Grew w w2) := grew_trans HG1.out hg5; clear hI5 hV5 hg5 hB5 hN5)))
    clear C1 CS
    generalize hE : spE T zs = E at *
    have HE := Lib.hid hE
    clear hE
    go_loopw [7, 8] (fun v i wr => ∃ k : Nat, k ≤ n ∧ i = .int .i64 k ∧ Hid (wr.ownsRow w2.heap.size 38 2 v k ((zs.take k).flatMap wcells)) ∧ Hid (Below w2.heap.size w2 wr)) (fun _ i _ => n - (intOf i).toNat)
    case atStart => exact ⟨0, Nat.zero_le _, rfl, (show World.ownsRow _ _ _ _ _ _ _ by simpa using World.ownsRow_nil _ _ _ _), Below.refl _ _⟩
    case round =>
      obtain ⟨k, hk, rfl, HO, HBW⟩ := hrel
      by_cases hlt : k < n
      · obtain ⟨b0, o0, rfl, hb0, hc⟩ := (HZ.out.keep (grew_trans HG2.out HBW.out)).2 (by omega)
        have hcell := hc k (by omega)
        have hzb := M3.out (zs.getD k 0) (by rw [List.getD_eq_getElem?_getD, List.getElem?_eq_getElem (by have := HZ.out.1; omega)]; exact List.getElem_mem _)
        have HX := Lib.hid (take_map_succ zs k (by have := HZ.out.1; omega))
        clear hc
        generalize zs.getD k 0 = y at *
        have C := fun w => of_any y w (by omega)
        obtain ⟨y1, y2⟩ := hzb
        go_wp2_with (first
          | (go_at_call 19; ((with_reducible refine (C _).mono ?_); rintro e w3 ⟨rfl, hg3⟩; have HG3 := Lib.hid hg3; clear hg3))
          | (at_builtin; refine wpList_append_wide rfl _ _ rfl w2.heap.size _ k _ rfl ((own_keep HO.out HG3.out).alloc _) w3.heap.size 1 y rfl (by simp) (by simp) (by omega) (Nat.le_trans HBW.out.size (Nat.le_trans HG3.out.size (by simp))) ?_; intro v' w' hv hb'; have HV := Lib.hid hv; have HB' := Lib.hid hb'; clear hv hb'))
        go_roundw
        case rel =>
          refine ⟨k + 1, by omega, by go_num, ?_, ?_⟩
          · rw [← HX.out]; exact HV.out
          · exact ((HBW.out.trans (HG3.out.mono HBW.out.size)).alloc (Nat.le_trans HBW.out.size HG3.out.size) _).trans HB'.out
        case measure => simp [intOf]; omega
      · obtain rfl : k = n := by omega
        have ht : zs.take k = zs := List.take_of_length_le (by have := HZ.out.1; omega)
        have hown := HO.out
        rw [ht] at hown
        obtain ⟨A3, c3, rfl, hW⟩ := wides_of_own hown
        have C := refSum_any A3 k c3 zs wr hW (fun x hx => by have := M3.out x hx; rw [isWide_iff]; omega) (by omega)
        rw [wsV, if_pos HW.out, HW.out] at C
        have HG3 : Hid (Grew w wr) := grew_trans HG2.out HBW.out
        have HB6 : Hid (Grew w2 wr) := HBW.out
        have z1 : hi64 zs.sum = 0 ∧ lo64 zs.sum = 0 ↔ zs.sum = 0 := by
          have := w_eq zs.sum
          constructor
          · rintro ⟨a, b⟩; rw [a, b] at this; omega
          · intro h; rw [h]; decide
        have Z1 := Lib.hid z1
        clear ht hown hW hlt HO HBW z1
        by_cases hs0 : zs.sum = 0
        · have hEE := spE_none M1.out hs0
          rw [HE.out] at hEE
          have z2 := Z1.out.2 hs0
          rw [z2.1, z2.2] at C
          clear z2 hs0
          by_cases hT : T = 0
          · rw [if_pos hT] at hEE
            subst hEE hT
            go_wp2_with (first
              | (go_at_call 20; ((with_reducible refine C.mono ?_); rintro e w3 ⟨rfl, hg3⟩; have HG4 := Lib.hid (grew_trans HG3.out hg3); clear hg3))
              | (go_at_call 17; ((with_reducible refine (CW _).mono ?_); rintro e w8 ⟨rfl, hg8⟩; have HG8 := Lib.hid hg8; clear hg8)))
            go_ret
            exact ⟨rfl, grew_trans (grew_al HG4.out _) HG8.out⟩
          · rw [if_neg hT] at hEE
            subst hEE
            have d1 : (T == 0) = false := by simpa using hT
            go_wp2_with (first
              | (go_at_call 20; ((with_reducible refine C.mono ?_); rintro e w3 ⟨rfl, hg3⟩; have HG4 := Lib.hid (grew_trans HG3.out hg3); clear hg3))
              | (go_at_call 17; ((with_reducible refine (CW _).mono ?_); rintro e w8 ⟨rfl, hg8⟩; have HG8 := Lib.hid hg8; clear hg8)))
            go_ret
            exact ⟨rfl, grew_trans (grew_al HG4.out _) HG8.out⟩
        · have hEE := spE_pos M1.out hs0
          rw [HE.out] at hEE
          subst hEE
          obtain ⟨B, rfl, _, hn5', hR5⟩ := HB5.out rfl
          obtain ⟨_, s, t, P, hps⟩ := HV5.out.2 HE.out
          have hn5k : n5 = k := by rw [hn5', HL.out]
          subst hn5k
          have HRP : Hid (RowI wr B n5 (pt T zs t)) := (hR5.congr (fun j hj => by rw [hps]; simp [List.getD, HL.out, hj])).keep HB6.out
          have hsn := sum_nonneg H0.out
          have hspos : 0 < zs.sum := by omega
          have HP := Lib.hid P
          have HSP := Lib.hid hspos
          have CI := fun w => refInt_any zs.sum w
          have OW : Hid (∀ w : World, Own2 (w.alloc (.cells #[.int .i64 (hi64 zs.sum), .int .u64 (lo64 zs.sum)] 38)) w.heap.size (.int .i64 (hi64 zs.sum)) (.int .u64 (lo64 zs.sum))) := fun w => Own2.new w _ _ _ _ rfl
          have hnz : hi64 zs.sum = 0 → (lo64 zs.sum == 0) = false := fun h => by
            rw [beq_eq_false_iff_ne]; intro e; exact hs0 (Z1.out.1 ⟨h, e⟩)
          have HNZ := Lib.hid hnz
          clear hR5 hn5' HB5 HV5 HN5 hps hsn P hnz hs0 hspos hn5
          generalize hi64 zs.sum = sh at *
          generalize lo64 zs.sum = sl at *
          go_upto_region 10 with (first
            | (go_at_call 20; ((with_reducible refine C.mono ?_); rintro e w3 ⟨rfl, hg3⟩; have HG4 := Lib.hid (grew_al (grew_trans HG3.out hg3) (.cells #[.int .i64 sh, .int .u64 sl] 38)); have HRP4 := Lib.hid (HRP.out.keep (grew_al hg3 (.cells #[.int .i64 sh, .int .u64 sl] 38))); have HO4 := Lib.hid (OW.out w3); clear hg3)))
          go_cut [11] (fun s11 wx => s11 = .bool false ∧ w3.alloc (.cells #[.int .i64 sh, .int .u64 sl] 38) = wx)
          case first => as_aux_lemma =>
            by_cases c2 : sh = 0
            · have d1 := HNZ.out c2
              subst c2
              go_wp2_with fail
              go_meet
              case rel => exact ⟨rfl, rfl⟩
            · have d1 : (sh == 0) = false := by simpa using c2
              go_wp2_with fail
              go_meet
              case rel => exact ⟨rfl, rfl⟩
          case rest =>
            obtain ⟨rfl, rfl⟩ := hcut
            have o1 := HO4.out.c0
            have o2 := HO4.out.c1
            generalize w3.alloc (.cells #[.int .i64 sh, .int .u64 sl] 38) = w4 at HG4 HRP4 HO4 o1 o2 ⊢
            generalize w3.heap.size = Sb at *
            have HMB : Hid (isMoney zs.sum = true → intV zs.sum = zs.sum) := fun h => intV_in h
            generalize hsmall : isMoney zs.sum = small at *
            generalize hiv : intV zs.sum = iv at *
            have HSM := Lib.hid hsmall
            clear hsmall hiv C
            go_wp2_with (go_at_call 21; ((with_reducible refine (CI _).mono ?_); rintro e w5 ⟨rfl, hg5⟩; have HG5 := Lib.hid (grew_trans HG4.out hg5); have HRP5 := Lib.hid (HRP4.out.keep hg5); clear hg5))
            clear o1 o2 CI HO4
            go_loopw [12, 15] (fun v12 vi wr => ∃ i : Nat, vi = .int .i64 i ∧ i ≤ n5 ∧ v12 = .int .i64 (T - sm (pt T zs t) i) ∧ Hid (RowI wr B n5 (pt T zs t)) ∧ Hid (Grew w wr)) (fun _ vi _ => n5 - (intOf vi).toNat)
            case atStart => exact ⟨0, rfl, Nat.zero_le _, by simp [sm], HRP5, HG5⟩
            case round =>
              clear HRP5 HG5 HRP4 HG4 HRP HG3 HG2
              obtain ⟨i, rfl, hi, rfl, HR, HG⟩ := hrel
              have hz0 : zs.sum = 0 → T = 0 := fun h => by have := HSP.out; omega
              obtain ⟨l0, l1⟩ := pt_mid m4 H0.out hz0 HP.out i (by have := HL.out; omega)
              by_cases hlt : i < n5
              · obtain ⟨b, o, rfl, hb, hc⟩ := (HZ.out.keep HG.out).2 (by omega)
                have a1 : wr.cell? ⟨b, o + i, none⟩ = some (.int .i64 (wt zs i)) := hc i hlt
                have a2 := (HR.out.2 i hlt).1
                have a3 : (i : Int) < (n5 : Int) := by omega
                obtain ⟨l2, l3⟩ := pt_mid m4 H0.out hz0 HP.out (i + 1) (by have := HL.out; omega)
                have HSS : Hid (sm (pt T zs t) (i + 1) = sm (pt T zs t) i + pt T zs t i) := rfl
                rw [HSS.out] at l2 l3
                obtain ⟨f1, f2⟩ := pt_fits (t := t) m4 m5 H0.out i
                have hwt := M3.out (wt zs i) (by unfold wt; rw [List.getD_eq_getElem?_getD, List.getElem?_eq_getElem (by have := HL.out; omega)]; exact List.getElem_mem _)
                obtain ⟨w1', w2'⟩ := hwt
                obtain ⟨g1, g2, g3, g4⟩ := pt_all (T := T) H0.out HSP.out HP.out (k := i) (by have := HL.out; omega)
                clear hc hz0
                generalize wt zs i = y at *
                generalize pt T zs t i = x at *
                generalize sm (pt T zs t) i = sm0 at *
                have HGX := Lib.hid g1
                have HG2 := Lib.hid g2
                have HG3 := Lib.hid g3
                have HG4 := Lib.hid g4
                clear g1 g2 g3 g4
                have d0 : decide (x < 0) = false := decide_eq_false (by omega)
                go_upto_region 21 with fail
                go_cut [134] (fun s134 wx => s134 = .bool false ∧ Hid (Grew wr wx))
                case first => as_aux_lemma =>
                  by_cases hy : y = 0
                  all_goals
                    first
                      | (have dx : (x != 0) = false := by have := HGX.out hy; simpa using this
                         have dy : (y == 0) = true := by simpa using hy)
                      | (have dy : (y == 0) = false := by simpa using hy)
                    cases small with
                    | false =>
                      clear hy
                      go_wp2_with fail
                      go_quiet (fail)
                      have HQ : Hid (Grew wr (wr.drewN nq)) := grew_drewN (grew_refl _) _
                      go_wp2_with fail
                      go_meet
                      case rel => exact ⟨rfl, HQ⟩
                    | true =>
                      have hiv := HMB.out rfl
                      by_cases hTS : T ≤ iv
                      · have dT : decide (T ≤ iv) = true := decide_eq_true hTS
                        have dp : decide (y < x) = false := decide_eq_false (by have := HG2.out (by omega); omega)
                        clear hy hiv
                        go_wp2_with fail
                        go_quiet (fail)
                        have HQ : Hid (Grew wr (wr.drewN nq)) := grew_drewN (grew_refl _) _
                        go_wp2_with fail
                        go_meet
                        case rel => exact ⟨rfl, HQ⟩
                      · have dT : decide (T ≤ iv) = false := decide_eq_false hTS
                        clear hy hiv
                        go_wp2_with fail
                        go_quiet (fail)
                        have HQ : Hid (Grew wr (wr.drewN nq)) := grew_drewN (grew_refl _) _
                        go_wp2_with fail
                        go_meet
                        case rel => exact ⟨rfl, HQ⟩
                case rest =>
                  rename World => v1
                  have hgv := Lib.hid hcut.2.out
                  obtain ⟨rfl, -⟩ := hcut
                  have b1 : ∀ p : GrewTo v1, p.to.cell? ⟨b, o + i, none⟩ = some (.int .i64 y) := fun p => (grew_cell (grew_trans hgv.out p.h) (p := ⟨b, o + i, none⟩) hb).trans a1
                  have b2 : ∀ p : GrewTo v1, p.to.cell? ⟨B, i, none⟩ = some (.int .i64 x) := fun p => (grew_cell (grew_trans hgv.out p.h) (p := ⟨B, i, none⟩) HR.out.1).trans a2
                  have HRV := Lib.hid (HR.out.keep hgv.out)
                  have HGV : Hid (Grew w v1) := grew_trans HG.out hgv.out
                  clear a1 a2 HR HG hgv
                  go_upto_region 23 with fail
                  go_cut [168] (fun s168 wx => s168 = .bool false ∧ Hid (Grew v1 wx))
                  case first => as_aux_lemma =>
                    cases small with
                    | false =>
                      go_wp2_with fail
                      go_quiet (fail)
                      have HQ : Hid (Grew v1 (v1.drewN nq)) := grew_drewN (grew_refl _) _
                      go_wp2_with fail
                      go_meet
                      case rel => exact ⟨rfl, HQ⟩
                    | true =>
                      have hiv := HMB.out rfl
                      have hmo := (isMoney_iff zs.sum).1 HSM.out
                      rw [← hiv] at hmo
                      have e1 : IntKind.i64.wrap (x - 1) = x - 1 := by rw [IntKind.wrap_i64]; omega
                      have e2 : IntKind.i64.wrap (x + 1) = x + 1 := by rw [IntKind.wrap_i64]; omega
                      have T1 := fun w => refTimes_any (x - 1) iv w (by omega) (by omega)
                      have T2 := fun w => refTimes_any T y w (by omega) (by omega)
                      have T3 := fun w => refTimes_any (x + 1) iv w (by omega) (by omega)
                      have L1 := fun w => refLess_any ((x - 1) * iv) (T * y) w
                      have L2 := fun w => refLess_any (T * y) ((x + 1) * iv) w
                      rw [decide_eq_true (show (x - 1) * iv < T * y by rw [hiv]; exact HG3.out)] at L1
                      rw [decide_eq_true (show T * y < (x + 1) * iv by rw [hiv]; exact HG4.out)] at L2
                      clear hiv hmo
                      generalize (x - 1) * iv = p1 at *
                      generalize (x + 1) * iv = p3 at *
                      generalize T * y = p2 at *
                      generalize hi64 p1 = h1 at *
                      generalize lo64 p1 = k1 at *
                      generalize hi64 p2 = h2 at *
                      generalize lo64 p2 = k2 at *
                      generalize hi64 p3 = h3 at *
                      generalize lo64 p3 = k3 at *
                      go_wp2_with fail
                      refine wp_region_grew (by kernel_rfl) (by kernel_rfl) ?_
                      repeat (go_big_quiet_step (first | with_reducible exact calls_grew (T1 _) | with_reducible exact calls_grew (T2 _) | with_reducible exact calls_grew (T3 _) | with_reducible exact calls_grew (L1 _) | with_reducible exact calls_grew (L2 _)))
                      refine wpQuiet_nil ?_
                      intro w9 hw'
                      have HQ := Lib.hid (grew_of hw')
                      clear hw'
                      go_wp2_with fail
                      go_meet
                      case rel => exact ⟨rfl, HQ⟩
                  case rest =>
                    rename World => v2
                    have hgv := Lib.hid hcut.2.out
                    obtain ⟨rfl, -⟩ := hcut
                    have HRV2 := Lib.hid (HRV.out.keep hgv.out)
                    have HGV2 : Hid (Grew w v2) := grew_trans HGV.out hgv.out
                    clear b1 b2 HRV HGV hgv
                    go_wp2
                    go_roundw
                    case rel => exact ⟨i + 1, by go_num, by omega, by rw [HSS.out]; congr 1; omega, HRV2, HGV2⟩
                    case measure => simp only [intOf]; omega
              · obtain rfl : i = n5 := by omega
                have hf : sm (pt T zs t) i = T := by rw [← HL.out]; exact pt_sum H0.out hz0 HP.out
                have hf0 : T - sm (pt T zs t) i = 0 := by omega
                rw [hf0]
                clear hf hf0 l0 l1 hz0
                go_wp2_with (go_at_call 17; ((with_reducible refine (CW _).mono ?_); rintro e w8 ⟨rfl, hg8⟩; have HG8 := Lib.hid hg8; clear hg8))
                go_ret
                exact ⟨rfl, grew_trans HG.out HG8.out⟩
  · simp only [Bool.not_eq_true] at hm
    rw [hm] at C1
    clear hm
    go_enter Try.func4, Try.ntmps4
    go_wp2_with (go_at_call 18; ((with_reducible refine C1.mono ?_); rintro e w1 ⟨rfl, hg1⟩; have HG1 := Lib.hid hg1; clear hg1))
    go_ret
    exact ⟨rfl, HG1.out⟩
end Go.Proofs.Ytkkemmfghjgmeaa.NumK
