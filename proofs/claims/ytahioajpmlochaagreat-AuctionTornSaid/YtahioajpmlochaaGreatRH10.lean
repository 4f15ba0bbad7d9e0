/- The sort's symmetric merge: many among many. -/
import Derived.Test.YtahioajpmlochaaGreatRH8
import Derived.Test.YtahioajpmlochaaGreatRH9
import Derived.Deep.DeepCutAuto
import Derived.Deep.CutBlock
namespace Go.Proofs.YtahioajpmlochaaGreat.NumK
open Go.RowKit

/-- The row whose first half is sorted. -/
def HalfPB (L : Nat → B5) (f : Nat → Int) (blk n a mid : Nat) (d : Nat → Nat) (w0 w : World) : Prop := ∃ e, Moves a mid d e ∧ Sd f a mid e ∧ RowBd L w blk n e ∧ Turn blk w0 w

set_option maxRecDepth 100000 in
set_option maxHeartbeats 8000000 in
theorem symCB_any {L : Nat → B5} (N : Nat) (g : Nat) (cb : Array Value) (cf : B5 → B5 → Int) (f : Nat → Int) (blk n cap : Nat) (w0 : World) (eg : ∀ args w, (callFunc g args).run Tryz.prog w = .ok (.enter g args) w)
    (hC : CmpB L g cb cf f blk n w0) (hn : n ≤ 1000000)
    (IH : ∀ (a m b : Nat) (d : Nat → Nat) (w : World), b - a < N → Turn blk w0 w → RowBd L w blk n d → (∀ k, k < n → d k < n) → Sd f a m d → Sd f m b d → Xs a m b d → a < m → m < b → b ≤ n →
      Calls Tryz.prog 107 #[.slice (some ⟨blk, 0, none⟩) n cap, .int .i64 a, .int .i64 m, .int .i64 b, .func (.func g) #[] cb] w (SortPostB L f blk n a b d w0))
    (a m b : Nat) (d : Nat → Nat) (w : World) (hN : b - a ≤ N) (hT : Turn blk w0 w) (hR : RowBd L w blk n d) (hd : ∀ k, k < n → d k < n) (hs1 : Sd f a m d) (hs2 : Sd f m b d) (hx : Xs a m b d) (ham : a + 1 < m) (hmb : m + 1 < b) (hb : b ≤ n) :
    Calls Tryz.prog 107 #[.slice (some ⟨blk, 0, none⟩) n cap, .int .i64 a, .int .i64 m, .int .i64 b, .func (.func g) #[] cb] w (SortPostB L f blk n a b d w0) := by
  have HR := Lib.hid hR
  have HC := Lib.hid hC
  have HT := Lib.hid hT
  have HD := Lib.hid hd
  have HS1 := Lib.hid hs1
  have HS2 := Lib.hid hs2
  have HX := Lib.hid hx
  have H := Lib.hid IH
  clear hR hC hT hd hs1 hs2 hx IH
  obtain ⟨mid, hmid⟩ : ∃ mid, mid = (a + b) / 2 := ⟨_, rfl⟩
  have e1 : (((m : Int) - (a : Int)) == 1) = false := by simp; omega
  have e2 : (((b : Int) - (m : Int)) == 1) = false := by simp; omega
  have e3 : ((a : Int) + (b : Int)) / 2 = (mid : Int) := by omega
  have HM := Lib.hid hmid
  have g1 : a < mid := by omega
  have g2 : mid < b := by omega
  clear hmid
  go_enter Tryz.func107, Tryz.ntmps107
  go_upto_if 140 with fail
  go_cut [20, 21] (fun s20 s21 wx => ∃ lo hi : Nat, s20 = .int .i64 lo ∧ s21 = .int .i64 hi ∧ Side a m b mid lo hi ∧ w = wx)
  case first => as_aux_lemma =>
    have hmid := HM.out
    by_cases c : mid < m
    · have HW : Hid (((mid + m - b : Nat) : Int) = (mid : Int) + (m : Int) - (b : Int)) := by show _ = _; omega
      clear hmid
      go_wp2_with fail
      go_meet
      case rel => exact ⟨mid + m - b, mid, by rw [HW.out], rfl, Or.inl ⟨c, by have := HM.out; omega, rfl⟩, rfl⟩
    · clear hmid
      go_wp2_with fail
      go_meet
      case rel => exact ⟨a, m, rfl, rfl, Or.inr ⟨by omega, rfl, rfl⟩, rfl⟩
  case rest =>
    obtain ⟨lo, hi, rfl, rfl, HSD, rfl⟩ := hcut
    have hlohi : a ≤ lo ∧ lo ≤ hi ∧ hi ≤ mid ∧ hi ≤ m ∧ mid + m ≤ lo + b := by have := HM.out; unfold Side at HSD; omega
    obtain ⟨l1, l2, l3, l4, l5⟩ := hlohi
    go_wp2
    go_loopw [20, 21] (fun vi vj wr => ∃ (i j : Nat), vi = .int .i64 i ∧ vj = .int .i64 j ∧ lo ≤ i ∧ i ≤ j ∧ j ≤ hi ∧ Low f d (mid + m) lo i ∧ High f d (mid + m) hi j ∧ Hid (RowBd L wr blk n d) ∧ Hid (Turn blk w0 wr)) (fun vi vj _ => (intOf vj).toNat - (intOf vi).toNat)
    case atStart => exact ⟨lo, hi, rfl, rfl, by omega, by omega, by omega, fun h => by omega, fun h => by omega, HR, HT⟩
    case round =>
      clear HR HT
      obtain ⟨i, j, rfl, rfl, hi1, hij, hj, HL, HG, HR, HT⟩ := hrel
      by_cases hlt : i < j
      · obtain ⟨h, hh⟩ : ∃ h, h = (i + j) / 2 := ⟨_, rfl⟩
        obtain ⟨q, hq0⟩ : ∃ q, q + 1 + h = mid + m := ⟨mid + m - 1 - h, by omega⟩
        have h1 : i ≤ h := by omega
        have h2 : h < j := by omega
        have h3 : h < n := by omega
        have h4 : (h : Int) < (n : Int) := by omega
        have h5 : q < n := by omega
        have h6 : (q : Int) < (n : Int) := by omega
        have h7 : (0 : Int) ≤ (h : Int) := by omega
        have h8 : (0 : Int) ≤ (q : Int) := by omega
        have hq : ((i : Int) + (j : Int)) / 2 = (h : Int) := by omega
        have hq2 : (mid : Int) + (m : Int) - 1 - (h : Int) = (q : Int) := by omega
        have hq3 : IntKind.i64.wrap ((mid : Int) + (m : Int) - 1 - (h : Int)) = (q : Int) := by rw [IntKind.wrap_i64]; omega
        have c1 := rowB_all HR.out (k := q) (by omega)
        have c2 := rowB_all HR.out (k := h) (by omega)
        have hc := HC.out.all HT.out (d q) (d h) (HD.out _ (by omega)) (HD.out _ (by omega))
        have hv := Lib.hid (HC.out.lt (d q) (d h) (HD.out _ (by omega)) (HD.out _ (by omega)))
        obtain ⟨x, hx⟩ : ∃ x, x = d q := ⟨_, rfl⟩
        obtain ⟨y, hy⟩ : ∃ y, y = d h := ⟨_, rfl⟩
        rw [← hx] at c1
        rw [← hy] at c2
        rw [← hx, ← hy] at hc hv
        have HX1 := Lib.hid hx
        have HY1 := Lib.hid hy
        have HH := Lib.hid hh
        have HQ0 := Lib.hid hq0
        clear hx hy hh hq0
        generalize cf (L x) (L y) = c at hc hv
        generalize L x = X at c1 c2 hc
        generalize L y = Y at c1 c2 hc
        obtain ⟨X1, X2, X3, X4, X5⟩ := X
        obtain ⟨Y1, Y2, Y3, Y4, Y5⟩ := Y
        dsimp only [vBd] at hc
        have c11 : ∀ p : GrewTo wr, p.to.cell? ⟨blk, q * 5, none⟩ = some (.int .i64 X1) := fun p => (c1 p).1
        have c12 : ∀ p : GrewTo wr, p.to.cell? ⟨blk, q * 5 + 1, none⟩ = some (.int .i64 X2) := fun p => (c1 p).2.1
        have c13 : ∀ p : GrewTo wr, p.to.cell? ⟨blk, q * 5 + 2, none⟩ = some (.int .i64 X3) := fun p => (c1 p).2.2.1
        have c14 : ∀ p : GrewTo wr, p.to.cell? ⟨blk, q * 5 + 3, none⟩ = some (.int .i64 X4) := fun p => (c1 p).2.2.2.1
        have c15 : ∀ p : GrewTo wr, p.to.cell? ⟨blk, q * 5 + 4, none⟩ = some (.int .i64 X5) := fun p => (c1 p).2.2.2.2
        have c21 : ∀ p : GrewTo wr, p.to.cell? ⟨blk, h * 5, none⟩ = some (.int .i64 Y1) := fun p => (c2 p).1
        have c22 : ∀ p : GrewTo wr, p.to.cell? ⟨blk, h * 5 + 1, none⟩ = some (.int .i64 Y2) := fun p => (c2 p).2.1
        have c23 : ∀ p : GrewTo wr, p.to.cell? ⟨blk, h * 5 + 2, none⟩ = some (.int .i64 Y3) := fun p => (c2 p).2.2.1
        have c24 : ∀ p : GrewTo wr, p.to.cell? ⟨blk, h * 5 + 3, none⟩ = some (.int .i64 Y4) := fun p => (c2 p).2.2.2.1
        have c25 : ∀ p : GrewTo wr, p.to.cell? ⟨blk, h * 5 + 4, none⟩ = some (.int .i64 Y5) := fun p => (c2 p).2.2.2.2
        clear c1 c2
        by_cases hl : c < 0
        · as_aux_lemma =>
          have hcd : decide (c < 0) = true := decide_eq_true hl
          go_wp2_with fail
          refine wp_region_grew (by kernel_rfl) (by kernel_rfl) ?_
          repeat (go_big_quiet_step (exact calls_grew (hc _)))
          refine wpQuiet_nil ?_
          intro w2 hw'
          have hg := grew_of hw'
          clear hw'
          have HR2 : Hid (RowBd L w2 blk n d) := HR.out.keep hg
          have HT2 : Hid (Turn blk w0 w2) := HT.out.grew hg
          clear c11 c12 c13 c14 c15 c21 c22 c23 c24 c25 hc HR HT hg hcd hq hq2 hq3
          have HG2 : High f d (mid + m) hi h := by
            intro _
            rw [show mid + m - 1 - h = q from by have := HQ0.out; omega, ← HX1.out, ← HY1.out]; exact hv.out.1 hl
          clear hv hl
          go_wp2
          go_roundw
          case rel => exact ⟨i, h, rfl, rfl, by omega, by omega, by omega, HL, HG2, HR2, HT2⟩
          case measure => simp only [intOf]; omega
        · as_aux_lemma =>
          have hcd : decide (c < 0) = false := decide_eq_false hl
          go_wp2_with fail
          refine wp_region_grew (by kernel_rfl) (by kernel_rfl) ?_
          repeat (go_big_quiet_step (exact calls_grew (hc _)))
          refine wpQuiet_nil ?_
          intro w2 hw'
          have hg := grew_of hw'
          clear hw'
          have HR2 : Hid (RowBd L w2 blk n d) := HR.out.keep hg
          have HT2 : Hid (Turn blk w0 w2) := HT.out.grew hg
          clear c11 c12 c13 c14 c15 c21 c22 c23 c24 c25 hc HR HT hg hcd hq hq2 hq3
          have HL2 : Low f d (mid + m) lo (h + 1) := by
            intro _
            rw [Nat.add_sub_cancel, show mid + m - 1 - h = q from by have := HQ0.out; omega, ← HX1.out, ← HY1.out]; intro h9; have := hv.out.2 h9; omega
          clear hv hl
          go_wp2
          go_roundw
          case rel => exact ⟨h + 1, j, by go_num, rfl, by omega, by omega, by omega, HL2, HG, HR2, HT2⟩
          case measure => simp only [intOf]; omega
      · obtain rfl : i = j := by omega
        have C := cut_side HS1.out HS2.out HX.out (by omega) (by omega) HM.out HSD hi1 hj HL HG
        have HK := Lib.hid (cut_rot HS1.out HS2.out HX.out C)
        have HMV : Hid (Moves a b d (rot d i m (mid + m - i))) := (rot_moves d i m (mid + m - i) C.m1 C.e0).mono C.lo C.e1
        have HD2 : Hid (∀ k, k < n → rot d i m (mid + m - i) k < n) := HMV.out.lt hb HD.out
        have z1 : i ≤ mid := by omega
        have z2 : i ≤ m := by omega
        have z3 : a ≤ i := by omega
        have z4 : mid + m ≤ b + i := by omega
        have HRN := Lib.hid (rot_nil d i m (mid + m - i))
        clear HL HG HSD C
        have ee : ((mid + m - i : Nat) : Int) = (mid : Int) + (m : Int) - (i : Int) := by omega
        have HE := Lib.hid ee
        clear ee
        generalize he : mid + m - i = en at *
        have HEN := Lib.hid he
        clear he
        go_upto_region 39 with fail
        go_cut [185] (fun s185 wx => s185 = .bool (decide (i < m ∧ i < mid)) ∧ wr = wx)
        case first => as_aux_lemma =>
          by_cases c1 : i < m
          · by_cases c2 : i < mid
            · have c3 : decide ((m : Int) < (mid : Int) + (m : Int) - (i : Int)) = true := decide_eq_true (by omega)
              have c4 : decide (i < m) = true := decide_eq_true c1
              have F : decide (i < m ∧ i < mid) = true := decide_eq_true ⟨c1, c2⟩
              go_wp2_with fail
              go_meet
              case rel => exact ⟨by rw [F], rfl⟩
            · have c3 : decide ((m : Int) < (mid : Int) + (m : Int) - (i : Int)) = false := decide_eq_false (by omega)
              have c4 : decide (i < m) = true := decide_eq_true c1
              have F : decide (i < m ∧ i < mid) = false := decide_eq_false (by omega)
              go_wp2_with fail
              go_meet
              case rel => exact ⟨by rw [F], rfl⟩
          · have c4 : decide (i < m) = false := decide_eq_false c1
            have F : decide (i < m ∧ i < mid) = false := decide_eq_false (by omega)
            go_wp2_with fail
            go_meet
            case rel => exact ⟨by rw [F], rfl⟩
        case rest =>
          obtain ⟨rfl, rfl⟩ := hcut
          go_upto_if 185 with fail
          go_cut [] (fun wx => Hid (RowBd L wx blk n (rot d i m en)) ∧ Hid (Turn blk w0 wx))
          case first => as_aux_lemma =>
            by_cases c1 : i < m ∧ i < mid
            · have F : decide (i < m ∧ i < mid) = true := decide_eq_true c1
              have C := rotateB_any blk n cap i m en (.func (.func g) #[] cb) d wr HR.out (by omega) (by have := HEN.out; omega) (by have := HEN.out; omega) hn
              rw [HE.out] at C
              have C := Lib.hid C
              rw [F]
              clear F c1
              go_wp2_with (go_at_call 109; ((with_reducible refine C.out.mono ?_); rintro r w2 ⟨rfl, hR2, hT2⟩; have HR2 := Lib.hid hR2; have HT2 := Lib.hid hT2; clear hR2 hT2))
              go_meet
              case rel => exact ⟨HR2, HT.out.trans HT2.out⟩
            · have F : decide (i < m ∧ i < mid) = false := decide_eq_false c1
              have HR2 : Hid (RowBd L wr blk n (rot d i m en)) := by rw [HRN.out (by have := HEN.out; omega) (by omega) (by have := HEN.out; omega)]; exact HR
              rw [F]
              clear F c1
              go_wp2_with fail
              go_meet
              case rel => exact ⟨HR2, HT⟩
          case rest =>
            rename World => v1
            clear HR HT
            obtain ⟨HR, HT⟩ := hcut
            obtain ⟨e, he⟩ : ∃ e, e = rot d i m en := ⟨_, rfl⟩
            rw [← he] at HK HMV HD2 HR
            clear he HRN
            go_upto_region 41 with fail
            go_cut [199] (fun s199 wx => s199 = .bool (decide (a < i ∧ i < mid)) ∧ v1 = wx)
            case first => as_aux_lemma =>
              by_cases c1 : a < i
              · by_cases c2 : i < mid
                · have F : decide (a < i ∧ i < mid) = true := decide_eq_true ⟨c1, c2⟩
                  go_wp2_with fail
                  go_meet
                  case rel => exact ⟨by rw [F], rfl⟩
                · have F : decide (a < i ∧ i < mid) = false := decide_eq_false (by omega)
                  go_wp2_with fail
                  go_meet
                  case rel => exact ⟨by rw [F], rfl⟩
              · have F : decide (a < i ∧ i < mid) = false := decide_eq_false (by omega)
                go_wp2_with fail
                go_meet
                case rel => exact ⟨by rw [F], rfl⟩
            case rest =>
              obtain ⟨rfl, rfl⟩ := hcut
              go_upto_if 199 with fail
              go_cut [] (fun wx => Hid (HalfPB L f blk n a mid e w0 wx))
              case first => as_aux_lemma =>
                by_cases c1 : a < i ∧ i < mid
                · have F : decide (a < i ∧ i < mid) = true := decide_eq_true c1
                  have C := H.out a i mid e v1 (by omega) HT.out HR.out HD2.out HK.out.1 HK.out.2.1 HK.out.2.2.2.2.1 c1.1 c1.2 (by omega)
                  have C := Lib.hid C
                  rw [F]
                  clear F c1
                  go_wp2_with (go_at_call 107; ((with_reducible refine C.out.mono ?_); rintro r w2 ⟨rfl, hP⟩; have HP := Lib.hid hP; clear hP))
                  go_meet
                  case rel => exact HP
                · have F : decide (a < i ∧ i < mid) = false := decide_eq_false c1
                  have HP : Hid (HalfPB L f blk n a mid e w0 v1) := by
                    refine ⟨e, Moves.refl _ _ _, ?_, HR.out, HT.out⟩
                    by_cases c2 : a = i
                    · rw [c2]; exact HK.out.2.1
                    · have c3 : i = mid := by omega
                      rw [← c3]; exact HK.out.1
                  rw [F]
                  clear F c1
                  go_wp2_with fail
                  go_meet
                  case rel => exact HP
              case rest =>
                rename World => v2
                clear HR HT
                have hc := hcut
                clear hcut
                obtain ⟨e1, M1, S1, R1, T1⟩ := hc.out
                clear hc
                have HM1 := Lib.hid M1
                have HS1' := Lib.hid S1
                have HR := Lib.hid R1
                have HT := Lib.hid T1
                clear M1 S1 R1 T1
                go_upto_region 43 with fail
                go_cut [213] (fun s213 wx => s213 = .bool (decide (mid < en ∧ en < b)) ∧ v2 = wx)
                case first => as_aux_lemma =>
                  have e5 := HE.out
                  by_cases c1 : mid < en
                  · by_cases c2 : en < b
                    · have F : decide (mid < en ∧ en < b) = true := decide_eq_true ⟨c1, c2⟩
                      have c3 : decide ((mid : Int) < (mid : Int) + (m : Int) - (i : Int)) = true := decide_eq_true (by omega)
                      have c4 : decide ((mid : Int) + (m : Int) - (i : Int) < (b : Int)) = true := decide_eq_true (by omega)
                      have c5 : i < m := by omega
                      clear e5
                      go_wp2_with fail
                      go_meet
                      case rel => exact ⟨by rw [F], rfl⟩
                    · have F : decide (mid < en ∧ en < b) = false := decide_eq_false (by omega)
                      have c3 : decide ((mid : Int) < (mid : Int) + (m : Int) - (i : Int)) = true := decide_eq_true (by omega)
                      have c4 : decide ((mid : Int) + (m : Int) - (i : Int) < (b : Int)) = false := decide_eq_false (by omega)
                      have c5 : i < m := by omega
                      clear e5
                      go_wp2_with fail
                      go_meet
                      case rel => exact ⟨by rw [F], rfl⟩
                  · have F : decide (mid < en ∧ en < b) = false := decide_eq_false (by omega)
                    have c3 : decide ((mid : Int) < (mid : Int) + (m : Int) - (i : Int)) = false := decide_eq_false (by omega)
                    have c5 : ¬ i < m := by omega
                    clear e5
                    go_wp2_with fail
                    go_meet
                    case rel => exact ⟨by rw [F], rfl⟩
                case rest =>
                  obtain ⟨rfl, rfl⟩ := hcut
                  by_cases c1 : mid < en ∧ en < b
                  · as_aux_lemma =>
                    have F : decide (mid < en ∧ en < b) = true := decide_eq_true c1
                    have X1 : ∀ k, mid ≤ k → e1 k = e k := fun k hk => HM1.out.out k (by omega)
                    have C := H.out mid en b e1 v2 (by omega) HT.out HR.out (HM1.out.lt (by omega) HD2.out) (HK.out.2.2.1.same fun k k1 k2 => X1 k k1) (HK.out.2.2.2.1.same fun k k1 k2 => X1 k (by omega))
                      (fun p q p1 p2 p3 p4 => by rw [X1 p p1, X1 q (by omega)]; exact HK.out.2.2.2.2.2.1 p q p1 p2 p3 p4) c1.1 c1.2 hb
                    rw [HE.out] at C
                    have C := Lib.hid C
                    rw [F]
                    clear F c1 X1
                    go_wp2_with (go_at_call 107; ((with_reducible refine C.out.mono ?_); rintro r w2 hP; have HP := Lib.hid hP; clear hP; obtain ⟨rfl, hP2⟩ := HP.out; have HP2 := Lib.hid hP2; clear hP2 HP))
                    go_end0
                    obtain ⟨e2, M2, S2, R2, T2⟩ := HP2.out
                    refine ⟨rfl, e2, ?_, ?_, R2, T2⟩
                    · exact (HMV.out.trans (HM1.out.mono (Nat.le_refl _) (by omega))).trans (M2.mono (by omega) (Nat.le_refl _))
                    · exact Sd.join (m := mid) (HS1'.out.same fun k k1 k2 => M2.out k (by omega)) S2 (ahead_moves HK.out.2.2.2.2.2.2 HM1.out M2)
                  · as_aux_lemma =>
                    have F : decide (mid < en ∧ en < b) = false := decide_eq_false c1
                    rw [F]
                    clear F
                    go_wp2
                    go_end0
                    have X1 : ∀ k, mid ≤ k → e1 k = e k := fun k hk => HM1.out.out k (by omega)
                    refine ⟨rfl, e1, HMV.out.trans (HM1.out.mono (Nat.le_refl _) (by omega)), ?_, HR.out, HT.out⟩
                    refine Sd.join (m := mid) HS1'.out ?_ (ahead_moves HK.out.2.2.2.2.2.2 HM1.out (Moves.refl _ _ _))
                    by_cases c2 : mid = en
                    · exact (show Sd f mid b e by rw [c2]; exact HK.out.2.2.2.1).same fun k k1 k2 => X1 k k1
                    · have c3 : en = b := by have := HEN.out; omega
                      exact (show Sd f mid b e by rw [← c3]; exact HK.out.2.2.1).same fun k k1 k2 => X1 k k1
end Go.Proofs.YtahioajpmlochaaGreat.NumK
