/- The sort's insertion. -/
import Derived.Test.YtahioajpmlochaaGreatRH1
import Derived.Test.YtahioajpmlochaaGreatRH6
import Derived.Deep.DeepCutAuto
import Derived.Deep.CutBlock
import Derived.Laws.MakeOwn
import Derived.Test.YtahioajpmlochaaGreatRH3
import Derived.Deep.QuietTactic
import Derived.BigQuiet
import Derived.Test.YtahioajpmlochaaGreatRH2
import Derived.Test.YtahioajpmlochaaGreatRH4
import Derived.Deep.RegionLaw
namespace Go.Proofs.YtahioajpmlochaaGreat.NumK
open Go.RowKit

set_option maxRecDepth 100000 in
set_option maxHeartbeats 2000000 in
theorem insertion_any (g : Nat) (cb : Array Value) (cf : Nat → Nat → Int) (f : Nat → Int) (blk n cap a b : Nat) (d : Nat → Nat) (w0 w : World) (eg : ∀ args w, (callFunc g args).run Tryz.prog w = .ok (.enter g args) w)
    (hC : CmpOK g cb cf f blk n w0) (hT : Turn blk w0 w) (hR : RowW w blk n d) (hd : ∀ k, k < n → d k < n) (hu : ∀ p q, a ≤ p → p < q → q < b → d p < d q) (hab : a ≤ b) (hb : b ≤ n) (hn : n ≤ 1000000) :
    Calls Tryz.prog 104 #[.slice (some ⟨blk, 0, none⟩) n cap, .int .i64 a, .int .i64 b, .func (.func g) #[] cb] w (SortPost f blk n a b d w0) := by
  have HR := Lib.hid hR
  have HC := Lib.hid hC
  have HT := Lib.hid hT
  have HD := Lib.hid hd
  have HU := Lib.hid hu
  clear hR hC hT hd hu
  go_enter Tryz.func104, Tryz.ntmps104
  go_wp2
  go_loopw [8] (fun vi wr => ∃ (i : Nat) (e : Nat → Nat), vi = .int .i64 i ∧ a < i ∧ i ≤ b + 1 ∧ Hid (Moves a (min i b) d e) ∧ Hid (Sd f a (min i b) e) ∧ Hid (RowW wr blk n e) ∧ Hid (Turn blk w0 wr)) (fun vi _ => b + 1 - (intOf vi).toNat)
  case atStart =>
    exact ⟨a + 1, d, by go_num, by omega, by omega, Moves.refl _ _ _, Sd.one _ _ _ _ (by omega), HR, HT⟩
  case round =>
    clear HR HT
    obtain ⟨i, e, rfl, hai, hib, HM, HS, HR, HT⟩ := hrel
    by_cases hlt : i < b
    · have hmin : min i b = i := by omega
      rw [hmin] at HM HS
      have HI : Hid (Ins f a i i e) := ins_start HS.out HM.out (fun p q p1 p2 p3 => HU.out p q p1 p2 (by omega))
      have HM2 : Hid (Moves a (i + 1) d e) := HM.out.mono (Nat.le_refl _) (by omega)
      clear HM HS hmin
      go_wp2
      go_loopw [9] (fun vj wr => ∃ (j : Nat) (e : Nat → Nat), vj = .int .i64 j ∧ a ≤ j ∧ j ≤ i ∧ Hid (Ins f a i j e) ∧ Hid (Moves a (i + 1) d e) ∧ Hid (RowW wr blk n e) ∧ Hid (Turn blk w0 wr)) (fun vj _ => (intOf vj).toNat)
      case atStart => exact ⟨i, e, rfl, by omega, by omega, HI, HM2, HR, HT⟩
      case round =>
        clear HR HT HI HM2
        obtain ⟨j, e, rfl, haj, hji, HI, HM, HR, HT⟩ := hrel
        have HDe : Hid (∀ k, k < n → e k < n) := HM.out.lt (by omega) HD.out
        by_cases hja : a < j
        · obtain ⟨j, rfl⟩ : ∃ q, j = q + 1 := ⟨j - 1, by omega⟩
          have zj : ((j + 1 : Nat) : Int) = (j : Int) + 1 := by omega
          have hjd : decide ((j : Int) + 1 > (a : Int)) = true := decide_eq_true (by omega)
          have hja2 : (a : Int) < (j : Int) + 1 := by omega
          have c1 := HR.out.all (j + 1) (by omega)
          have c2 := HR.out.all j (by omega)
          have hc := HC.out.all HT.out (e (j + 1)) (e j) (HDe.out _ (by omega)) (HDe.out _ (by omega))
          have m1 := (HR.out.2 (j + 1) (by omega)).2
          have m2 := (HR.out.2 j (by omega)).2
          obtain ⟨x, hx⟩ : ∃ x, x = e (j + 1) := ⟨_, rfl⟩
          obtain ⟨y, hy⟩ : ∃ y, y = e j := ⟨_, rfl⟩
          have q2 : (0 : Int) ≤ (j : Int) + 1 := by omega
          have q3 : (j : Int) + 1 < (n : Int) := by omega
          have q4 : IntKind.i64.wrap ((j : Int) + 1) = (j : Int) + 1 := by rw [IntKind.wrap_i64]; omega
          have q5 : IntKind.i64.wrap ((j : Int) + 1 - 1) = (j : Int) := by rw [IntKind.wrap_i64]; omega
          have q6 : (j : Int) < (n : Int) := by omega
          have q7 : (0 : Int) ≤ (j : Int) := by omega
          have q8 : ((j : Int)).toNat = j := by omega
          have HX := Lib.hid hx
          have HY := Lib.hid hy
          rw [← hx] at c1
          rw [← hy] at c2
          rw [← hx, ← hy] at hc
          have hv := Lib.hid (HC.out.lt x y)
          generalize cf x y = c at *
          clear hx hy
          by_cases hl : c < 0
          · have hcd : decide (c < 0) = true := decide_eq_true hl
            rw [zj]
            go_wp2_with fail
            refine wp_region_grew (by kernel_rfl) (by kernel_rfl) ?_
            repeat (go_big_quiet_step (exact calls_grew (hc _)))
            refine wpQuiet_nil ?_
            intro w2 hw'
            have hg := grew_of hw'
            clear hw'
            have HR2 : Hid (RowW w2 blk n e) := HR.out.keep hg
            have HT2 : Hid (Turn blk w0 w2) := HT.out.grew hg
            clear c1 c2 hc m1 m2 HR HT hg
            have HF : Hid (f (e j) < f (e (j + 1))) := by rw [← HX.out, ← HY.out]; exact hv.out.1 hl
            clear hv hl hcd
            have c1 := (HR2.out.2 (j + 1) (by omega)).1
            have c2 := (HR2.out.2 j (by omega)).1
            have m1 := (HR2.out.2 (j + 1) (by omega)).2
            have m2 := (HR2.out.2 j (by omega)).2
            have c3 := HR2.out.two (j + 1) j (by omega) (by omega) (.int .i64 (e j))
            have HS : Hid (RowW ((w2.setCell ⟨blk, j + 1, none⟩ (.int .i64 (e j))).setCell ⟨blk, j, none⟩ (.int .i64 (e (j + 1)))).drew blk n (sw e (j + 1) j)) := HR2.out.swap (j + 1) j (by omega) (by omega) (by omega)
            have HT3 : Hid (Turn blk w0 ((w2.setCell ⟨blk, j + 1, none⟩ (.int .i64 (e j))).setCell ⟨blk, j, none⟩ (.int .i64 (e (j + 1)))).drew) := ((HT2.out.setCell (j + 1) (.int .i64 (e j))).setCell j (.int .i64 (e (j + 1)))).drew
            rw [← HX.out] at c1 HS HT3
            rw [← HY.out] at c2 c3 HS HT3
            go_wp2_with fail
            go_big_region
            clear c1 c2 c3 m1 m2 HR2 HT2
            generalize ((w2.setCell ⟨blk, j + 1, none⟩ (.int .i64 y)).setCell ⟨blk, j, none⟩ (.int .i64 x)).drew = w3 at HS HT3 ⊢
            go_wp2
            go_roundw
            case rel => exact ⟨j, _, rfl, by omega, by omega, ins_down HI.out (by omega) (by omega) HF.out, HM.out.trans (sw_moves _ _ _ (by omega) (by omega)), HS, HT3⟩
            case measure => simp only [intOf]; omega
          · have hcd : decide (c < 0) = false := decide_eq_false hl
            rw [zj]
            go_wp2_with fail
            refine wp_region_grew (by kernel_rfl) (by kernel_rfl) ?_
            repeat (go_big_quiet_step (exact calls_grew (hc _)))
            refine wpQuiet_nil ?_
            intro w2 hw'
            have hg := grew_of hw'
            clear hw'
            have HR2 : Hid (RowW w2 blk n e) := HR.out.keep hg
            have HT2 : Hid (Turn blk w0 w2) := HT.out.grew hg
            clear c1 c2 hc m1 m2 HR HT hg
            have HF : Hid (¬ f (e j) < f (e (j + 1))) := by show ¬ _; rw [← HX.out, ← HY.out]; intro h; have := hv.out.2 h; omega
            clear hv hl hcd
            have HP : Hid (Sd f a (i + 1) e) := ins_stop HI.out (by omega) (by omega) (Or.inr HF.out)
            have hmin : min (i + 1) b = i + 1 := by omega
            have HP2 := Lib.hid hmin
            clear hmin
            go_wp2
            go_roundw
            case rel => exact ⟨i + 1, e, by go_num, by omega, by omega, by rw [HP2.out]; exact HM, by rw [HP2.out]; exact HP, HR2, HT2⟩
            case measure => simp [intOf]; omega
        · obtain rfl : j = a := by omega
          have hjd : decide ((j : Int) > (j : Int)) = false := decide_eq_false (by omega)
          have HP : Hid (Sd f j (i + 1) e) := ins_stop HI.out (by omega) (by omega) (Or.inl rfl)
          have hmin : min (i + 1) b = i + 1 := by omega
          have HP2 := Lib.hid hmin
          clear hmin
          go_wp2_with fail
          refine wp_region_grew (by kernel_rfl) (by kernel_rfl) ?_
          repeat (go_big_quiet_step (fail))
          refine wpQuiet_nil ?_
          intro w2 hw'
          have hg := grew_of hw'
          clear hw'
          have HR2 : Hid (RowW w2 blk n e) := HR.out.keep hg
          have HT2 : Hid (Turn blk w0 w2) := HT.out.grew hg
          clear HR HT hg
          go_wp2
          go_roundw
          case rel => exact ⟨i + 1, e, by go_num, by omega, by omega, by rw [HP2.out]; exact HM, by rw [HP2.out]; exact HP, HR2, HT2⟩
          case measure => simp [intOf]; omega
    · have hmin : min i b = b := by omega
      have HP2 := Lib.hid hmin
      clear hmin
      go_wp2
      go_end0
      exact ⟨rfl, e, by rw [← HP2.out]; exact HM.out, by rw [← HP2.out]; exact HS.out, HR.out, HT.out⟩
end Go.Proofs.YtahioajpmlochaaGreat.NumK
namespace Go.Proofs.YtahioajpmlochaaGreat.NumK
open Go.RowKit

theorem symMerge_all (N : Nat) (g : Nat) (cb : Array Value) (cf : Nat → Nat → Int) (f : Nat → Int) (blk n cap : Nat) (w0 : World) (eg : ∀ args w, (callFunc g args).run Tryz.prog w = .ok (.enter g args) w)
    (hC : CmpOK g cb cf f blk n w0) (hn : n ≤ 1000000) : ∀ (a m b : Nat) (d : Nat → Nat) (w : World), b - a < N → Turn blk w0 w → RowW w blk n d → (∀ k, k < n → d k < n) → Sd f a m d → Sd f m b d → Xs a m b d → a < m → m < b → b ≤ n →
      Calls Tryz.prog 105 #[.slice (some ⟨blk, 0, none⟩) n cap, .int .i64 a, .int .i64 m, .int .i64 b, .func (.func g) #[] cb] w (SortPost f blk n a b d w0) := by
  induction N with
  | zero => intro a m b d w h; omega
  | succ N ih =>
    intro a m b d w h hT hR hd h1 h2 hx ham hmb hb
    by_cases c1 : m = a + 1
    · subst c1
      have := symA_any g cb cf f blk n cap a b d w0 w eg hC hT hR hd h2 hx hmb hb hn
      rwa [show (a : Int) + 1 = ((a + 1 : Nat) : Int) from by omega] at this
    · by_cases c2 : b = m + 1
      · subst c2
        have := symB_any g cb cf f blk n cap a m d w0 w eg hC hT hR hd h1 hx (by omega) hb hn
        rwa [show (m : Int) + 1 = ((m + 1 : Nat) : Int) from by omega] at this
      · exact symC_any N g cb cf f blk n cap w0 eg hC hn ih a m b d w (by omega) hT hR hd h1 h2 hx (by omega) (by omega) hb

set_option maxRecDepth 100000 in
set_option maxHeartbeats 4000000 in
theorem stable_any (g : Nat) (cb : Array Value) (cf : Nat → Nat → Int) (f : Nat → Int) (blk n cap : Nat) (w0 w : World) (eg : ∀ args w, (callFunc g args).run Tryz.prog w = .ok (.enter g args) w)
    (hC : CmpOK g cb cf f blk n w0) (hT : Turn blk w0 w) (hR : RowW w blk n (fun k => k)) (hn : n ≤ 1000000) :
    Calls Tryz.prog 93 #[.slice (some ⟨blk, 0, none⟩) n cap, .int .i64 n, .func (.func g) #[] cb] w (SortPost f blk n 0 n (fun k => k) w0) := by
  have SM := Lib.hid (symMerge_all (n + 1) g cb cf f blk n cap w0 eg hC hn)
  have IN := Lib.hid (fun a b d w hT hR hd hu hab hb => insertion_any g cb cf f blk n cap a b d w0 w eg hC hT hR hd hu hab hb hn)
  have HR := Lib.hid hR
  have HT := Lib.hid hT
  clear hC hR hT
  go_enter Tryz.func93, Tryz.ntmps93
  go_wp2
  go_loopw [7, 8] (fun va vb wr => ∃ (a : Nat) (e : Nat → Nat), va = .int .i64 a ∧ vb = .int .i64 ((a : Int) + 20) ∧ a ≤ n ∧ Hid (Begun f 20 a e) ∧ Hid (Moves 0 a (fun k => k) e) ∧ Hid (RowW wr blk n e) ∧ Hid (Turn blk w0 wr)) (fun va _ _ => n - (intOf va).toNat)
  case atStart =>
    refine ⟨0, fun k => k, rfl, rfl, Nat.zero_le _, ⟨Nat.dvd_zero _, fun c _ h => by omega, fun c _ => br_id c, fun k _ => rfl⟩, Moves.refl _ _ _, HR, HT⟩
  case round =>
    clear HR HT
    obtain ⟨a, e, rfl, rfl, han, HB, HM, HR, HT⟩ := hrel
    have hd : Hid (∀ k, k < n → e k < n) := HM.out.lt han (fun k hk => hk)
    by_cases hlt : a + 20 ≤ n
    · have C := IN.out a (a + 20) e wr HT.out HR.out hd.out (fun p q h1 h2 h3 => by rw [HB.out.2.2.2 p h1, HB.out.2.2.2 q (by omega)]; exact h2) (by omega) hlt
      rw [show ((a + 20 : Nat) : Int) = (a : Int) + 20 from by omega] at C
      have C := Lib.hid C
      have k1 : (a : Int) + 20 ≤ (n : Int) := by omega
      go_wp2_with (go_at_call 104; ((with_reducible refine C.out.mono ?_); rintro r w2 hP; have HP := Lib.hid hP; clear hP; obtain ⟨rfl, hP2⟩ := HP.out; have HP2 := Lib.hid hP2; clear hP2 HP))
      go_roundw
      case rel =>
        obtain ⟨e2, M2, S2, R2, T2⟩ := HP2.out
        exact ⟨a + 20, e2, by go_num, by go_num, by omega, begun_next HB.out (by omega) M2 S2, (HM.out.mono (Nat.le_refl _) (by omega)).trans (M2.mono (by omega) (Nat.le_refl _)), R2, T2⟩
      case measure => simp only [intOf]; omega
    · have C := IN.out a n e wr HT.out HR.out hd.out (fun p q h1 h2 h3 => by rw [HB.out.2.2.2 p h1, HB.out.2.2.2 q (by omega)]; exact h2) (by omega) (Nat.le_refl _)
      have C := Lib.hid C
      have k1 : ¬ (a : Int) + 20 ≤ (n : Int) := by omega
      go_wp2_with (go_at_call 104; ((with_reducible refine C.out.mono ?_); rintro r w2 hP; have HP := Lib.hid hP; clear hP; obtain ⟨rfl, hP2⟩ := HP.out; have HP2 := Lib.hid hP2; clear hP2 HP))
      have HQ : Hid (∃ e, Blk f 20 n e ∧ Moves 0 n (fun k => k) e ∧ RowW w2 blk n e ∧ Turn blk w0 w2) := by
        obtain ⟨e2, M2, S2, R2, T2⟩ := HP2.out
        exact ⟨e2, begun_end HB.out (by omega) han M2 S2, (HM.out.mono (Nat.le_refl _) (by omega)).trans (M2.mono (by omega) (Nat.le_refl _)), R2, T2⟩
      clear HP2 C HB HM HR HT hd
      go_loopw [6, 7, 8, 9] (fun vs va vb vm wr => ∃ (sz : Nat) (e : Nat → Nat), vs = .int .i64 sz ∧ 0 < sz ∧ sz ≤ 2000000 ∧ Hid (Blk f sz n e) ∧ Hid (Moves 0 n (fun k => k) e) ∧ Hid (RowW wr blk n e) ∧ Hid (Turn blk w0 wr)) (fun vs _ _ _ _ => 2000000 - (intOf vs).toNat)
      case atStart =>
        obtain ⟨e, h1, h2, h3, h4⟩ := HQ.out
        exact ⟨20, e, rfl, by omega, by omega, h1, h2, h3, h4⟩
      case round =>
        clear HQ
        obtain ⟨sz, e, rfl, hz0, hz1, HB, HM, HR, HT⟩ := hrel
        by_cases hlt2 : sz < n
        · have HH : Hid (Half f sz n 0 e) := half_start HB.out hz0
          clear HB
          go_wp2
          go_loopw [7, 8] (fun va vb wr => ∃ (a : Nat) (e : Nat → Nat), va = .int .i64 a ∧ vb = .int .i64 ((a : Int) + 2 * (sz : Int)) ∧ a ≤ n ∧ Hid (Half f sz n a e) ∧ Hid (Moves 0 n (fun k => k) e) ∧ Hid (RowW wr blk n e) ∧ Hid (Turn blk w0 wr)) (fun va _ _ => n - (intOf va).toNat)
          case atStart => exact ⟨0, e, rfl, by congr 1; omega, Nat.zero_le _, HH, HM, HR, HT⟩
          case round =>
            clear HR HT HM HH
            obtain ⟨a2, e, rfl, rfl, han2, HB, HM, HR, HT⟩ := hrel
            have hd : Hid (∀ k, k < n → e k < n) := HM.out.lt (Nat.le_refl _) (fun k hk => hk)
            have c1 : ((a2 + sz : Nat) : Int) = (a2 : Int) + (sz : Int) := by omega
            have c2 : ((a2 + 2 * sz : Nat) : Int) = (a2 : Int) + 2 * (sz : Int) := by omega
            by_cases hlt3 : a2 + 2 * sz ≤ n
            · obtain ⟨p1, p2, p3⟩ := half_two HB.out hz0 hlt3
              have C := SM.out a2 (a2 + sz) (a2 + 2 * sz) e wr (by omega) HT.out HR.out hd.out p1 p2 p3 (by omega) (by omega) hlt3
              rw [c1, c2] at C
              have C := Lib.hid C
              have k1 : (a2 : Int) + 2 * (sz : Int) ≤ (n : Int) := by omega
              clear p1 p2 p3 c1 c2
              go_wp2_with (go_at_call 105; ((with_reducible refine C.out.mono ?_); rintro r w2 hP; have HP := Lib.hid hP; clear hP; obtain ⟨rfl, hP2⟩ := HP.out; have HP2 := Lib.hid hP2; clear hP2 HP))
              go_roundw
              case rel =>
                obtain ⟨e2, M2, S2, R2, T2⟩ := HP2.out
                exact ⟨a2 + 2 * sz, e2, by (congr 1 <;> omega), by (congr 1 <;> omega), by omega, half_next HB.out hz0 M2 S2, HM.out.trans (M2.mono (by omega) (by omega)), R2, T2⟩
              case measure => simp only [intOf]; omega
            · have k1 : ¬ (a2 : Int) + 2 * (sz : Int) ≤ (n : Int) := by omega
              have ez : (sz : Int) * 2 = ((2 * sz : Nat) : Int) := by omega
              have EZ := Lib.hid ez
              clear ez
              by_cases hlt4 : a2 + sz < n
              · obtain ⟨p1, p2, p3⟩ := half_last HB.out (by omega) (by omega)
                have C := SM.out a2 (a2 + sz) n e wr (by omega) HT.out HR.out hd.out p1 p2 p3 (by omega) (by omega) (Nat.le_refl _)
                rw [c1] at C
                have C := Lib.hid C
                have k2 : (a2 : Int) + (sz : Int) < (n : Int) := by omega
                clear p1 p2 p3 c1 c2
                go_wp2_with (go_at_call 105; ((with_reducible refine C.out.mono ?_); rintro r w2 hP; have HP := Lib.hid hP; clear hP; obtain ⟨rfl, hP2⟩ := HP.out; have HP2 := Lib.hid hP2; clear hP2 HP))
                go_roundw
                case rel =>
                  obtain ⟨e2, M2, S2, R2, T2⟩ := HP2.out
                  exact ⟨2 * sz, e2, by rw [EZ.out], by omega, by omega, half_end HB.out han2 (by omega) M2 S2, HM.out.trans (M2.mono (by omega) (Nat.le_refl _)), R2, T2⟩
                case measure => simp only [intOf]; omega
              · have k2 : ¬ (a2 : Int) + (sz : Int) < (n : Int) := by omega
                clear c1 c2
                go_wp2
                go_roundw
                case rel => exact ⟨2 * sz, e, by rw [EZ.out], by omega, by omega, half_stay HB.out han2 (by omega), HM, HR, HT⟩
                case measure => simp only [intOf]; omega
        · go_wp2
          go_end0
          refine ⟨rfl, e, HM.out, ?_, HR.out, HT.out⟩
          have := (HB.out 0 (Nat.dvd_zero _)).1
          rwa [show min (0 + sz) n = n from by omega] at this

theorem sortStable_any (g : Nat) (cb : Array Value) (cf : Nat → Nat → Int) (f : Nat → Int) (blk n cap : Nat) (w0 w : World) (eg : ∀ args w, (callFunc g args).run Tryz.prog w = .ok (.enter g args) w)
    (hC : CmpOK g cb cf f blk n w0) (hT : Turn blk w0 w) (hR : RowW w blk n (fun k => k)) (hn : n ≤ 1000000) :
    Calls Tryz.prog 69 #[.slice (some ⟨blk, 0, none⟩) n cap, .func (.func g) #[] cb] w (SortPost f blk n 0 n (fun k => k) w0) := by
  have C := Lib.hid (stable_any g cb cf f blk n cap w0 w eg hC hT hR hn)
  clear hC hT hR
  go_enter Tryz.func69, Tryz.ntmps69
  go_wp2_with (go_at_call 93; ((with_reducible refine C.out.mono ?_); rintro r w2 hP; have HP := Lib.hid hP; clear hP; obtain ⟨rfl, hP2⟩ := HP.out; have HP2 := Lib.hid hP2; clear hP2 HP))
  go_end0
  exact ⟨rfl, HP2.out⟩
end Go.Proofs.YtahioajpmlochaaGreat.NumK
namespace Go.Proofs.YtahioajpmlochaaGreat.NumK
open Go.RowKit

def RowI (w : World) (blk n : Nat) (d : Nat → Int) : Prop := blk < w.heap.size ∧ ∀ k, k < n → w.cell? ⟨blk, k, none⟩ = some (.int .i64 (d k)) ∧ w.frozen? ⟨blk, k, none⟩ = false

theorem RowI.keep {w w' : World} {blk n : Nat} {d : Nat → Int} (h : RowI w blk n d) (g : Grew w w') : RowI w' blk n d :=
  ⟨Nat.lt_of_lt_of_le h.1 g.size, fun k hk => ⟨(grew_cell g (p := ⟨blk, k, none⟩) h.1).trans (h.2 k hk).1, (Below.frozen g (p := ⟨blk, k, none⟩) h.1).trans (h.2 k hk).2⟩⟩
theorem RowI.turn {w w' : World} {blk b n : Nat} {d : Nat → Int} (h : RowI w blk n d) (g : Turn b w w') (hn : blk ≠ b) : RowI w' blk n d :=
  ⟨Nat.lt_of_lt_of_le h.1 g.size, fun k hk => ⟨(g.cell (p := ⟨blk, k, none⟩) h.1 hn).trans (h.2 k hk).1, (g.frozen (p := ⟨blk, k, none⟩) h.1 hn).trans (h.2 k hk).2⟩⟩

theorem RowI.set {w : World} {blk n : Nat} {d : Nat → Int} (h : RowI w blk n d) (i : Nat) (v : Int) : RowI (w.setCell ⟨blk, i, none⟩ (.int .i64 v)) blk n (fun k => if k = i then v else d k) := by
  refine ⟨by simp [World.setCell]; exact h.1, fun k hk => ⟨?_, ?_⟩⟩
  · by_cases c : k = i
    · subst c
      rw [World.cell?_setCell_same _ _ _ (h.2 k hk).1]; dsimp only; rw [if_pos rfl]
    · rw [World.cell?_setCell_other _ _ _ _ (by intro e; simp only [Addr.mk.injEq] at e; omega), (h.2 k hk).1]; dsimp only; rw [if_neg c]
  · rw [World.frozen?_setCell]; exact (h.2 k hk).2

theorem RowI.congr {w : World} {blk n : Nat} {d e : Nat → Int} (h : RowI w blk n d) (he : ∀ k, k < n → d k = e k) : RowI w blk n e :=
  ⟨h.1, fun k hk => by rw [← he k hk]; exact h.2 k hk⟩
theorem RowI.toW {w : World} {blk n : Nat} {d : Nat → Int} {e : Nat → Nat} (h : RowI w blk n d) (he : ∀ k, k < n → d k = (e k : Int)) : RowW w blk n e :=
  ⟨h.1, fun k hk => by rw [← he k hk]; exact h.2 k hk⟩

theorem RowI.made (w : World) (t : TypeId) (n : Nat) : RowI (w.alloc (.cells (madeCells #[.int .i64 0] n) t)) w.heap.size n (fun _ => 0) := by
  refine ⟨by simp, fun k hk => ⟨?_, by simp⟩⟩
  rw [World.cell?_alloc_at _ _ _ _ rfl]
  simp [madeCells, hk, Nat.mod_one]

theorem RowI.ints {w : World} {blk n : Nat} {d : Nat → Int} (h : RowI w blk n d) : Ints w (some ⟨blk, 0, none⟩) n ((List.range n).map d) := by
  refine ⟨by simp, fun _ => ⟨blk, 0, rfl, h.1, fun j hj => ?_⟩⟩
  rw [Nat.zero_add, (h.2 j hj).1]
  simp [List.getD, hj]

/-- The run of 'make([]int, n)'. -/
theorem run_ints (w : World) (n : Nat) (hn : n ≤ 1000000) : (Instr.makeSlice 56 (.int .i64 n) (.int .i64 n)).run Tryz.prog w = .ok (.slice (some ⟨w.heap.size, 0, none⟩) n n) (w.alloc (.cells (madeCells #[.int .i64 0] n) 3)) := by
  obtain ⟨i, hi, hz0, hz1, hz2⟩ := info_parts info_i64
  have := run_make (P := Tryz.prog) w 56 3 i (.int .i64 0) Tryz.underlying56 hi hz0 .i64 .i64 n n (by omega) (by omega) (by rw [hz2]; omega) (by omega)
  simpa [hz1, Value.cells] using this
end Go.Proofs.YtahioajpmlochaaGreat.NumK
namespace Go.Proofs.YtahioajpmlochaaGreat.NumK
open Go.RowKit

structure Own2 (w : World) (b : Nat) (v0 v1 : Value) : Prop where
  c0 : w.cell? ⟨b, 0, none⟩ = some v0
  c1 : w.cell? ⟨b, 1, none⟩ = some v1
  f0 : w.frozen? ⟨b, 0, none⟩ = false
  f1 : w.frozen? ⟨b, 1, none⟩ = false
  lt : b < w.heap.size

theorem Own2.keep {w w' : World} {b : Nat} {v0 v1 : Value} (h : Own2 w b v0 v1) (g : Grew w w') : Own2 w' b v0 v1 :=
  ⟨(grew_cell g (p := ⟨b, 0, none⟩) h.lt).trans h.c0, (grew_cell g (p := ⟨b, 1, none⟩) h.lt).trans h.c1, (Below.frozen g (p := ⟨b, 0, none⟩) h.lt).trans h.f0, (Below.frozen g (p := ⟨b, 1, none⟩) h.lt).trans h.f1, Nat.lt_of_lt_of_le h.lt g.size⟩
theorem Own2.new (w : World) (v0 v1 : Value) (t : TypeId) (N : Nat) (hN : w.heap.size = N) : Own2 (w.alloc (.cells #[v0, v1] t)) N v0 v1 := by
  subst hN
  exact ⟨by simp, by simp, by simp, by simp, by simp⟩
theorem Own2.set {w : World} {b : Nat} {v0 v1 : Value} (h : Own2 w b v0 v1) (u0 u1 : Value) : Own2 ((w.setCell ⟨b, 0, none⟩ u0).setCell ⟨b, 1, none⟩ u1) b u0 u1 := by
  have k1 : (w.setCell ⟨b, 0, none⟩ u0).cell? ⟨b, 1, none⟩ = some v1 := (World.cell?_setCell_other _ _ _ _ (by intro e; simp at e)).trans h.c1
  refine ⟨?_, World.cell?_setCell_same _ _ _ k1, by rw [World.frozen?_setCell, World.frozen?_setCell]; exact h.f0, by rw [World.frozen?_setCell, World.frozen?_setCell]; exact h.f1, by simp [World.setCell]; exact h.lt⟩
  rw [World.cell?_setCell_other _ _ _ _ (by intro e; simp at e)]
  exact World.cell?_setCell_same _ _ _ h.c0
theorem Own2.other {w : World} {b : Nat} {v0 v1 : Value} (h : Own2 w b v0 v1) (p : Addr) (u : Value) (hp : p.block ≠ b) : Own2 (w.setCell p u) b v0 v1 :=
  ⟨(World.cell?_setCell_other _ _ _ _ (by intro e; apply hp; rw [e])).trans h.c0, (World.cell?_setCell_other _ _ _ _ (by intro e; apply hp; rw [e])).trans h.c1, by rw [World.frozen?_setCell]; exact h.f0, by rw [World.frozen?_setCell]; exact h.f1, by simp [World.setCell]; exact h.lt⟩
end Go.Proofs.YtahioajpmlochaaGreat.NumK
namespace Go.Proofs.YtahioajpmlochaaGreat.NumK
open Go.RowKit

def hasNeg (l : List Int) : Bool := l.any fun x => decide (x < 0)
theorem hasNeg_no {l : List Int} (h : hasNeg l = false) : ∀ x ∈ l, 0 ≤ x := by
  intro x hx
  unfold hasNeg at h
  rw [List.any_eq_false] at h
  have := h x hx
  simp at this; omega
theorem hasNeg_of {l : List Int} {x : Int} (hx : x ∈ l) (h : x < 0) : hasNeg l = true := by
  unfold hasNeg; rw [List.any_eq_true]; exact ⟨x, hx, by simpa using h⟩
theorem hasNeg_take (l : List Int) (k : Nat) (hk : k < l.length) (h : hasNeg (l.take k) = false) (hx : ¬ l.getD k 0 < 0) : hasNeg (l.take (k + 1)) = false := by
  unfold hasNeg at *
  rw [List.take_succ_eq_append_getElem hk, List.any_append, h]
  simp only [List.getD, List.getElem?_eq_getElem hk, Option.getD_some] at hx
  simpa using hx

theorem neg1_any (x : Int) (w : World) : Calls Tryz.prog 62 #[.int .i64 x] w fun e w' => e = .returned (.bool (decide (x < 0))) ∧ w = w' := by
  go_enter Tryz.func62, Tryz.ntmps62
  go_wp2
  go_ret
  exact ⟨rfl, rfl⟩

def AtNeg (l : List Int) (w : World) (e : Ending) (w' : World) : Prop := ∃ r : Int, (0 ≤ r ↔ hasNeg l = true) ∧ -1 ≤ r ∧ e = .returned (.int .i64 r) ∧ w = w'

set_option maxHeartbeats 1000000 in
theorem indexNeg_any (A : Option Addr) (n c : Nat) (zs : List Int) (w : World) (hz : Ints w A n zs) (hn : n ≤ 9223372036854775807) :
    Calls Tryz.prog 87 #[.slice A n c, .func (.func 62) #[] #[]] w (AtNeg zs w) := by
  have HZ := Lib.hid hz
  clear hz
  go_enter Tryz.func87, Tryz.ntmps87
  go_wp2
  go_loop [8, 5] (fun vi v5 => ∃ k : Nat, vi = .int .i64 k ∧ k ≤ n ∧ Hid (hasNeg (zs.take k) = false)) (fun vi _ => n - (intOf vi).toNat)
  case atStart => exact ⟨0, rfl, Nat.zero_le _, rfl⟩
  case round =>
    obtain ⟨k, rfl, hk, HN⟩ := hrel
    by_cases hlt : k < n
    · obtain ⟨b, o, rfl, _, hc⟩ := HZ.out.2 (by omega)
      have hcell := hc k hlt
      have hlen := HZ.out.1
      have HNX := Lib.hid (hasNeg_take zs k (by omega) HN.out)
      have hm : zs.getD k 0 ∈ zs := by rw [List.getD_eq_getElem?_getD, List.getElem?_eq_getElem (by omega)]; exact List.getElem_mem _
      have HY := Lib.hid (fun h => hasNeg_of hm h)
      clear hc hlen hm
      generalize zs.getD k 0 = y at *
      have C := fun w => neg1_any y w
      by_cases hy : y < 0
      · have d1 : decide (y < 0) = true := decide_eq_true hy
        rw [d1] at C
        have HP : Hid (hasNeg zs = true) := HY.out hy
        clear d1 HY HNX
        go_wp2_with (go_at_call 62; ((with_reducible refine (C _).mono ?_); rintro e w' ⟨rfl, rfl⟩))
        go_ret
        exact ⟨k, ⟨fun _ => HP.out, fun _ => by omega⟩, by omega, rfl, rfl⟩
      · have d1 : decide (y < 0) = false := decide_eq_false hy
        rw [d1] at C
        have HP : Hid (hasNeg (zs.take (k + 1)) = false) := HNX.out hy
        clear d1 HY HNX
        go_wp2_with (go_at_call 62; ((with_reducible refine (C _).mono ?_); rintro e w' ⟨rfl, rfl⟩))
        go_round
        case rel => exact ⟨k + 1, by go_num, by omega, HP⟩
        case measure => simp only [intOf]; omega
    · obtain rfl : k = n := by omega
      go_wp2
      go_ret
      refine ⟨-1, ⟨fun h => by omega, fun h => ?_⟩, by omega, rfl, rfl⟩
      have := HN.out
      rw [List.take_of_length_le (by have := HZ.out.1; omega), h] at this
      cases this

theorem containsNeg_any (A : Option Addr) (n c : Nat) (zs : List Int) (w : World) (hz : Ints w A n zs) (hn : n ≤ 9223372036854775807) :
    Calls Tryz.prog 61 #[.slice A n c, .func (.func 62) #[] #[]] w fun e w' => e = .returned (.bool (hasNeg zs)) ∧ w = w' := by
  have C := indexNeg_any A n c zs w hz hn
  clear hz
  go_enter Tryz.func61, Tryz.ntmps61
  go_wp2_with (go_at_call 87; ((with_reducible refine C.mono ?_); rintro e w' ⟨r, hr, hr2, rfl, rfl⟩; have HR := Lib.hid hr; clear hr))
  go_ret
  refine ⟨ret_b ?_, rfl⟩
  have := HR.out
  cases h : hasNeg zs with
  | true => rw [h] at this; exact decide_eq_true (this.2 rfl)
  | false => rw [h] at this; exact decide_eq_false (fun g => by have := this.1 g; cases this)

/-- What check names first. -/
def chkE (T : Int) (l : List Int) : Int := if isMoney T && l.all isMoney && decide (0 ≤ T) && !hasNeg l then (if l.length ≤ 1024 then 0 else 5) else 3

set_option maxHeartbeats 1000000 in
theorem scheck_any (T : Int) (A : Option Addr) (n c : Nat) (zs : List Int) (w : World) (hz : Ints w A n zs) (hn : n ≤ 9223372036854775807) :
    Calls Tryz.prog 36 #[.int .i64 T, .slice A n c] w fun e w' => e = .returned (.int .i64 (chkE T zs)) ∧ Grew w w' := by
  have C1 : ∀ w : World, Calls Tryz.prog 34 #[.slice (some ⟨w.heap.size, 0, none⟩) 1 1] (w.alloc (.cells #[.int .i64 T] 3)) fun e w' => e = .returned (.bool (isMoney T)) ∧ w.alloc (.cells #[.int .i64 T] 3) = w' := fun w => by
    have := right_any (some ⟨w.heap.size, 0, none⟩) 1 1 [T] _ (ints1 w T 3) (by omega)
    simpa using this
  have C2 := right_any A n c zs (w.alloc (.cells #[.int .i64 T] 3)) (hz.keep (grew_alloc _ _ _)) hn
  have C3 := containsNeg_any A n c zs (w.alloc (.cells #[.int .i64 T] 3)) (hz.keep (grew_alloc _ _ _)) hn
  have hlen := hz.1
  have HE : Hid (chkE T zs = if isMoney T && zs.all isMoney && decide (0 ≤ T) && !hasNeg zs then (if n ≤ 1024 then 0 else 5) else 3) := by unfold chkE; rw [hlen]; rfl
  generalize chkE T zs = r at *
  generalize hm : isMoney T = m1 at *
  generalize zs.all isMoney = m2 at *
  generalize hasNeg zs = m3 at *
  clear hz hlen hm
  by_cases h0 : T < 0
  · have d0 : decide (0 ≤ T) = false := decide_eq_false (by omega)
    have HF : Hid (r = 3) := by show _ = _; rw [HE.out, d0]; simp
    clear HE d0
    cases m1 <;> cases m2 <;>
    · go_enter Tryz.func36, Tryz.ntmps36
      go_wp2_with (first | (go_at_call 34; ((with_reducible refine (C1 _).mono ?_); rintro e w' ⟨rfl, rfl⟩)) | (go_at_call 34; ((with_reducible refine C2.mono ?_); rintro e w' ⟨rfl, rfl⟩)))
      go_ret
      exact ⟨ret_i HF.out.symm, grew_alloc _ _ _⟩
  · have d0 : decide (0 ≤ T) = true := decide_eq_true (by omega)
    rw [d0] at HE
    clear d0
    cases m1 with
    | false =>
      have HF : Hid (r = 3) := by show _ = _; rw [HE.out]; simp
      clear HE
      go_enter Tryz.func36, Tryz.ntmps36
      go_wp2_with (first | (go_at_call 34; ((with_reducible refine (C1 _).mono ?_); rintro e w' ⟨rfl, rfl⟩)) | (go_at_call 34; ((with_reducible refine C2.mono ?_); rintro e w' ⟨rfl, rfl⟩)))
      go_ret
      exact ⟨ret_i HF.out.symm, grew_alloc _ _ _⟩
    | true =>
      cases m2 with
      | false =>
        have HF : Hid (r = 3) := by show _ = _; rw [HE.out]; simp
        clear HE
        go_enter Tryz.func36, Tryz.ntmps36
        go_wp2_with (first | (go_at_call 34; ((with_reducible refine (C1 _).mono ?_); rintro e w' ⟨rfl, rfl⟩)) | (go_at_call 34; ((with_reducible refine C2.mono ?_); rintro e w' ⟨rfl, rfl⟩)))
        go_ret
        exact ⟨ret_i HF.out.symm, grew_alloc _ _ _⟩
      | true =>
        cases m3 with
        | true =>
          have HF : Hid (r = 3) := by show _ = _; rw [HE.out]; simp
          clear HE
          go_enter Tryz.func36, Tryz.ntmps36
          go_wp2_with (first | (go_at_call 34; ((with_reducible refine (C1 _).mono ?_); rintro e w' ⟨rfl, rfl⟩)) | (go_at_call 34; ((with_reducible refine C2.mono ?_); rintro e w' ⟨rfl, rfl⟩)) | (go_at_call 61; ((with_reducible refine C3.mono ?_); rintro e w' ⟨rfl, rfl⟩)))
          go_ret
          exact ⟨ret_i HF.out.symm, grew_alloc _ _ _⟩
        | false =>
          by_cases h5 : n ≤ 1024
          · have HF : Hid (r = 0) := by show _ = _; rw [HE.out]; simp [h5]
            have k1 : ¬ 1024 < (n : Int) := by omega
            clear HE
            go_enter Tryz.func36, Tryz.ntmps36
            go_wp2_with (first | (go_at_call 34; ((with_reducible refine (C1 _).mono ?_); rintro e w' ⟨rfl, rfl⟩)) | (go_at_call 34; ((with_reducible refine C2.mono ?_); rintro e w' ⟨rfl, rfl⟩)) | (go_at_call 61; ((with_reducible refine C3.mono ?_); rintro e w' ⟨rfl, rfl⟩)))
            go_ret
            exact ⟨ret_i HF.out.symm, grew_alloc _ _ _⟩
          · have HF : Hid (r = 5) := by show _ = _; rw [HE.out]; simp [h5]
            have k1 : 1024 < (n : Int) := by omega
            clear HE
            go_enter Tryz.func36, Tryz.ntmps36
            go_wp2_with (first | (go_at_call 34; ((with_reducible refine (C1 _).mono ?_); rintro e w' ⟨rfl, rfl⟩)) | (go_at_call 34; ((with_reducible refine C2.mono ?_); rintro e w' ⟨rfl, rfl⟩)) | (go_at_call 61; ((with_reducible refine C3.mono ?_); rintro e w' ⟨rfl, rfl⟩)))
            go_ret
            exact ⟨ret_i HF.out.symm, grew_alloc _ _ _⟩
end Go.Proofs.YtahioajpmlochaaGreat.NumK
namespace Go.Proofs.YtahioajpmlochaaGreat.NumK

/-- What is left behind k caps; what the cap at k takes. -/
def gr (T : Int) (c : Nat → Int) : Nat → Int
  | 0 => T
  | k + 1 => gr T c k - min (c k) (gr T c k)
def gp (T : Int) (c : Nat → Int) (k : Nat) : Int := min (c k) (gr T c k)
def capAt (l : List Int) (k : Nat) : Int := l.getD k 0
/-! ### closed, and in two parts -/
end Go.Proofs.YtahioajpmlochaaGreat.NumK
namespace Go.Proofs.YtahioajpmlochaaGreat.NumK
open Go.RowKit



def GreedyPost (T : Int) (l : List Int) (n : Nat) (w : World) (e : Ending) (w' : World) : Prop :=
  Grew w w' ∧ ((chkE T l ≠ 0 ∧ e = .returned (.tuple #[.slice none 0 0, .int .i64 0, .int .i64 (chkE T l)])) ∨
    (chkE T l = 0 ∧ ∃ B, w.heap.size ≤ B ∧ e = .returned (.tuple #[.slice (some ⟨B, 0, none⟩) n n, .int .i64 (gr T (capAt l) n), .int .i64 0]) ∧ RowI w' B n (gp T (capAt l))))

theorem chk_ok {T : Int} {l : List Int} (h : chkE T l = 0) : 0 ≤ T ∧ T ≤ 4611686018427387904 ∧ (∀ x ∈ l, 0 ≤ x) ∧ l.all isMoney = true ∧ l.length ≤ 1024 := by
  unfold chkE at h
  split at h
  · next g =>
    simp only [Bool.and_eq_true, decide_eq_true_eq, Bool.not_eq_true'] at g
    obtain ⟨⟨⟨g1, g2⟩, g3⟩, g4⟩ := g
    split at h
    · next g5 => exact ⟨g3, ((isMoney_iff T).1 g1).2, hasNeg_no g4, g2, g5⟩
    · omega
  · omega

end Go.Proofs.YtahioajpmlochaaGreat.NumK
namespace Go.Proofs.YtahioajpmlochaaGreat.NumK
open Go.RowKit

def RowX (w : World) (blk n : Nat) (d : Nat → Int) : Prop := blk < w.heap.size ∧ ∀ k, k < n →
  w.cell? ⟨blk, k * 2, none⟩ = some (.int .i64 (hi64 (d k))) ∧ w.cell? ⟨blk, k * 2 + 1, none⟩ = some (.int .u64 (lo64 (d k))) ∧ w.frozen? ⟨blk, k * 2, none⟩ = false ∧ w.frozen? ⟨blk, k * 2 + 1, none⟩ = false

theorem RowX.keep {w w' : World} {blk n : Nat} {d : Nat → Int} (h : RowX w blk n d) (g : Grew w w') : RowX w' blk n d :=
  ⟨Nat.lt_of_lt_of_le h.1 g.size, fun k hk => ⟨(grew_cell g (p := ⟨blk, k * 2, none⟩) h.1).trans (h.2 k hk).1, (grew_cell g (p := ⟨blk, k * 2 + 1, none⟩) h.1).trans (h.2 k hk).2.1,
    (Below.frozen g (p := ⟨blk, k * 2, none⟩) h.1).trans (h.2 k hk).2.2.1, (Below.frozen g (p := ⟨blk, k * 2 + 1, none⟩) h.1).trans (h.2 k hk).2.2.2⟩⟩

theorem RowX.other {w : World} {blk n : Nat} {d : Nat → Int} (h : RowX w blk n d) (p : Addr) (u : Value) (hp : p.block ≠ blk) : RowX (w.setCell p u) blk n d :=
  ⟨by simp [World.setCell]; exact h.1, fun k hk => ⟨(World.cell?_setCell_other _ _ _ _ (by intro e; apply hp; rw [e])).trans (h.2 k hk).1, (World.cell?_setCell_other _ _ _ _ (by intro e; apply hp; rw [e])).trans (h.2 k hk).2.1,
    by rw [World.frozen?_setCell]; exact (h.2 k hk).2.2.1, by rw [World.frozen?_setCell]; exact (h.2 k hk).2.2.2⟩⟩
theorem RowI.other {w : World} {blk n : Nat} {d : Nat → Int} (h : RowI w blk n d) (p : Addr) (u : Value) (hp : p.block ≠ blk) : RowI (w.setCell p u) blk n d :=
  ⟨by simp [World.setCell]; exact h.1, fun k hk => ⟨(World.cell?_setCell_other _ _ _ _ (by intro e; apply hp; rw [e])).trans (h.2 k hk).1, by rw [World.frozen?_setCell]; exact (h.2 k hk).2⟩⟩
theorem RowW.other {w : World} {blk n : Nat} {d : Nat → Nat} (h : RowW w blk n d) (p : Addr) (u : Value) (hp : p.block ≠ blk) : RowW (w.setCell p u) blk n d :=
  ⟨by simp [World.setCell]; exact h.1, fun k hk => ⟨(World.cell?_setCell_other _ _ _ _ (by intro e; apply hp; rw [e])).trans (h.2 k hk).1, by rw [World.frozen?_setCell]; exact (h.2 k hk).2⟩⟩

theorem RowX.set {w : World} {blk n : Nat} {d : Nat → Int} (h : RowX w blk n d) (i : Nat) (v : Int) : RowX ((w.setCell ⟨blk, i * 2, none⟩ (.int .i64 (hi64 v))).setCell ⟨blk, i * 2 + 1, none⟩ (.int .u64 (lo64 v))) blk n (fun k => if k = i then v else d k) := by
  refine ⟨by simp [World.setCell]; exact h.1, fun k hk => ?_⟩
  obtain ⟨h1, h2, h3, h4⟩ := h.2 k hk
  refine ⟨?_, ?_, by rw [World.frozen?_setCell, World.frozen?_setCell]; exact h3, by rw [World.frozen?_setCell, World.frozen?_setCell]; exact h4⟩
  · rw [World.cell?_setCell_other _ _ _ _ (by intro e; simp only [Addr.mk.injEq] at e; omega)]
    by_cases c : k = i
    · subst c
      rw [World.cell?_setCell_same _ _ _ h1]; dsimp only; rw [if_pos rfl]
    · rw [World.cell?_setCell_other _ _ _ _ (by intro e; simp only [Addr.mk.injEq] at e; omega), h1]; dsimp only; rw [if_neg c]
  · by_cases c : k = i
    · subst c
      have k1 : (w.setCell ⟨blk, k * 2, none⟩ (.int .i64 (hi64 v))).cell? ⟨blk, k * 2 + 1, none⟩ = some (.int .u64 (lo64 (d k))) := by
        rw [World.cell?_setCell_other _ _ _ _ (by intro e; simp only [Addr.mk.injEq] at e; omega)]; exact h2
      rw [World.cell?_setCell_same _ _ _ k1]; dsimp only; rw [if_pos rfl]
    · rw [World.cell?_setCell_other _ _ _ _ (by intro e; simp only [Addr.mk.injEq] at e; omega), World.cell?_setCell_other _ _ _ _ (by intro e; simp only [Addr.mk.injEq] at e; omega), h2]; dsimp only; rw [if_neg c]

theorem RowX.congr {w : World} {blk n : Nat} {d e : Nat → Int} (h : RowX w blk n d) (he : ∀ k, k < n → d k = e k) : RowX w blk n e :=
  ⟨h.1, fun k hk => by rw [← he k hk]; exact h.2 k hk⟩

theorem RowX.made (w : World) (t : TypeId) (n : Nat) : RowX (w.alloc (.cells (madeCells #[.int .i64 0, .int .u64 0] (n * 2)) t)) w.heap.size n (fun _ => 0) := by
  have h0 : hi64 0 = 0 ∧ lo64 0 = 0 := by decide
  refine ⟨by simp, fun k hk => ⟨?_, ?_, by simp, by simp⟩⟩
  · rw [World.cell?_alloc_at _ _ _ _ rfl, h0.1]
    have e2 : k * 2 % 2 = 0 := by omega
    simp [madeCells, e2, show k * 2 < n * 2 from by omega]
  · rw [World.cell?_alloc_at _ _ _ _ rfl, h0.2]
    have e2 : (k * 2 + 1) % 2 = 1 := by omega
    simp [madeCells, e2, show k * 2 + 1 < n * 2 from by omega]

theorem RowX.wides {w : World} {blk n : Nat} {d : Nat → Int} (h : RowX w blk n d) : Wides w (some ⟨blk, 0, none⟩) n ((List.range n).map d) := by
  refine ⟨by simp, fun _ => ⟨blk, 0, rfl, h.1, fun j hj => ?_⟩⟩
  have e : ((List.range n).map d).getD j 0 = d j := by simp [List.getD, hj]
  rw [Nat.zero_add, e]
  exact ⟨(h.2 j hj).1, (h.2 j hj).2.1⟩

/-- The run of 'make([]api.Wide, n)'. -/
theorem run_wides (w : World) (n : Nat) (hn : n ≤ 1000000) : (Instr.makeSlice 86 (.int .i64 n) (.int .i64 n)).run Tryz.prog w = .ok (.slice (some ⟨w.heap.size, 0, none⟩) n n) (w.alloc (.cells (madeCells #[.int .i64 0, .int .u64 0] (n * 2)) 84)) := by
  obtain ⟨i, hi, hz0, hz1, hz2⟩ := info_parts info_wide
  have := run_make (P := Tryz.prog) w 86 84 i (.agg #[.int .i64 0, .int .u64 0]) Tryz.underlying86 hi hz0 .i64 .i64 n n (by omega) (by omega) (by rw [hz2]; omega) (by omega)
  simpa [hz1, Value.cells] using this
end Go.Proofs.YtahioajpmlochaaGreat.NumK
namespace Go.Proofs.YtahioajpmlochaaGreat.NumK
open Go.RowKit
set_option linter.unusedVariables false

theorem OwnE.setO {α : Type} {E : En α} {w : World} {base : Nat} {t : TypeId} {v : Value} {l : List α} (h : OwnE E w base t v l) (b i : Nat) (u : Value) (hne : ∀ g, v.ownBlock = some g → g ≠ b) : OwnE E (w.setCell ⟨b, i, none⟩ u) base t v l := by
  obtain ⟨hl, h⟩ := h
  refine ⟨hl, ?_⟩
  rcases h with h | ⟨g, cap, cur, hv, hb, hh, r⟩
  · exact Or.inl h
  · refine Or.inr ⟨g, cap, cur, hv, hb, ?_, r⟩
    rw [Below.heap_setCell _ _ _ _ (hne g (by rw [hv]; rfl))]
    exact hh
theorem OwnC.same {w w' : World} {b : Nat} {cs : List Value} (h : OwnC w b cs) (hs : w'.heap[b]? = w.heap[b]?) (hz : w.heap.size ≤ w'.heap.size) : OwnC w' b cs :=
  ⟨Nat.lt_of_lt_of_le h.lt hz, fun i hi => (World.cell?_of_block (w := w) (a := ⟨b, i, none⟩) hs).trans (h.c i hi), fun i hi => (World.frozen?_of_block (w := w) (a := ⟨b, i, none⟩) hs).trans (h.f i hi)⟩
theorem OwnC.grown {w w' : World} {b : Nat} {cs : List Value} {row : Option Nat} (h : OwnC w b cs) (hg : w.grownBy w' row) (hne : some b ≠ row) : OwnC w' b cs :=
  h.same (hg.block b h.lt hne) hg.size

theorem OwnE.putN {α : Type} {E : En α} {base b : Nat} {t : TypeId} {v : Value} {l : List α} (hne : ∀ g, v.ownBlock = some g → g ≠ b) : ∀ (vs : List Value) (o : Nat) (w : World), OwnE E w base t v l → OwnE E (putC w b o vs) base t v l
  | [], _, _, h => h
  | u :: vs, o, w, h => OwnE.putN hne vs (o + 1) _ (h.setO b o u hne)

section
variable {α β : Type} {E : En α} {F : En β} {w w' : World} {base : Nat} {s t : TypeId} {va vb : Value} {la : List α} {lb : List β} {ops : Array Oper} {rest : List Oper} {o : Oper} {a : Act} {Q : Exit → Act → World → Prop}
/-- One more in the first row; what other blocks hold stays. -/
theorem wpList_twoG (hgd : o.guard = none) (p q : Operand) (T : TypeId) (z : Value) (by' : Nat)
    (ho : o.op = .call { callee := .builtin .append, args := #[p, q], argTypes := #[T, T] })
    (hT : Tryz.prog.underlying T = some (.slice s)) (hi : (Tryz.prog.info? s).map (fun i => (i.zero, i.size, i.bytes)) = some (some z, E.size, by')) (hz : z.cells.size = E.size)
    (h : Two E F w base s t va vb la lb) (hs : a.eval p = va) (N : Nat) (x : α) (hx : a.eval q = .slice (some ⟨N, 0, none⟩) 1 1) (hR : RowE E w (some ⟨N, 0, none⟩) 1 [x])
    (hm : la.length + 1 ≤ maxLen) (hlim : (la.length + 1) * by' ≤ 140737488355328) (hbase : base ≤ w.heap.size)
    (k : ∀ A c w', Two E F w' base s t (.slice A (la.length + 1) c) vb (la ++ [x]) lb → w.grownBy w' va.ownBlock → (∀ y, A = some y → va.ownBlock = some y.block ∨ y.block = w.heap.size) → wpList Tryz.prog ops Q rest (a.put o.dst (.slice A (la.length + 1) c)) w') : wpList Tryz.prog ops Q (o :: rest) a w := by
  obtain ⟨i, hi, hz0, hz1, hz2⟩ := info_parts hi
  refine wpList_append_lies w hgd p q T ho base s i z E.size by' hT hi hz0 hz1 hz2 hz E.pos va la.length _ hs h.a ⟨N, 0, none⟩ 1 1 (E.cs x) hx (by rw [E.len, Nat.one_mul]) (news_one hR) (E.one x) (by omega) hm hlim hbase _ rfl fun g cap w' h2 h3 h4 h5 => k _ cap w' (h.grown (va := va) ?_ h3 fun g' hg' => ?_) h3 fun y hy => ?_
  · show w'.ownsRow base s E.size _ (la ++ [x]).length ((la ++ [x]).flatMap E.cs)
    rw [List.length_append, List.flatMap_append]
    simpa using h2
  · have : g = g' := by simpa [Value.ownBlock] using hg'
    subst this
    exact h4
  · cases hy; exact h4
theorem Two.setO (h : Two E F w base s t va vb la lb) (b i : Nat) (u : Value) (h1 : ∀ g, va.ownBlock = some g → g ≠ b) (h2 : ∀ g, vb.ownBlock = some g → g ≠ b) : Two E F (w.setCell ⟨b, i, none⟩ u) base s t va vb la lb := ⟨h.a.setO b i u h1, h.b.setO b i u h2, h.ne⟩
theorem Two.putN (h : Two E F w base s t va vb la lb) (b : Nat) (vs : List Value) (o : Nat) (h1 : ∀ g, va.ownBlock = some g → g ≠ b) (h2 : ∀ g, vb.ownBlock = some g → g ≠ b) : Two E F (putC w b o vs) base s t va vb la lb := ⟨h.a.putN h1 vs o w, h.b.putN h2 vs o w, h.ne⟩
end
theorem own_addr {A : Option Addr} {n c g : Nat} (h : (Value.slice A n c).ownBlock = some g) : ∃ x, A = some x ∧ x.block = g := by
  cases A with
  | none => cases h
  | some x =>
    refine ⟨x, rfl, ?_⟩
    simpa [Value.ownBlock] using h

end Go.Proofs.YtahioajpmlochaaGreat.NumK
namespace Go.Proofs.YtahioajpmlochaaGreat.NumK
open Go.RowKit

/-- The same, and it tells that no other block was touched. -/
theorem step_append_G {α : Type} {E : En α} {ops : Array Oper} {o : Oper} {a : Act} {w : World} {K : Act → World → Prop} {Q : Exit → Act → World → Prop} {X : Prop} (hgd : o.guard = none) (s x : Operand) (T t : TypeId) (z : Value) (by' : Nat)
    (ho : o.op = .call { callee := .builtin .append, args := #[s, x], argTypes := #[T, T] })
    (hT : Tryz.prog.underlying T = some (.slice t)) (hi : (Tryz.prog.info? t).map (fun i => (i.zero, i.size, i.bytes)) = some (some z, E.size, by')) (hz : z.cells.size = E.size)
    (base : Nat) (v : Value) (l : List α) (hs : a.eval s = v) (hown : OwnE E w base t v l)
    (ad : Addr) (m c : Nat) (zs : List α) (hx : a.eval x = .slice (some ad) m c) (hR : RowE E w (some ad) m zs)
    (hm : l.length + m ≤ maxLen) (hlim : (l.length + m) * by' ≤ 140737488355328) (hbase : base ≤ w.heap.size)
    (h : ∀ v' w', OwnE E w' base t v' (l ++ zs) → Below base w w' → w.grownBy w' v.ownBlock → K (a.put o.dst v') w') : if Region.wanted o (yielded ops a.tmps) = true then Oper.wp Tryz.prog o a w K Q else X := by
  have hw : Region.wanted o (yielded ops a.tmps) = true := by simp [Region.wanted, hgd]
  rw [if_pos hw]
  obtain ⟨i, hi, hz0, hz1, hz2⟩ := info_parts hi
  have hl := hR.len
  refine wp_append_own w s x T ho base t i z E.size by' hT hi hz0 hz1 hz2 hz E.pos v l.length _ hs hown ad m c (zs.flatMap E.cs) hx (by rw [E.flat_len, hl]) (fun j u hu => ?_) (fun u hu => ?_) hm hlim hbase (fun v' w' ho' hg _ => ?_)
  · have hj : j < zs.length * E.size := by
      rw [← E.flat_len]
      rcases Nat.lt_or_ge j (zs.flatMap E.cs).length with h1 | h1
      · exact h1
      · rw [List.getElem?_eq_none h1] at hu; cases hu
    have hq : j / E.size < zs.length := Nat.div_lt_of_lt_mul (by rw [Nat.mul_comm]; exact hj)
    have hdm : j / E.size * E.size + j % E.size = j := by rw [Nat.mul_comm]; exact Nat.div_add_mod j E.size
    have hmod : j % E.size < E.size := Nat.mod_lt _ E.pos
    obtain ⟨b, o2, he, hb, hc⟩ := hR.at (by rw [← hl]; exact Nat.lt_of_le_of_lt (Nat.zero_le _) hq)
    cases he
    have e1 := hc (j / E.size) hq (j % E.size) hmod
    rw [← E.flat_at zs _ hq _ hmod, hdm, hu] at e1
    rw [addr_add, ← e1, Nat.add_assoc, hdm]
  · obtain ⟨y, _, hy⟩ := List.mem_flatMap.1 hu
    exact E.one y u hy
  · refine h v' w' ?_ ((Below.refl base w).grown hg hbase fun k hk => (hown.lt k hk).1) hg
    show w'.ownsRow base t E.size v' (l ++ zs).length ((l ++ zs).flatMap E.cs)
    rw [List.length_append, hl, List.flatMap_append]
    exact ho'
/-- A block that was made behind a row is not the row's. -/
theorem own_ne {α : Type} {E : En α} {w : World} {base : Nat} {t : TypeId} {v : Value} {l : List α} (h : OwnE E w base t v l) {b : Nat} (hb : w.heap.size ≤ b) : some b ≠ v.ownBlock := fun e => by
  have := (World.ownsRow.lt h b e.symm).2
  omega
end Go.Proofs.YtahioajpmlochaaGreat.NumK
