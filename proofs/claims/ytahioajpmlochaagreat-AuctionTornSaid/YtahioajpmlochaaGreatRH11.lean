/- The sort's insertion. -/
import Derived.Test.YtahioajpmlochaaGreatRH2
import Derived.Test.YtahioajpmlochaaGreatRH10
import Derived.Deep.DeepCutAuto
import Derived.Deep.CutBlock
import Derived.Test.YtahioajpmlochaaGreatRH8
import Derived.Shelf.Abstract
import Derived.Test.YtahioajpmlochaaGreatRH3
namespace Go.Proofs.YtahioajpmlochaaGreat.NumK
open Go.RowKit

set_option maxRecDepth 100000 in
set_option maxHeartbeats 2000000 in
theorem insertionB_any {L : Nat → B5} (g : Nat) (cb : Array Value) (cf : B5 → B5 → Int) (f : Nat → Int) (blk n cap a b : Nat) (d : Nat → Nat) (w0 w : World) (eg : ∀ args w, (callFunc g args).run Tryz.prog w = .ok (.enter g args) w)
    (hC : CmpB L g cb cf f blk n w0) (hT : Turn blk w0 w) (hR : RowBd L w blk n d) (hd : ∀ k, k < n → d k < n) (hu : ∀ p q, a ≤ p → p < q → q < b → d p < d q) (hab : a ≤ b) (hb : b ≤ n) (hn : n ≤ 1000000) :
    Calls Tryz.prog 106 #[.slice (some ⟨blk, 0, none⟩) n cap, .int .i64 a, .int .i64 b, .func (.func g) #[] cb] w (SortPostB L f blk n a b d w0) := by
  have HR := Lib.hid hR
  have HC := Lib.hid hC
  have HT := Lib.hid hT
  have HD := Lib.hid hd
  have HU := Lib.hid hu
  clear hR hC hT hd hu
  go_enter Tryz.func106, Tryz.ntmps106
  go_wp2
  go_loopw [8] (fun vi wr => ∃ (i : Nat) (e : Nat → Nat), vi = .int .i64 i ∧ a < i ∧ i ≤ b + 1 ∧ Hid (Moves a (min i b) d e) ∧ Hid (Sd f a (min i b) e) ∧ Hid (RowBd L wr blk n e) ∧ Hid (Turn blk w0 wr)) (fun vi _ => b + 1 - (intOf vi).toNat)
  case atStart =>
    exact ⟨a + 1, d, by go_num, by omega, by omega, Moves.refl _ _ _, Sd.one _ _ _ _ (by omega), HR, HT⟩
  case round =>
    clear HR HT
    obtain ⟨i, e, rfl, hai, hib, HM, HS, HR, HT⟩ := hrel
    by_cases hlt : i < b
    · have hmin : min i b = i := by omega
      rw [hmin] at HM HS
      have HI : Hid (Ins f a i i e) := ins_start HS.out HM.out (fun p q p1 p2 p3 => HU.out p q p1 p2 (by omega))
      have HM2 : Hid (Moves a (i + 1) d e) := HM.out.mono (Nat.le_refl _) (by omega)
      clear HM HS hmin
      go_wp2
      go_loopw [9] (fun vj wr => ∃ (j : Nat) (e : Nat → Nat), vj = .int .i64 j ∧ a ≤ j ∧ j ≤ i ∧ Hid (Ins f a i j e) ∧ Hid (Moves a (i + 1) d e) ∧ Hid (RowBd L wr blk n e) ∧ Hid (Turn blk w0 wr)) (fun vj _ => (intOf vj).toNat)
      case atStart => exact ⟨i, e, rfl, by omega, by omega, HI, HM2, HR, HT⟩
      case round =>
        clear HR HT HI HM2
        obtain ⟨j, e, rfl, haj, hji, HI, HM, HR, HT⟩ := hrel
        have HDe : Hid (∀ k, k < n → e k < n) := HM.out.lt (by omega) HD.out
        by_cases hja : a < j
        · obtain ⟨j, rfl⟩ : ∃ q, j = q + 1 := ⟨j - 1, by omega⟩
          have zj : ((j + 1 : Nat) : Int) = (j : Int) + 1 := by omega
          have hjd : decide ((j : Int) + 1 > (a : Int)) = true := decide_eq_true (by omega)
          have hja2 : (a : Int) < (j : Int) + 1 := by omega
          have c1 := rowB_all HR.out (k := j + 1) (by omega)
          have c2 := rowB_all HR.out (k := j) (by omega)
          have hc := HC.out.all HT.out (e (j + 1)) (e j) (HDe.out _ (by omega)) (HDe.out _ (by omega))
          have b1 := HDe.out (j + 1) (by omega)
          have b2 := HDe.out j (by omega)
          obtain ⟨x, hx⟩ : ∃ x, x = e (j + 1) := ⟨_, rfl⟩
          obtain ⟨y, hy⟩ : ∃ y, y = e j := ⟨_, rfl⟩
          have q2 : (0 : Int) ≤ (j : Int) + 1 := by omega
          have q3 : (j : Int) + 1 < (n : Int) := by omega
          have q4 : IntKind.i64.wrap ((j : Int) + 1) = (j : Int) + 1 := by rw [IntKind.wrap_i64]; omega
          have q5 : IntKind.i64.wrap ((j : Int) + 1 - 1) = (j : Int) := by rw [IntKind.wrap_i64]; omega
          have q6 : (j : Int) < (n : Int) := by omega
          have q7 : (0 : Int) ≤ (j : Int) := by omega
          have q8 : ((j : Int)).toNat = j := by omega
          have HX := Lib.hid hx
          have HY := Lib.hid hy
          rw [← hx] at c1
          rw [← hy] at c2
          rw [← hx, ← hy] at hc
          rw [← hx] at b1
          rw [← hy] at b2
          have hv := Lib.hid (HC.out.lt x y b1 b2)
          generalize cf (L x) (L y) = c at hc hv
          clear hx hy b1 b2
          generalize L x = X at c1 c2 hc
          generalize L y = Y at c1 c2 hc
          obtain ⟨X1, X2, X3, X4, X5⟩ := X
          obtain ⟨Y1, Y2, Y3, Y4, Y5⟩ := Y
          dsimp only [vBd] at hc
          have c11 : ∀ p : GrewTo wr, p.to.cell? ⟨blk, (j + 1) * 5, none⟩ = some (.int .i64 X1) := fun p => (c1 p).1
          have c12 : ∀ p : GrewTo wr, p.to.cell? ⟨blk, (j + 1) * 5 + 1, none⟩ = some (.int .i64 X2) := fun p => (c1 p).2.1
          have c13 : ∀ p : GrewTo wr, p.to.cell? ⟨blk, (j + 1) * 5 + 2, none⟩ = some (.int .i64 X3) := fun p => (c1 p).2.2.1
          have c14 : ∀ p : GrewTo wr, p.to.cell? ⟨blk, (j + 1) * 5 + 3, none⟩ = some (.int .i64 X4) := fun p => (c1 p).2.2.2.1
          have c15 : ∀ p : GrewTo wr, p.to.cell? ⟨blk, (j + 1) * 5 + 4, none⟩ = some (.int .i64 X5) := fun p => (c1 p).2.2.2.2
          have c21 : ∀ p : GrewTo wr, p.to.cell? ⟨blk, j * 5, none⟩ = some (.int .i64 Y1) := fun p => (c2 p).1
          have c22 : ∀ p : GrewTo wr, p.to.cell? ⟨blk, j * 5 + 1, none⟩ = some (.int .i64 Y2) := fun p => (c2 p).2.1
          have c23 : ∀ p : GrewTo wr, p.to.cell? ⟨blk, j * 5 + 2, none⟩ = some (.int .i64 Y3) := fun p => (c2 p).2.2.1
          have c24 : ∀ p : GrewTo wr, p.to.cell? ⟨blk, j * 5 + 3, none⟩ = some (.int .i64 Y4) := fun p => (c2 p).2.2.2.1
          have c25 : ∀ p : GrewTo wr, p.to.cell? ⟨blk, j * 5 + 4, none⟩ = some (.int .i64 Y5) := fun p => (c2 p).2.2.2.2
          clear c1 c2
          by_cases hl : c < 0
          · have hcd : decide (c < 0) = true := decide_eq_true hl
            rw [zj]
            go_wp2_with fail
            refine wp_region_grew (by kernel_rfl) (by kernel_rfl) ?_
            repeat (go_big_quiet_step (exact calls_grew (hc _)))
            refine wpQuiet_nil ?_
            intro w2 hw'
            have hg := grew_of hw'
            clear hw'
            have HR2 : Hid (RowBd L w2 blk n e) := HR.out.keep hg
            have HT2 : Hid (Turn blk w0 w2) := HT.out.grew hg
            clear c11 c12 c13 c14 c15 c21 c22 c23 c24 c25 hc HR HT hg
            have HF : Hid (f (e j) < f (e (j + 1))) := by rw [← HX.out, ← HY.out]; exact hv.out.1 hl
            clear hv hl hcd
            have c1 := rowB_cells HR2.out (k := j + 1) (by omega)
            have c2 := rowB_cells HR2.out (k := j) (by omega)
            have f1 := rowB_froz HR2.out (k := j + 1) (by omega)
            have f2 := rowB_froz HR2.out (k := j) (by omega)
            have c3 := rowB_two HR2.out (j + 1) (j) (by omega) (by omega) (L (e (j)))
            have HSW : Hid (RowBd L (put5 (put5 w2 blk ((j + 1) * 5) (L (e (j)))) blk ((j) * 5) (L (e (j + 1)))).drew blk n (sw e (j + 1) (j))) := rowB_swap HR2.out (j + 1) (j) (by omega) (by omega) (by omega)
            have HTW : Hid (Turn blk w0 (put5 (put5 w2 blk ((j + 1) * 5) (L (e (j)))) blk ((j) * 5) (L (e (j + 1)))).drew) := turn_put25 HT2.out _ _ _ _
            clear HR2 HT2
            generalize L (e (j + 1)) = x at c1 HSW HTW
            generalize L (e (j)) = y at c2 c3 HSW HTW
            obtain ⟨x1, x2, x3, x4, x5⟩ := x
            obtain ⟨y1, y2, y3, y4, y5⟩ := y
            simp only [put5] at c3 HSW HTW
            obtain ⟨c11, c12, c13, c14, c15⟩ := c1
            obtain ⟨c21, c22, c23, c24, c25⟩ := c2
            obtain ⟨c31, c32, c33, c34, c35⟩ := c3
            obtain ⟨f11, f12, f13, f14, f15⟩ := f1
            obtain ⟨f21, f22, f23, f24, f25⟩ := f2
            dsimp only at c11 c12 c13 c14 c15 c21 c22 c23 c24 c25 c31 c32 c33 c34 c35
            go_wp2_with fail
            go_big_region
            clear c11 c12 c13 c14 c15 c21 c22 c23 c24 c25 c31 c32 c33 c34 c35 f11 f12 f13 f14 f15 f21 f22 f23 f24 f25
            generalize (World.drew (World.setCell (World.setCell (World.setCell (World.setCell (World.setCell (World.setCell (World.setCell (World.setCell (World.setCell (World.setCell w2 ⟨blk, (j + 1) * 5, none⟩ (.int .i64 y1)) ⟨blk, (j + 1) * 5 + 1, none⟩ (.int .i64 y2)) ⟨blk, (j + 1) * 5 + 2, none⟩ (.int .i64 y3)) ⟨blk, (j + 1) * 5 + 3, none⟩ (.int .i64 y4)) ⟨blk, (j + 1) * 5 + 4, none⟩ (.int .i64 y5)) ⟨blk, j * 5, none⟩ (.int .i64 x1)) ⟨blk, j * 5 + 1, none⟩ (.int .i64 x2)) ⟨blk, j * 5 + 2, none⟩ (.int .i64 x3)) ⟨blk, j * 5 + 3, none⟩ (.int .i64 x4)) ⟨blk, j * 5 + 4, none⟩ (.int .i64 x5))) = w3 at HSW HTW ⊢
            go_wp2
            go_roundw
            case rel => exact ⟨j, _, rfl, by omega, by omega, ins_down HI.out (by omega) (by omega) HF.out, HM.out.trans (sw_moves _ _ _ (by omega) (by omega)), HSW, HTW⟩
            case measure => simp only [intOf]; omega
          · have hcd : decide (c < 0) = false := decide_eq_false hl
            rw [zj]
            go_wp2_with fail
            refine wp_region_grew (by kernel_rfl) (by kernel_rfl) ?_
            repeat (go_big_quiet_step (exact calls_grew (hc _)))
            refine wpQuiet_nil ?_
            intro w2 hw'
            have hg := grew_of hw'
            clear hw'
            have HR2 : Hid (RowBd L w2 blk n e) := HR.out.keep hg
            have HT2 : Hid (Turn blk w0 w2) := HT.out.grew hg
            clear c11 c12 c13 c14 c15 c21 c22 c23 c24 c25 hc HR HT hg
            have HF : Hid (¬ f (e j) < f (e (j + 1))) := by show ¬ _; rw [← HX.out, ← HY.out]; intro h; have := hv.out.2 h; omega
            clear hv hl hcd
            have HP : Hid (Sd f a (i + 1) e) := ins_stop HI.out (by omega) (by omega) (Or.inr HF.out)
            have hmin : min (i + 1) b = i + 1 := by omega
            have HP2 := Lib.hid hmin
            clear hmin
            go_wp2
            go_roundw
            case rel => exact ⟨i + 1, e, by go_num, by omega, by omega, by rw [HP2.out]; exact HM, by rw [HP2.out]; exact HP, HR2, HT2⟩
            case measure => simp [intOf]; omega
        · obtain rfl : j = a := by omega
          have hjd : decide ((j : Int) > (j : Int)) = false := decide_eq_false (by omega)
          have HP : Hid (Sd f j (i + 1) e) := ins_stop HI.out (by omega) (by omega) (Or.inl rfl)
          have hmin : min (i + 1) b = i + 1 := by omega
          have HP2 := Lib.hid hmin
          clear hmin
          go_wp2_with fail
          refine wp_region_grew (by kernel_rfl) (by kernel_rfl) ?_
          repeat (go_big_quiet_step (fail))
          refine wpQuiet_nil ?_
          intro w2 hw'
          have hg := grew_of hw'
          clear hw'
          have HR2 : Hid (RowBd L w2 blk n e) := HR.out.keep hg
          have HT2 : Hid (Turn blk w0 w2) := HT.out.grew hg
          clear HR HT hg
          go_wp2
          go_roundw
          case rel => exact ⟨i + 1, e, by go_num, by omega, by omega, by rw [HP2.out]; exact HM, by rw [HP2.out]; exact HP, HR2, HT2⟩
          case measure => simp [intOf]; omega
    · have hmin : min i b = b := by omega
      have HP2 := Lib.hid hmin
      clear hmin
      go_wp2
      go_end0
      exact ⟨rfl, e, by rw [← HP2.out]; exact HM.out, by rw [← HP2.out]; exact HS.out, HR.out, HT.out⟩
end Go.Proofs.YtahioajpmlochaaGreat.NumK
namespace Go.Proofs.YtahioajpmlochaaGreat.NumK
open Go.RowKit

theorem symMergeB_all {L : Nat → B5} (N : Nat) (g : Nat) (cb : Array Value) (cf : B5 → B5 → Int) (f : Nat → Int) (blk n cap : Nat) (w0 : World) (eg : ∀ args w, (callFunc g args).run Tryz.prog w = .ok (.enter g args) w)
    (hC : CmpB L g cb cf f blk n w0) (hn : n ≤ 1000000) : ∀ (a m b : Nat) (d : Nat → Nat) (w : World), b - a < N → Turn blk w0 w → RowBd L w blk n d → (∀ k, k < n → d k < n) → Sd f a m d → Sd f m b d → Xs a m b d → a < m → m < b → b ≤ n →
      Calls Tryz.prog 107 #[.slice (some ⟨blk, 0, none⟩) n cap, .int .i64 a, .int .i64 m, .int .i64 b, .func (.func g) #[] cb] w (SortPostB L f blk n a b d w0) := by
  induction N with
  | zero => intro a m b d w h; omega
  | succ N ih =>
    intro a m b d w h hT hR hd h1 h2 hx ham hmb hb
    by_cases c1 : m = a + 1
    · subst c1
      have := symAB_any g cb cf f blk n cap a b d w0 w eg hC hT hR hd h2 hx hmb hb hn
      rwa [show (a : Int) + 1 = ((a + 1 : Nat) : Int) from by omega] at this
    · by_cases c2 : b = m + 1
      · subst c2
        have := symBB_any g cb cf f blk n cap a m d w0 w eg hC hT hR hd h1 hx (by omega) hb hn
        rwa [show (m : Int) + 1 = ((m + 1 : Nat) : Int) from by omega] at this
      · exact symCB_any N g cb cf f blk n cap w0 eg hC hn ih a m b d w (by omega) hT hR hd h1 h2 hx (by omega) (by omega) hb

set_option maxRecDepth 100000 in
set_option maxHeartbeats 4000000 in
theorem stableB_any {L : Nat → B5} (g : Nat) (cb : Array Value) (cf : B5 → B5 → Int) (f : Nat → Int) (blk n cap : Nat) (w0 w : World) (eg : ∀ args w, (callFunc g args).run Tryz.prog w = .ok (.enter g args) w)
    (hC : CmpB L g cb cf f blk n w0) (hT : Turn blk w0 w) (hR : RowBd L w blk n (fun k => k)) (hn : n ≤ 1000000) :
    Calls Tryz.prog 95 #[.slice (some ⟨blk, 0, none⟩) n cap, .int .i64 n, .func (.func g) #[] cb] w (SortPostB L f blk n 0 n (fun k => k) w0) := by
  have SM := Lib.hid (symMergeB_all (n + 1) g cb cf f blk n cap w0 eg hC hn)
  have IN := Lib.hid (fun a b d w hT hR hd hu hab hb => insertionB_any g cb cf f blk n cap a b d w0 w eg hC hT hR hd hu hab hb hn)
  have HR := Lib.hid hR
  have HT := Lib.hid hT
  clear hC hR hT
  go_enter Tryz.func95, Tryz.ntmps95
  go_wp2
  go_loopw [7, 8] (fun va vb wr => ∃ (a : Nat) (e : Nat → Nat), va = .int .i64 a ∧ vb = .int .i64 ((a : Int) + 20) ∧ a ≤ n ∧ Hid (Begun f 20 a e) ∧ Hid (Moves 0 a (fun k => k) e) ∧ Hid (RowBd L wr blk n e) ∧ Hid (Turn blk w0 wr)) (fun va _ _ => n - (intOf va).toNat)
  case atStart =>
    refine ⟨0, fun k => k, rfl, rfl, Nat.zero_le _, ⟨Nat.dvd_zero _, fun c _ h => by omega, fun c _ => br_id c, fun k _ => rfl⟩, Moves.refl _ _ _, HR, HT⟩
  case round =>
    clear HR HT
    obtain ⟨a, e, rfl, rfl, han, HB, HM, HR, HT⟩ := hrel
    have hd : Hid (∀ k, k < n → e k < n) := HM.out.lt han (fun k hk => hk)
    by_cases hlt : a + 20 ≤ n
    · have C := IN.out a (a + 20) e wr HT.out HR.out hd.out (fun p q h1 h2 h3 => by rw [HB.out.2.2.2 p h1, HB.out.2.2.2 q (by omega)]; exact h2) (by omega) hlt
      rw [show ((a + 20 : Nat) : Int) = (a : Int) + 20 from by omega] at C
      have C := Lib.hid C
      have k1 : (a : Int) + 20 ≤ (n : Int) := by omega
      go_wp2_with (go_at_call 106; ((with_reducible refine C.out.mono ?_); rintro r w2 hP; have HP := Lib.hid hP; clear hP; obtain ⟨rfl, hP2⟩ := HP.out; have HP2 := Lib.hid hP2; clear hP2 HP))
      go_roundw
      case rel =>
        obtain ⟨e2, M2, S2, R2, T2⟩ := HP2.out
        exact ⟨a + 20, e2, by go_num, by go_num, by omega, begun_next HB.out (by omega) M2 S2, (HM.out.mono (Nat.le_refl _) (by omega)).trans (M2.mono (by omega) (Nat.le_refl _)), R2, T2⟩
      case measure => simp only [intOf]; omega
    · have C := IN.out a n e wr HT.out HR.out hd.out (fun p q h1 h2 h3 => by rw [HB.out.2.2.2 p h1, HB.out.2.2.2 q (by omega)]; exact h2) (by omega) (Nat.le_refl _)
      have C := Lib.hid C
      have k1 : ¬ (a : Int) + 20 ≤ (n : Int) := by omega
      go_wp2_with (go_at_call 106; ((with_reducible refine C.out.mono ?_); rintro r w2 hP; have HP := Lib.hid hP; clear hP; obtain ⟨rfl, hP2⟩ := HP.out; have HP2 := Lib.hid hP2; clear hP2 HP))
      have HQ : Hid (∃ e, Blk f 20 n e ∧ Moves 0 n (fun k => k) e ∧ RowBd L w2 blk n e ∧ Turn blk w0 w2) := by
        obtain ⟨e2, M2, S2, R2, T2⟩ := HP2.out
        exact ⟨e2, begun_end HB.out (by omega) han M2 S2, (HM.out.mono (Nat.le_refl _) (by omega)).trans (M2.mono (by omega) (Nat.le_refl _)), R2, T2⟩
      clear HP2 C HB HM HR HT hd
      go_loopw [6, 7, 8, 9] (fun vs va vb vm wr => ∃ (sz : Nat) (e : Nat → Nat), vs = .int .i64 sz ∧ 0 < sz ∧ sz ≤ 2000000 ∧ Hid (Blk f sz n e) ∧ Hid (Moves 0 n (fun k => k) e) ∧ Hid (RowBd L wr blk n e) ∧ Hid (Turn blk w0 wr)) (fun vs _ _ _ _ => 2000000 - (intOf vs).toNat)
      case atStart =>
        obtain ⟨e, h1, h2, h3, h4⟩ := HQ.out
        exact ⟨20, e, rfl, by omega, by omega, h1, h2, h3, h4⟩
      case round =>
        clear HQ
        obtain ⟨sz, e, rfl, hz0, hz1, HB, HM, HR, HT⟩ := hrel
        by_cases hlt2 : sz < n
        · have HH : Hid (Half f sz n 0 e) := half_start HB.out hz0
          clear HB
          go_wp2
          go_loopw [7, 8] (fun va vb wr => ∃ (a : Nat) (e : Nat → Nat), va = .int .i64 a ∧ vb = .int .i64 ((a : Int) + 2 * (sz : Int)) ∧ a ≤ n ∧ Hid (Half f sz n a e) ∧ Hid (Moves 0 n (fun k => k) e) ∧ Hid (RowBd L wr blk n e) ∧ Hid (Turn blk w0 wr)) (fun va _ _ => n - (intOf va).toNat)
          case atStart => exact ⟨0, e, rfl, by congr 1; omega, Nat.zero_le _, HH, HM, HR, HT⟩
          case round =>
            clear HR HT HM HH
            obtain ⟨a2, e, rfl, rfl, han2, HB, HM, HR, HT⟩ := hrel
            have hd : Hid (∀ k, k < n → e k < n) := HM.out.lt (Nat.le_refl _) (fun k hk => hk)
            have c1 : ((a2 + sz : Nat) : Int) = (a2 : Int) + (sz : Int) := by omega
            have c2 : ((a2 + 2 * sz : Nat) : Int) = (a2 : Int) + 2 * (sz : Int) := by omega
            by_cases hlt3 : a2 + 2 * sz ≤ n
            · obtain ⟨p1, p2, p3⟩ := half_two HB.out hz0 hlt3
              have C := SM.out a2 (a2 + sz) (a2 + 2 * sz) e wr (by omega) HT.out HR.out hd.out p1 p2 p3 (by omega) (by omega) hlt3
              rw [c1, c2] at C
              have C := Lib.hid C
              have k1 : (a2 : Int) + 2 * (sz : Int) ≤ (n : Int) := by omega
              clear p1 p2 p3 c1 c2
              go_wp2_with (go_at_call 107; ((with_reducible refine C.out.mono ?_); rintro r w2 hP; have HP := Lib.hid hP; clear hP; obtain ⟨rfl, hP2⟩ := HP.out; have HP2 := Lib.hid hP2; clear hP2 HP))
              go_roundw
              case rel =>
                obtain ⟨e2, M2, S2, R2, T2⟩ := HP2.out
                exact ⟨a2 + 2 * sz, e2, by (congr 1 <;> omega), by (congr 1 <;> omega), by omega, half_next HB.out hz0 M2 S2, HM.out.trans (M2.mono (by omega) (by omega)), R2, T2⟩
              case measure => simp only [intOf]; omega
            · have k1 : ¬ (a2 : Int) + 2 * (sz : Int) ≤ (n : Int) := by omega
              have ez : (sz : Int) * 2 = ((2 * sz : Nat) : Int) := by omega
              have EZ := Lib.hid ez
              clear ez
              by_cases hlt4 : a2 + sz < n
              · obtain ⟨p1, p2, p3⟩ := half_last HB.out (by omega) (by omega)
                have C := SM.out a2 (a2 + sz) n e wr (by omega) HT.out HR.out hd.out p1 p2 p3 (by omega) (by omega) (Nat.le_refl _)
                rw [c1] at C
                have C := Lib.hid C
                have k2 : (a2 : Int) + (sz : Int) < (n : Int) := by omega
                clear p1 p2 p3 c1 c2
                go_wp2_with (go_at_call 107; ((with_reducible refine C.out.mono ?_); rintro r w2 hP; have HP := Lib.hid hP; clear hP; obtain ⟨rfl, hP2⟩ := HP.out; have HP2 := Lib.hid hP2; clear hP2 HP))
                go_roundw
                case rel =>
                  obtain ⟨e2, M2, S2, R2, T2⟩ := HP2.out
                  exact ⟨2 * sz, e2, by rw [EZ.out], by omega, by omega, half_end HB.out han2 (by omega) M2 S2, HM.out.trans (M2.mono (by omega) (Nat.le_refl _)), R2, T2⟩
                case measure => simp only [intOf]; omega
              · have k2 : ¬ (a2 : Int) + (sz : Int) < (n : Int) := by omega
                clear c1 c2
                go_wp2
                go_roundw
                case rel => exact ⟨2 * sz, e, by rw [EZ.out], by omega, by omega, half_stay HB.out han2 (by omega), HM, HR, HT⟩
                case measure => simp only [intOf]; omega
        · go_wp2
          go_end0
          refine ⟨rfl, e, HM.out, ?_, HR.out, HT.out⟩
          have := (HB.out 0 (Nat.dvd_zero _)).1
          rwa [show min (0 + sz) n = n from by omega] at this

theorem sortStableB_any {L : Nat → B5} (g : Nat) (cb : Array Value) (cf : B5 → B5 → Int) (f : Nat → Int) (blk n cap : Nat) (w0 w : World) (eg : ∀ args w, (callFunc g args).run Tryz.prog w = .ok (.enter g args) w)
    (hC : CmpB L g cb cf f blk n w0) (hT : Turn blk w0 w) (hR : RowBd L w blk n (fun k => k)) (hn : n ≤ 1000000) :
    Calls Tryz.prog 74 #[.slice (some ⟨blk, 0, none⟩) n cap, .func (.func g) #[] cb] w (SortPostB L f blk n 0 n (fun k => k) w0) := by
  have C := Lib.hid (stableB_any g cb cf f blk n cap w0 w eg hC hT hR hn)
  clear hC hT hR
  go_enter Tryz.func74, Tryz.ntmps74
  go_wp2_with (go_at_call 95; ((with_reducible refine C.out.mono ?_); rintro r w2 hP; have HP := Lib.hid hP; clear hP; obtain ⟨rfl, hP2⟩ := HP.out; have HP2 := Lib.hid hP2; clear hP2 HP))
  go_end0
  exact ⟨rfl, HP2.out⟩
end Go.Proofs.YtahioajpmlochaaGreat.NumK
namespace Go.Proofs.YtahioajpmlochaaGreat.NumK
open Go.RowKit Go.Shelf
set_option linter.unusedVariables false

/-! ### a sort of nothing -/
theorem insertionB_nil (A : Option Addr) (c : Nat) (fv : Value) (w : World) : Calls Tryz.prog 106 #[.slice A 0 c, .int .i64 0, .int .i64 0, fv] w fun e w' => e = .returned (.tuple #[]) ∧ w = w' := by
  go_enter Tryz.func106, Tryz.ntmps106
  go_wp2
  go_loop [8] (fun v => v = .int .i64 1) (fun _ => 0)
  case atStart => rfl
  case round =>
    obtain rfl := hrel
    go_wp2
    go_end0
    exact ⟨rfl, rfl⟩
theorem stableB_nil (A : Option Addr) (c : Nat) (fv : Value) (w : World) : Calls Tryz.prog 95 #[.slice A 0 c, .int .i64 0, fv] w fun e w' => e = .returned (.tuple #[]) ∧ w = w' := by
  have C := fun w => insertionB_nil A c fv w
  go_enter Tryz.func95, Tryz.ntmps95
  go_wp2
  go_loop [7, 8] (fun v7 v8 => v7 = .int .i64 0 ∧ v8 = .int .i64 20) (fun _ _ => 0)
  case atStart => exact ⟨rfl, rfl⟩
  case round =>
    obtain ⟨rfl, rfl⟩ := hrel
    go_wp2_with (go_at_call 106; ((with_reducible refine (C _).mono ?_); rintro e w1 ⟨rfl, rfl⟩))
    go_loop [6, 7, 8, 9] (fun v6 v7 v8 v9 => v6 = .int .i64 20) (fun _ _ _ _ => 0)
    case atStart => rfl
    case round =>
      obtain rfl := hrel
      go_wp2
      go_end0
      exact ⟨rfl, rfl⟩
theorem sortStableB_nil (A : Option Addr) (c : Nat) (fv : Value) (w : World) : Calls Tryz.prog 74 #[.slice A 0 c, fv] w fun e w' => e = .returned (.tuple #[]) ∧ w = w' := by
  have C := fun w => stableB_nil A c fv w
  go_enter Tryz.func74, Tryz.ntmps74
  go_wp2_with (go_at_call 95; ((with_reducible refine (C _).mono ?_); rintro e w1 ⟨rfl, rfl⟩))
  go_end0
  exact ⟨rfl, rfl⟩

/-! ### Order -/
/-- A row of the call's own, written over as it may be. -/
def OwnRw {α : Type} (E : En α) (w : World) (base : Nat) (v : Value) (l : List α) : Prop :=
  ∃ A c, v = .slice A l.length c ∧ RowE E w A l.length l ∧ (A = none → c = 0) ∧ l.length ≤ c ∧ (0 < l.length → ∃ g, A = some ⟨g, 0, none⟩ ∧ base ≤ g ∧ Slab w g (l.length * E.size))
/-- The order, and where each bid came from. -/
def OrderPl (long : Bool) (l : List B5) (w : World) (e : Ending) (w' : World) : Prop := ∃ v, e = .returned v ∧ OwnRw enB5 w' w.heap.size v (ordB long l) ∧ Grew w w' ∧ ∃ s t, Pl (fun k => keyB long (l.getD k bi0)) l.length s t ∧ (List.range l.length).map (fun k => l.getD (s k) bi0) = ordB long l
def OrderPost (l : List B5) (w : World) (e : Ending) (w' : World) : Prop := ∃ v, e = .returned v ∧ OwnRw enB5 w' w.heap.size v l ∧ Grew w w'
theorem rowS_slab {L : Nat → B5} {w : World} {blk n : Nat} {d : Nat → Nat} (h : RowBd L w blk n d) : Slab w blk (n * 5) := by
  refine ⟨h.1, fun k hk => ?_⟩
  have h1 : k / 5 < n := by omega
  have h2 := h.2 (k / 5) h1 (k % 5) (Nat.mod_lt _ (by decide))
  have e : k / 5 * enB5.size + k % 5 = k := by show k / 5 * 5 + k % 5 = k; omega
  rw [e] at h2
  refine ⟨?_, h2.2⟩
  rw [h2.1]
  exact ⟨_, List.getElem?_eq_getElem (by rw [enB5.len]; exact Nat.mod_lt _ (by decide))⟩

set_option maxRecDepth 100000 in
set_option maxHeartbeats 2000000 in
theorem aorder_pl (long : Bool) (A : Option Addr) (n c : Nat) (l : List B5) (w : World) (h : RowE enB5 w A n l) (k : A = none → c = 0) (hn : n ≤ 100000) (hf : ∀ b ∈ l, in64 b.2.2.1) :
    Calls Tryz.prog 42 #[.bool long, .slice A n c] w (OrderPl long l w) := by
  have HI := Lib.hid h
  have HK := Lib.hid k
  have HF := Lib.hid hf
  have HL := Lib.hid h.len
  have CC := fun (w : World) (B : Nat) (hB : OwnC w B [.slice A n c]) (h : RowE enB5 w A n l) => concatBd_any B A n c l w hB h k hn
  clear h k hf
  have HN : Hid (((w.alloc (.cells #[.bool long] 4))).cell? ⟨w.heap.size, 0, none⟩ = some (.bool long)) := (OwnC.new w [.bool long] _ _ rfl).at 0 _ rfl
  have HG : Hid (Grew w (w.alloc (.cells #[.bool long] 4))) := grew_alloc _ _ _
  have HZ : Hid (w.heap.size < (w.alloc (.cells #[.bool long] 4)).heap.size) := by show _ < _; simp
  go_enter Tryz.func42, Tryz.ntmps42
  go_upto_region 1 with (fail)
  generalize w.alloc (.cells #[.bool long] 4) = w0 at *
  have HC := CC (w0.alloc (.cells #[.slice A n c] 90)) w0.heap.size (OwnC.new w0 [.slice A n c] _ _ rfl) (HI.out.keep (grew_trans HG.out (grew_alloc _ _ _)))
  generalize hN0 : w.heap.size = N at *
  go_wp2_with (first
    | (go_at_call 73; ((with_reducible refine HC.mono ?_); rintro e w1 ⟨v, rfl, ho, hg⟩; have HO := Lib.hid ho; have HG1 := Lib.hid hg; clear ho hg; refine Hid.out ?_)))
  have HG2 : Hid (Grew w w1) := grew_trans HG.out (grew_trans (grew_alloc _ _ _) HG1.out)
  have HN1 : Hid (w1.cell? ⟨N, 0, none⟩ = some (.bool long)) := (grew_cell (grew_trans (grew_alloc _ _ _) HG1.out) (p := ⟨N, 0, none⟩) HZ.out).trans HN.out
  have HZ1 : Hid (N < w1.heap.size) := by have := HG1.out.size; have h2 := HZ.out; show _ < _; simp at this; omega
  have HZ2 : Hid (N < (w0.alloc (.cells #[.slice A n c] 90)).heap.size) := by have h2 := HZ.out; show _ < _; simp; omega
  generalize (w0.alloc (.cells #[.slice A n c] 90)).heap.size = M at *
  clear HN HZ CC HG HG1 HI
  obtain ⟨A2, c2, rfl, hr, hk, hl1, hl2⟩ := HO.out.form
  have HR := Lib.hid hr
  have HK2 := Lib.hid hk
  clear hr hk
  by_cases hz : l.length = 0
  · obtain rfl := List.eq_nil_of_length_eq_zero hz
    have CS := fun w => sortStableB_nil A2 c2 (.func (.func 75) #[] #[.pointer (some ⟨N, 0, none⟩)]) w
    clear hz HO
    refine Lib.hid ?_
    go_wp2_with (go_at_call 74; ((with_reducible refine (CS _).mono ?_); rintro e w1 ⟨rfl, rfl⟩))
    go_ret
    obtain ⟨t, ht⟩ := pl_of (Moves.refl 0 0 (fun k => k)) (Sd.one (fun k => keyB long (([] : List B5).getD k bi0)) 0 0 (fun k => k) (by omega))
    exact ⟨_, rfl, ⟨A2, c2, rfl, RowE.nil _ _ _, HK2.out, Nat.zero_le _, fun h => absurd h (Nat.lt_irrefl _)⟩, HG2.out, _, t, ht, rfl⟩
  · obtain ⟨g, rfl, hg, hgs, hfr, hcs⟩ := HO.out.at0 (by omega)
    have HR0 := RowS.of (d := bi0) HR.out hgs hfr
    have hne : N ≠ g := by have := HZ2.out; omega
    have hC : CmpB (fun k => l.getD k bi0) 75 #[.pointer (some ⟨N, 0, none⟩)] (cmpB long) (fun k => keyB long (l.getD k bi0)) g l.length w1 :=
      ⟨fun x y hx hy => by
        rw [cmpB_lt, key_lt (HF.out _ (getD_mem l bi0 x hx)) (HF.out _ (getD_mem l bi0 y hy)), decide_eq_true_eq],
       fun w2 hT x y hx hy => bcmp_any long N _ _ w2 ((hT.cell (p := ⟨N, 0, none⟩) HZ1.out hne).trans HN1.out) (Nat.lt_of_lt_of_le HZ1.out hT.size)⟩
    have CS := sortStableB_any 75 #[.pointer (some ⟨N, 0, none⟩)] _ _ g l.length c2 w1 w1 (enters_of Tryz.func75 (by kernel_rfl) rfl) hC (Turn.refl _ _) HR0 (by rw [HL.out]; omega)
    have CS := Lib.hid CS
    have HGG : Hid (w.heap.size ≤ g) := by rw [hN0]; have := HZ2.out; show _ ≤ _; omega
    have HLE := Lib.hid hl1
    clear hC HR0 HO hcs hfr hgs hg hne hl1 hl2
    refine Lib.hid ?_
    go_wp2_with (go_at_call 74; ((with_reducible refine CS.out.mono ?_); rintro r w2 hP; have HP := Lib.hid hP; clear hP; obtain ⟨rfl, hP2⟩ := HP.out; have HP2 := Lib.hid hP2; clear hP2 HP))
    go_ret
    obtain ⟨d, M, S, R, T⟩ := HP2.out
    obtain ⟨t, ht⟩ := pl_of M S
    have hrow := R.row
    have hlen : (ordB long l).length = l.length := ordF_len _ _
    rw [pl_ord ht] at hrow
    have HO2 : OwnRw enB5 w2 w.heap.size (.slice (some ⟨g, 0, none⟩) l.length c2) (ordB long l) := by
      refine ⟨some ⟨g, 0, none⟩, c2, by rw [hlen], ?_, (fun h => by cases h), ?_, fun h => ⟨g, rfl, HGG.out, ?_⟩⟩
      · rw [hlen]; exact hrow
      · rw [hlen]; exact HLE.out
      · rw [hlen]; exact rowS_slab R
    refine ⟨_, rfl, ?_, ?_, d, t, ht, pl_ord ht⟩
    · first | exact HO2 | (rw [← hN0]; exact HO2)
    · exact Turn.new HG2.out T HGG.out
theorem aorder_any (long : Bool) (A : Option Addr) (n c : Nat) (l : List B5) (w : World) (h : RowE enB5 w A n l) (k : A = none → c = 0) (hn : n ≤ 100000) (hf : ∀ b ∈ l, in64 b.2.2.1) :
    Calls Tryz.prog 42 #[.bool long, .slice A n c] w (OrderPost (ordB long l) w) :=
  (aorder_pl long A n c l w h k hn hf).mono fun _ _ ⟨v, h1, h2, h3, _⟩ => ⟨v, h1, h2, h3⟩
end Go.Proofs.YtahioajpmlochaaGreat.NumK
namespace Go.Proofs.YtahioajpmlochaaGreat.NumK
open Go.RowKit
set_option linter.unusedVariables false

theorem fillF_cons (left : Int) (b : Bi) (o : List Bi) : fillF left (b :: o) = if 0 < left then (b.2.2.1, min left b.2.2.2.1, b.2.2.2.2) :: fillF (left - min left b.2.2.2.1) o else [] := rfl
theorem restF_cons (left : Int) (b : Bi) (o : List Bi) : restF left (b :: o) = if 0 < left then restF (left - min left b.2.2.2.1) o else left := rfl
/-- Behind j bids. -/
def FillAt (o : List Bi) (R : Int) (j : Nat) (acc : List Fi) (left : Int) : Prop :=
  acc ++ fillF left (o.drop j) = fillF R o ∧ restF left (o.drop j) = restF R o ∧ 0 ≤ left ∧ left ≤ R ∧ acc.length ≤ j
theorem FillAt.start (o : List Bi) {R : Int} (h : 0 ≤ R) : FillAt o R 0 [] R := ⟨rfl, rfl, h, Int.le_refl _, Nat.le_refl _⟩
theorem drop_at (o : List Bi) (j : Nat) (h : j < o.length) : o.drop j = o.getD j bi0 :: o.drop (j + 1) := by
  rw [List.drop_eq_getElem_cons h, getD_at o bi0 j h]
theorem FillAt.take {o : List Bi} {R : Int} {j : Nat} {acc : List Fi} {left : Int} (h : FillAt o R j acc left) (hj : j < o.length) (hq : 1 ≤ (o.getD j bi0).2.2.2.1) (hl : 0 < left) :
    FillAt o R (j + 1) (acc ++ [((o.getD j bi0).2.2.1, min left (o.getD j bi0).2.2.2.1, (o.getD j bi0).2.2.2.2)]) (left - min left (o.getD j bi0).2.2.2.1) := by
  obtain ⟨h1, h2, h3, h4, h5⟩ := h
  rw [drop_at o j hj] at h1 h2
  rw [fillF_cons, if_pos hl] at h1
  rw [restF_cons, if_pos hl] at h2
  refine ⟨?_, h2, by omega, by omega, by simp; omega⟩
  rw [List.append_assoc]; exact h1
theorem FillAt.done {o : List Bi} {R : Int} {j : Nat} {acc : List Fi} {left : Int} (h : FillAt o R j acc left) (hl : left = 0) (k : Nat) (hk : j ≤ k) : FillAt o R k acc left := by
  subst hl
  obtain ⟨h1, h2, h3, h4, h5⟩ := h
  rw [fill_zero] at h1
  rw [rest_zero] at h2
  exact ⟨by rw [fill_zero]; exact h1, by rw [rest_zero]; exact h2, h3, h4, by omega⟩
theorem FillAt.last {o : List Bi} {R : Int} {acc : List Fi} {left : Int} (h : FillAt o R o.length acc left) : acc = fillF R o ∧ left = restF R o := by
  obtain ⟨h1, h2, _⟩ := h
  rw [List.drop_length] at h1 h2
  exact ⟨by rw [← h1]; show acc = acc ++ []; simp, h2.symm ▸ rfl⟩
def FillPost (q : Int) (l : List Bi) (w : World) (e : Ending) (w' : World) : Prop :=
  (auOK q l = false ∧ e = .returned (.tuple #[.slice none 0 0, .int .i64 0, .int .i64 3]) ∧ Grew w w') ∨
  (auOK q l = true ∧ ∃ v, e = .returned (.tuple #[v, .int .i64 (auR q l), .int .i64 0]) ∧ OwnE enD3 w' w.heap.size 40 v (auF q l) ∧ Grew w w')

set_option maxRecDepth 100000 in
set_option maxHeartbeats 4000000 in
theorem afill_any (q : Int) (A : Option Addr) (n c : Nat) (l : List B5) (w : World) (h : RowE enB5 w A n l) (k : A = none → c = 0) (hn : n ≤ 100000) (hf : ∀ b ∈ l, in64 b.2.2.1) (hq : in64 q) :
    Calls Tryz.prog 19 #[.int .i64 q, .slice A n c] w (FillPost q l w) := by
  have HI := Lib.hid h
  have HL := Lib.hid h.len
  have CW := fun w => auwithin_any q (-1099511627776) 1099511627776 w
  have CB := bcontains_any A n c l w h (by omega)
  have CO := fun w1 (g : Grew w w1) => aorder_any (decide (q > 0)) A n c l w1 (h.keep g) k hn hf
  have CS := fun (h : wi q (-1099511627776) 1099511627776 = true) w => ausize_any q w (by have := (wi_iff _ _ _).1 h; omega) (by have := (wi_iff _ _ _).1 h; omega)
  have HOK : Hid (auOK q l = (wi q (-1099511627776) 1099511627776 && l.all okBi)) := rfl
  have HP : Hid (auOK q l = true → Pos1 (ordB (decide (q > 0)) l)) := fun h => ord_pos (auOK_pos h)
  have HQ : Hid (auOK q l = true → -1099511627776 ≤ q ∧ q ≤ 1099511627776) := fun h => ((auOK_iff q l).1 h).1
  have HOL : Hid ((ordB (decide (q > 0)) l).length = n) := by show _ = _; rw [← h.len]; exact ordF_len _ _
  have HF : Hid (auF q l = fillF (max q (-q)) (ordB (decide (q > 0)) l)) := rfl
  have HR : Hid (auR q l = restF (max q (-q)) (ordB (decide (q > 0)) l)) := rfl
  have HPost : Hid (FillPost q l w = fun e w' => (auOK q l = false ∧ e = .returned (.tuple #[.slice none 0 0, .int .i64 0, .int .i64 3]) ∧ Grew w w') ∨
    (auOK q l = true ∧ ∃ v, e = .returned (.tuple #[v, .int .i64 (auR q l), .int .i64 0]) ∧ OwnE enD3 w' w.heap.size 40 v (auF q l) ∧ Grew w w')) := rfl
  generalize FillPost q l w = Q at *
  clear h k hf
  cases h1 : wi q (-1099511627776) 1099511627776
  · rw [h1] at CW
    have HO : Hid (auOK q l = false) := by show _ = _; rw [HOK.out, h1]; rfl
    clear CB CO CS h1
    go_enter Tryz.func19, Tryz.ntmps19
    go_wp2_with (go_at_call 13; ((with_reducible refine (CW _).mono ?_); rintro e w1 ⟨rfl, rfl⟩))
    go_ret3
    rw [HPost.out]
    exact Or.inl ⟨HO.out, rfl, grew_refl _⟩
  · cases h2 : l.all okBi
    · rw [h1] at CW
      rw [h2] at CB
      have HO : Hid (auOK q l = false) := by show _ = _; rw [HOK.out, h1, h2]; rfl
      clear CO CS h1 h2
      go_enter Tryz.func19, Tryz.ntmps19
      go_wp2_with (first
        | (go_at_call 13; ((with_reducible refine (CW _).mono ?_); rintro e w1 ⟨rfl, rfl⟩))
        | (go_at_call 40; ((with_reducible refine CB.mono ?_); rintro e w1 ⟨rfl, hg⟩)))
      go_ret3
      rw [HPost.out]
      exact Or.inl ⟨HO.out, rfl, hg⟩
    · have HO : Hid (auOK q l = true) := by show _ = _; rw [HOK.out, h1, h2]; rfl
      have CS := CS h1
      have hq2 := HQ.out HO.out
      have HPO := Lib.hid (HP.out HO.out)
      rw [h1] at CW
      rw [h2] at CB
      clear h1 h2 HOK HP HQ
      have hR0 : 0 ≤ max q (-q) ∧ max q (-q) ≤ 1099511627776 := by omega
      generalize max q (-q) = R at *
      generalize ordB (decide (q > 0)) l = o at *
      go_enter Tryz.func19, Tryz.ntmps19
      go_wp2_with (first
        | (go_at_call 13; ((with_reducible refine (CW _).mono ?_); rintro e w1 ⟨rfl, rfl⟩))
        | (go_at_call 40; ((with_reducible refine CB.mono ?_); rintro e w1 ⟨rfl, hg⟩; have HG := Lib.hid hg; clear hg; have CO1 := CO w1 HG.out; clear CB CO))
        | (go_at_call 16; ((with_reducible refine (CS _).mono ?_); rintro e w2 ⟨rfl, rfl⟩))
        | (go_at_call 42; ((with_reducible refine CO1.mono ?_); rintro e w3 ⟨v, rfl, ho, hg⟩; have HO3 := Lib.hid ho; have HG3 : Hid (Grew w w3) := grew_trans HG.out hg; clear ho hg CO1; refine Hid.out ?_)))
      obtain ⟨A3, c3, rfl, hr3, hk3, hl3, _⟩ := HO3.out
      rw [HOL.out] at hr3 ⊢
      have HR3 := Lib.hid hr3
      clear HO3 hr3 hk3 hl3 HG CS CW HI HL
      obtain ⟨hq3, hq4⟩ := hq2
      obtain ⟨hR1, hR2⟩ := hR0
      refine Lib.hid ?_
      go_wp2
      go_loopw [4, 5, 8, 9, 24] (fun v4 v5 v8 v9 v24 wr => ∃ (j : Nat) (left : Int) (acc : List Fi), v24 = .int .i64 j ∧ v5 = .int .i64 left ∧ j ≤ n ∧ Hid (FillAt o R j acc left) ∧ Hid (OwnE enD3 wr w3.heap.size 40 v4 acc) ∧ Hid (Grew w3 wr)) (fun _ _ _ _ v24 _ => n - (intOf v24).toNat)
      case atStart => exact ⟨0, R, [], rfl, rfl, by omega, FillAt.start o hR1, OwnE.nil _ _ _ _, grew_refl _⟩
      case round =>
        obtain ⟨j, left, acc, rfl, rfl, hj, HA, HT, HG⟩ := hrel
        by_cases hlt : j < n
        · obtain ⟨b, ob, rfl, hb, hc⟩ := (HR3.out.keep HG.out).rB5 hlt
          obtain ⟨a0, a1, a2, a3, a4⟩ := hc j hlt
          have HQ1 : Hid (1 ≤ (o.getD j bi0).2.2.2.1) := HPO.out _ (getD_mem o bi0 j (by rw [HOL.out]; exact hlt))
          have HTK := Lib.hid (HA.out.take (by rw [HOL.out]; exact hlt) HQ1.out)
          have HDN := Lib.hid (fun hl => HA.out.done hl (j + 1) (by omega))
          have HLL : Hid (acc.length ≤ j) := HA.out.2.2.2.2
          have hl0 : 0 ≤ left := HA.out.2.2.1
          have hl1 : left ≤ 1099511627776 := by have := HA.out.2.2.2.1; omega
          have i0 : (0 : Int) ≤ (j : Int) := by omega
          have i1 : (j : Int) < (n : Int) := by omega
          clear hc hb HA
          generalize o.getD j bi0 = x at *
          obtain ⟨q1, q2, q3, q4, q5⟩ := x
          dsimp only at a0 a1 a2 a3 a4 HQ1 HTK
          have hq1 := HQ1.out
          have HX0 : Hid (OwnC (wr.alloc (.cells #[.int .i64 q1, .int .i64 q2, .int .i64 q3, .int .i64 q4, .int .i64 q5] 65)) wr.heap.size [.int .i64 q1, .int .i64 q2, .int .i64 q3, .int .i64 q4, .int .i64 q5]) := OwnC.new wr [.int .i64 q1, .int .i64 q2, .int .i64 q3, .int .i64 q4, .int .i64 q5] _ _ rfl
          have HT0 := Lib.hid (HT.out.keep (grew_alloc wr #[.int .i64 q1, .int .i64 q2, .int .i64 q3, .int .i64 q4, .int .i64 q5] 65))
          have HG0 := Lib.hid (grew_trans HG.out (grew_alloc wr #[.int .i64 q1, .int .i64 q2, .int .i64 q3, .int .i64 q4, .int .i64 q5] 65))
          go_upto_region 7 with (fail)
          generalize (wr.alloc (.cells #[.int .i64 q1, .int .i64 q2, .int .i64 q3, .int .i64 q4, .int .i64 q5] 65)) = w5 at *
          generalize wr.heap.size = N at *
          have x2 := HX0.out.at 2 _ rfl
          have x3 := HX0.out.at 3 _ rfl
          have x4 := HX0.out.at 4 _ rfl
          clear HT HG HX0 HQ1 a0 a1 a2 a3 a4
          rcases Int.lt_trichotomy q4 left with hc | hc | hc
          · have HA1 := Lib.hid (HTK.out (by omega))
            rw [show min left q4 = q4 by omega] at HA1
            have m1 : min q4 left = q4 := by omega
            have m2 : q4 ≤ left := by omega
            have m3 : q4 > 0 := by omega
            have m4 : IntKind.i64.wrap (left - q4) = left - q4 := by rw [IntKind.wrap_i64]; omega
            clear HTK HDN
            go_wp2_with (at_builtin; refine (wpList_append_E rfl _ _ 33 40 (vFi fi0) 24 rfl Tryz.underlying33 info_fi rfl w3.heap.size _ _ rfl (HT0.out.keep (grew_alloc _ _ _)) (some ⟨w5.heap.size, 0, none⟩) 1 1 [(q3, q4, q5)] rfl (by intro h; cases h) (RowE.one enD3 w5 (q3, q4, q5) 40 _ rfl) (by have := HLL.out; simp; unfold maxLen; omega) (by have := HLL.out; simp; omega) (Nat.le_trans (grew_size HG0.out) (by simp)) ?_); intro v' w6 ho hb; have HO6 := Lib.hid ho; have HG6 : Hid (Grew w3 w6) := Below.trans (grew_trans HG0.out (grew_alloc _ _ _)) hb; clear ho hb)
            go_roundw
            case rel => exact ⟨j + 1, left - q4, _, by go_num, (by first | rfl | (congr 1; omega)), by omega, HA1.out, HO6.out, HG6.out⟩
            case measure => simp only [intOf]; omega
          · subst hc
            have HA1 := Lib.hid (HTK.out (by omega))
            rw [show min q4 q4 = q4 by omega] at HA1
            have m1 : min q4 q4 = q4 := by omega
            have m3 : q4 > 0 := by omega
            have m4 : IntKind.i64.wrap (q4 - q4) = q4 - q4 := by rw [IntKind.wrap_i64]; omega
            clear HTK HDN
            go_wp2_with (at_builtin; refine (wpList_append_E rfl _ _ 33 40 (vFi fi0) 24 rfl Tryz.underlying33 info_fi rfl w3.heap.size _ _ rfl (HT0.out.keep (grew_alloc _ _ _)) (some ⟨w5.heap.size, 0, none⟩) 1 1 [(q3, q4, q5)] rfl (by intro h; cases h) (RowE.one enD3 w5 (q3, q4, q5) 40 _ rfl) (by have := HLL.out; simp; unfold maxLen; omega) (by have := HLL.out; simp; omega) (Nat.le_trans (grew_size HG0.out) (by simp)) ?_); intro v' w6 ho hb; have HO6 := Lib.hid ho; have HG6 : Hid (Grew w3 w6) := Below.trans (grew_trans HG0.out (grew_alloc _ _ _)) hb; clear ho hb)
            go_roundw
            case rel => exact ⟨j + 1, q4 - q4, _, by go_num, (by first | rfl | (congr 1; omega)), by omega, HA1.out, HO6.out, HG6.out⟩
            case measure => simp only [intOf]; omega
          · have m1 : min q4 left = left := by omega
            have m2 : ¬ q4 ≤ left := by omega
            have m5 : ¬ q4 < left := by omega
            by_cases hz : left = 0
            · have HA1 := Lib.hid (HDN.out hz)
              subst hz
              clear HTK HDN
              go_wp2_with (fail)
              go_roundw
              case rel => exact ⟨j + 1, 0, acc, by go_num, rfl, by omega, HA1.out, HT0.out, HG0.out⟩
              case measure => simp only [intOf]; omega
            · have HA1 := Lib.hid (HTK.out (by omega))
              rw [show min left q4 = left by omega] at HA1
              have m3 : left > 0 := by omega
              have m4 : IntKind.i64.wrap (left - left) = left - left := by rw [IntKind.wrap_i64]; omega
              clear HTK HDN
              go_wp2_with (at_builtin; refine (wpList_append_E rfl _ _ 33 40 (vFi fi0) 24 rfl Tryz.underlying33 info_fi rfl w3.heap.size _ _ rfl (HT0.out.keep (grew_alloc _ _ _)) (some ⟨w5.heap.size, 0, none⟩) 1 1 [(q3, left, q5)] rfl (by intro h; cases h) (RowE.one enD3 w5 (q3, left, q5) 40 _ rfl) (by have := HLL.out; simp; unfold maxLen; omega) (by have := HLL.out; simp; omega) (Nat.le_trans (grew_size HG0.out) (by simp)) ?_); intro v' w6 ho hb; have HO6 := Lib.hid ho; have HG6 : Hid (Grew w3 w6) := Below.trans (grew_trans HG0.out (grew_alloc _ _ _)) hb; clear ho hb)
              go_roundw
              case rel => exact ⟨j + 1, left - left, _, by go_num, (by first | rfl | (congr 1; omega)), by omega, HA1.out, HO6.out, HG6.out⟩
              case measure => simp only [intOf]; omega
        · obtain rfl : j = n := by omega
          obtain ⟨hl, hr⟩ := (show FillAt o R o.length acc left from HOL.out ▸ HA.out).last
          have HFi : Hid (acc = auF q l) := by show _ = _; rw [HF.out]; exact hl
          have HRi : Hid (left = auR q l) := by show _ = _; rw [HR.out]; exact hr
          clear hl hr HA
          go_wp2
          go_ret3
          rw [HPost.out]
          refine Or.inr ⟨HO.out, u4, by rw [← HRi.out]; rfl, ?_, grew_trans HG3.out HG.out⟩
          rw [← HFi.out]; exact HT.out.mono (grew_size HG3.out)
end Go.Proofs.YtahioajpmlochaaGreat.NumK
