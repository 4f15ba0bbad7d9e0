/- The sort's insertion. -/
import Derived.Test.YtkkemmfghjgmeaaRow
namespace Go.Proofs.Ytkkemmfghjgmeaa.NumK
open Go.RowKit

set_option maxRecDepth 100000 in
set_option maxHeartbeats 2000000 in
theorem insertion_any (g : Nat) (cb : Array Value) (cf : Nat → Nat → Int) (f : Nat → Int) (blk n cap a b : Nat) (d : Nat → Nat) (w0 w : World) (eg : ∀ args w, (callFunc g args).run Try.prog w = .ok (.enter g args) w)
    (hC : CmpOK g cb cf f blk n w0) (hT : Turn blk w0 w) (hR : RowW w blk n d) (hd : ∀ k, k < n → d k < n) (hu : ∀ p q, a ≤ p → p < q → q < b → d p < d q) (hab : a ≤ b) (hb : b ≤ n) (hn : n ≤ 1000000) :
    Calls Try.prog 60 #[.slice (some ⟨blk, 0, none⟩) n cap, .int .i64 a, .int .i64 b, .func (.func g) #[] cb] w (SortPost f blk n a b d w0) := by
  have HR := Lib.hid hR
  have HC := Lib.hid hC
  have HT := Lib.hid hT
  have HD := Lib.hid hd
  have HU := Lib.hid hu
  clear hR hC hT hd hu
  go_enter Try.func60, Try.ntmps60
  go_wp2
  go_loopw [8] (fun vi wr => ∃ (i : Nat) (e : Nat → Nat), vi = .int .i64 i ∧ a < i ∧ i ≤ b + 1 ∧ Hid (Moves a (min i b) d e) ∧ Hid (Sd f a (min i b) e) ∧ Hid (RowW wr blk n e) ∧ Hid (Turn blk w0 wr)) (fun vi _ => b + 1 - (intOf vi).toNat)
  case atStart =>
    exact ⟨a + 1, d, by go_num, by omega, by omega, Moves.refl _ _ _, Sd.one _ _ _ _ (by omega), HR, HT⟩
  case round =>
    clear HR HT
    obtain ⟨i, e, rfl, hai, hib, HM, HS, HR, HT⟩ := hrel
    by_cases hlt : i < b
    · have hmin : min i b = i := by omega
      rw [hmin] at HM HS
      have HI : Hid (Ins f a i i e) := ins_start HS.out HM.out (fun p q p1 p2 p3 => HU.out p q p1 p2 (by omega))
      have HM2 : Hid (Moves a (i + 1) d e) := HM.out.mono (Nat.le_refl _) (by omega)
      clear HM HS hmin
      go_wp2
      go_loopw [9] (fun vj wr => ∃ (j : Nat) (e : Nat → Nat), vj = .int .i64 j ∧ a ≤ j ∧ j ≤ i ∧ Hid (Ins f a i j e) ∧ Hid (Moves a (i + 1) d e) ∧ Hid (RowW wr blk n e) ∧ Hid (Turn blk w0 wr)) (fun vj _ => (intOf vj).toNat)
      case atStart => exact ⟨i, e, rfl, by omega, by omega, HI, HM2, HR, HT⟩
      case round =>
        clear HR HT HI HM2
        obtain ⟨j, e, rfl, haj, hji, HI, HM, HR, HT⟩ := hrel
        have HDe : Hid (∀ k, k < n → e k < n) := HM.out.lt (by omega) HD.out
        by_cases hja : a < j
        · obtain ⟨j, rfl⟩ : ∃ q, j = q + 1 := ⟨j - 1, by omega⟩
          have zj : ((j + 1 : Nat) : Int) = (j : Int) + 1 := by omega
          have hjd : decide ((j : Int) + 1 > (a : Int)) = true := decide_eq_true (by omega)
          have hja2 : (a : Int) < (j : Int) + 1 := by omega
          have c1 := HR.out.all (j + 1) (by omega)
          have c2 := HR.out.all j (by omega)
          have hc := HC.out.all HT.out (e (j + 1)) (e j) (HDe.out _ (by omega)) (HDe.out _ (by omega))
          have m1 := (HR.out.2 (j + 1) (by omega)).2
          have m2 := (HR.out.2 j (by omega)).2
          obtain ⟨x, hx⟩ : ∃ x, x = e (j + 1) := ⟨_, rfl⟩
          obtain ⟨y, hy⟩ : ∃ y, y = e j := ⟨_, rfl⟩
          have q2 : (0 : Int) ≤ (j : Int) + 1 := by omega
          have q3 : (j : Int) + 1 < (n : Int) := by omega
          have q4 : IntKind.i64.wrap ((j : Int) + 1) = (j : Int) + 1 := by rw [IntKind.wrap_i64]; omega
          have q5 : IntKind.i64.wrap ((j : Int) + 1 - 1) = (j : Int) := by rw [IntKind.wrap_i64]; omega
          have q6 : (j : Int) < (n : Int) := by omega
          have q7 : (0 : Int) ≤ (j : Int) := by omega
          have q8 : ((j : Int)).toNat = j := by omega
          have HX := Lib.hid hx
          have HY := Lib.hid hy
          rw [← hx] at c1
          rw [← hy] at c2
          rw [← hx, ← hy] at hc
          have hv := Lib.hid (HC.out.lt x y)
          generalize cf x y = c at *
          clear hx hy
          by_cases hl : c < 0
          · have hcd : decide (c < 0) = true := decide_eq_true hl
            rw [zj]
            go_wp2_with fail
            refine wp_region_grew (by kernel_rfl) (by kernel_rfl) ?_
            repeat (go_big_quiet_step (exact calls_grew (hc _)))
            refine wpQuiet_nil ?_
            intro w2 hw'
            have hg := grew_of hw'
            clear hw'
            have HR2 : Hid (RowW w2 blk n e) := HR.out.keep hg
            have HT2 : Hid (Turn blk w0 w2) := HT.out.grew hg
            clear c1 c2 hc m1 m2 HR HT hg
            have HF : Hid (f (e j) < f (e (j + 1))) := by rw [← HX.out, ← HY.out]; exact hv.out.1 hl
            clear hv hl hcd
            have c1 := (HR2.out.2 (j + 1) (by omega)).1
            have c2 := (HR2.out.2 j (by omega)).1
            have m1 := (HR2.out.2 (j + 1) (by omega)).2
            have m2 := (HR2.out.2 j (by omega)).2
            have c3 := HR2.out.two (j + 1) j (by omega) (by omega) (.int .i64 (e j))
            have HS : Hid (RowW ((w2.setCell ⟨blk, j + 1, none⟩ (.int .i64 (e j))).setCell ⟨blk, j, none⟩ (.int .i64 (e (j + 1)))).drew blk n (sw e (j + 1) j)) := HR2.out.swap (j + 1) j (by omega) (by omega) (by omega)
            have HT3 : Hid (Turn blk w0 ((w2.setCell ⟨blk, j + 1, none⟩ (.int .i64 (e j))).setCell ⟨blk, j, none⟩ (.int .i64 (e (j + 1)))).drew) := ((HT2.out.setCell (j + 1) (.int .i64 (e j))).setCell j (.int .i64 (e (j + 1)))).drew
            rw [← HX.out] at c1 HS HT3
            rw [← HY.out] at c2 c3 HS HT3
            go_wp2_with fail
            go_big_region
            clear c1 c2 c3 m1 m2 HR2 HT2
            generalize ((w2.setCell ⟨blk, j + 1, none⟩ (.int .i64 y)).setCell ⟨blk, j, none⟩ (.int .i64 x)).drew = w3 at HS HT3 ⊢
            go_wp2
            go_roundw
            case rel => exact ⟨j, _, rfl, by omega, by omega, ins_down HI.out (by omega) (by omega) HF.out, HM.out.trans (sw_moves _ _ _ (by omega) (by omega)), HS, HT3⟩
            case measure => simp only [intOf]; omega
          · have hcd : decide (c < 0) = false := decide_eq_false hl
            rw [zj]
            go_wp2_with fail
            refine wp_region_grew (by kernel_rfl) (by kernel_rfl) ?_
            repeat (go_big_quiet_step (exact calls_grew (hc _)))
            refine wpQuiet_nil ?_
            intro w2 hw'
            have hg := grew_of hw'
            clear hw'
            have HR2 : Hid (RowW w2 blk n e) := HR.out.keep hg
            have HT2 : Hid (Turn blk w0 w2) := HT.out.grew hg
            clear c1 c2 hc m1 m2 HR HT hg
            have HF : Hid (¬ f (e j) < f (e (j + 1))) := by show ¬ _; rw [← HX.out, ← HY.out]; intro h; have := hv.out.2 h; omega
            clear hv hl hcd
            have HP : Hid (Sd f a (i + 1) e) := ins_stop HI.out (by omega) (by omega) (Or.inr HF.out)
            have hmin : min (i + 1) b = i + 1 := by omega
            have HP2 := Lib.hid hmin
            clear hmin
            go_wp2
            go_roundw
            case rel => exact ⟨i + 1, e, by go_num, by omega, by omega, by rw [HP2.out]; exact HM, by rw [HP2.out]; exact HP, HR2, HT2⟩
            case measure => simp [intOf]; omega
        · obtain rfl : j = a := by omega
          have hjd : decide ((j : Int) > (j : Int)) = false := decide_eq_false (by omega)
          have HP : Hid (Sd f j (i + 1) e) := ins_stop HI.out (by omega) (by omega) (Or.inl rfl)
          have hmin : min (i + 1) b = i + 1 := by omega
          have HP2 := Lib.hid hmin
          clear hmin
          go_wp2_with fail
          refine wp_region_grew (by kernel_rfl) (by kernel_rfl) ?_
          repeat (go_big_quiet_step (fail))
          refine wpQuiet_nil ?_
          intro w2 hw'
          have hg := grew_of hw'
          clear hw'
          have HR2 : Hid (RowW w2 blk n e) := HR.out.keep hg
          have HT2 : Hid (Turn blk w0 w2) := HT.out.grew hg
          clear HR HT hg
          go_wp2
          go_roundw
          case rel => exact ⟨i + 1, e, by go_num, by omega, by omega, by rw [HP2.out]; exact HM, by rw [HP2.out]; exact HP, HR2, HT2⟩
          case measure => simp [intOf]; omega
    · have hmin : min i b = b := by omega
      have HP2 := Lib.hid hmin
      clear hmin
      go_wp2
      go_end0
      exact ⟨rfl, e, by rw [← HP2.out]; exact HM.out, by rw [← HP2.out]; exact HS.out, HR.out, HT.out⟩
end Go.Proofs.Ytkkemmfghjgmeaa.NumK
