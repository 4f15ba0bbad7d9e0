/-
  For every roll, member, currency and positions: what the member loses in each scenario, and the margin, are what the reference tells, with their errors, and what is handed in stays; rolls of more than 100 rows and more than 300 positions the statement lets by.
-/
import Derived.Test.YtmlfijapglhjfaaRG12
import Derived.Test.YtmlfijapglhjfaaRG16
import Derived.Test.YtmlfijapglhjfaaRG17
import Derived.Test.YtmlfijapglhjfaaRG8
import Derived.Test.YtmlfijapglhjfaaRG9
import Derived.Test.YtmlfijapglhjfaaRows
import Derived.WalkKit
import Derived.ProofKit
import Derived.OpenShut
import Derived.ShutString
import Derived.ChangeOld
import Derived.Below
import Derived.Carry
namespace Go.Proofs.Ytmlfijapglhjfaa.NumK
open Go.RowKit
set_option linter.unusedVariables false

set_option maxRecDepth 100000 in
set_option maxHeartbeats 8000000 in
theorem gridExact_walk (r : Rl) (A1 A2 A3 : Option Addr) (n1 n2 n3 c1 c2 c3 : Nat) (B : Option Addr) (n c : Nat) (who cur : Int) (l : List Po) (w : World) (h3 : In3 w r A1 A2 A3 n1 n2 n3 c1 c2 c3) (h : RowE enPo w B n l) (hk : B = none → c = 0) :
    Calls Try.prog 3 #[rlV A1 A2 A3 n1 n2 n3 c1 c2 c3, .int .i64 who, .int .i64 cur, .slice B n c] w fun e w' => e = .returned (.bool true) ∧ Grew w w' := by
  have CH := fun w' => heavy11_any A1 A2 A3 n1 n2 n3 c1 c2 c3 w'
  have CV := fun w' => wakes15_any w'
  have hH : heavyR n1 n2 n3 = false → n1 ≤ 100 ∧ n2 ≤ 100 ∧ n3 ≤ 100 := by unfold heavyR; simp
  have HHH := Lib.hid hH
  clear hH
  generalize heavyR n1 n2 n3 = HH at *
  have HR0 : Hid (OwnC (w.alloc (.cells #[.slice A1 n1 c1, .slice A2 n2 c2, .slice A3 n3 c3] 26)) w.heap.size [.slice A1 n1 c1, .slice A2 n2 c2, .slice A3 n3 c3]) := OwnC.new w [.slice A1 n1 c1, .slice A2 n2 c2, .slice A3 n3 c3] _ _ rfl
  have HG0 : Hid (Grew w (w.alloc (.cells #[.slice A1 n1 c1, .slice A2 n2 c2, .slice A3 n3 c3] 26))) := grew_alloc _ _ _
  dsimp only [rlV] at CH ⊢
  cases HH
  · have hn := HHH.out rfl
    have hn3 : n1 ≤ 1000000 ∧ n2 ≤ 1000000 ∧ n3 ≤ 1000000 := by omega
    clear HHH
    by_cases hm : n ≤ 300
    · have HL1 := h3.rows.m.len
      have HL2 := h3.rows.i.len
      have HL3 := h3.rows.h.len
      have HLp := h.len
      have CT := fun w' (g : Grew w w') => twinRoll_any r A1 A2 A3 n1 n2 n3 c1 c2 c3 w' (h3.keep g) hn3
      unfold RollQ at CT
      rw [HL1, HL2, HL3] at CT
      have CP := fun w' (g : Grew w w') => twinPoss_any B n c l w' (h.keep g) hk (by omega)
      have C1 := fun w' X1 X2 X3 x1 x2 x3 D d (h4 : Rows3 w' r X1 X2 X3 n1 n2 n3) (h5 : RowE enPo w' D n l) => losses_any r X1 X2 X3 D n1 n2 n3 x1 x2 x3 n d who cur l w' h4 hn3 h5 (by omega)
      have C2 := fun w' (g : Grew w w') => rlosses_any r A1 A2 A3 B n1 n2 n3 c1 c2 c3 n c who cur l w' (h3.rows.keep g) hn3 (h.keep g) (by omega)
      have C3 := fun w' X1 X2 X3 x1 x2 x3 D d (h4 : Rows3 w' r X1 X2 X3 n1 n2 n3) (h5 : RowE enPo w' D n l) => margin_any r X1 X2 X3 D n1 n2 n3 x1 x2 x3 n d who cur l w' h4 hn3 h5 (by omega)
      have C4 := fun w' (g : Grew w w') => rmargin_any r A1 A2 A3 B n1 n2 n3 c1 c2 c3 n c who cur l w' (h3.rows.keep g) hn3 (h.keep g) (by omega)
      have CE := fun w' X1 X2 X3 x1 x2 x3 (g : Grew w w') (h4 : Rows3 w' r X1 X2 X3 n1 n2 n3) => keepRoll_yes r X1 X2 X3 A1 A2 A3 n1 n2 n3 x1 x2 x3 c1 c2 c3 w' h4 (h3.rows.keep g) hn3
      have CKP := fun w' D d (g : Grew w w') (h5 : RowE enPo w' D n l) => keepPoss_yes D B n d c l w' h5 (h.keep g) (by omega)
      have HEQ := fun w => eq6 (lossA r who cur l) w
      clear h3 h hk
      dsimp only [rlV, v6] at CT C1 C2 C3 C4 CE HEQ
      generalize lossA r who cur l = f at *
      generalize lossE r who cur l = E at *
      generalize margE r who cur l = G at *
      generalize margN r who cur l = M at *
      go_enter Try.func3, Try.ntmps3
      go_upto_region 1 with (fail)
      generalize (w.alloc (.cells #[.slice A1 n1 c1, .slice A2 n2 c2, .slice A3 n3 c3] 26)) = w0 at *
      have r0 := HR0.out.at 0 (.slice A1 n1 c1) rfl; have r1 := HR0.out.at 1 (.slice A2 n2 c2) rfl; have r2 := HR0.out.at 2 (.slice A3 n3 c3) rfl
      go_upto_region 4 with (first
        | (go_at_call 8; ((with_reducible refine (CH _).mono ?_); rintro e w1 ⟨rfl, hg⟩; have HG1 := Lib.hid (grew_trans HG0.out hg); have HR1 := Lib.hid (HR0.out.keep hg); clear hg HR0 HG0 r0 r1 r2; have r0 := HR1.out.at 0 (.slice A1 n1 c1) rfl; have r1 := HR1.out.at 1 (.slice A2 n2 c2) rfl; have r2 := HR1.out.at 2 (.slice A3 n3 c3) rfl))
        | (go_at_call 9; ((with_reducible refine (CT _ HG1.out).mono ?_); rintro e w2 ⟨X1, X2, X3, x1, x2, x3, rfl, ⟨ho, -⟩, hg⟩; have HT2 : Hid (Rows3 w2 r X1 X2 X3 n1 n2 n3) := (by have hr := ho.rows; rw [HL1, HL2, HL3] at hr; exact hr); have HG2 := Lib.hid (grew_trans HG1.out hg); have HR2 := Lib.hid (HR1.out.keep hg); clear ho hg CT r0 r1 r2 HG1 HR1))
        | (go_at_call 10; ((with_reducible refine (CP _ HG2.out).mono ?_); rintro e w3 ⟨D, d, rfl, ho, hg⟩; have HP3 : Hid (RowE enPo w3 D n l) := (by obtain ⟨A9, c9, e9, h9, -⟩ := ho.form; cases e9; rw [HLp] at h9; exact h9); have HG3 := Lib.hid (grew_trans HG2.out hg); have HR3 := Lib.hid (HR2.out.keep hg); have HT3 := Lib.hid (HT2.out.keep hg); clear ho hg CP HG2 HR2 HT2)))
      have HX4 : Hid (OwnC (w3.alloc (.cells #[.slice X1 n1 x1, .slice X2 n2 x2, .slice X3 n3 x3] 26)) w3.heap.size [.slice X1 n1 x1, .slice X2 n2 x2, .slice X3 n3 x3]) := OwnC.new w3 [.slice X1 n1 x1, .slice X2 n2 x2, .slice X3 n3 x3] _ _ rfl
      have HR4 := Lib.hid (HR3.out.keep (grew_alloc w3 #[.slice X1 n1 x1, .slice X2 n2 x2, .slice X3 n3 x3] 26))
      have HT4 := Lib.hid (HT3.out.keep (grew_alloc w3 #[.slice X1 n1 x1, .slice X2 n2 x2, .slice X3 n3 x3] 26))
      have HP4 := Lib.hid (HP3.out.keep (grew_alloc w3 #[.slice X1 n1 x1, .slice X2 n2 x2, .slice X3 n3 x3] 26))
      have HG4 := Lib.hid (grew_trans HG3.out (grew_alloc w3 #[.slice X1 n1 x1, .slice X2 n2 x2, .slice X3 n3 x3] 26))
      clear HR3 HT3 HP3 HG3
      generalize (w3.alloc (.cells #[.slice X1 n1 x1, .slice X2 n2 x2, .slice X3 n3 x3] 26)) = w4 at *
      generalize w3.heap.size = xb at *
      have x0' := HX4.out.at 0 (.slice X1 n1 x1) rfl; have x1' := HX4.out.at 1 (.slice X2 n2 x2) rfl; have x2' := HX4.out.at 2 (.slice X3 n3 x3) rfl
      go_upto_region 5 with (go_at_call 11; ((with_reducible refine (C1 _ _ _ _ _ _ _ _ _ HT4.out HP4.out).mono ?_); rintro e w5 ⟨rfl, hg⟩; have HG5 := Lib.hid (grew_trans HG4.out hg); have HR5 := Lib.hid (HR4.out.keep hg); have HX5 := Lib.hid (HX4.out.keep hg); have HT5 := Lib.hid (HT4.out.keep hg); have HP5 := Lib.hid (HP4.out.keep hg); clear hg HG4 HR4 HX4 HT4 HP4 x0' x1' x2' C1))
      have HA6 : Hid (OwnC (w5.alloc (.cells #[.int .i64 (f 0), .int .i64 (f 1), .int .i64 (f 2), .int .i64 (f 3), .int .i64 (f 4), .int .i64 (f 5)] 31)) w5.heap.size [.int .i64 (f 0), .int .i64 (f 1), .int .i64 (f 2), .int .i64 (f 3), .int .i64 (f 4), .int .i64 (f 5)]) := OwnC.new w5 [.int .i64 (f 0), .int .i64 (f 1), .int .i64 (f 2), .int .i64 (f 3), .int .i64 (f 4), .int .i64 (f 5)] _ _ rfl
      have HR6 := Lib.hid (HR5.out.keep (grew_alloc w5 #[.int .i64 (f 0), .int .i64 (f 1), .int .i64 (f 2), .int .i64 (f 3), .int .i64 (f 4), .int .i64 (f 5)] 31))
      have HX6 := Lib.hid (HX5.out.keep (grew_alloc w5 #[.int .i64 (f 0), .int .i64 (f 1), .int .i64 (f 2), .int .i64 (f 3), .int .i64 (f 4), .int .i64 (f 5)] 31))
      have HT6 := Lib.hid (HT5.out.keep (grew_alloc w5 #[.int .i64 (f 0), .int .i64 (f 1), .int .i64 (f 2), .int .i64 (f 3), .int .i64 (f 4), .int .i64 (f 5)] 31))
      have HP6 := Lib.hid (HP5.out.keep (grew_alloc w5 #[.int .i64 (f 0), .int .i64 (f 1), .int .i64 (f 2), .int .i64 (f 3), .int .i64 (f 4), .int .i64 (f 5)] 31))
      have HG6 := Lib.hid (grew_trans HG5.out (grew_alloc w5 #[.int .i64 (f 0), .int .i64 (f 1), .int .i64 (f 2), .int .i64 (f 3), .int .i64 (f 4), .int .i64 (f 5)] 31))
      clear HR5 HX5 HT5 HP5 HG5
      generalize (w5.alloc (.cells #[.int .i64 (f 0), .int .i64 (f 1), .int .i64 (f 2), .int .i64 (f 3), .int .i64 (f 4), .int .i64 (f 5)] 31)) = w6 at *
      generalize w5.heap.size = ab at *
      have r0 := HR6.out.at 0 (.slice A1 n1 c1) rfl; have r1 := HR6.out.at 1 (.slice A2 n2 c2) rfl; have r2 := HR6.out.at 2 (.slice A3 n3 c3) rfl
      go_upto_region 6 with (go_at_call 12; ((with_reducible refine (C2 _ HG6.out).mono ?_); rintro e w7 ⟨rfl, hg⟩; have HG7 := Lib.hid (grew_trans HG6.out hg); have HR7 := Lib.hid (HR6.out.keep hg); have HX7 := Lib.hid (HX6.out.keep hg); have HT7 := Lib.hid (HT6.out.keep hg); have HP7 := Lib.hid (HP6.out.keep hg); have HA7 := Lib.hid (HA6.out.keep hg); clear hg HG6 HR6 HX6 HT6 HP6 HA6 r0 r1 r2 C2))
      have HB8 : Hid (OwnC (w7.alloc (.cells #[.int .i64 (f 0), .int .i64 (f 1), .int .i64 (f 2), .int .i64 (f 3), .int .i64 (f 4), .int .i64 (f 5)] 31)) w7.heap.size [.int .i64 (f 0), .int .i64 (f 1), .int .i64 (f 2), .int .i64 (f 3), .int .i64 (f 4), .int .i64 (f 5)]) := OwnC.new w7 [.int .i64 (f 0), .int .i64 (f 1), .int .i64 (f 2), .int .i64 (f 3), .int .i64 (f 4), .int .i64 (f 5)] _ _ rfl
      have HR8 := Lib.hid (HR7.out.keep (grew_alloc w7 #[.int .i64 (f 0), .int .i64 (f 1), .int .i64 (f 2), .int .i64 (f 3), .int .i64 (f 4), .int .i64 (f 5)] 31))
      have HX8 := Lib.hid (HX7.out.keep (grew_alloc w7 #[.int .i64 (f 0), .int .i64 (f 1), .int .i64 (f 2), .int .i64 (f 3), .int .i64 (f 4), .int .i64 (f 5)] 31))
      have HT8 := Lib.hid (HT7.out.keep (grew_alloc w7 #[.int .i64 (f 0), .int .i64 (f 1), .int .i64 (f 2), .int .i64 (f 3), .int .i64 (f 4), .int .i64 (f 5)] 31))
      have HP8 := Lib.hid (HP7.out.keep (grew_alloc w7 #[.int .i64 (f 0), .int .i64 (f 1), .int .i64 (f 2), .int .i64 (f 3), .int .i64 (f 4), .int .i64 (f 5)] 31))
      have HA8 := Lib.hid (HA7.out.keep (grew_alloc w7 #[.int .i64 (f 0), .int .i64 (f 1), .int .i64 (f 2), .int .i64 (f 3), .int .i64 (f 4), .int .i64 (f 5)] 31))
      have HG8 := Lib.hid (grew_trans HG7.out (grew_alloc w7 #[.int .i64 (f 0), .int .i64 (f 1), .int .i64 (f 2), .int .i64 (f 3), .int .i64 (f 4), .int .i64 (f 5)] 31))
      clear HR7 HX7 HT7 HP7 HG7 HA7
      generalize (w7.alloc (.cells #[.int .i64 (f 0), .int .i64 (f 1), .int .i64 (f 2), .int .i64 (f 3), .int .i64 (f 4), .int .i64 (f 5)] 31)) = w8 at *
      generalize w7.heap.size = bb at *
      have x0' := HX8.out.at 0 (.slice X1 n1 x1) rfl; have x1' := HX8.out.at 1 (.slice X2 n2 x2) rfl; have x2' := HX8.out.at 2 (.slice X3 n3 x3) rfl
      go_upto_region 8 with (first
        | (go_at_call 13; ((with_reducible refine (C3 _ _ _ _ _ _ _ _ _ HT8.out HP8.out).mono ?_); rintro e w9 ⟨rfl, hg⟩; have HG9 := Lib.hid (grew_trans HG8.out hg); have HR9 := Lib.hid (HR8.out.keep hg); have HX9 := Lib.hid (HX8.out.keep hg); have HT9 := Lib.hid (HT8.out.keep hg); have HP9 := Lib.hid (HP8.out.keep hg); have HA9 := Lib.hid (HA8.out.keep hg); have HB9 := Lib.hid (HB8.out.keep hg); have r0 := HR9.out.at 0 (.slice A1 n1 c1) rfl; have r1 := HR9.out.at 1 (.slice A2 n2 c2) rfl; have r2 := HR9.out.at 2 (.slice A3 n3 c3) rfl; clear hg HG8 HR8 HX8 HT8 HP8 HA8 HB8 x0' x1' x2' C3))
        | (go_at_call 14; ((with_reducible refine (C4 _ HG9.out).mono ?_); rintro e w10 ⟨rfl, hg⟩; have HG10 := Lib.hid (grew_trans HG9.out hg); have HR10 := Lib.hid (HR9.out.keep hg); have HX10 := Lib.hid (HX9.out.keep hg); have HT10 := Lib.hid (HT9.out.keep hg); have HP10 := Lib.hid (HP9.out.keep hg); have HA10 := Lib.hid (HA9.out.keep hg); have HB10 := Lib.hid (HB9.out.keep hg); clear hg HG9 HR9 HX9 HT9 HP9 HA9 HB9 r0 r1 r2 C4)))
      have a0 := HA10.out.at 0 (.int .i64 (f 0)) rfl; have b0 := HB10.out.at 0 (.int .i64 (f 0)) rfl; have a1 := HA10.out.at 1 (.int .i64 (f 1)) rfl; have b1 := HB10.out.at 1 (.int .i64 (f 1)) rfl; have a2 := HA10.out.at 2 (.int .i64 (f 2)) rfl; have b2 := HB10.out.at 2 (.int .i64 (f 2)) rfl; have a3 := HA10.out.at 3 (.int .i64 (f 3)) rfl; have b3 := HB10.out.at 3 (.int .i64 (f 3)) rfl; have a4 := HA10.out.at 4 (.int .i64 (f 4)) rfl; have b4 := HB10.out.at 4 (.int .i64 (f 4)) rfl; have a5 := HA10.out.at 5 (.int .i64 (f 5)) rfl; have b5 := HB10.out.at 5 (.int .i64 (f 5)) rfl
      have r0 := HR10.out.at 0 (.slice A1 n1 c1) rfl; have r1 := HR10.out.at 1 (.slice A2 n2 c2) rfl; have r2 := HR10.out.at 2 (.slice A3 n3 c3) rfl
      have x0' := HX10.out.at 0 (.slice X1 n1 x1) rfl; have x1' := HX10.out.at 1 (.slice X2 n2 x2) rfl; have x2' := HX10.out.at 2 (.slice X3 n3 x3) rfl
      go_wp2_with (first
        | (go_at_call 15; ((with_reducible refine (CE _ _ _ _ _ _ _ HG10.out HT10.out).mono ?_); rintro e w11 ⟨rfl, hg⟩; have HG11 := Lib.hid (grew_trans HG10.out hg); have HP11 := Lib.hid (HP10.out.keep hg); clear hg HG10 HP10 CE))
        | (go_at_call 16; ((with_reducible refine (CKP _ _ _ HG11.out HP11.out).mono ?_); rintro e w12 ⟨rfl, hg⟩; have HG12 := Lib.hid (grew_trans HG11.out hg); clear hg HG11  CKP HP11))
        | (go_at_call 17; ((with_reducible refine (CV _).mono ?_); rintro e w13 ⟨rfl, hg⟩; have HG13 := Lib.hid (grew_trans HG12.out hg); clear hg HG12  )))
      go_ret
      exact ⟨rfl, HG13.out⟩
    · have hov : 300 < n := by omega
      clear CV h3 h
      go_enter Try.func3, Try.ntmps3
      go_upto_region 1 with (fail)
      generalize (w.alloc (.cells #[.slice A1 n1 c1, .slice A2 n2 c2, .slice A3 n3 c3] 26)) = w0 at *
      have r0 := HR0.out.at 0 (.slice A1 n1 c1) rfl; have r1 := HR0.out.at 1 (.slice A2 n2 c2) rfl; have r2 := HR0.out.at 2 (.slice A3 n3 c3) rfl
      go_wp2_with (go_at_call 8; ((with_reducible refine (CH _).mono ?_); rintro e w1 ⟨rfl, hg⟩; have HG1 := Lib.hid (grew_trans HG0.out hg); have HR1 := Lib.hid (HR0.out.keep hg); clear hg HR0 HG0 r0 r1 r2; have r0 := HR1.out.at 0 (.slice A1 n1 c1) rfl; have r1 := HR1.out.at 1 (.slice A2 n2 c2) rfl; have r2 := HR1.out.at 2 (.slice A3 n3 c3) rfl))
      go_ret
      exact ⟨rfl, HG1.out⟩
  · clear CV HHH h3
    go_enter Try.func3, Try.ntmps3
    go_upto_region 1 with (fail)
    generalize (w.alloc (.cells #[.slice A1 n1 c1, .slice A2 n2 c2, .slice A3 n3 c3] 26)) = w0 at *
    have r0 := HR0.out.at 0 (.slice A1 n1 c1) rfl; have r1 := HR0.out.at 1 (.slice A2 n2 c2) rfl; have r2 := HR0.out.at 2 (.slice A3 n3 c3) rfl
    go_wp2_with (go_at_call 8; ((with_reducible refine (CH _).mono ?_); rintro e w1 ⟨rfl, hg⟩; have HG1 := Lib.hid (grew_trans HG0.out hg); have HR1 := Lib.hid (HR0.out.keep hg); clear hg HR0 HG0 r0 r1 r2; have r0 := HR1.out.at 0 (.slice A1 n1 c1) rfl; have r1 := HR1.out.at 1 (.slice A2 n2 c2) rfl; have r2 := HR1.out.at 2 (.slice A3 n3 c3) rfl))
    go_ret
    exact ⟨rfl, HG1.out⟩
end Go.Proofs.Ytmlfijapglhjfaa.NumK
namespace Go.Proofs.Ytmlfijapglhjfaa.NumK
open Go.RowKit
set_option linter.unusedVariables false

theorem gridExact_row (w : World) {cs0 : Array Value} {r : Rl} {B : Option Addr} {n c : Nat} {l : List Po} (who cur : Int) (h0 : spRl.rd w cs0.toList r) (h3 : RowE enPo w B n l) (hk : B = none → c = 0) :
    Calls Try.prog 3 #[.agg cs0, .int .i64 who, .int .i64 cur, .slice B n c] w fun e w' => e = .returned (.bool true) ∧ Grew w w' := by
  obtain ⟨A1, A2, A3, n1, n2, n3, c1, c2, c3, e, h⟩ := roll_of h0
  rw [e]
  exact gridExact_walk r A1 A2 A3 n1 n2 n3 c1 c2 c3 B n c who cur l w h h3 hk
end Go.Proofs.Ytmlfijapglhjfaa.NumK
namespace Go.Proofs.Ytmlfijapglhjfaa.gridExact
open Go.ChangeShapes Go.WideShapes Go.ChangeAt Go.RowKit
set_option linter.unusedVariables false

theorem own : ownKnob Try.prog.godebug = none := by kernel_rfl
theorem laidOut : laidOutB Try.prog = true := by kernel_rfl

set_option maxRecDepth 100000 in
theorem lifted (os : Os) (started : os.Started) (H : Type) (enc : TypeId × Value → H) :
    ReturnsInHanded {} Try.checked os 3 .any (Rows.gridExactSpec.pre6 enc Try.prog Try.f3 Rows.gridExactRow.domain false) (Rows.gridExactSpec.post enc Try.prog Try.f3 false true false false) := by
  refine returnsInHanded_of_change (C := Try.checked) own started (by kernel_rfl) Try.func3
    (ChangeSpec.witness6 (enc := enc) (C := Try.checked) false ⟨#[], #[.agg #[.slice none 0 0, .slice none 0 0, .slice none 0 0], .int .i64 0, .int .i64 0, .slice none 0 0], []⟩ 8 (by kernel_rfl) (by kernel_rfl) (by kernel_rfl) (by kernel_rfl)) ?_
  intro W base args ds gs before hval0 hW hcnd _
  have hval : ∀ (j : Nat) t v, Try.f3.params[j]? = some t → args[j]? = some v → Value.okWide Try.prog W .any base t v := hval0
  have hW' := hW
  obtain ⟨p, q, hA0, hV, rfl, hfz, hnd⟩ := hW
  have hA : DataW.TrodAll enc Try.prog W 0 (fun _ => true) true Try.f3.params.toList args.toList ds p := hA0
  skip
  rw [Try.params3] at hA hval
  obtain ⟨v0, vs0, d0, ds0, p0, q0, hargs, rfl, rfl, h0, r0⟩ := trodAll_cons hA
  obtain ⟨v1, vs1, d1, ds1, p1, q1, rfl, rfl, rfl, h1, r1⟩ := trodAll_cons r0
  obtain ⟨v2, vs2, d2, ds2, p2, q2, rfl, rfl, rfl, h2, r2⟩ := trodAll_cons r1
  obtain ⟨v3, vs3, d3, ds3, p3, q3, rfl, rfl, rfl, h3, r3⟩ := trodAll_cons r2
  obtain ⟨rfl, rfl, rfl⟩ := trodAll_nil r3
  obtain rfl : args = #[v0, v1, v2, v3] := by cases args; simp_all
  obtain ⟨rfl, rfl⟩ := trodVars_none hV
  have k0 := h0
  have lt0 : ∀ x ∈ p0, x.block < W.heap.size := by obtain ⟨m, hm⟩ := k0; exact DataW.trod_lt m _ _ _ hm
  obtain ⟨cs0, x0, rfl, e0⟩ := NumK.arg_struct Try.underlying26 NumK.opens_roll (hval 0 26 v0 rfl rfl) h0
  obtain ⟨a1, rfl, rfl, rfl, w1⟩ := open_int Try.underlying3 (hval 1 3 v1 rfl rfl) h1
  obtain ⟨a2, rfl, rfl, rfl, w2⟩ := open_int Try.underlying3 (hval 2 3 v2 rfl rfl) h2
  have k3 := h3
  have lt3 : ∀ x ∈ p3, x.block < W.heap.size := by obtain ⟨m, hm⟩ := k3; exact DataW.trod_lt m _ _ _ hm
  obtain ⟨A3, len3, cap3, l3, rfl, ro3, n3, c3, m3⟩ := NumK.arg_slice Try.underlying27 NumK.opens_poss (hval 3 27 v3 rfl rfl) h3
  clear hA0 hval0
  refine (NumK.gridExact_row W a1 a2 e0 (NumK.poss_of ro3) n3).mono fun e W' ⟨he, bel⟩ => ?_
  subst he
  exact ⟨_, rfl, _, _, _, [], _, [], hW', trodAll_mk1 (shut_bool Try.underlying4 _), (trodAll_cons_mk (Below.trod laidOut (by kernel_rfl) (of_decide_eq_true (by kernel_rfl)) k0 bel lt0) (trodAll_cons_mk (shut_int Try.underlying3 w1) (trodAll_cons_mk (shut_int Try.underlying3 w2) (trodAll_cons_mk (Below.trod laidOut (by kernel_rfl) (of_decide_eq_true (by kernel_rfl)) k3 bel lt3) trodAll_mk0)))), rfl, bel.frame _, fun h => by cases h⟩

theorem over : Rows.gridExactRow.holds Try.pinned (OpenSpec.ofChange Rows.gridExactSpec) :=
  OpenClaim.holds_of_wide 3 Try.f3 rfl rfl rfl rfl rfl rfl rfl ⟨rfl, rfl, rfl, rfl, rfl⟩ rfl rfl rfl rfl rfl (by kernel_rfl) Try.func3 (by kernel_rfl)
    (of_decide_eq_true (by kernel_rfl)) (by unfold Func.isWrapper; first | (rw [if_pos (by decide +kernel)]; kernel_rfl) | (rw [if_neg (by decide +kernel)]; exact ⟨rfl, rfl⟩))
    (fun os started H enc _ => lifted os started H enc)

/-! ### the statement -/
theorem proved : Rows.GridExactSaid := over
end Go.Proofs.Ytmlfijapglhjfaa.gridExact
