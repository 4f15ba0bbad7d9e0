/-
  For every roll, member, currency and positions: those of others, of another currency, or of what is not listed, change no margin, nor does the order; rolls of more than 100 rows and more than 300 positions the statement lets by.
-/
import Derived.Test.YtmlfijapglhjfaaRG15
import Derived.Test.YtmlfijapglhjfaaRG17
import Derived.Test.YtmlfijapglhjfaaRG2
import Derived.BigQuiet
import Derived.Deep.CutBlock
import Derived.Test.YtmlfijapglhjfaaRows
import Derived.WalkKit
import Derived.ProofKit
import Derived.OpenShut
import Derived.ShutString
import Derived.ChangeOld
import Derived.Below
import Derived.Carry
namespace Go.Proofs.Ytmlfijapglhjfaa.NumK
open Go.RowKit
set_option linter.unusedVariables false

set_option maxRecDepth 100000 in
set_option maxHeartbeats 8000000 in
theorem gridOthers_walk (r : Rl) (A1 A2 A3 : Option Addr) (n1 n2 n3 c1 c2 c3 : Nat) (B : Option Addr) (n c : Nat) (who cur : Int) (l : List Po) (w : World) (h3 : In3 w r A1 A2 A3 n1 n2 n3 c1 c2 c3) (h : RowE enPo w B n l) (hk : B = none → c = 0) :
    Calls Try.prog 6 #[rlV A1 A2 A3 n1 n2 n3 c1 c2 c3, .int .i64 who, .int .i64 cur, .slice B n c] w fun e w' => e = .returned (.bool true) ∧ Grew w w' := by
  have CH := fun w' => heavy11_any A1 A2 A3 n1 n2 n3 c1 c2 c3 w'
  have CV := fun w' => wakes15_any w'
  have hH : heavyR n1 n2 n3 = false → n1 ≤ 100 ∧ n2 ≤ 100 ∧ n3 ≤ 100 := by unfold heavyR; simp
  have HHH := Lib.hid hH
  clear hH
  generalize heavyR n1 n2 n3 = HH at *
  have HR0 : Hid (OwnC (w.alloc (.cells #[.slice A1 n1 c1, .slice A2 n2 c2, .slice A3 n3 c3] 26)) w.heap.size [.slice A1 n1 c1, .slice A2 n2 c2, .slice A3 n3 c3]) := OwnC.new w [.slice A1 n1 c1, .slice A2 n2 c2, .slice A3 n3 c3] _ _ rfl
  have HG0 : Hid (Grew w (w.alloc (.cells #[.slice A1 n1 c1, .slice A2 n2 c2, .slice A3 n3 c3] 26))) := grew_alloc _ _ _
  dsimp only [rlV] at CH ⊢
  cases HH
  · have hn := HHH.out rfl
    have hn3 : n1 ≤ 1000000 ∧ n2 ≤ 1000000 ∧ n3 ≤ 1000000 := by omega
    clear HHH
    by_cases hm : n ≤ 300
    · have HLp := h.len
      have C1 := fun w' (g : Grew w w') => margin_any r A1 A2 A3 B n1 n2 n3 c1 c2 c3 n c who cur l w' (h3.rows.keep g) hn3 (h.keep g) (by omega)
      by_cases hE : margE r who cur l = 0
      · rw [hE] at C1
        obtain ⟨k1, k2⟩ := grid_own hE
        have hr := (lossE_iff.1 (margE_iff.1 hE).1).1
        have hri := ((rightL_iff okIn noIn in0 r.2.1).1 (right_i hr)).2
        have HRI := Lib.hid hri
        have HLi := Lib.hid h3.rows.i.len
        have HPo := Lib.hid h
        have HIn := Lib.hid h3.rows.i
        have C2 := fun w' D d q (g : Grew w w') (h5 : RowE enPo w' D q (l.reverse.filter (cntG r who cur))) (hq : q ≤ 300) => margin_any r A1 A2 A3 D n1 n2 n3 c1 c2 c3 q d who cur (l.reverse.filter (cntG r who cur)) w' (h3.rows.keep g) hn3 h5 (by omega)
        rw [k1, k2] at C2
        clear k1 k2 hE hr hri h3 h hk
        dsimp only [rlV] at C1 C2
        generalize margN r who cur l = M at *
        go_enter Try.func6, Try.ntmps6
        go_upto_region 1 with (fail)
        generalize (w.alloc (.cells #[.slice A1 n1 c1, .slice A2 n2 c2, .slice A3 n3 c3] 26)) = w0 at *
        have r0 := HR0.out.at 0 (.slice A1 n1 c1) rfl; have r1 := HR0.out.at 1 (.slice A2 n2 c2) rfl; have r2 := HR0.out.at 2 (.slice A3 n3 c3) rfl
        go_upto_region 7 with (first
          | (go_at_call 8; ((with_reducible refine (CH _).mono ?_); rintro e w1 ⟨rfl, hg⟩; have HG1 := Lib.hid (grew_trans HG0.out hg); have HR1 := Lib.hid (HR0.out.keep hg); clear hg HR0 HG0 r0 r1 r2; have r0 := HR1.out.at 0 (.slice A1 n1 c1) rfl; have r1 := HR1.out.at 1 (.slice A2 n2 c2) rfl; have r2 := HR1.out.at 2 (.slice A3 n3 c3) rfl))
          | (go_at_call 13; ((with_reducible refine (C1 _ HG1.out).mono ?_); rintro e w2 ⟨rfl, hg⟩; have HG2 := Lib.hid (grew_trans HG1.out hg); have HR2 := Lib.hid (HR1.out.keep hg); clear hg HG1 HR1 r0 r1 r2)))
        have HWS : Hid (w.heap.size < w2.heap.size) := HR2.out.lt
        go_upto_block 1 with (fail)
        go_wp2
        go_loopw [11, 12] (fun v11 v12 wr => ∃ i : Nat, v12 = .int .i64 ((i : Int) - 1) ∧ i ≤ n ∧ Hid (OwnE enPo wr w2.heap.size 46 v11 (ownN r who cur l i)) ∧ Hid (Grew w2 wr)) (fun _ v12 _ => ((intOf v12) + 1).toNat)
        case atStart => exact ⟨n, rfl, by omega, (by rw [← HLp, ownN_len]; exact OwnE.nil enPo _ _ _), grew_refl _⟩
        case round =>
          obtain ⟨i, rfl, hi, HO, HG⟩ := hrel
          by_cases hi0 : i = 0
          · subst hi0
            have ho := HO.out
            rw [ownN_zero] at ho
            obtain ⟨D, d, rfl, hrow, -⟩ := ho.form
            have hlen : (l.reverse.filter (cntG r who cur)).length ≤ 300 := by
              have := List.length_filter_le (cntG r who cur) l.reverse
              rw [List.length_reverse] at this; omega
            have HP := Lib.hid hrow
            have HR3 := Lib.hid (HR2.out.keep HG.out)
            have HG3 := Lib.hid (grew_trans HG2.out HG.out)
            have C2' := fun w' D d g h5 => C2 w' D d _ g h5 hlen
            clear ho hrow HO C2
            generalize (l.reverse.filter (cntG r who cur)).length = pn at *
            have r0 := HR3.out.at 0 (.slice A1 n1 c1) rfl; have r1 := HR3.out.at 1 (.slice A2 n2 c2) rfl; have r2 := HR3.out.at 2 (.slice A3 n3 c3) rfl
            go_wp2_with (first
              | (go_at_call 13; ((with_reducible refine (C2' _ _ _ HG3.out HP.out).mono ?_); rintro e w4 ⟨rfl, hg⟩; have HG4 := Lib.hid (grew_trans HG3.out hg); clear hg HG3  r0 r1 r2 HR3))
              | (go_at_call 17; ((with_reducible refine (CV _).mono ?_); rintro e w5 ⟨rfl, hg⟩; have HG5 := Lib.hid (grew_trans HG4.out hg); clear hg HG4  )))
            go_ret
            exact ⟨rfl, HG5.out⟩
          · obtain ⟨m, rfl⟩ : ∃ m, i = m + 1 := ⟨i - 1, by omega⟩
            have hml : m < l.length := by omega
            have hmn : m < n := by omega
            have e1 : ((m + 1 : Nat) : Int) - 1 = (m : Int) := by omega
            rw [e1]
            have e2 : ¬ (m : Int) < 0 := by omega
            have e3 : (0 : Int) ≤ (m : Int) := by omega
            have HST := Lib.hid (ownN_step HRI.out who cur hml po0)
            have HK0 := Lib.hid (ownK_zero r who cur (ownN r who cur l (m + 1)) (l.getD m po0))
            have HLE := Lib.hid (ownN_le r who cur l (m + 1))
            obtain ⟨bo, o, rfl, hb, hc⟩ := HPo.out.po hmn
            have hcw := (hc m hmn).keep HG2.out hb
            have hbj : bo < w2.heap.size := Nat.lt_of_lt_of_le hb HG2.out.size
            have HP9 : Hid (∀ w', Grew w2 w' → CPo w' bo (o + m * 4) (l.getD m po0)) := fun w' g => hcw.keep g hbj
            have i0 : (0 : Int) ≤ (m : Int) := by omega
            have i1 : (m : Int) < (n : Int) := by omega
            clear hc hb hcw
            go_upto_block 3 with (fail)
            go_wp2
            go_loopw [11, 13] (fun v11 v13 wr => ∃ k : Nat, v13 = .int .i64 k ∧ k ≤ n2 ∧ Hid (OwnE enPo wr w2.heap.size 46 v11 (ownK r who cur (ownN r who cur l (m + 1)) (l.getD m po0) k)) ∧ Hid (Grew w2 wr)) (fun _ v13 _ => n2 - (intOf v13).toNat)
            case atStart => exact ⟨0, rfl, by omega, (by rw [HK0.out]; exact HO.out), HG.out⟩
            case round =>
              clear HO HG
              obtain ⟨k, rfl, hk, HO, HG⟩ := hrel
              have HR3 := Lib.hid (HR2.out.keep HG.out)
              have r0 := HR3.out.at 0 (.slice A1 n1 c1) rfl; have r1 := HR3.out.at 1 (.slice A2 n2 c2) rfl; have r2 := HR3.out.at 2 (.slice A3 n3 c3) rfl
              by_cases hkl : k < n2
              · have hki : k < r.2.1.length := by rw [HLi.out]; exact hkl
                obtain ⟨bi, oi, rfl, hbi, hci⟩ := ((HIn.out.keep HG2.out).keep HG.out).in hkl
                have hx := hci k hkl
                have HYES := Lib.hid (ownK_hit HRI.out (who := who) (cur := cur) (ownN r who cur l (m + 1)) (p := l.getD m po0) hki)
                have HNO := Lib.hid (ownK_no (r := r) (who := who) (cur := cur) (ownN r who cur l (m + 1)) (p := l.getD m po0) hki)
                have HKL := Lib.hid (ownK_le r who cur (ownN r who cur l (m + 1)) (l.getD m po0) k)
                have k0 : (0 : Int) ≤ (k : Int) := by omega
                have k1 : (k : Int) < (n2 : Int) := by omega
                clear hci hbi hki
                generalize hK1 : ownK r who cur (ownN r who cur l (m + 1)) (l.getD m po0) (k + 1) = L1 at HYES HNO
                have HK1 := Lib.hid hK1
                clear hK1
                generalize ownK r who cur (ownN r who cur l (m + 1)) (l.getD m po0) k = L0 at *
                obtain ⟨a0, a1, a2, a3⟩ := HP9.out _ HG.out
                generalize r.2.1.getD k in0 = x at *
                generalize l.getD m po0 = p at *
                obtain ⟨q1, q2, q3, q4⟩ := p
                obtain ⟨⟨t1, t2, t3, t4, t5, t6⟩, ⟨s1, s2, s3, s4, s5, s6⟩⟩ := x
                obtain ⟨u0, u1, -⟩ := hx
                dsimp only at a0 a1 a2 a3 u0 u1
                by_cases g1 : t1 = q2
                · by_cases g2 : t2 = cur
                  · by_cases g3 : q1 = who
                    · have hY := HYES.out (by unfold hitI; simp [noIn, g1, g2, g3])
                      obtain ⟨y1, y2⟩ := hY
                      have d1 : (t1 == q2) = true := by simpa using g1
                      have d2 : (t2 == cur) = true := by simpa using g2
                      have d3 : (q1 == who) = true := by simpa using g3
                      have HL1 : Hid (L1 = L0 ++ [(q1, q2, q3, q4)]) := by show _ = _; rw [y2, y1]
                      have HLN : Hid (L0.length + 1 ≤ 400) := by
                        show _ ≤ _
                        have h1 := HKL.out
                        have h2 := HLE.out
                        omega
                      clear g1 g2 g3 y1 y2 HYES HNO
                      go_upto_region 13 with (fail)
                      go_quiet (fail)
                      have HGd : Hid (Grew wr (wr.drewN nq)) := grew_drewN (grew_refl wr) nq
                      go_upto_region 14 with (fail)
                      generalize wr.drewN nq = wd at *
                      have HOd := Lib.hid (HO.out.keep HGd.out)
                      have HGe := Lib.hid (grew_trans HG.out HGd.out)
                      clear a0 a1 a2 a3
                      obtain ⟨a0, a1, a2, a3⟩ := HP9.out _ HGe.out
                      dsimp only at a0 a1 a2 a3
                      have hLN := HLN.out
                      have hsz : w2.heap.size ≤ wd.heap.size := HGe.out.size
                      go_wp2_with (at_builtin; refine (wpList_append_E rfl _ _ 27 46 (vPo po0) 32 rfl Try.underlying27 info_po rfl w2.heap.size _ L0 rfl (HOd.out.keep (grew_alloc _ _ _)) _ 1 1 [(q1, q2, q3, q4)] rfl (by intro h; cases h) (RowE.one1 enPo _ (q1, q2, q3, q4) _ _ _ rfl rfl) (by unfold maxLen; omega) (by omega) (Nat.le_trans hsz (grew_alloc _ _ _).size) ?_); intro v' w9 ho hb; rw [← HL1.out] at ho; have HV9 := Lib.hid ho; have HG9 : Hid (Grew w2 w9) := Below.trans (grew_trans HGe.out (grew_alloc _ _ _)) hb; clear ho hb)
                      go_roundw
                      case rel => exact ⟨k + 1, by go_num, by omega, (by rw [HK1.out]; exact HV9.out), HG9.out⟩
                      case measure => simp only [intOf]; omega
                    · have d1 : (t1 == q2) = true := by simpa using g1
                      have d2 : (t2 == cur) = true := by simpa using g2
                      have d3 : (q1 == who) = false := by simpa using g3
                      have HNE := Lib.hid (HNO.out (by unfold hitI; simp [g3]))
                      clear g1 g2 g3 HYES HNO
                      go_wp2
                      go_quiet (fail)
                      go_wp2
                      go_roundw
                      case rel => exact ⟨k + 1, by go_num, by omega, (by rw [HK1.out, HNE.out]; first | exact HO.out.keep (grew_drewN (grew_refl _) _) | exact HO.out), (by first | exact grew_drewN HG.out _ | exact HG.out)⟩
                      case measure => simp only [intOf]; omega
                  · have d1 : (t1 == q2) = true := by simpa using g1
                    have d2 : (t2 == cur) = false := by simpa using g2
                    have HNE := Lib.hid (HNO.out (by unfold hitI; simp [g2]))
                    clear g1 g2 HYES HNO
                    go_wp2
                    go_quiet (fail)
                    go_wp2
                    go_roundw
                    case rel => exact ⟨k + 1, by go_num, by omega, (by rw [HK1.out, HNE.out]; first | exact HO.out.keep (grew_drewN (grew_refl _) _) | exact HO.out), (by first | exact grew_drewN HG.out _ | exact HG.out)⟩
                    case measure => simp only [intOf]; omega
                · have d1 : (t1 == q2) = false := by simpa using g1
                  have HNE := Lib.hid (HNO.out (by unfold hitI; simp [noIn, g1]))
                  clear g1 HYES HNO
                  go_wp2
                  go_quiet (fail)
                  go_wp2
                  go_roundw
                  case rel => exact ⟨k + 1, by go_num, by omega, (by rw [HK1.out, HNE.out]; first | exact HO.out.keep (grew_drewN (grew_refl _) _) | exact HO.out), (by first | exact grew_drewN HG.out _ | exact HG.out)⟩
                  case measure => simp only [intOf]; omega
              · obtain rfl : n2 = k := by omega
                have ho := HO.out
                rw [← HLi.out, ← HST.out] at ho
                have HO9 := Lib.hid ho
                clear ho HO HK0 HST HLE
                go_wp2
                go_roundw
                case rel => exact ⟨m, by go_num, by omega, HO9.out, HG.out⟩
                case measure => simp only [intOf]; omega
      · have dE : (margE r who cur l != 0) = true := bne_iff_ne.2 hE
        clear h3 h hk hE
        dsimp only [rlV] at C1
        generalize margN r who cur l = M at *
        generalize margE r who cur l = G at *
        go_enter Try.func6, Try.ntmps6
        go_upto_region 1 with (fail)
        generalize (w.alloc (.cells #[.slice A1 n1 c1, .slice A2 n2 c2, .slice A3 n3 c3] 26)) = w0 at *
        have r0 := HR0.out.at 0 (.slice A1 n1 c1) rfl; have r1 := HR0.out.at 1 (.slice A2 n2 c2) rfl; have r2 := HR0.out.at 2 (.slice A3 n3 c3) rfl
        go_wp2_with (first
          | (go_at_call 8; ((with_reducible refine (CH _).mono ?_); rintro e w1 ⟨rfl, hg⟩; have HG1 := Lib.hid (grew_trans HG0.out hg); have HR1 := Lib.hid (HR0.out.keep hg); clear hg HR0 HG0 r0 r1 r2; have r0 := HR1.out.at 0 (.slice A1 n1 c1) rfl; have r1 := HR1.out.at 1 (.slice A2 n2 c2) rfl; have r2 := HR1.out.at 2 (.slice A3 n3 c3) rfl))
          | (go_at_call 13; ((with_reducible refine (C1 _ HG1.out).mono ?_); rintro e w2 ⟨rfl, hg⟩; have HG2 := Lib.hid (grew_trans HG1.out hg); clear hg HG1  r0 r1 r2 HR1))
          | (go_at_call 17; ((with_reducible refine (CV _).mono ?_); rintro e w3 ⟨rfl, hg⟩; have HG3 := Lib.hid (grew_trans HG2.out hg); clear hg HG2  )))
        go_ret
        exact ⟨rfl, HG3.out⟩
    · have hov : 300 < n := by omega
      clear CV h3 h
      go_enter Try.func6, Try.ntmps6
      go_upto_region 1 with (fail)
      generalize (w.alloc (.cells #[.slice A1 n1 c1, .slice A2 n2 c2, .slice A3 n3 c3] 26)) = w0 at *
      have r0 := HR0.out.at 0 (.slice A1 n1 c1) rfl; have r1 := HR0.out.at 1 (.slice A2 n2 c2) rfl; have r2 := HR0.out.at 2 (.slice A3 n3 c3) rfl
      go_wp2_with (go_at_call 8; ((with_reducible refine (CH _).mono ?_); rintro e w1 ⟨rfl, hg⟩; have HG1 := Lib.hid (grew_trans HG0.out hg); have HR1 := Lib.hid (HR0.out.keep hg); clear hg HR0 HG0 r0 r1 r2; have r0 := HR1.out.at 0 (.slice A1 n1 c1) rfl; have r1 := HR1.out.at 1 (.slice A2 n2 c2) rfl; have r2 := HR1.out.at 2 (.slice A3 n3 c3) rfl))
      go_ret
      exact ⟨rfl, HG1.out⟩
  · clear CV HHH h3
    go_enter Try.func6, Try.ntmps6
    go_upto_region 1 with (fail)
    generalize (w.alloc (.cells #[.slice A1 n1 c1, .slice A2 n2 c2, .slice A3 n3 c3] 26)) = w0 at *
    have r0 := HR0.out.at 0 (.slice A1 n1 c1) rfl; have r1 := HR0.out.at 1 (.slice A2 n2 c2) rfl; have r2 := HR0.out.at 2 (.slice A3 n3 c3) rfl
    go_wp2_with (go_at_call 8; ((with_reducible refine (CH _).mono ?_); rintro e w1 ⟨rfl, hg⟩; have HG1 := Lib.hid (grew_trans HG0.out hg); have HR1 := Lib.hid (HR0.out.keep hg); clear hg HR0 HG0 r0 r1 r2; have r0 := HR1.out.at 0 (.slice A1 n1 c1) rfl; have r1 := HR1.out.at 1 (.slice A2 n2 c2) rfl; have r2 := HR1.out.at 2 (.slice A3 n3 c3) rfl))
    go_ret
    exact ⟨rfl, HG1.out⟩
end Go.Proofs.Ytmlfijapglhjfaa.NumK
namespace Go.Proofs.Ytmlfijapglhjfaa.NumK
open Go.RowKit
set_option linter.unusedVariables false

theorem gridOthers_row (w : World) {cs0 : Array Value} {r : Rl} {B : Option Addr} {n c : Nat} {l : List Po} (who cur : Int) (h0 : spRl.rd w cs0.toList r) (h3 : RowE enPo w B n l) (hk : B = none → c = 0) :
    Calls Try.prog 6 #[.agg cs0, .int .i64 who, .int .i64 cur, .slice B n c] w fun e w' => e = .returned (.bool true) ∧ Grew w w' := by
  obtain ⟨A1, A2, A3, n1, n2, n3, c1, c2, c3, e, h⟩ := roll_of h0
  rw [e]
  exact gridOthers_walk r A1 A2 A3 n1 n2 n3 c1 c2 c3 B n c who cur l w h h3 hk
end Go.Proofs.Ytmlfijapglhjfaa.NumK
namespace Go.Proofs.Ytmlfijapglhjfaa.gridOthers
open Go.ChangeShapes Go.WideShapes Go.ChangeAt Go.RowKit
set_option linter.unusedVariables false

theorem own : ownKnob Try.prog.godebug = none := by kernel_rfl
theorem laidOut : laidOutB Try.prog = true := by kernel_rfl

set_option maxRecDepth 100000 in
theorem lifted (os : Os) (started : os.Started) (H : Type) (enc : TypeId × Value → H) :
    ReturnsInHanded {} Try.checked os 6 .any (Rows.gridOthersSpec.pre6 enc Try.prog Try.f6 Rows.gridOthersRow.domain false) (Rows.gridOthersSpec.post enc Try.prog Try.f6 false true false false) := by
  refine returnsInHanded_of_change (C := Try.checked) own started (by kernel_rfl) Try.func6
    (ChangeSpec.witness6 (enc := enc) (C := Try.checked) false ⟨#[], #[.agg #[.slice none 0 0, .slice none 0 0, .slice none 0 0], .int .i64 0, .int .i64 0, .slice none 0 0], []⟩ 8 (by kernel_rfl) (by kernel_rfl) (by kernel_rfl) (by kernel_rfl)) ?_
  intro W base args ds gs before hval0 hW hcnd _
  have hval : ∀ (j : Nat) t v, Try.f6.params[j]? = some t → args[j]? = some v → Value.okWide Try.prog W .any base t v := hval0
  have hW' := hW
  obtain ⟨p, q, hA0, hV, rfl, hfz, hnd⟩ := hW
  have hA : DataW.TrodAll enc Try.prog W 0 (fun _ => true) true Try.f6.params.toList args.toList ds p := hA0
  skip
  rw [Try.params6] at hA hval
  obtain ⟨v0, vs0, d0, ds0, p0, q0, hargs, rfl, rfl, h0, r0⟩ := trodAll_cons hA
  obtain ⟨v1, vs1, d1, ds1, p1, q1, rfl, rfl, rfl, h1, r1⟩ := trodAll_cons r0
  obtain ⟨v2, vs2, d2, ds2, p2, q2, rfl, rfl, rfl, h2, r2⟩ := trodAll_cons r1
  obtain ⟨v3, vs3, d3, ds3, p3, q3, rfl, rfl, rfl, h3, r3⟩ := trodAll_cons r2
  obtain ⟨rfl, rfl, rfl⟩ := trodAll_nil r3
  obtain rfl : args = #[v0, v1, v2, v3] := by cases args; simp_all
  obtain ⟨rfl, rfl⟩ := trodVars_none hV
  have k0 := h0
  have lt0 : ∀ x ∈ p0, x.block < W.heap.size := by obtain ⟨m, hm⟩ := k0; exact DataW.trod_lt m _ _ _ hm
  obtain ⟨cs0, x0, rfl, e0⟩ := NumK.arg_struct Try.underlying26 NumK.opens_roll (hval 0 26 v0 rfl rfl) h0
  obtain ⟨a1, rfl, rfl, rfl, w1⟩ := open_int Try.underlying3 (hval 1 3 v1 rfl rfl) h1
  obtain ⟨a2, rfl, rfl, rfl, w2⟩ := open_int Try.underlying3 (hval 2 3 v2 rfl rfl) h2
  have k3 := h3
  have lt3 : ∀ x ∈ p3, x.block < W.heap.size := by obtain ⟨m, hm⟩ := k3; exact DataW.trod_lt m _ _ _ hm
  obtain ⟨A3, len3, cap3, l3, rfl, ro3, n3, c3, m3⟩ := NumK.arg_slice Try.underlying27 NumK.opens_poss (hval 3 27 v3 rfl rfl) h3
  clear hA0 hval0
  refine (NumK.gridOthers_row W a1 a2 e0 (NumK.poss_of ro3) n3).mono fun e W' ⟨he, bel⟩ => ?_
  subst he
  exact ⟨_, rfl, _, _, _, [], _, [], hW', trodAll_mk1 (shut_bool Try.underlying4 _), (trodAll_cons_mk (Below.trod laidOut (by kernel_rfl) (of_decide_eq_true (by kernel_rfl)) k0 bel lt0) (trodAll_cons_mk (shut_int Try.underlying3 w1) (trodAll_cons_mk (shut_int Try.underlying3 w2) (trodAll_cons_mk (Below.trod laidOut (by kernel_rfl) (of_decide_eq_true (by kernel_rfl)) k3 bel lt3) trodAll_mk0)))), rfl, bel.frame _, fun h => by cases h⟩

theorem over : Rows.gridOthersRow.holds Try.pinned (OpenSpec.ofChange Rows.gridOthersSpec) :=
  OpenClaim.holds_of_wide 6 Try.f6 rfl rfl rfl rfl rfl rfl rfl ⟨rfl, rfl, rfl, rfl, rfl⟩ rfl rfl rfl rfl rfl (by kernel_rfl) Try.func6 (by kernel_rfl)
    (of_decide_eq_true (by kernel_rfl)) (by unfold Func.isWrapper; first | (rw [if_pos (by decide +kernel)]; kernel_rfl) | (rw [if_neg (by decide +kernel)]; exact ⟨rfl, rfl⟩))
    (fun os started H enc _ => lifted os started H enc)

/-! ### the statement -/
theorem proved : Rows.GridOthersSaid := over
end Go.Proofs.Ytmlfijapglhjfaa.gridOthers
