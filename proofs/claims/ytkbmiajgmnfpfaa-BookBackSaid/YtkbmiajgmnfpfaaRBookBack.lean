/-
  For every slice of acts and trade: what was entered and cancelled leaves the positions as they were, and so does what was corrected to itself; it is cancelled once; more than 500 acts the statement lets by.
-/
import Derived.Test.YtkbmiajgmnfpfaaRX
import Derived.Test.YtkbmiajgmnfpfaaRO
import Derived.Test.YtkbmiajgmnfpfaaRX2
import Derived.Test.YtkbmiajgmnfpfaaRows
import Derived.WalkKit
import Derived.ProofKit
import Derived.OpenShut
import Derived.ShutString
import Derived.ChangeOld
import Derived.Below
import Derived.Carry
namespace Go.Proofs.Ytkbmiajgmnfpfaa.NumK
open Go.RowKit
set_option linter.unusedVariables false

set_option maxRecDepth 100000 in
set_option maxHeartbeats 8000000 in
theorem bookBack_walk (A : Option Addr) (n c : Nat) (l : List Ac13) (t : Tr) (w : World) (h : RowE enAc13 w A n l) :
    Calls Try.prog 5 #[.slice A n c, vTr t] w fun e w' => e = .returned (.bool true) ∧ Grew w w' := by
  by_cases h5 : 500 < n
  · have k1 : (n : Int) > 500 := by omega
    clear h
    go_enter Try.func5, Try.ntmps5
    go_wp2
    go_ret
    exact ⟨rfl, grew_alloc _ _ _⟩
  · have k1 : ¬ (n : Int) > 500 := by omega
    have CG := fun w' (g : Grew w w') => grown13_any A n c l w' (h.keep g) (by omega)
    have hgb := GB.grow l 100
    unfold BookP at CG
    clear h
    generalize growL (l.take 100) = G at *
    have hlen := right_lens hgb.right
    have CE := fun A1 A2 c1 c2 w' (ho : InB w' G A1 A2 G.2.1.length G.2.2.length c1 c2) => enter_any G t A1 A2 _ _ c1 c2 w' ho ⟨by omega, by omega⟩
    unfold BookN at CE
    have CW := fun w' => wakes13_any w'
    by_cases he : enterE G t = 0
    · have hER := right_enter he
      have hEL := right_lens hER
      have hEN := enterN_ok he
      obtain ⟨b1, b2, b3⟩ := enter_cancel he
      have hCO := fun h1 h2 => enter_corr he h1 h2
      have hnx := hgb.next
      have CC := fun A1 A2 c1 c2 w' (ho : InB w' (enterB G t) A1 A2 (enterB G t).2.1.length (enterB G t).2.2.length c1 c2) => cancel_any (enterB G t) (G.1 + 1) A1 A2 _ _ c1 c2 w' ho ⟨by omega, by omega⟩
      have hDR := right_lens (right_cancel b1)
      have CD := fun A1 A2 c1 c2 w' (ho : InB w' (cancelB (enterB G t) (G.1 + 1)) A1 A2 (cancelB (enterB G t) (G.1 + 1)).2.1.length (cancelB (enterB G t) (G.1 + 1)).2.2.length c1 c2) => cancel_any (cancelB (enterB G t) (G.1 + 1)) (G.1 + 1) A1 A2 _ _ c1 c2 w' ho ⟨by omega, by omega⟩
      have CX := fun A1 A2 c1 c2 w' (ho : InB w' (enterB G t) A1 A2 (enterB G t).2.1.length (enterB G t).2.2.length c1 c2) => corr_any (enterB G t) (G.1 + 1) t.1.2.2.2.2.1 t.1.2.2.2.2.2 A1 A2 _ _ c1 c2 w' ho ⟨by omega, by omega⟩
      have hel : (enterB G t).2.1.length = G.2.1.length + 1 := by rw [enterB_ok he]; simp
      unfold BookE at CC CD
      unfold BookN at CX
      rw [he, hEN] at CE
      rw [b1] at CC
      rw [b3] at CD
      clear hER hEN b1 b3
      generalize corrE (enterB G t) (G.1 + 1) t.1.2.2.2.2.1 t.1.2.2.2.2.2 = ce at *
      generalize corrN (enterB G t) (G.1 + 1) t.1.2.2.2.2.1 t.1.2.2.2.2.2 = cn at *
      generalize corrB (enterB G t) (G.1 + 1) t.1.2.2.2.2.1 t.1.2.2.2.2.2 = X at *
      generalize cancelB (cancelB (enterB G t) (G.1 + 1)) (G.1 + 1) = DD at *
      generalize cancelB (enterB G t) (G.1 + 1) = D at *
      clear he
      generalize enterB G t = E at *
      obtain ⟨nx, lt, lp⟩ := G
      obtain ⟨ex, el, ep⟩ := E
      obtain ⟨dx, dl, dp⟩ := D
      obtain ⟨xx, xl, xp⟩ := X
      obtain ⟨yx, yl, yp⟩ := DD
      obtain ⟨⟨q1, q2, q3, q4, q5, q6⟩, q7⟩ := t
      dsimp only [vBk, vTr] at *
      obtain rfl : lp = dp := b2.symm
      have HEL2 := Lib.hid hel
      clear hel
      have HN1 : Hid (IntKind.i64.wrap (nx + 1 + 1) = nx + 2) := by show _ = _; rw [IntKind.wrap_i64]; have := ((rightB_iff _).1 hgb.right).1; dsimp only at this; omega
      have HT0 : Hid (OwnC (w.alloc (.cells #[.int .i64 q1, .int .i64 q2, .int .i64 q3, .int .i64 q4, .int .i64 q5, .int .i64 q6, .bool q7] 49)) w.heap.size [.int .i64 q1, .int .i64 q2, .int .i64 q3, .int .i64 q4, .int .i64 q5, .int .i64 q6, .bool q7]) := OwnC.new w [.int .i64 q1, .int .i64 q2, .int .i64 q3, .int .i64 q4, .int .i64 q5, .int .i64 q6, .bool q7] _ _ rfl
      have HG0 : Hid (Grew w (w.alloc (.cells #[.int .i64 q1, .int .i64 q2, .int .i64 q3, .int .i64 q4, .int .i64 q5, .int .i64 q6, .bool q7] 49))) := grew_alloc _ _ _
      go_enter Try.func5, Try.ntmps5
      go_upto_region 1 with fail
      generalize w.alloc (.cells #[.int .i64 q1, .int .i64 q2, .int .i64 q3, .int .i64 q4, .int .i64 q5, .int .i64 q6, .bool q7] 49) = w0 at *
      go_upto_region 4 with (go_at_call 24; ((with_reducible refine (CG _ HG0.out).mono ?_); rintro e w1 ⟨B1, B2, d1, d2, rfl, hb, hg⟩; have HB1 := Lib.hid (hb.in.keep (grew_alloc w1 #[.int .i64 nx, .slice B1 lt.length d1, .slice B2 lp.length d2] 25)); have HG1 := Lib.hid (grew_trans (grew_trans HG0.out hg) (grew_alloc w1 #[.int .i64 nx, .slice B1 lt.length d1, .slice B2 lp.length d2] 25)); have HT1 := Lib.hid ((HT0.out.keep hg).keep (grew_alloc w1 #[.int .i64 nx, .slice B1 lt.length d1, .slice B2 lp.length d2] 25)); have HX1 := Lib.hid (OwnC.new w1 [.int .i64 nx, .slice B1 lt.length d1, .slice B2 lp.length d2] 25 _ rfl); clear hb hg CG))
      generalize w1.alloc (.cells #[.int .i64 nx, .slice B1 lt.length d1, .slice B2 lp.length d2] 25) = w2 at *
      generalize w1.heap.size = H1 at *
      have x0 : w2.cell? ⟨H1, 0, none⟩ = some (.int .i64 nx) := HX1.out.at 0 _ rfl
      have x1 : w2.cell? ⟨H1, 1, none⟩ = some (.slice B1 lt.length d1) := HX1.out.at 1 _ rfl
      have x2 : w2.cell? ⟨H1, 2, none⟩ = some (.slice B2 lp.length d2) := HX1.out.at 2 _ rfl
      have t0 : w2.cell? ⟨w.heap.size, 0, none⟩ = some (.int .i64 q1) := HT1.out.at 0 _ rfl
      have t1 : w2.cell? ⟨w.heap.size, 1, none⟩ = some (.int .i64 q2) := HT1.out.at 1 _ rfl
      have t2 : w2.cell? ⟨w.heap.size, 2, none⟩ = some (.int .i64 q3) := HT1.out.at 2 _ rfl
      have t3 : w2.cell? ⟨w.heap.size, 3, none⟩ = some (.int .i64 q4) := HT1.out.at 3 _ rfl
      have t4 : w2.cell? ⟨w.heap.size, 4, none⟩ = some (.int .i64 q5) := HT1.out.at 4 _ rfl
      have t5 : w2.cell? ⟨w.heap.size, 5, none⟩ = some (.int .i64 q6) := HT1.out.at 5 _ rfl
      have t6 : w2.cell? ⟨w.heap.size, 6, none⟩ = some (.bool q7) := HT1.out.at 6 _ rfl
      go_upto_region 7 with (go_at_call 25; ((with_reducible refine (CE _ _ _ _ _ HB1.out).mono ?_); rintro e w3 ⟨E1, E2, e1, e2, rfl, hb, hg⟩; have HE2 := Lib.hid (hb.in.keep (grew_alloc w3 #[.int .i64 ex, .slice E1 el.length e1, .slice E2 ep.length e2] 25)); have HR2 := Lib.hid (grew_trans hg (grew_alloc w3 #[.int .i64 ex, .slice E1 el.length e1, .slice E2 ep.length e2] 25)); have HY2 := Lib.hid (OwnC.new w3 [.int .i64 ex, .slice E1 el.length e1, .slice E2 ep.length e2] 25 _ rfl); clear hb hg CE x0 x1 x2 t0 t1 t2 t3 t4 t5 t6))
      generalize w3.alloc (.cells #[.int .i64 ex, .slice E1 el.length e1, .slice E2 ep.length e2] 25) = w4 at *
      generalize w3.heap.size = H2 at *
      have y0 : w4.cell? ⟨H2, 0, none⟩ = some (.int .i64 ex) := HY2.out.at 0 _ rfl
      have y1 : w4.cell? ⟨H2, 1, none⟩ = some (.slice E1 el.length e1) := HY2.out.at 1 _ rfl
      have y2 : w4.cell? ⟨H2, 2, none⟩ = some (.slice E2 ep.length e2) := HY2.out.at 2 _ rfl
      go_upto_region 8 with (go_at_call 26; ((with_reducible refine (CC _ _ _ _ _ HE2.out).mono ?_); rintro e w5 ⟨D1, D2, f1, f2, rfl, hb, hg⟩; have HD3 := Lib.hid (hb.in.keep (grew_alloc w5 #[.int .i64 dx, .slice D1 dl.length f1, .slice D2 lp.length f2] 25)); have HR3 := Lib.hid (grew_trans hg (grew_alloc w5 #[.int .i64 dx, .slice D1 dl.length f1, .slice D2 lp.length f2] 25)); have HZ3 := Lib.hid (OwnC.new w5 [.int .i64 dx, .slice D1 dl.length f1, .slice D2 lp.length f2] 25 _ rfl); clear hb hg CC y0 y1 y2))
      generalize w5.alloc (.cells #[.int .i64 dx, .slice D1 dl.length f1, .slice D2 lp.length f2] 25) = w6 at *
      generalize w5.heap.size = H3 at *
      have HX3 := Lib.hid (HX1.out.keep (grew_trans HR2.out HR3.out))
      have x2 : w6.cell? ⟨H1, 2, none⟩ = some (.slice B2 lp.length d2) := HX3.out.at 2 _ rfl
      have z2 : w6.cell? ⟨H3, 2, none⟩ = some (.slice D2 lp.length f2) := HZ3.out.at 2 _ rfl
      have CP := keepPoss_yes D2 B2 lp.length f2 d2 lp w6 HD3.out.p (HB1.out.p.keep (grew_trans HR2.out HR3.out)) (by omega)
      go_upto_region 10 with (go_at_call 27; ((with_reducible refine CP.mono ?_); rintro e w7 ⟨rfl, hg⟩; have HR4 := Lib.hid hg; clear hg CP x2 z2))
      have HZ4 := Lib.hid (HZ3.out.keep HR4.out)
      have z0 : w7.cell? ⟨H3, 0, none⟩ = some (.int .i64 dx) := HZ4.out.at 0 _ rfl
      have z1 : w7.cell? ⟨H3, 1, none⟩ = some (.slice D1 dl.length f1) := HZ4.out.at 1 _ rfl
      have z2 : w7.cell? ⟨H3, 2, none⟩ = some (.slice D2 lp.length f2) := HZ4.out.at 2 _ rfl
      go_upto_region 13 with (go_at_call 26; ((with_reducible refine (CD _ _ _ _ _ (HD3.out.keep HR4.out)).mono ?_); rintro e w8 ⟨Y1, Y2, y1, y2, rfl, hb, hg⟩; have HR5 := Lib.hid hg; clear hb hg CD z0 z1 z2))
      have HR6 := Lib.hid (grew_trans HR3.out (grew_trans HR4.out HR5.out))
      have HY5 := Lib.hid (HY2.out.keep HR6.out)
      have HT5 := Lib.hid (HT1.out.keep (grew_trans HR2.out HR6.out))
      have HGW := Lib.hid (grew_trans HG1.out (grew_trans HR2.out HR6.out))
      have y0 : w8.cell? ⟨H2, 0, none⟩ = some (.int .i64 ex) := HY5.out.at 0 _ rfl
      have y1 : w8.cell? ⟨H2, 1, none⟩ = some (.slice E1 el.length e1) := HY5.out.at 1 _ rfl
      have y2 : w8.cell? ⟨H2, 2, none⟩ = some (.slice E2 ep.length e2) := HY5.out.at 2 _ rfl
      have t0 : w8.cell? ⟨w.heap.size, 0, none⟩ = some (.int .i64 q1) := HT5.out.at 0 _ rfl
      have t1 : w8.cell? ⟨w.heap.size, 1, none⟩ = some (.int .i64 q2) := HT5.out.at 1 _ rfl
      have t2 : w8.cell? ⟨w.heap.size, 2, none⟩ = some (.int .i64 q3) := HT5.out.at 2 _ rfl
      have t3 : w8.cell? ⟨w.heap.size, 3, none⟩ = some (.int .i64 q4) := HT5.out.at 3 _ rfl
      have t4 : w8.cell? ⟨w.heap.size, 4, none⟩ = some (.int .i64 q5) := HT5.out.at 4 _ rfl
      have t5 : w8.cell? ⟨w.heap.size, 5, none⟩ = some (.int .i64 q6) := HT5.out.at 5 _ rfl
      have t6 : w8.cell? ⟨w.heap.size, 6, none⟩ = some (.bool q7) := HT5.out.at 6 _ rfl
      by_cases hf : 128 ≤ el.length
      · have i1 : (el.length : Int) ≥ 128 := by omega
        go_wp2_with (go_at_call 23; ((with_reducible refine (CW _).mono ?_); rintro e w9 ⟨rfl, hg⟩; have HG9 := Lib.hid (grew_trans HGW.out hg); clear hg))
        go_ret
        exact ⟨rfl, HG9.out⟩
      · have i1 : ¬ (el.length : Int) ≥ 128 := by omega
        obtain ⟨m1, m2, m3⟩ := hCO (by have := HEL2.out; omega) (by omega)
        subst m1 m2
        obtain rfl : xp = ep := m3
        go_upto_region 16 with (go_at_call 28; ((with_reducible refine (CX _ _ _ _ _ (HE2.out.keep HR6.out)).mono ?_); rintro e w9 ⟨X1, X2, g1, g2, rfl, hb, hg⟩; have HX9 := Lib.hid (hb.in.keep (grew_alloc w9 #[.int .i64 xx, .slice X1 xl.length g1, .slice X2 xp.length g2] 25)); have HR9 := Lib.hid (grew_trans hg (grew_alloc w9 #[.int .i64 xx, .slice X1 xl.length g1, .slice X2 xp.length g2] 25)); have HV9 := Lib.hid (OwnC.new w9 [.int .i64 xx, .slice X1 xl.length g1, .slice X2 xp.length g2] 25 _ rfl); clear hb hg CX y0 y1 y2 t0 t1 t2 t3 t4 t5 t6))
        generalize w9.alloc (.cells #[.int .i64 xx, .slice X1 xl.length g1, .slice X2 xp.length g2] 25) = wA at *
        generalize w9.heap.size = H4 at *
        have HYA := Lib.hid (HY5.out.keep HR9.out)
        have y2 : wA.cell? ⟨H2, 2, none⟩ = some (.slice E2 xp.length e2) := HYA.out.at 2 _ rfl
        have v2 : wA.cell? ⟨H4, 2, none⟩ = some (.slice X2 xp.length g2) := HV9.out.at 2 _ rfl
        have CP := keepPoss_yes X2 E2 xp.length g2 e2 xp wA HX9.out.p (HE2.out.p.keep (grew_trans HR6.out HR9.out)) (by omega)
        have hn1 := HN1.out
        go_wp2_with (first
          | (go_at_call 27; ((with_reducible refine CP.mono ?_); rintro e wB ⟨rfl, hg⟩; have HRB := Lib.hid hg; clear hg))
          | (go_at_call 23; ((with_reducible refine (CW _).mono ?_); rintro e wC ⟨rfl, hg⟩; have HG9 := Lib.hid (grew_trans HGW.out (grew_trans HR9.out (grew_trans HRB.out hg))); clear hg)))
        go_ret
        exact ⟨rfl, HG9.out⟩
    · have CE2 := CE
      clear CE
      generalize enterE G t = ee at *
      generalize enterN G t = en at *
      generalize enterB G t = E at *
      obtain ⟨nx, lt, lp⟩ := G
      obtain ⟨ex, el, ep⟩ := E
      obtain ⟨⟨q1, q2, q3, q4, q5, q6⟩, q7⟩ := t
      dsimp only [vBk, vTr] at *
      have d9 : (ee != 0) = true := by simpa using he
      have HT0 : Hid (OwnC (w.alloc (.cells #[.int .i64 q1, .int .i64 q2, .int .i64 q3, .int .i64 q4, .int .i64 q5, .int .i64 q6, .bool q7] 49)) w.heap.size [.int .i64 q1, .int .i64 q2, .int .i64 q3, .int .i64 q4, .int .i64 q5, .int .i64 q6, .bool q7]) := OwnC.new w [.int .i64 q1, .int .i64 q2, .int .i64 q3, .int .i64 q4, .int .i64 q5, .int .i64 q6, .bool q7] _ _ rfl
      have HG0 : Hid (Grew w (w.alloc (.cells #[.int .i64 q1, .int .i64 q2, .int .i64 q3, .int .i64 q4, .int .i64 q5, .int .i64 q6, .bool q7] 49))) := grew_alloc _ _ _
      go_enter Try.func5, Try.ntmps5
      go_upto_region 1 with fail
      generalize w.alloc (.cells #[.int .i64 q1, .int .i64 q2, .int .i64 q3, .int .i64 q4, .int .i64 q5, .int .i64 q6, .bool q7] 49) = w0 at *
      go_upto_region 4 with (go_at_call 24; ((with_reducible refine (CG _ HG0.out).mono ?_); rintro e w1 ⟨B1, B2, d1, d2, rfl, hb, hg⟩; have HB1 := Lib.hid (hb.in.keep (grew_alloc w1 #[.int .i64 nx, .slice B1 lt.length d1, .slice B2 lp.length d2] 25)); have HG1 := Lib.hid (grew_trans (grew_trans HG0.out hg) (grew_alloc w1 #[.int .i64 nx, .slice B1 lt.length d1, .slice B2 lp.length d2] 25)); have HT1 := Lib.hid ((HT0.out.keep hg).keep (grew_alloc w1 #[.int .i64 nx, .slice B1 lt.length d1, .slice B2 lp.length d2] 25)); have HX1 := Lib.hid (OwnC.new w1 [.int .i64 nx, .slice B1 lt.length d1, .slice B2 lp.length d2] 25 _ rfl); clear hb hg CG))
      generalize w1.alloc (.cells #[.int .i64 nx, .slice B1 lt.length d1, .slice B2 lp.length d2] 25) = w2 at *
      generalize w1.heap.size = H1 at *
      have x0 : w2.cell? ⟨H1, 0, none⟩ = some (.int .i64 nx) := HX1.out.at 0 _ rfl
      have x1 : w2.cell? ⟨H1, 1, none⟩ = some (.slice B1 lt.length d1) := HX1.out.at 1 _ rfl
      have x2 : w2.cell? ⟨H1, 2, none⟩ = some (.slice B2 lp.length d2) := HX1.out.at 2 _ rfl
      have t0 : w2.cell? ⟨w.heap.size, 0, none⟩ = some (.int .i64 q1) := HT1.out.at 0 _ rfl
      have t1 : w2.cell? ⟨w.heap.size, 1, none⟩ = some (.int .i64 q2) := HT1.out.at 1 _ rfl
      have t2 : w2.cell? ⟨w.heap.size, 2, none⟩ = some (.int .i64 q3) := HT1.out.at 2 _ rfl
      have t3 : w2.cell? ⟨w.heap.size, 3, none⟩ = some (.int .i64 q4) := HT1.out.at 3 _ rfl
      have t4 : w2.cell? ⟨w.heap.size, 4, none⟩ = some (.int .i64 q5) := HT1.out.at 4 _ rfl
      have t5 : w2.cell? ⟨w.heap.size, 5, none⟩ = some (.int .i64 q6) := HT1.out.at 5 _ rfl
      have t6 : w2.cell? ⟨w.heap.size, 6, none⟩ = some (.bool q7) := HT1.out.at 6 _ rfl
      go_wp2_with (first
        | (go_at_call 25; ((with_reducible refine (CE2 _ _ _ _ _ HB1.out).mono ?_); rintro e w3 ⟨E1, E2, e1, e2, rfl, hb, hg⟩; have HG3 := Lib.hid (grew_trans HG1.out (grew_trans hg (grew_alloc w3 #[.int .i64 ex, .slice E1 el.length e1, .slice E2 ep.length e2] 25))); clear hb hg))
        | (go_at_call 23; ((with_reducible refine (CW _).mono ?_); rintro e w5 ⟨rfl, hg⟩; have HG5 := Lib.hid (grew_trans HG3.out hg); clear hg)))
      go_ret
      exact ⟨rfl, HG5.out⟩
end Go.Proofs.Ytkbmiajgmnfpfaa.NumK
namespace Go.Proofs.Ytkbmiajgmnfpfaa.NumK
open Go.RowKit
set_option linter.unusedVariables false

theorem bookBack_row (w : World) {cs1 : Array Value} {t : Tr} {A : Option Addr} {n c : Nat} {l : List Ac13} (h0 : RowE enAc13 w A n l) (h1 : spTr.rd w cs1.toList t) :
    Calls Try.prog 5 #[.slice A n c, .agg cs1] w fun e w' => e = .returned (.bool true) ∧ Grew w w' := by
  rw [tr_of h1]
  exact bookBack_walk A n c l t w h0
end Go.Proofs.Ytkbmiajgmnfpfaa.NumK
namespace Go.Proofs.Ytkbmiajgmnfpfaa.bookBack
open Go.ChangeShapes Go.WideShapes Go.ChangeAt Go.RowKit
set_option linter.unusedVariables false

theorem own : ownKnob Try.prog.godebug = none := by kernel_rfl
theorem laidOut : laidOutB Try.prog = true := by kernel_rfl

set_option maxRecDepth 100000 in
theorem lifted (os : Os) (started : os.Started) (H : Type) (enc : TypeId × Value → H) :
    ReturnsInHanded {} Try.checked os 5 .any (Rows.bookBackSpec.pre6 enc Try.prog Try.f5 Rows.bookBackRow.domain false) (Rows.bookBackSpec.post enc Try.prog Try.f5 false true false false) := by
  refine returnsInHanded_of_change (C := Try.checked) own started (by kernel_rfl) Try.func5
    (ChangeSpec.witness6 (enc := enc) (C := Try.checked) false ⟨#[], #[.slice none 0 0, .agg #[.int .i64 0, .int .i64 0, .int .i64 0, .int .i64 0, .int .i64 0, .int .i64 0, .bool false]], []⟩ 8 (by kernel_rfl) (by kernel_rfl) (by kernel_rfl) (by kernel_rfl)) ?_
  intro W base args ds gs before hval0 hW hcnd _
  have hval : ∀ (j : Nat) t v, Try.f5.params[j]? = some t → args[j]? = some v → Value.okWide Try.prog W .any base t v := hval0
  have hW' := hW
  obtain ⟨p, q, hA0, hV, rfl, hfz, hnd⟩ := hW
  have hA : DataW.TrodAll enc Try.prog W 0 (fun _ => true) true Try.f5.params.toList args.toList ds p := hA0
  skip
  rw [Try.params5] at hA hval
  obtain ⟨v0, vs0, d0, ds0, p0, q0, hargs, rfl, rfl, h0, r0⟩ := trodAll_cons hA
  obtain ⟨v1, vs1, d1, ds1, p1, q1, rfl, rfl, rfl, h1, r1⟩ := trodAll_cons r0
  obtain ⟨rfl, rfl, rfl⟩ := trodAll_nil r1
  obtain rfl : args = #[v0, v1] := by cases args; simp_all
  obtain ⟨rfl, rfl⟩ := trodVars_none hV
  have k0 := h0
  have lt0 : ∀ x ∈ p0, x.block < W.heap.size := by obtain ⟨m, hm⟩ := k0; exact DataW.trod_lt m _ _ _ hm
  obtain ⟨A0, len0, cap0, l0, rfl, ro0, n0, c0, m0⟩ := NumK.arg_slice Try.underlying45 NumK.opens_acts (hval 0 45 v0 rfl rfl) h0
  have k1 := h1
  have lt1 : ∀ x ∈ p1, x.block < W.heap.size := by obtain ⟨m, hm⟩ := k1; exact DataW.trod_lt m _ _ _ hm
  obtain ⟨cs1, x1, rfl, e1⟩ := NumK.arg_struct Try.underlying49 NumK.opens_trade (hval 1 49 v1 rfl rfl) h1
  clear hA0 hval0
  refine (NumK.bookBack_row W (NumK.acs13_of ro0) e1).mono fun e W' ⟨he, bel⟩ => ?_
  subst he
  exact ⟨_, rfl, _, _, _, [], _, [], hW', trodAll_mk1 (shut_bool Try.underlying4 _), (trodAll_cons_mk (Below.trod laidOut (by kernel_rfl) (of_decide_eq_true (by kernel_rfl)) k0 bel lt0) (trodAll_cons_mk (Below.trod laidOut (by kernel_rfl) (of_decide_eq_true (by kernel_rfl)) k1 bel lt1) trodAll_mk0)), rfl, bel.frame _, fun h => by cases h⟩

theorem over : Rows.bookBackRow.holds Try.pinned (OpenSpec.ofChange Rows.bookBackSpec) :=
  OpenClaim.holds_of_wide 5 Try.f5 rfl rfl rfl rfl rfl rfl rfl ⟨rfl, rfl, rfl, rfl, rfl⟩ rfl rfl rfl rfl rfl (by kernel_rfl) Try.func5 (by kernel_rfl)
    (of_decide_eq_true (by kernel_rfl)) (by unfold Func.isWrapper; first | (rw [if_pos (by decide +kernel)]; kernel_rfl) | (rw [if_neg (by decide +kernel)]; exact ⟨rfl, rfl⟩))
    (fun os started H enc _ => lifted os started H enc)

/-! ### the statement -/
theorem proved : Rows.BookBackSaid := over
end Go.Proofs.Ytkbmiajgmnfpfaa.bookBack
