/-
  For every roll, member, instrument and asset: to admit, list, hold, tell and put tell the roll and the error that the reference tells, and leave the roll as it was; rolls of more than 100 rows the statement lets by.
-/
import Derived.Test.YtnbgbfbiieimgaaRT
import Derived.Test.YtnbgbfbiieimgaaRU
import Derived.Test.YtnbgbfbiieimgaaRV
import Derived.Test.YtnbgbfbiieimgaaRW
import Derived.Test.YtnbgbfbiieimgaaRows
import Derived.WalkKit
import Derived.ProofKit
import Derived.OpenShut
import Derived.ShutString
import Derived.ChangeOld
import Derived.Below
import Derived.Carry
namespace Go.Proofs.Ytnbgbfbiieimgaa.NumK
open Go.RowKit
set_option linter.unusedVariables false

set_option maxRecDepth 100000 in
set_option maxHeartbeats 8000000 in
theorem rollExact_walk (r : Rl) (who need : Int) (ii : In) (aa : As) (no price state : Int) (A1 A2 A3 : Option Addr) (n1 n2 n3 c1 c2 c3 : Nat) (w : World) (h : In3 w r A1 A2 A3 n1 n2 n3 c1 c2 c3) :
    Calls Try.prog 4 #[rlV A1 A2 A3 n1 n2 n3 c1 c2 c3, .int .i64 who, .int .i64 need, vIn ii, vAs aa, .int .i64 no, .int .i64 price, .int .i64 state] w fun e w' => e = .returned (.bool true) ∧ Grew w w' := by
  obtain ⟨⟨q1, q2, q3, q4, q5, q6⟩, ⟨q7, q8, q9, q10, q11, q12⟩⟩ := ii
  obtain ⟨h1, h2, h3, h4⟩ := aa
  obtain rfl : r.1.length = n1 := h.rows.m.len
  obtain rfl : r.2.1.length = n2 := h.rows.i.len
  obtain rfl : r.2.2.length = n3 := h.rows.h.len
  have C0 := fun w' => heavy11_any A1 A2 A3 r.1.length r.2.1.length r.2.2.length c1 c2 c3 w'
  have HH : Hid (heavyR r.1.length r.2.1.length r.2.2.length = true ∨ (r.1.length ≤ 100 ∧ r.2.1.length ≤ 100 ∧ r.2.2.length ≤ 100)) := by
    show _ ∨ _
    unfold heavyR
    simp only [Bool.or_eq_true, decide_eq_true_eq]
    omega
  dsimp only [rlV, vIn, vAs] at C0 ⊢
  have HG0 : Hid (Grew w (((w.alloc (.cells #[.slice A1 r.1.length c1, .slice A2 r.2.1.length c2, .slice A3 r.2.2.length c3] 26)).alloc (.cells #[.int .i64 q1, .int .i64 q2, .int .i64 q3, .int .i64 q4, .int .i64 q5, .int .i64 q6, .int .i64 q7, .int .i64 q8, .int .i64 q9, .int .i64 q10, .int .i64 q11, .int .i64 q12] 38)).alloc (.cells #[.int .i64 h1, .int .i64 h2, .int .i64 h3, .int .i64 h4] 42))) := grew_trans (grew_trans (grew_alloc _ _ _) (grew_alloc _ _ _)) (grew_alloc _ _ _)
  have HR : Hid (OwnC (((w.alloc (.cells #[.slice A1 r.1.length c1, .slice A2 r.2.1.length c2, .slice A3 r.2.2.length c3] 26)).alloc (.cells #[.int .i64 q1, .int .i64 q2, .int .i64 q3, .int .i64 q4, .int .i64 q5, .int .i64 q6, .int .i64 q7, .int .i64 q8, .int .i64 q9, .int .i64 q10, .int .i64 q11, .int .i64 q12] 38)).alloc (.cells #[.int .i64 h1, .int .i64 h2, .int .i64 h3, .int .i64 h4] 42)) w.heap.size [.slice A1 r.1.length c1, .slice A2 r.2.1.length c2, .slice A3 r.2.2.length c3]) := ((OwnC.new w [.slice A1 r.1.length c1, .slice A2 r.2.1.length c2, .slice A3 r.2.2.length c3] _ _ rfl).keep (grew_alloc _ _ _)).keep (grew_alloc _ _ _)
  have HB : Hid (OwnC (((w.alloc (.cells #[.slice A1 r.1.length c1, .slice A2 r.2.1.length c2, .slice A3 r.2.2.length c3] 26)).alloc (.cells #[.int .i64 q1, .int .i64 q2, .int .i64 q3, .int .i64 q4, .int .i64 q5, .int .i64 q6, .int .i64 q7, .int .i64 q8, .int .i64 q9, .int .i64 q10, .int .i64 q11, .int .i64 q12] 38)).alloc (.cells #[.int .i64 h1, .int .i64 h2, .int .i64 h3, .int .i64 h4] 42)) (w.heap.size + 1) [.int .i64 q1, .int .i64 q2, .int .i64 q3, .int .i64 q4, .int .i64 q5, .int .i64 q6, .int .i64 q7, .int .i64 q8, .int .i64 q9, .int .i64 q10, .int .i64 q11, .int .i64 q12]) := (OwnC.new (w.alloc (.cells #[.slice A1 r.1.length c1, .slice A2 r.2.1.length c2, .slice A3 r.2.2.length c3] 26)) [.int .i64 q1, .int .i64 q2, .int .i64 q3, .int .i64 q4, .int .i64 q5, .int .i64 q6, .int .i64 q7, .int .i64 q8, .int .i64 q9, .int .i64 q10, .int .i64 q11, .int .i64 q12] _ _ (by simp)).keep (grew_alloc _ _ _)
  have HC : Hid (OwnC (((w.alloc (.cells #[.slice A1 r.1.length c1, .slice A2 r.2.1.length c2, .slice A3 r.2.2.length c3] 26)).alloc (.cells #[.int .i64 q1, .int .i64 q2, .int .i64 q3, .int .i64 q4, .int .i64 q5, .int .i64 q6, .int .i64 q7, .int .i64 q8, .int .i64 q9, .int .i64 q10, .int .i64 q11, .int .i64 q12] 38)).alloc (.cells #[.int .i64 h1, .int .i64 h2, .int .i64 h3, .int .i64 h4] 42)) (w.heap.size + 2) [.int .i64 h1, .int .i64 h2, .int .i64 h3, .int .i64 h4]) := OwnC.new ((w.alloc (.cells #[.slice A1 r.1.length c1, .slice A2 r.2.1.length c2, .slice A3 r.2.2.length c3] 26)).alloc (.cells #[.int .i64 q1, .int .i64 q2, .int .i64 q3, .int .i64 q4, .int .i64 q5, .int .i64 q6, .int .i64 q7, .int .i64 q8, .int .i64 q9, .int .i64 q10, .int .i64 q11, .int .i64 q12] 38)) [.int .i64 h1, .int .i64 h2, .int .i64 h3, .int .i64 h4] _ _ (by simp)
  have HI := Lib.hid (h.keep HG0.out)
  clear h
  cases hhv : heavyR r.1.length r.2.1.length r.2.2.length
  · rw [hhv] at C0 HH
    have HN : Hid (r.1.length ≤ 100 ∧ r.2.1.length ≤ 100 ∧ r.2.2.length ≤ 100) := HH.out.resolve_left (by decide)
    clear HH hhv
    go_enter Try.func4, Try.ntmps4
    go_upto_region 1 with fail
    generalize (((w.alloc (.cells #[.slice A1 r.1.length c1, .slice A2 r.2.1.length c2, .slice A3 r.2.2.length c3] 26)).alloc (.cells #[.int .i64 q1, .int .i64 q2, .int .i64 q3, .int .i64 q4, .int .i64 q5, .int .i64 q6, .int .i64 q7, .int .i64 q8, .int .i64 q9, .int .i64 q10, .int .i64 q11, .int .i64 q12] 38)).alloc (.cells #[.int .i64 h1, .int .i64 h2, .int .i64 h3, .int .i64 h4] 42)) = w0 at *
    have HG := HG0
    clear HG0
    have z0 := (HR.out).at 0 _ rfl
    have z1 := (HR.out).at 1 _ rfl
    have z2 := (HR.out).at 2 _ rfl
    go_upto_region 3 with (go_at_call 9; ((with_reducible refine (C0 _).mono ?_); rintro e w1 ⟨rfl, hg⟩; replace HR := Lib.hid (HR.out.keep hg); replace HI := Lib.hid (HI.out.keep hg); replace HB := Lib.hid (HB.out.keep hg); replace HC := Lib.hid (HC.out.keep hg); replace HG := Lib.hid (grew_trans HG.out hg); clear hg z0 z1 z2))
    have C1 := twinRoll_any r A1 A2 A3 r.1.length r.2.1.length r.2.2.length c1 c2 c3 w1 HI.out (by have := HN.out; omega)
    dsimp only [rlV] at C1
    have z0 := (HR.out).at 0 _ rfl
    have z1 := (HR.out).at 1 _ rfl
    have z2 := (HR.out).at 2 _ rfl
    go_upto_region 4 with (go_at_call 10; ((with_reducible refine C1.mono ?_); rintro e w2 ⟨T1, T2, T3, t1, t2, t3, rfl, ho, hg⟩; dsimp only [rlV]; have HTO := Lib.hid ho.1; replace HR := Lib.hid (HR.out.keep hg); replace HI := Lib.hid (HI.out.keep hg); replace HB := Lib.hid (HB.out.keep hg); replace HC := Lib.hid (HC.out.keep hg); replace HG := Lib.hid (grew_trans HG.out hg); clear hg ho z0 z1 z2))
    have HT : Hid (OwnC (w2.alloc (.cells #[.slice T1 r.1.length t1, .slice T2 r.2.1.length t2, .slice T3 r.2.2.length t3] 26)) w2.heap.size [.slice T1 r.1.length t1, .slice T2 r.2.1.length t2, .slice T3 r.2.2.length t3]) := OwnC.new w2 [.slice T1 r.1.length t1, .slice T2 r.2.1.length t2, .slice T3 r.2.2.length t3] _ _ rfl
    have hal := grew_alloc w2 #[.slice T1 r.1.length t1, .slice T2 r.2.1.length t2, .slice T3 r.2.2.length t3] 26
    have HTI := Lib.hid (HTO.out.in3.keep hal)
    replace HR := Lib.hid (HR.out.keep hal)
    replace HI := Lib.hid (HI.out.keep hal)
    replace HB := Lib.hid (HB.out.keep hal)
    replace HC := Lib.hid (HC.out.keep hal)
    replace HG := Lib.hid (grew_trans HG.out hal)
    clear HTO C1 C0 hal
    generalize (w2.alloc (.cells #[.slice T1 r.1.length t1, .slice T2 r.2.1.length t2, .slice T3 r.2.2.length t3] 26)) = w3 at *
    generalize w2.heap.size = tb at *
    have HR3 := HR
    have HI3 := HI
    have HB3 := HB
    have HC3 := HC
    have HT3 := HT
    have HTI3 := HTI
    clear HR HI HB HC HT HTI
    go_wp2
    go_loopw [18] (fun v wr => ∃ (k : Nat), v = .int .i64 k ∧ k ≤ 5 ∧ Hid (Grew w3 wr)) (fun v _ => 6 - (intOf v).toNat)
    case atStart => exact ⟨0, rfl, by omega, grew_refl _⟩
    case round =>
      obtain ⟨k, rfl, hk, HG4⟩ := hrel
      by_cases hk5 : k < 5
      · have k5 : (k : Int) < 5 := by omega
        have HR := Lib.hid (HR3.out.keep HG4.out)
        have HI := Lib.hid (HI3.out.keep HG4.out)
        have HB := Lib.hid (HB3.out.keep HG4.out)
        have HC := Lib.hid (HC3.out.keep HG4.out)
        have HT := Lib.hid (HT3.out.keep HG4.out)
        have HTI := Lib.hid (HTI3.out.keep HG4.out)
        have HGa : Hid (Grew wr ((wr.alloc (.cells #[.slice none 0 0, .slice none 0 0, .slice none 0 0] 26)).alloc (.cells #[.slice none 0 0, .slice none 0 0, .slice none 0 0] 26))) := grew_trans (grew_alloc _ _ _) (grew_alloc _ _ _)
        have O19 : Hid (OwnC ((wr.alloc (.cells #[.slice none 0 0, .slice none 0 0, .slice none 0 0] 26)).alloc (.cells #[.slice none 0 0, .slice none 0 0, .slice none 0 0] 26)) wr.heap.size [.slice none 0 0, .slice none 0 0, .slice none 0 0]) := (OwnC.new wr [.slice none 0 0, .slice none 0 0, .slice none 0 0] _ _ rfl).keep (grew_alloc _ _ _)
        have O20 : Hid (OwnC ((wr.alloc (.cells #[.slice none 0 0, .slice none 0 0, .slice none 0 0] 26)).alloc (.cells #[.slice none 0 0, .slice none 0 0, .slice none 0 0] 26)) (wr.heap.size + 1) [.slice none 0 0, .slice none 0 0, .slice none 0 0]) := OwnC.new (wr.alloc (.cells #[.slice none 0 0, .slice none 0 0, .slice none 0 0] 26)) [.slice none 0 0, .slice none 0 0, .slice none 0 0] _ _ (by simp)
        have HL19 : Hid (wr.heap.size < ((wr.alloc (.cells #[.slice none 0 0, .slice none 0 0, .slice none 0 0] 26)).alloc (.cells #[.slice none 0 0, .slice none 0 0, .slice none 0 0] 26)).heap.size) := O19.out.lt
        have HL20 : Hid (wr.heap.size + 1 < ((wr.alloc (.cells #[.slice none 0 0, .slice none 0 0, .slice none 0 0] 26)).alloc (.cells #[.slice none 0 0, .slice none 0 0, .slice none 0 0] 26)).heap.size) := O20.out.lt
        have HNE : Hid (wr.heap.size + 1 ≠ wr.heap.size) := by show _ ≠ _; omega
        go_upto_region 8 with fail
        generalize ((wr.alloc (.cells #[.slice none 0 0, .slice none 0 0, .slice none 0 0] 26)).alloc (.cells #[.slice none 0 0, .slice none 0 0, .slice none 0 0] 26)) = wa at *
        have HW19 : Hid (wr.heap.size ≤ wr.heap.size) := Nat.le_refl _
        have HW20 : Hid (wr.heap.size ≤ wr.heap.size + 1) := Nat.le_succ _
        generalize hbb20 : wr.heap.size + 1 = b20 at *
        clear hbb20
        have HGc := HGa
        have hbne : ∀ E : Int, (E != E) = false := fun E => by simp

        obtain rfl | rfl | rfl | rfl | rfl : k = 0 ∨ k = 1 ∨ k = 2 ∨ k = 3 ∨ k = 4 := by omega
        · have HDL := Lib.hid ((by have := do_len r (0, who, need, in0, as0); rw [doP_admit] at this; exact this))
          have CP := fun w' (g : Grew wr w') => admit_any r who need T1 T2 T3 r.1.length r.2.1.length r.2.2.length t1 t2 t3 w' (HTI.out.keep g) (by have := HN.out; omega)
          have CQ := fun w' (g : Grew wr w') => radmit_any r who need A1 A2 A3 r.1.length r.2.1.length r.2.2.length c1 c2 c3 w' (HI.out.keep g) (by have := HN.out; omega)
          obtain ⟨⟨P, E⟩, hP⟩ : ∃ X, admitP r who need = X := ⟨_, rfl⟩
          rw [hP] at CP CQ HDL
          clear hP
          dsimp only [rlV, vIn, vAs] at CP CQ HDL
          go_upto_region 13 with fail
          have z0 := (HT.out.keep HGc.out).at 0 _ rfl
          have z1 := (HT.out.keep HGc.out).at 1 _ rfl
          have z2 := (HT.out.keep HGc.out).at 2 _ rfl

          have o0 := (O19.out).at 0 _ rfl
          have o1 := (O19.out).at 1 _ rfl
          have o2 := (O19.out).at 2 _ rfl
          have v0 := (O19.out).fr 0 (by show 0 < 3; omega)
          have v1 := (O19.out).fr 1 (by show 1 < 3; omega)
          have v2 := (O19.out).fr 2 (by show 2 < 3; omega)
          go_upto_region 14 with (go_at_call 31; ((with_reducible refine (CP _ HGc.out).mono ?_); rintro e wb ⟨D1, D2, D3, d1, d2, d3, rfl, ho, hg⟩; dsimp only [rlV]; clear z0 z1 z2 o0 o1 o2 v0 v1 v2; have HDO := Lib.hid ho; have HGb := Lib.hid hg; have o0 := (O19.out.keep hg).at 0 _ rfl; have o1 := (O19.out.keep hg).at 1 _ rfl; have o2 := (O19.out.keep hg).at 2 _ rfl; have v0 := (O19.out.keep hg).fr 0 (by show 0 < 3; omega); have v1 := (O19.out.keep hg).fr 1 (by show 1 < 3; omega); have v2 := (O19.out.keep hg).fr 2 (by show 2 < 3; omega); clear ho hg))
          have N19 := Lib.hid ((O19.out.keep HGb.out).all [.slice D1 P.1.length d1, .slice D2 P.2.1.length d2, .slice D3 P.2.2.length d3] rfl)
          have N20 := Lib.hid ((O20.out.keep HGb.out).putO (b2 := wr.heap.size) HNE.out.symm [.slice D1 P.1.length d1, .slice D2 P.2.1.length d2, .slice D3 P.2.2.length d3] 0)
          have NDO := Lib.hid (HDO.out.put [.slice D1 P.1.length d1, .slice D2 P.2.1.length d2, .slice D3 P.2.2.length d3] 0 HL19.out)
          have SZ1 : Hid (wa.heap.size ≤ (putC wb wr.heap.size 0 [.slice D1 P.1.length d1, .slice D2 P.2.1.length d2, .slice D3 P.2.2.length d3]).heap.size) := by show _ ≤ _; rw [size_put]; exact HGb.out.size
          have HGz : Hid (Grew wr (putC wb wr.heap.size 0 [.slice D1 P.1.length d1, .slice D2 P.2.1.length d2, .slice D3 P.2.2.length d3])) := grew_put wr.heap.size HW19.out [.slice D1 P.1.length d1, .slice D2 P.2.1.length d2, .slice D3 P.2.2.length d3] 0 _ (grew_trans HGc.out HGb.out)
          clear o0 o1 o2 v0 v1 v2 HDO
          change Code.wp _ _ _ _ (putC wb wr.heap.size 0 [.slice D1 P.1.length d1, .slice D2 P.2.1.length d2, .slice D3 P.2.2.length d3])
          generalize putC wb wr.heap.size 0 [.slice D1 P.1.length d1, .slice D2 P.2.1.length d2, .slice D3 P.2.2.length d3] = wz at *
          have z0 := (HR.out.keep HGz.out).at 0 _ rfl
          have z1 := (HR.out.keep HGz.out).at 1 _ rfl
          have z2 := (HR.out.keep HGz.out).at 2 _ rfl

          go_upto_region 24 with (go_at_call 32; ((with_reducible refine (CQ _ HGz.out).mono ?_); rintro e wd ⟨F1, F2, F3, f1, f2, f3, rfl, ho, hg⟩; dsimp only [rlV]; clear z0 z1 z2; have HFO := Lib.hid ho; have HGd := Lib.hid hg; have o0 := (N20.out.keep hg).at 0 _ rfl; have o1 := (N20.out.keep hg).at 1 _ rfl; have o2 := (N20.out.keep hg).at 2 _ rfl; have v0 := (N20.out.keep hg).fr 0 (by show 0 < 3; omega); have v1 := (N20.out.keep hg).fr 1 (by show 1 < 3; omega); have v2 := (N20.out.keep hg).fr 2 (by show 2 < 3; omega); clear ho hg))
          have M20 := Lib.hid ((N20.out.keep HGd.out).all [.slice F1 P.1.length f1, .slice F2 P.2.1.length f2, .slice F3 P.2.2.length f3] rfl)
          have M19 := Lib.hid ((N19.out.keep HGd.out).putO (b2 := b20) HNE.out [.slice F1 P.1.length f1, .slice F2 P.2.1.length f2, .slice F3 P.2.2.length f3] 0)
          have SZ2 : Hid (wa.heap.size ≤ (putC wd b20 0 [.slice F1 P.1.length f1, .slice F2 P.2.1.length f2, .slice F3 P.2.2.length f3]).heap.size) := by show _ ≤ _; rw [size_put]; exact Nat.le_trans SZ1.out HGd.out.size
          have HGy : Hid (Grew wr (putC wd b20 0 [.slice F1 P.1.length f1, .slice F2 P.2.1.length f2, .slice F3 P.2.2.length f3])) := grew_put b20 HW20.out [.slice F1 P.1.length f1, .slice F2 P.2.1.length f2, .slice F3 P.2.2.length f3] 0 _ (grew_trans HGz.out HGd.out)
          have YDO := Lib.hid ((NDO.out.keep HGd.out).put [.slice F1 P.1.length f1, .slice F2 P.2.1.length f2, .slice F3 P.2.2.length f3] 0 HL20.out)
          have YFO := Lib.hid (HFO.out.put [.slice F1 P.1.length f1, .slice F2 P.2.1.length f2, .slice F3 P.2.2.length f3] 0 N20.out.lt)
          clear o0 o1 o2 v0 v1 v2 HFO NDO N19 N20
          change Code.wp _ _ _ _ (putC wd b20 0 [.slice F1 P.1.length f1, .slice F2 P.2.1.length f2, .slice F3 P.2.2.length f3])
          generalize putC wd b20 0 [.slice F1 P.1.length f1, .slice F2 P.2.1.length f2, .slice F3 P.2.2.length f3] = wy at *
          have CK1 := keepRoll_yes P D1 D2 D3 F1 F2 F3 P.1.length P.2.1.length P.2.2.length d1 d2 d3 f1 f2 f3 wy YDO.out.in3.rows YFO.out.in3.rows (by have := HN.out; have := HDL.out; omega)
          dsimp only [rlV] at CK1
          have hbE := hbne E
          have o0 := (M19.out).at 0 _ rfl
          have o1 := (M19.out).at 1 _ rfl
          have o2 := (M19.out).at 2 _ rfl
          have z0 := (M20.out).at 0 _ rfl
          have z1 := (M20.out).at 1 _ rfl
          have z2 := (M20.out).at 2 _ rfl
          go_upto_region 26 with (go_at_call 23; ((with_reducible refine CK1.mono ?_); rintro e wg ⟨rfl, hg⟩; have HGg := Lib.hid (grew_trans HGy.out hg); have HWG := Lib.hid (Nat.le_trans SZ2.out hg.size); have G19 := Lib.hid (M19.out.keep hg); have GDO := Lib.hid (YDO.out.keep hg); clear hg o0 o1 o2 z0 z1 z2))
          clear CK1 M19 M20 YDO YFO CP CQ
          have HWA : Hid (wr.heap.size ≤ wa.heap.size) := HGa.out.size
          have CSP := spoilRoll_any D1 D2 D3 P.1.length P.2.1.length P.2.2.length d1 d2 d3 wa.heap.size wg GDO.out.m.sp3 GDO.out.i.sp3 GDO.out.h.sp3 HWG.out (by have := HN.out; have := HDL.out; omega)
          dsimp only [rlV] at CSP
          have o0 := (G19.out).at 0 _ rfl
          have o1 := (G19.out).at 1 _ rfl
          have o2 := (G19.out).at 2 _ rfl
          go_upto_region 27 with (go_at_call 25; ((with_reducible refine CSP.mono ?_); rintro e wh ⟨rfl, hbel⟩; have HGh := Lib.hid (grew_low HGg.out hbel HWA.out); clear hbel o0 o1 o2))
          have CK2 := keepRoll_yes r T1 T2 T3 A1 A2 A3 r.1.length r.2.1.length r.2.2.length t1 t2 t3 c1 c2 c3 wh (HTI.out.keep HGh.out).rows (HI.out.keep HGh.out).rows (by have := HN.out; omega)
          dsimp only [rlV] at CK2
          have z0 := (HT.out.keep HGh.out).at 0 _ rfl
          have z1 := (HT.out.keep HGh.out).at 1 _ rfl
          have z2 := (HT.out.keep HGh.out).at 2 _ rfl
          have o0 := (HR.out.keep HGh.out).at 0 _ rfl
          have o1 := (HR.out.keep HGh.out).at 1 _ rfl
          have o2 := (HR.out.keep HGh.out).at 2 _ rfl
          go_wp2_with (go_at_call 23; ((with_reducible refine CK2.mono ?_); rintro e wj ⟨rfl, hg⟩; have HGj := Lib.hid (grew_trans HGh.out hg); clear hg z0 z1 z2 o0 o1 o2))
          go_roundw
          case rel => exact ⟨0 + 1, by go_num, by omega, grew_trans HG4.out HGj.out⟩
          case measure => simp only [intOf]; omega
        · have HDL := Lib.hid ((by have := do_len r (1, 0, 0, ((q1, q2, q3, q4, q5, q6), (q7, q8, q9, q10, q11, q12)), as0); rw [doP_list] at this; exact this))
          have CP := fun w' (g : Grew wr w') => list_any r ((q1, q2, q3, q4, q5, q6), (q7, q8, q9, q10, q11, q12)) T1 T2 T3 r.1.length r.2.1.length r.2.2.length t1 t2 t3 w' (HTI.out.keep g) (by have := HN.out; omega)
          have CQ := fun w' (g : Grew wr w') => rlist_any r ((q1, q2, q3, q4, q5, q6), (q7, q8, q9, q10, q11, q12)) A1 A2 A3 r.1.length r.2.1.length r.2.2.length c1 c2 c3 w' (HI.out.keep g) (by have := HN.out; omega)
          obtain ⟨⟨P, E⟩, hP⟩ : ∃ X, listP r ((q1, q2, q3, q4, q5, q6), (q7, q8, q9, q10, q11, q12)) = X := ⟨_, rfl⟩
          rw [hP] at CP CQ HDL
          clear hP
          dsimp only [rlV, vIn, vAs] at CP CQ HDL
          go_upto_region 16 with fail
          have z0 := (HT.out.keep HGc.out).at 0 _ rfl
          have z1 := (HT.out.keep HGc.out).at 1 _ rfl
          have z2 := (HT.out.keep HGc.out).at 2 _ rfl
          have y0 := (HB.out.keep HGc.out).at 0 _ rfl
          have y1 := (HB.out.keep HGc.out).at 1 _ rfl
          have y2 := (HB.out.keep HGc.out).at 2 _ rfl
          have y3 := (HB.out.keep HGc.out).at 3 _ rfl
          have y4 := (HB.out.keep HGc.out).at 4 _ rfl
          have y5 := (HB.out.keep HGc.out).at 5 _ rfl
          have y6 := (HB.out.keep HGc.out).at 6 _ rfl
          have y7 := (HB.out.keep HGc.out).at 7 _ rfl
          have y8 := (HB.out.keep HGc.out).at 8 _ rfl
          have y9 := (HB.out.keep HGc.out).at 9 _ rfl
          have y10 := (HB.out.keep HGc.out).at 10 _ rfl
          have y11 := (HB.out.keep HGc.out).at 11 _ rfl
          have o0 := (O19.out).at 0 _ rfl
          have o1 := (O19.out).at 1 _ rfl
          have o2 := (O19.out).at 2 _ rfl
          have v0 := (O19.out).fr 0 (by show 0 < 3; omega)
          have v1 := (O19.out).fr 1 (by show 1 < 3; omega)
          have v2 := (O19.out).fr 2 (by show 2 < 3; omega)
          go_upto_region 17 with (go_at_call 33; ((with_reducible refine (CP _ HGc.out).mono ?_); rintro e wb ⟨D1, D2, D3, d1, d2, d3, rfl, ho, hg⟩; dsimp only [rlV]; clear z0 z1 z2 o0 o1 o2 v0 v1 v2 y0 y1 y2 y3 y4 y5 y6 y7 y8 y9 y10 y11; have HDO := Lib.hid ho; have HGb := Lib.hid hg; have o0 := (O19.out.keep hg).at 0 _ rfl; have o1 := (O19.out.keep hg).at 1 _ rfl; have o2 := (O19.out.keep hg).at 2 _ rfl; have v0 := (O19.out.keep hg).fr 0 (by show 0 < 3; omega); have v1 := (O19.out.keep hg).fr 1 (by show 1 < 3; omega); have v2 := (O19.out.keep hg).fr 2 (by show 2 < 3; omega); clear ho hg))
          have N19 := Lib.hid ((O19.out.keep HGb.out).all [.slice D1 P.1.length d1, .slice D2 P.2.1.length d2, .slice D3 P.2.2.length d3] rfl)
          have N20 := Lib.hid ((O20.out.keep HGb.out).putO (b2 := wr.heap.size) HNE.out.symm [.slice D1 P.1.length d1, .slice D2 P.2.1.length d2, .slice D3 P.2.2.length d3] 0)
          have NDO := Lib.hid (HDO.out.put [.slice D1 P.1.length d1, .slice D2 P.2.1.length d2, .slice D3 P.2.2.length d3] 0 HL19.out)
          have SZ1 : Hid (wa.heap.size ≤ (putC wb wr.heap.size 0 [.slice D1 P.1.length d1, .slice D2 P.2.1.length d2, .slice D3 P.2.2.length d3]).heap.size) := by show _ ≤ _; rw [size_put]; exact HGb.out.size
          have HGz : Hid (Grew wr (putC wb wr.heap.size 0 [.slice D1 P.1.length d1, .slice D2 P.2.1.length d2, .slice D3 P.2.2.length d3])) := grew_put wr.heap.size HW19.out [.slice D1 P.1.length d1, .slice D2 P.2.1.length d2, .slice D3 P.2.2.length d3] 0 _ (grew_trans HGc.out HGb.out)
          clear o0 o1 o2 v0 v1 v2 HDO
          change Code.wp _ _ _ _ (putC wb wr.heap.size 0 [.slice D1 P.1.length d1, .slice D2 P.2.1.length d2, .slice D3 P.2.2.length d3])
          generalize putC wb wr.heap.size 0 [.slice D1 P.1.length d1, .slice D2 P.2.1.length d2, .slice D3 P.2.2.length d3] = wz at *
          have z0 := (HR.out.keep HGz.out).at 0 _ rfl
          have z1 := (HR.out.keep HGz.out).at 1 _ rfl
          have z2 := (HR.out.keep HGz.out).at 2 _ rfl
          have y0 := (HB.out.keep HGz.out).at 0 _ rfl
          have y1 := (HB.out.keep HGz.out).at 1 _ rfl
          have y2 := (HB.out.keep HGz.out).at 2 _ rfl
          have y3 := (HB.out.keep HGz.out).at 3 _ rfl
          have y4 := (HB.out.keep HGz.out).at 4 _ rfl
          have y5 := (HB.out.keep HGz.out).at 5 _ rfl
          have y6 := (HB.out.keep HGz.out).at 6 _ rfl
          have y7 := (HB.out.keep HGz.out).at 7 _ rfl
          have y8 := (HB.out.keep HGz.out).at 8 _ rfl
          have y9 := (HB.out.keep HGz.out).at 9 _ rfl
          have y10 := (HB.out.keep HGz.out).at 10 _ rfl
          have y11 := (HB.out.keep HGz.out).at 11 _ rfl
          go_upto_region 24 with (go_at_call 34; ((with_reducible refine (CQ _ HGz.out).mono ?_); rintro e wd ⟨F1, F2, F3, f1, f2, f3, rfl, ho, hg⟩; dsimp only [rlV]; clear z0 z1 z2 y0 y1 y2 y3 y4 y5 y6 y7 y8 y9 y10 y11; have HFO := Lib.hid ho; have HGd := Lib.hid hg; have o0 := (N20.out.keep hg).at 0 _ rfl; have o1 := (N20.out.keep hg).at 1 _ rfl; have o2 := (N20.out.keep hg).at 2 _ rfl; have v0 := (N20.out.keep hg).fr 0 (by show 0 < 3; omega); have v1 := (N20.out.keep hg).fr 1 (by show 1 < 3; omega); have v2 := (N20.out.keep hg).fr 2 (by show 2 < 3; omega); clear ho hg))
          have M20 := Lib.hid ((N20.out.keep HGd.out).all [.slice F1 P.1.length f1, .slice F2 P.2.1.length f2, .slice F3 P.2.2.length f3] rfl)
          have M19 := Lib.hid ((N19.out.keep HGd.out).putO (b2 := b20) HNE.out [.slice F1 P.1.length f1, .slice F2 P.2.1.length f2, .slice F3 P.2.2.length f3] 0)
          have SZ2 : Hid (wa.heap.size ≤ (putC wd b20 0 [.slice F1 P.1.length f1, .slice F2 P.2.1.length f2, .slice F3 P.2.2.length f3]).heap.size) := by show _ ≤ _; rw [size_put]; exact Nat.le_trans SZ1.out HGd.out.size
          have HGy : Hid (Grew wr (putC wd b20 0 [.slice F1 P.1.length f1, .slice F2 P.2.1.length f2, .slice F3 P.2.2.length f3])) := grew_put b20 HW20.out [.slice F1 P.1.length f1, .slice F2 P.2.1.length f2, .slice F3 P.2.2.length f3] 0 _ (grew_trans HGz.out HGd.out)
          have YDO := Lib.hid ((NDO.out.keep HGd.out).put [.slice F1 P.1.length f1, .slice F2 P.2.1.length f2, .slice F3 P.2.2.length f3] 0 HL20.out)
          have YFO := Lib.hid (HFO.out.put [.slice F1 P.1.length f1, .slice F2 P.2.1.length f2, .slice F3 P.2.2.length f3] 0 N20.out.lt)
          clear o0 o1 o2 v0 v1 v2 HFO NDO N19 N20
          change Code.wp _ _ _ _ (putC wd b20 0 [.slice F1 P.1.length f1, .slice F2 P.2.1.length f2, .slice F3 P.2.2.length f3])
          generalize putC wd b20 0 [.slice F1 P.1.length f1, .slice F2 P.2.1.length f2, .slice F3 P.2.2.length f3] = wy at *
          have CK1 := keepRoll_yes P D1 D2 D3 F1 F2 F3 P.1.length P.2.1.length P.2.2.length d1 d2 d3 f1 f2 f3 wy YDO.out.in3.rows YFO.out.in3.rows (by have := HN.out; have := HDL.out; omega)
          dsimp only [rlV] at CK1
          have hbE := hbne E
          have o0 := (M19.out).at 0 _ rfl
          have o1 := (M19.out).at 1 _ rfl
          have o2 := (M19.out).at 2 _ rfl
          have z0 := (M20.out).at 0 _ rfl
          have z1 := (M20.out).at 1 _ rfl
          have z2 := (M20.out).at 2 _ rfl
          go_upto_region 26 with (go_at_call 23; ((with_reducible refine CK1.mono ?_); rintro e wg ⟨rfl, hg⟩; have HGg := Lib.hid (grew_trans HGy.out hg); have HWG := Lib.hid (Nat.le_trans SZ2.out hg.size); have G19 := Lib.hid (M19.out.keep hg); have GDO := Lib.hid (YDO.out.keep hg); clear hg o0 o1 o2 z0 z1 z2))
          clear CK1 M19 M20 YDO YFO CP CQ
          have HWA : Hid (wr.heap.size ≤ wa.heap.size) := HGa.out.size
          have CSP := spoilRoll_any D1 D2 D3 P.1.length P.2.1.length P.2.2.length d1 d2 d3 wa.heap.size wg GDO.out.m.sp3 GDO.out.i.sp3 GDO.out.h.sp3 HWG.out (by have := HN.out; have := HDL.out; omega)
          dsimp only [rlV] at CSP
          have o0 := (G19.out).at 0 _ rfl
          have o1 := (G19.out).at 1 _ rfl
          have o2 := (G19.out).at 2 _ rfl
          go_upto_region 27 with (go_at_call 25; ((with_reducible refine CSP.mono ?_); rintro e wh ⟨rfl, hbel⟩; have HGh := Lib.hid (grew_low HGg.out hbel HWA.out); clear hbel o0 o1 o2))
          have CK2 := keepRoll_yes r T1 T2 T3 A1 A2 A3 r.1.length r.2.1.length r.2.2.length t1 t2 t3 c1 c2 c3 wh (HTI.out.keep HGh.out).rows (HI.out.keep HGh.out).rows (by have := HN.out; omega)
          dsimp only [rlV] at CK2
          have z0 := (HT.out.keep HGh.out).at 0 _ rfl
          have z1 := (HT.out.keep HGh.out).at 1 _ rfl
          have z2 := (HT.out.keep HGh.out).at 2 _ rfl
          have o0 := (HR.out.keep HGh.out).at 0 _ rfl
          have o1 := (HR.out.keep HGh.out).at 1 _ rfl
          have o2 := (HR.out.keep HGh.out).at 2 _ rfl
          go_wp2_with (go_at_call 23; ((with_reducible refine CK2.mono ?_); rintro e wj ⟨rfl, hg⟩; have HGj := Lib.hid (grew_trans HGh.out hg); clear hg z0 z1 z2 o0 o1 o2))
          go_roundw
          case rel => exact ⟨1 + 1, by go_num, by omega, grew_trans HG4.out HGj.out⟩
          case measure => simp only [intOf]; omega
        · have HDL := Lib.hid ((by have := do_len r (2, 0, 0, in0, (h1, h2, h3, h4)); rw [doP_hold] at this; exact this))
          have CP := fun w' (g : Grew wr w') => hold_any r (h1, h2, h3, h4) T1 T2 T3 r.1.length r.2.1.length r.2.2.length t1 t2 t3 w' (HTI.out.keep g) (by have := HN.out; omega)
          have CQ := fun w' (g : Grew wr w') => rhold_any r (h1, h2, h3, h4) A1 A2 A3 r.1.length r.2.1.length r.2.2.length c1 c2 c3 w' (HI.out.keep g) (by have := HN.out; omega)
          obtain ⟨⟨P, E⟩, hP⟩ : ∃ X, holdP r (h1, h2, h3, h4) = X := ⟨_, rfl⟩
          rw [hP] at CP CQ HDL
          clear hP
          dsimp only [rlV, vIn, vAs] at CP CQ HDL
          go_upto_region 19 with fail
          have z0 := (HT.out.keep HGc.out).at 0 _ rfl
          have z1 := (HT.out.keep HGc.out).at 1 _ rfl
          have z2 := (HT.out.keep HGc.out).at 2 _ rfl
          have y0 := (HC.out.keep HGc.out).at 0 _ rfl
          have y1 := (HC.out.keep HGc.out).at 1 _ rfl
          have y2 := (HC.out.keep HGc.out).at 2 _ rfl
          have y3 := (HC.out.keep HGc.out).at 3 _ rfl
          have o0 := (O19.out).at 0 _ rfl
          have o1 := (O19.out).at 1 _ rfl
          have o2 := (O19.out).at 2 _ rfl
          have v0 := (O19.out).fr 0 (by show 0 < 3; omega)
          have v1 := (O19.out).fr 1 (by show 1 < 3; omega)
          have v2 := (O19.out).fr 2 (by show 2 < 3; omega)
          go_upto_region 20 with (go_at_call 35; ((with_reducible refine (CP _ HGc.out).mono ?_); rintro e wb ⟨D1, D2, D3, d1, d2, d3, rfl, ho, hg⟩; dsimp only [rlV]; clear z0 z1 z2 o0 o1 o2 v0 v1 v2 y0 y1 y2 y3; have HDO := Lib.hid ho; have HGb := Lib.hid hg; have o0 := (O19.out.keep hg).at 0 _ rfl; have o1 := (O19.out.keep hg).at 1 _ rfl; have o2 := (O19.out.keep hg).at 2 _ rfl; have v0 := (O19.out.keep hg).fr 0 (by show 0 < 3; omega); have v1 := (O19.out.keep hg).fr 1 (by show 1 < 3; omega); have v2 := (O19.out.keep hg).fr 2 (by show 2 < 3; omega); clear ho hg))
          have N19 := Lib.hid ((O19.out.keep HGb.out).all [.slice D1 P.1.length d1, .slice D2 P.2.1.length d2, .slice D3 P.2.2.length d3] rfl)
          have N20 := Lib.hid ((O20.out.keep HGb.out).putO (b2 := wr.heap.size) HNE.out.symm [.slice D1 P.1.length d1, .slice D2 P.2.1.length d2, .slice D3 P.2.2.length d3] 0)
          have NDO := Lib.hid (HDO.out.put [.slice D1 P.1.length d1, .slice D2 P.2.1.length d2, .slice D3 P.2.2.length d3] 0 HL19.out)
          have SZ1 : Hid (wa.heap.size ≤ (putC wb wr.heap.size 0 [.slice D1 P.1.length d1, .slice D2 P.2.1.length d2, .slice D3 P.2.2.length d3]).heap.size) := by show _ ≤ _; rw [size_put]; exact HGb.out.size
          have HGz : Hid (Grew wr (putC wb wr.heap.size 0 [.slice D1 P.1.length d1, .slice D2 P.2.1.length d2, .slice D3 P.2.2.length d3])) := grew_put wr.heap.size HW19.out [.slice D1 P.1.length d1, .slice D2 P.2.1.length d2, .slice D3 P.2.2.length d3] 0 _ (grew_trans HGc.out HGb.out)
          clear o0 o1 o2 v0 v1 v2 HDO
          change Code.wp _ _ _ _ (putC wb wr.heap.size 0 [.slice D1 P.1.length d1, .slice D2 P.2.1.length d2, .slice D3 P.2.2.length d3])
          generalize putC wb wr.heap.size 0 [.slice D1 P.1.length d1, .slice D2 P.2.1.length d2, .slice D3 P.2.2.length d3] = wz at *
          have z0 := (HR.out.keep HGz.out).at 0 _ rfl
          have z1 := (HR.out.keep HGz.out).at 1 _ rfl
          have z2 := (HR.out.keep HGz.out).at 2 _ rfl
          have y0 := (HC.out.keep HGz.out).at 0 _ rfl
          have y1 := (HC.out.keep HGz.out).at 1 _ rfl
          have y2 := (HC.out.keep HGz.out).at 2 _ rfl
          have y3 := (HC.out.keep HGz.out).at 3 _ rfl
          go_upto_region 24 with (go_at_call 36; ((with_reducible refine (CQ _ HGz.out).mono ?_); rintro e wd ⟨F1, F2, F3, f1, f2, f3, rfl, ho, hg⟩; dsimp only [rlV]; clear z0 z1 z2 y0 y1 y2 y3; have HFO := Lib.hid ho; have HGd := Lib.hid hg; have o0 := (N20.out.keep hg).at 0 _ rfl; have o1 := (N20.out.keep hg).at 1 _ rfl; have o2 := (N20.out.keep hg).at 2 _ rfl; have v0 := (N20.out.keep hg).fr 0 (by show 0 < 3; omega); have v1 := (N20.out.keep hg).fr 1 (by show 1 < 3; omega); have v2 := (N20.out.keep hg).fr 2 (by show 2 < 3; omega); clear ho hg))
          have M20 := Lib.hid ((N20.out.keep HGd.out).all [.slice F1 P.1.length f1, .slice F2 P.2.1.length f2, .slice F3 P.2.2.length f3] rfl)
          have M19 := Lib.hid ((N19.out.keep HGd.out).putO (b2 := b20) HNE.out [.slice F1 P.1.length f1, .slice F2 P.2.1.length f2, .slice F3 P.2.2.length f3] 0)
          have SZ2 : Hid (wa.heap.size ≤ (putC wd b20 0 [.slice F1 P.1.length f1, .slice F2 P.2.1.length f2, .slice F3 P.2.2.length f3]).heap.size) := by show _ ≤ _; rw [size_put]; exact Nat.le_trans SZ1.out HGd.out.size
          have HGy : Hid (Grew wr (putC wd b20 0 [.slice F1 P.1.length f1, .slice F2 P.2.1.length f2, .slice F3 P.2.2.length f3])) := grew_put b20 HW20.out [.slice F1 P.1.length f1, .slice F2 P.2.1.length f2, .slice F3 P.2.2.length f3] 0 _ (grew_trans HGz.out HGd.out)
          have YDO := Lib.hid ((NDO.out.keep HGd.out).put [.slice F1 P.1.length f1, .slice F2 P.2.1.length f2, .slice F3 P.2.2.length f3] 0 HL20.out)
          have YFO := Lib.hid (HFO.out.put [.slice F1 P.1.length f1, .slice F2 P.2.1.length f2, .slice F3 P.2.2.length f3] 0 N20.out.lt)
          clear o0 o1 o2 v0 v1 v2 HFO NDO N19 N20
          change Code.wp _ _ _ _ (putC wd b20 0 [.slice F1 P.1.length f1, .slice F2 P.2.1.length f2, .slice F3 P.2.2.length f3])
          generalize putC wd b20 0 [.slice F1 P.1.length f1, .slice F2 P.2.1.length f2, .slice F3 P.2.2.length f3] = wy at *
          have CK1 := keepRoll_yes P D1 D2 D3 F1 F2 F3 P.1.length P.2.1.length P.2.2.length d1 d2 d3 f1 f2 f3 wy YDO.out.in3.rows YFO.out.in3.rows (by have := HN.out; have := HDL.out; omega)
          dsimp only [rlV] at CK1
          have hbE := hbne E
          have o0 := (M19.out).at 0 _ rfl
          have o1 := (M19.out).at 1 _ rfl
          have o2 := (M19.out).at 2 _ rfl
          have z0 := (M20.out).at 0 _ rfl
          have z1 := (M20.out).at 1 _ rfl
          have z2 := (M20.out).at 2 _ rfl
          go_upto_region 26 with (go_at_call 23; ((with_reducible refine CK1.mono ?_); rintro e wg ⟨rfl, hg⟩; have HGg := Lib.hid (grew_trans HGy.out hg); have HWG := Lib.hid (Nat.le_trans SZ2.out hg.size); have G19 := Lib.hid (M19.out.keep hg); have GDO := Lib.hid (YDO.out.keep hg); clear hg o0 o1 o2 z0 z1 z2))
          clear CK1 M19 M20 YDO YFO CP CQ
          have HWA : Hid (wr.heap.size ≤ wa.heap.size) := HGa.out.size
          have CSP := spoilRoll_any D1 D2 D3 P.1.length P.2.1.length P.2.2.length d1 d2 d3 wa.heap.size wg GDO.out.m.sp3 GDO.out.i.sp3 GDO.out.h.sp3 HWG.out (by have := HN.out; have := HDL.out; omega)
          dsimp only [rlV] at CSP
          have o0 := (G19.out).at 0 _ rfl
          have o1 := (G19.out).at 1 _ rfl
          have o2 := (G19.out).at 2 _ rfl
          go_upto_region 27 with (go_at_call 25; ((with_reducible refine CSP.mono ?_); rintro e wh ⟨rfl, hbel⟩; have HGh := Lib.hid (grew_low HGg.out hbel HWA.out); clear hbel o0 o1 o2))
          have CK2 := keepRoll_yes r T1 T2 T3 A1 A2 A3 r.1.length r.2.1.length r.2.2.length t1 t2 t3 c1 c2 c3 wh (HTI.out.keep HGh.out).rows (HI.out.keep HGh.out).rows (by have := HN.out; omega)
          dsimp only [rlV] at CK2
          have z0 := (HT.out.keep HGh.out).at 0 _ rfl
          have z1 := (HT.out.keep HGh.out).at 1 _ rfl
          have z2 := (HT.out.keep HGh.out).at 2 _ rfl
          have o0 := (HR.out.keep HGh.out).at 0 _ rfl
          have o1 := (HR.out.keep HGh.out).at 1 _ rfl
          have o2 := (HR.out.keep HGh.out).at 2 _ rfl
          go_wp2_with (go_at_call 23; ((with_reducible refine CK2.mono ?_); rintro e wj ⟨rfl, hg⟩; have HGj := Lib.hid (grew_trans HGh.out hg); clear hg z0 z1 z2 o0 o1 o2))
          go_roundw
          case rel => exact ⟨2 + 1, by go_num, by omega, grew_trans HG4.out HGj.out⟩
          case measure => simp only [intOf]; omega
        · have HDL := Lib.hid ((by have := do_len r (3, no, price, in0, as0); rw [doP_tell] at this; exact this))
          have CP := fun w' (g : Grew wr w') => tell_any r no price T1 T2 T3 r.1.length r.2.1.length r.2.2.length t1 t2 t3 w' (HTI.out.keep g) (by have := HN.out; omega)
          have CQ := fun w' (g : Grew wr w') => rtell_any r no price A1 A2 A3 r.1.length r.2.1.length r.2.2.length c1 c2 c3 w' (HI.out.keep g) (by have := HN.out; omega)
          obtain ⟨⟨P, E⟩, hP⟩ : ∃ X, tellP r no price = X := ⟨_, rfl⟩
          rw [hP] at CP CQ HDL
          clear hP
          dsimp only [rlV, vIn, vAs] at CP CQ HDL
          go_upto_region 22 with fail
          have z0 := (HT.out.keep HGc.out).at 0 _ rfl
          have z1 := (HT.out.keep HGc.out).at 1 _ rfl
          have z2 := (HT.out.keep HGc.out).at 2 _ rfl

          have o0 := (O19.out).at 0 _ rfl
          have o1 := (O19.out).at 1 _ rfl
          have o2 := (O19.out).at 2 _ rfl
          have v0 := (O19.out).fr 0 (by show 0 < 3; omega)
          have v1 := (O19.out).fr 1 (by show 1 < 3; omega)
          have v2 := (O19.out).fr 2 (by show 2 < 3; omega)
          go_upto_region 23 with (go_at_call 37; ((with_reducible refine (CP _ HGc.out).mono ?_); rintro e wb ⟨D1, D2, D3, d1, d2, d3, rfl, ho, hg⟩; dsimp only [rlV]; clear z0 z1 z2 o0 o1 o2 v0 v1 v2; have HDO := Lib.hid ho; have HGb := Lib.hid hg; have o0 := (O19.out.keep hg).at 0 _ rfl; have o1 := (O19.out.keep hg).at 1 _ rfl; have o2 := (O19.out.keep hg).at 2 _ rfl; have v0 := (O19.out.keep hg).fr 0 (by show 0 < 3; omega); have v1 := (O19.out.keep hg).fr 1 (by show 1 < 3; omega); have v2 := (O19.out.keep hg).fr 2 (by show 2 < 3; omega); clear ho hg))
          have N19 := Lib.hid ((O19.out.keep HGb.out).all [.slice D1 P.1.length d1, .slice D2 P.2.1.length d2, .slice D3 P.2.2.length d3] rfl)
          have N20 := Lib.hid ((O20.out.keep HGb.out).putO (b2 := wr.heap.size) HNE.out.symm [.slice D1 P.1.length d1, .slice D2 P.2.1.length d2, .slice D3 P.2.2.length d3] 0)
          have NDO := Lib.hid (HDO.out.put [.slice D1 P.1.length d1, .slice D2 P.2.1.length d2, .slice D3 P.2.2.length d3] 0 HL19.out)
          have SZ1 : Hid (wa.heap.size ≤ (putC wb wr.heap.size 0 [.slice D1 P.1.length d1, .slice D2 P.2.1.length d2, .slice D3 P.2.2.length d3]).heap.size) := by show _ ≤ _; rw [size_put]; exact HGb.out.size
          have HGz : Hid (Grew wr (putC wb wr.heap.size 0 [.slice D1 P.1.length d1, .slice D2 P.2.1.length d2, .slice D3 P.2.2.length d3])) := grew_put wr.heap.size HW19.out [.slice D1 P.1.length d1, .slice D2 P.2.1.length d2, .slice D3 P.2.2.length d3] 0 _ (grew_trans HGc.out HGb.out)
          clear o0 o1 o2 v0 v1 v2 HDO
          change Code.wp _ _ _ _ (putC wb wr.heap.size 0 [.slice D1 P.1.length d1, .slice D2 P.2.1.length d2, .slice D3 P.2.2.length d3])
          generalize putC wb wr.heap.size 0 [.slice D1 P.1.length d1, .slice D2 P.2.1.length d2, .slice D3 P.2.2.length d3] = wz at *
          have z0 := (HR.out.keep HGz.out).at 0 _ rfl
          have z1 := (HR.out.keep HGz.out).at 1 _ rfl
          have z2 := (HR.out.keep HGz.out).at 2 _ rfl

          go_upto_region 24 with (go_at_call 38; ((with_reducible refine (CQ _ HGz.out).mono ?_); rintro e wd ⟨F1, F2, F3, f1, f2, f3, rfl, ho, hg⟩; dsimp only [rlV]; clear z0 z1 z2; have HFO := Lib.hid ho; have HGd := Lib.hid hg; have o0 := (N20.out.keep hg).at 0 _ rfl; have o1 := (N20.out.keep hg).at 1 _ rfl; have o2 := (N20.out.keep hg).at 2 _ rfl; have v0 := (N20.out.keep hg).fr 0 (by show 0 < 3; omega); have v1 := (N20.out.keep hg).fr 1 (by show 1 < 3; omega); have v2 := (N20.out.keep hg).fr 2 (by show 2 < 3; omega); clear ho hg))
          have M20 := Lib.hid ((N20.out.keep HGd.out).all [.slice F1 P.1.length f1, .slice F2 P.2.1.length f2, .slice F3 P.2.2.length f3] rfl)
          have M19 := Lib.hid ((N19.out.keep HGd.out).putO (b2 := b20) HNE.out [.slice F1 P.1.length f1, .slice F2 P.2.1.length f2, .slice F3 P.2.2.length f3] 0)
          have SZ2 : Hid (wa.heap.size ≤ (putC wd b20 0 [.slice F1 P.1.length f1, .slice F2 P.2.1.length f2, .slice F3 P.2.2.length f3]).heap.size) := by show _ ≤ _; rw [size_put]; exact Nat.le_trans SZ1.out HGd.out.size
          have HGy : Hid (Grew wr (putC wd b20 0 [.slice F1 P.1.length f1, .slice F2 P.2.1.length f2, .slice F3 P.2.2.length f3])) := grew_put b20 HW20.out [.slice F1 P.1.length f1, .slice F2 P.2.1.length f2, .slice F3 P.2.2.length f3] 0 _ (grew_trans HGz.out HGd.out)
          have YDO := Lib.hid ((NDO.out.keep HGd.out).put [.slice F1 P.1.length f1, .slice F2 P.2.1.length f2, .slice F3 P.2.2.length f3] 0 HL20.out)
          have YFO := Lib.hid (HFO.out.put [.slice F1 P.1.length f1, .slice F2 P.2.1.length f2, .slice F3 P.2.2.length f3] 0 N20.out.lt)
          clear o0 o1 o2 v0 v1 v2 HFO NDO N19 N20
          change Code.wp _ _ _ _ (putC wd b20 0 [.slice F1 P.1.length f1, .slice F2 P.2.1.length f2, .slice F3 P.2.2.length f3])
          generalize putC wd b20 0 [.slice F1 P.1.length f1, .slice F2 P.2.1.length f2, .slice F3 P.2.2.length f3] = wy at *
          have CK1 := keepRoll_yes P D1 D2 D3 F1 F2 F3 P.1.length P.2.1.length P.2.2.length d1 d2 d3 f1 f2 f3 wy YDO.out.in3.rows YFO.out.in3.rows (by have := HN.out; have := HDL.out; omega)
          dsimp only [rlV] at CK1
          have hbE := hbne E
          have o0 := (M19.out).at 0 _ rfl
          have o1 := (M19.out).at 1 _ rfl
          have o2 := (M19.out).at 2 _ rfl
          have z0 := (M20.out).at 0 _ rfl
          have z1 := (M20.out).at 1 _ rfl
          have z2 := (M20.out).at 2 _ rfl
          go_upto_region 26 with (go_at_call 23; ((with_reducible refine CK1.mono ?_); rintro e wg ⟨rfl, hg⟩; have HGg := Lib.hid (grew_trans HGy.out hg); have HWG := Lib.hid (Nat.le_trans SZ2.out hg.size); have G19 := Lib.hid (M19.out.keep hg); have GDO := Lib.hid (YDO.out.keep hg); clear hg o0 o1 o2 z0 z1 z2))
          clear CK1 M19 M20 YDO YFO CP CQ
          have HWA : Hid (wr.heap.size ≤ wa.heap.size) := HGa.out.size
          have CSP := spoilRoll_any D1 D2 D3 P.1.length P.2.1.length P.2.2.length d1 d2 d3 wa.heap.size wg GDO.out.m.sp3 GDO.out.i.sp3 GDO.out.h.sp3 HWG.out (by have := HN.out; have := HDL.out; omega)
          dsimp only [rlV] at CSP
          have o0 := (G19.out).at 0 _ rfl
          have o1 := (G19.out).at 1 _ rfl
          have o2 := (G19.out).at 2 _ rfl
          go_upto_region 27 with (go_at_call 25; ((with_reducible refine CSP.mono ?_); rintro e wh ⟨rfl, hbel⟩; have HGh := Lib.hid (grew_low HGg.out hbel HWA.out); clear hbel o0 o1 o2))
          have CK2 := keepRoll_yes r T1 T2 T3 A1 A2 A3 r.1.length r.2.1.length r.2.2.length t1 t2 t3 c1 c2 c3 wh (HTI.out.keep HGh.out).rows (HI.out.keep HGh.out).rows (by have := HN.out; omega)
          dsimp only [rlV] at CK2
          have z0 := (HT.out.keep HGh.out).at 0 _ rfl
          have z1 := (HT.out.keep HGh.out).at 1 _ rfl
          have z2 := (HT.out.keep HGh.out).at 2 _ rfl
          have o0 := (HR.out.keep HGh.out).at 0 _ rfl
          have o1 := (HR.out.keep HGh.out).at 1 _ rfl
          have o2 := (HR.out.keep HGh.out).at 2 _ rfl
          go_wp2_with (go_at_call 23; ((with_reducible refine CK2.mono ?_); rintro e wj ⟨rfl, hg⟩; have HGj := Lib.hid (grew_trans HGh.out hg); clear hg z0 z1 z2 o0 o1 o2))
          go_roundw
          case rel => exact ⟨3 + 1, by go_num, by omega, grew_trans HG4.out HGj.out⟩
          case measure => simp only [intOf]; omega
        · have HDL := Lib.hid ((by have := do_len r (5, who, state, in0, as0); rw [doP_put] at this; exact this))
          have CP := fun w' (g : Grew wr w') => rollPut_any r who state T1 T2 T3 r.1.length r.2.1.length r.2.2.length t1 t2 t3 w' (HTI.out.keep g) (by have := HN.out; omega)
          have CQ := fun w' (g : Grew wr w') => rput_any r who state A1 A2 A3 r.1.length r.2.1.length r.2.2.length c1 c2 c3 w' (HI.out.keep g) (by have := HN.out; omega)
          obtain ⟨⟨P, E⟩, hP⟩ : ∃ X, putP r who state = X := ⟨_, rfl⟩
          rw [hP] at CP CQ HDL
          clear hP
          dsimp only [rlV, vIn, vAs] at CP CQ HDL
          go_upto_region 10 with fail
          have z0 := (HT.out.keep HGc.out).at 0 _ rfl
          have z1 := (HT.out.keep HGc.out).at 1 _ rfl
          have z2 := (HT.out.keep HGc.out).at 2 _ rfl

          have o0 := (O19.out).at 0 _ rfl
          have o1 := (O19.out).at 1 _ rfl
          have o2 := (O19.out).at 2 _ rfl
          have v0 := (O19.out).fr 0 (by show 0 < 3; omega)
          have v1 := (O19.out).fr 1 (by show 1 < 3; omega)
          have v2 := (O19.out).fr 2 (by show 2 < 3; omega)
          go_upto_region 11 with (go_at_call 39; ((with_reducible refine (CP _ HGc.out).mono ?_); rintro e wb ⟨D1, D2, D3, d1, d2, d3, rfl, ho, hg⟩; dsimp only [rlV]; clear z0 z1 z2 o0 o1 o2 v0 v1 v2; have HDO := Lib.hid ho; have HGb := Lib.hid hg; have o0 := (O19.out.keep hg).at 0 _ rfl; have o1 := (O19.out.keep hg).at 1 _ rfl; have o2 := (O19.out.keep hg).at 2 _ rfl; have v0 := (O19.out.keep hg).fr 0 (by show 0 < 3; omega); have v1 := (O19.out.keep hg).fr 1 (by show 1 < 3; omega); have v2 := (O19.out.keep hg).fr 2 (by show 2 < 3; omega); clear ho hg))
          have N19 := Lib.hid ((O19.out.keep HGb.out).all [.slice D1 P.1.length d1, .slice D2 P.2.1.length d2, .slice D3 P.2.2.length d3] rfl)
          have N20 := Lib.hid ((O20.out.keep HGb.out).putO (b2 := wr.heap.size) HNE.out.symm [.slice D1 P.1.length d1, .slice D2 P.2.1.length d2, .slice D3 P.2.2.length d3] 0)
          have NDO := Lib.hid (HDO.out.put [.slice D1 P.1.length d1, .slice D2 P.2.1.length d2, .slice D3 P.2.2.length d3] 0 HL19.out)
          have SZ1 : Hid (wa.heap.size ≤ (putC wb wr.heap.size 0 [.slice D1 P.1.length d1, .slice D2 P.2.1.length d2, .slice D3 P.2.2.length d3]).heap.size) := by show _ ≤ _; rw [size_put]; exact HGb.out.size
          have HGz : Hid (Grew wr (putC wb wr.heap.size 0 [.slice D1 P.1.length d1, .slice D2 P.2.1.length d2, .slice D3 P.2.2.length d3])) := grew_put wr.heap.size HW19.out [.slice D1 P.1.length d1, .slice D2 P.2.1.length d2, .slice D3 P.2.2.length d3] 0 _ (grew_trans HGc.out HGb.out)
          clear o0 o1 o2 v0 v1 v2 HDO
          change Code.wp _ _ _ _ (putC wb wr.heap.size 0 [.slice D1 P.1.length d1, .slice D2 P.2.1.length d2, .slice D3 P.2.2.length d3])
          generalize putC wb wr.heap.size 0 [.slice D1 P.1.length d1, .slice D2 P.2.1.length d2, .slice D3 P.2.2.length d3] = wz at *
          have z0 := (HR.out.keep HGz.out).at 0 _ rfl
          have z1 := (HR.out.keep HGz.out).at 1 _ rfl
          have z2 := (HR.out.keep HGz.out).at 2 _ rfl

          go_upto_region 24 with (go_at_call 40; ((with_reducible refine (CQ _ HGz.out).mono ?_); rintro e wd ⟨F1, F2, F3, f1, f2, f3, rfl, ho, hg⟩; dsimp only [rlV]; clear z0 z1 z2; have HFO := Lib.hid ho; have HGd := Lib.hid hg; have o0 := (N20.out.keep hg).at 0 _ rfl; have o1 := (N20.out.keep hg).at 1 _ rfl; have o2 := (N20.out.keep hg).at 2 _ rfl; have v0 := (N20.out.keep hg).fr 0 (by show 0 < 3; omega); have v1 := (N20.out.keep hg).fr 1 (by show 1 < 3; omega); have v2 := (N20.out.keep hg).fr 2 (by show 2 < 3; omega); clear ho hg))
          have M20 := Lib.hid ((N20.out.keep HGd.out).all [.slice F1 P.1.length f1, .slice F2 P.2.1.length f2, .slice F3 P.2.2.length f3] rfl)
          have M19 := Lib.hid ((N19.out.keep HGd.out).putO (b2 := b20) HNE.out [.slice F1 P.1.length f1, .slice F2 P.2.1.length f2, .slice F3 P.2.2.length f3] 0)
          have SZ2 : Hid (wa.heap.size ≤ (putC wd b20 0 [.slice F1 P.1.length f1, .slice F2 P.2.1.length f2, .slice F3 P.2.2.length f3]).heap.size) := by show _ ≤ _; rw [size_put]; exact Nat.le_trans SZ1.out HGd.out.size
          have HGy : Hid (Grew wr (putC wd b20 0 [.slice F1 P.1.length f1, .slice F2 P.2.1.length f2, .slice F3 P.2.2.length f3])) := grew_put b20 HW20.out [.slice F1 P.1.length f1, .slice F2 P.2.1.length f2, .slice F3 P.2.2.length f3] 0 _ (grew_trans HGz.out HGd.out)
          have YDO := Lib.hid ((NDO.out.keep HGd.out).put [.slice F1 P.1.length f1, .slice F2 P.2.1.length f2, .slice F3 P.2.2.length f3] 0 HL20.out)
          have YFO := Lib.hid (HFO.out.put [.slice F1 P.1.length f1, .slice F2 P.2.1.length f2, .slice F3 P.2.2.length f3] 0 N20.out.lt)
          clear o0 o1 o2 v0 v1 v2 HFO NDO N19 N20
          change Code.wp _ _ _ _ (putC wd b20 0 [.slice F1 P.1.length f1, .slice F2 P.2.1.length f2, .slice F3 P.2.2.length f3])
          generalize putC wd b20 0 [.slice F1 P.1.length f1, .slice F2 P.2.1.length f2, .slice F3 P.2.2.length f3] = wy at *
          have CK1 := keepRoll_yes P D1 D2 D3 F1 F2 F3 P.1.length P.2.1.length P.2.2.length d1 d2 d3 f1 f2 f3 wy YDO.out.in3.rows YFO.out.in3.rows (by have := HN.out; have := HDL.out; omega)
          dsimp only [rlV] at CK1
          have hbE := hbne E
          have o0 := (M19.out).at 0 _ rfl
          have o1 := (M19.out).at 1 _ rfl
          have o2 := (M19.out).at 2 _ rfl
          have z0 := (M20.out).at 0 _ rfl
          have z1 := (M20.out).at 1 _ rfl
          have z2 := (M20.out).at 2 _ rfl
          go_upto_region 26 with (go_at_call 23; ((with_reducible refine CK1.mono ?_); rintro e wg ⟨rfl, hg⟩; have HGg := Lib.hid (grew_trans HGy.out hg); have HWG := Lib.hid (Nat.le_trans SZ2.out hg.size); have G19 := Lib.hid (M19.out.keep hg); have GDO := Lib.hid (YDO.out.keep hg); clear hg o0 o1 o2 z0 z1 z2))
          clear CK1 M19 M20 YDO YFO CP CQ
          have HWA : Hid (wr.heap.size ≤ wa.heap.size) := HGa.out.size
          have CSP := spoilRoll_any D1 D2 D3 P.1.length P.2.1.length P.2.2.length d1 d2 d3 wa.heap.size wg GDO.out.m.sp3 GDO.out.i.sp3 GDO.out.h.sp3 HWG.out (by have := HN.out; have := HDL.out; omega)
          dsimp only [rlV] at CSP
          have o0 := (G19.out).at 0 _ rfl
          have o1 := (G19.out).at 1 _ rfl
          have o2 := (G19.out).at 2 _ rfl
          go_upto_region 27 with (go_at_call 25; ((with_reducible refine CSP.mono ?_); rintro e wh ⟨rfl, hbel⟩; have HGh := Lib.hid (grew_low HGg.out hbel HWA.out); clear hbel o0 o1 o2))
          have CK2 := keepRoll_yes r T1 T2 T3 A1 A2 A3 r.1.length r.2.1.length r.2.2.length t1 t2 t3 c1 c2 c3 wh (HTI.out.keep HGh.out).rows (HI.out.keep HGh.out).rows (by have := HN.out; omega)
          dsimp only [rlV] at CK2
          have z0 := (HT.out.keep HGh.out).at 0 _ rfl
          have z1 := (HT.out.keep HGh.out).at 1 _ rfl
          have z2 := (HT.out.keep HGh.out).at 2 _ rfl
          have o0 := (HR.out.keep HGh.out).at 0 _ rfl
          have o1 := (HR.out.keep HGh.out).at 1 _ rfl
          have o2 := (HR.out.keep HGh.out).at 2 _ rfl
          go_wp2_with (go_at_call 23; ((with_reducible refine CK2.mono ?_); rintro e wj ⟨rfl, hg⟩; have HGj := Lib.hid (grew_trans HGh.out hg); clear hg z0 z1 z2 o0 o1 o2))
          go_roundw
          case rel => exact ⟨4 + 1, by go_num, by omega, grew_trans HG4.out HGj.out⟩
          case measure => simp only [intOf]; omega
      · have k5 : ¬ (k : Int) < 5 := by omega
        go_wp2_with (go_at_call 30; ((with_reducible refine (wakes11_any _).mono ?_); rintro e wq ⟨rfl, hg⟩; have HGq := Lib.hid hg; clear hg))
        go_ret
        exact ⟨rfl, grew_trans (grew_trans HG.out HG4.out) HGq.out⟩
  · rw [hhv] at C0
    go_enter Try.func4, Try.ntmps4
    go_upto_region 1 with fail
    generalize (((w.alloc (.cells #[.slice A1 r.1.length c1, .slice A2 r.2.1.length c2, .slice A3 r.2.2.length c3] 26)).alloc (.cells #[.int .i64 q1, .int .i64 q2, .int .i64 q3, .int .i64 q4, .int .i64 q5, .int .i64 q6, .int .i64 q7, .int .i64 q8, .int .i64 q9, .int .i64 q10, .int .i64 q11, .int .i64 q12] 38)).alloc (.cells #[.int .i64 h1, .int .i64 h2, .int .i64 h3, .int .i64 h4] 42)) = w0 at *
    have z0 := (HR.out).at 0 _ rfl
    have z1 := (HR.out).at 1 _ rfl
    have z2 := (HR.out).at 2 _ rfl
    go_wp2_with (go_at_call 9; ((with_reducible refine (C0 _).mono ?_); rintro e wn ⟨rfl, hg⟩; have HGn := Lib.hid hg; clear hg))
    go_ret
    exact ⟨rfl, grew_trans HG0.out HGn.out⟩
end Go.Proofs.Ytnbgbfbiieimgaa.NumK
namespace Go.Proofs.Ytnbgbfbiieimgaa.NumK
open Go.RowKit
theorem rollExact_row (w : World) {cs ci ca : Array Value} {r : Rl} {ii : In} {aa : As} (h : spRl.rd w cs.toList r) (hi : spIn.rd w ci.toList ii) (ha : spAs.rd w ca.toList aa) (who need no price state : Int) :
    Calls Try.prog 4 #[.agg cs, .int .i64 who, .int .i64 need, .agg ci, .agg ca, .int .i64 no, .int .i64 price, .int .i64 state] w fun e w' => e = .returned (.bool true) ∧ Grew w w' := by
  obtain ⟨A1, A2, A3, n1, n2, n3, c1, c2, c3, e, hI⟩ := roll_of h
  rw [e, inst_of hi, asset_of ha]
  exact rollExact_walk r who need ii aa no price state A1 A2 A3 n1 n2 n3 c1 c2 c3 w hI
end Go.Proofs.Ytnbgbfbiieimgaa.NumK
namespace Go.Proofs.Ytnbgbfbiieimgaa.rollExact
open Go.ChangeShapes Go.WideShapes Go.ChangeAt Go.RowKit
set_option linter.unusedVariables false

theorem own : ownKnob Try.prog.godebug = none := by kernel_rfl
theorem laidOut : laidOutB Try.prog = true := by kernel_rfl

set_option maxRecDepth 100000 in
theorem lifted (os : Os) (started : os.Started) (H : Type) (enc : TypeId × Value → H) :
    ReturnsInHanded {} Try.checked os 4 .any (Rows.rollExactSpec.pre6 enc Try.prog Try.f4 Rows.rollExactRow.domain false) (Rows.rollExactSpec.post enc Try.prog Try.f4 false true false false) := by
  refine returnsInHanded_of_change (C := Try.checked) own started (by kernel_rfl) Try.func4
    (ChangeSpec.witness6 (enc := enc) (C := Try.checked) false ⟨#[], #[.agg #[.slice none 0 0, .slice none 0 0, .slice none 0 0], .int .i64 0, .int .i64 0, .agg #[.int .i64 0, .int .i64 0, .int .i64 0, .int .i64 0, .int .i64 0, .int .i64 0, .int .i64 0, .int .i64 0, .int .i64 0, .int .i64 0, .int .i64 0, .int .i64 0], .agg #[.int .i64 0, .int .i64 0, .int .i64 0, .int .i64 0], .int .i64 0, .int .i64 0, .int .i64 0], []⟩ 8 (by kernel_rfl) (by kernel_rfl) (by kernel_rfl) (by kernel_rfl)) ?_
  intro W base args ds gs before hval0 hW hcnd _
  have hval : ∀ (j : Nat) t v, Try.f4.params[j]? = some t → args[j]? = some v → Value.okWide Try.prog W .any base t v := hval0
  have hW' := hW
  obtain ⟨p, q, hA0, hV, rfl, hfz, hnd⟩ := hW
  have hA : DataW.TrodAll enc Try.prog W 0 (fun _ => true) true Try.f4.params.toList args.toList ds p := hA0
  skip
  rw [Try.params4] at hA hval
  obtain ⟨v0, vs0, d0, ds0, p0, q0, hargs, rfl, rfl, h0, r0⟩ := trodAll_cons hA
  obtain ⟨v1, vs1, d1, ds1, p1, q1, rfl, rfl, rfl, h1, r1⟩ := trodAll_cons r0
  obtain ⟨v2, vs2, d2, ds2, p2, q2, rfl, rfl, rfl, h2, r2⟩ := trodAll_cons r1
  obtain ⟨v3, vs3, d3, ds3, p3, q3, rfl, rfl, rfl, h3, r3⟩ := trodAll_cons r2
  obtain ⟨v4, vs4, d4, ds4, p4, q4, rfl, rfl, rfl, h4, r4⟩ := trodAll_cons r3
  obtain ⟨v5, vs5, d5, ds5, p5, q5, rfl, rfl, rfl, h5, r5⟩ := trodAll_cons r4
  obtain ⟨v6, vs6, d6, ds6, p6, q6, rfl, rfl, rfl, h6, r6⟩ := trodAll_cons r5
  obtain ⟨v7, vs7, d7, ds7, p7, q7, rfl, rfl, rfl, h7, r7⟩ := trodAll_cons r6
  obtain ⟨rfl, rfl, rfl⟩ := trodAll_nil r7
  obtain rfl : args = #[v0, v1, v2, v3, v4, v5, v6, v7] := by cases args; simp_all
  obtain ⟨rfl, rfl⟩ := trodVars_none hV
  have k0 := h0
  have lt0 : ∀ x ∈ p0, x.block < W.heap.size := by obtain ⟨m, hm⟩ := k0; exact DataW.trod_lt m _ _ _ hm
  obtain ⟨cs0, x0, rfl, e0⟩ := NumK.arg_struct Try.underlying26 NumK.opens_roll (hval 0 26 v0 rfl rfl) h0
  obtain ⟨a1, rfl, rfl, rfl, w1⟩ := open_int Try.underlying3 (hval 1 3 v1 rfl rfl) h1
  obtain ⟨a2, rfl, rfl, rfl, w2⟩ := open_int Try.underlying3 (hval 2 3 v2 rfl rfl) h2
  have k3 := h3
  have lt3 : ∀ x ∈ p3, x.block < W.heap.size := by obtain ⟨m, hm⟩ := k3; exact DataW.trod_lt m _ _ _ hm
  obtain ⟨cs3, x3, rfl, e3⟩ := NumK.arg_struct Try.underlying38 NumK.opens_inst (hval 3 38 v3 rfl rfl) h3
  have k4 := h4
  have lt4 : ∀ x ∈ p4, x.block < W.heap.size := by obtain ⟨m, hm⟩ := k4; exact DataW.trod_lt m _ _ _ hm
  obtain ⟨cs4, x4, rfl, e4⟩ := NumK.arg_struct Try.underlying42 NumK.opens_asset (hval 4 42 v4 rfl rfl) h4
  obtain ⟨a5, rfl, rfl, rfl, w5⟩ := open_int Try.underlying3 (hval 5 3 v5 rfl rfl) h5
  obtain ⟨a6, rfl, rfl, rfl, w6⟩ := open_int Try.underlying3 (hval 6 3 v6 rfl rfl) h6
  obtain ⟨a7, rfl, rfl, rfl, w7⟩ := open_int Try.underlying3 (hval 7 3 v7 rfl rfl) h7
  clear hA0 hval0
  refine (NumK.rollExact_row W e0 e3 e4 a1 a2 a5 a6 a7).mono fun e W' ⟨he, bel⟩ => ?_
  subst he
  exact ⟨_, rfl, _, _, _, [], _, [], hW', trodAll_mk1 (shut_bool Try.underlying4 _), (trodAll_cons_mk (Below.trod laidOut (by kernel_rfl) (of_decide_eq_true (by kernel_rfl)) k0 bel lt0) (trodAll_cons_mk (shut_int Try.underlying3 w1) (trodAll_cons_mk (shut_int Try.underlying3 w2) (trodAll_cons_mk (Below.trod laidOut (by kernel_rfl) (of_decide_eq_true (by kernel_rfl)) k3 bel lt3) (trodAll_cons_mk (Below.trod laidOut (by kernel_rfl) (of_decide_eq_true (by kernel_rfl)) k4 bel lt4) (trodAll_cons_mk (shut_int Try.underlying3 w5) (trodAll_cons_mk (shut_int Try.underlying3 w6) (trodAll_cons_mk (shut_int Try.underlying3 w7) trodAll_mk0)))))))), rfl, bel.frame _, fun h => by cases h⟩

theorem over : Rows.rollExactRow.holds Try.pinned (OpenSpec.ofChange Rows.rollExactSpec) :=
  OpenClaim.holds_of_wide 4 Try.f4 rfl rfl rfl rfl rfl rfl rfl ⟨rfl, rfl, rfl, rfl, rfl⟩ rfl rfl rfl rfl rfl (by kernel_rfl) Try.func4 (by kernel_rfl)
    (of_decide_eq_true (by kernel_rfl)) (by unfold Func.isWrapper; first | (rw [if_pos (by decide +kernel)]; kernel_rfl) | (rw [if_neg (by decide +kernel)]; exact ⟨rfl, rfl⟩))
    (fun os started H enc _ => lifted os started H enc)

/-! ### the statement -/
theorem proved : Rows.RollExactSaid := over
end Go.Proofs.Ytnbgbfbiieimgaa.rollExact
