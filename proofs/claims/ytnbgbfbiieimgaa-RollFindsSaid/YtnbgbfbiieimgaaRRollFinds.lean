/-
  For every roll, right or not, every number and every slice of states: whether the roll is right, what is found, the turned roll and those in the states are what the reference tells, and what is told is new memory; rolls of more than 100 rows and more than 100 states the statement lets by.
-/
import Derived.Test.YtnbgbfbiieimgaaRS
import Derived.Test.YtnbgbfbiieimgaaRA
import Derived.BigQuiet
import Derived.Test.YtnbgbfbiieimgaaRows
import Derived.WalkKit
import Derived.ProofKit
import Derived.OpenShut
import Derived.ShutString
import Derived.ChangeOld
import Derived.Below
import Derived.Carry
namespace Go.Proofs.Ytnbgbfbiieimgaa.NumK
open Go.RowKit
set_option linter.unusedVariables false

set_option maxRecDepth 100000 in
set_option maxHeartbeats 8000000 in
theorem rollFinds_walk (r : Rl) (x : Int) (ss : List Int) (A1 A2 A3 S : Option Addr) (n1 n2 n3 c1 c2 c3 m d : Nat) (w : World) (h : In3 w r A1 A2 A3 n1 n2 n3 c1 c2 c3) (hS : Ints w S m ss) (hm : m ≤ 9223372036854775807) :
    Calls Try.prog 3 #[rlV A1 A2 A3 n1 n2 n3 c1 c2 c3, .int .i64 x, .slice S m d] w fun e w' => e = .returned (.bool true) ∧ Grew w w' := by
  obtain rfl : r.1.length = n1 := h.rows.m.len
  obtain rfl : r.2.1.length = n2 := h.rows.i.len
  obtain rfl : r.2.2.length = n3 := h.rows.h.len
  have C0 := fun w' => heavy11_any A1 A2 A3 r.1.length r.2.1.length r.2.2.length c1 c2 c3 w'
  have HH : Hid (heavyR r.1.length r.2.1.length r.2.2.length = true ∨ (r.1.length ≤ 100 ∧ r.2.1.length ≤ 100 ∧ r.2.2.length ≤ 100)) := by
    show _ ∨ _
    unfold heavyR
    simp only [Bool.or_eq_true, decide_eq_true_eq]
    omega
  dsimp only [rlV] at C0 ⊢
  have HG0 : Hid (Grew w (w.alloc (.cells #[.slice A1 r.1.length c1, .slice A2 r.2.1.length c2, .slice A3 r.2.2.length c3] 26))) := grew_alloc _ _ _
  have HR : Hid (OwnC (w.alloc (.cells #[.slice A1 r.1.length c1, .slice A2 r.2.1.length c2, .slice A3 r.2.2.length c3] 26)) w.heap.size [.slice A1 r.1.length c1, .slice A2 r.2.1.length c2, .slice A3 r.2.2.length c3]) := OwnC.new w [.slice A1 r.1.length c1, .slice A2 r.2.1.length c2, .slice A3 r.2.2.length c3] _ _ rfl
  have HI := Lib.hid (h.keep (grew_alloc w #[.slice A1 r.1.length c1, .slice A2 r.2.1.length c2, .slice A3 r.2.2.length c3] 26))
  have HS := Lib.hid (hS.keep (grew_alloc w #[.slice A1 r.1.length c1, .slice A2 r.2.1.length c2, .slice A3 r.2.2.length c3] 26))
  clear h hS
  cases hhv : heavyR r.1.length r.2.1.length r.2.2.length
  · rw [hhv] at C0 HH
    have HN : Hid (r.1.length ≤ 100 ∧ r.2.1.length ≤ 100 ∧ r.2.2.length ≤ 100) := HH.out.resolve_left (by decide)
    clear HH hhv
    go_enter Try.func3, Try.ntmps3
    go_upto_region 1 with fail
    generalize (w.alloc (.cells #[.slice A1 r.1.length c1, .slice A2 r.2.1.length c2, .slice A3 r.2.2.length c3] 26)) = w0 at *
    have HG := HG0
    clear HG0
    have z0 := HR.out.at 0 _ rfl
    have z1 := HR.out.at 1 _ rfl
    have z2 := HR.out.at 2 _ rfl
    by_cases hbig : m > 100
    · have j2 : (m : Int) > 100 := by omega
      go_wp2_with (go_at_call 9; ((with_reducible refine (C0 _).mono ?_); rintro e wn ⟨rfl, hg⟩; have HGn := Lib.hid hg; clear hg))
      go_ret
      exact ⟨rfl, grew_trans HG.out HGn.out⟩
    · have j2 : ¬ (m : Int) > 100 := by omega
      go_upto_region 3 with (go_at_call 9; ((with_reducible refine (C0 _).mono ?_); rintro e w1 ⟨rfl, hg⟩; replace HR := Lib.hid (HR.out.keep hg); replace HI := Lib.hid (HI.out.keep hg); replace HS := Lib.hid (HS.out.keep hg); replace HG := Lib.hid (grew_trans HG.out hg); clear hg z0 z1 z2))
      have C1 := twinRoll_any r A1 A2 A3 r.1.length r.2.1.length r.2.2.length c1 c2 c3 w1 HI.out (by have := HN.out; omega)
      dsimp only [rlV] at C1
      have z0 := HR.out.at 0 _ rfl
      have z1 := HR.out.at 1 _ rfl
      have z2 := HR.out.at 2 _ rfl
      go_upto_region 4 with (go_at_call 10; ((with_reducible refine C1.mono ?_); rintro e w2 ⟨T1, T2, T3, t1, t2, t3, rfl, ho, hg⟩; dsimp only [rlV]; have HTO := Lib.hid ho.1; replace HR := Lib.hid (HR.out.keep hg); replace HI := Lib.hid (HI.out.keep hg); replace HS := Lib.hid (HS.out.keep hg); replace HG := Lib.hid (grew_trans HG.out hg); clear hg ho z0 z1 z2))
      have HT : Hid (OwnC (w2.alloc (.cells #[.slice T1 r.1.length t1, .slice T2 r.2.1.length t2, .slice T3 r.2.2.length t3] 26)) w2.heap.size [.slice T1 r.1.length t1, .slice T2 r.2.1.length t2, .slice T3 r.2.2.length t3]) := OwnC.new w2 [.slice T1 r.1.length t1, .slice T2 r.2.1.length t2, .slice T3 r.2.2.length t3] _ _ rfl
      have HTI := Lib.hid (HTO.out.in3.keep (grew_alloc w2 #[.slice T1 r.1.length t1, .slice T2 r.2.1.length t2, .slice T3 r.2.2.length t3] 26))
      replace HR := Lib.hid (HR.out.keep (grew_alloc w2 #[.slice T1 r.1.length t1, .slice T2 r.2.1.length t2, .slice T3 r.2.2.length t3] 26))
      replace HI := Lib.hid (HI.out.keep (grew_alloc w2 #[.slice T1 r.1.length t1, .slice T2 r.2.1.length t2, .slice T3 r.2.2.length t3] 26))
      replace HS := Lib.hid (HS.out.keep (grew_alloc w2 #[.slice T1 r.1.length t1, .slice T2 r.2.1.length t2, .slice T3 r.2.2.length t3] 26))
      replace HG := Lib.hid (grew_trans HG.out (grew_alloc w2 #[.slice T1 r.1.length t1, .slice T2 r.2.1.length t2, .slice T3 r.2.2.length t3] 26))
      clear HTO C1 C0
      generalize (w2.alloc (.cells #[.slice T1 r.1.length t1, .slice T2 r.2.1.length t2, .slice T3 r.2.2.length t3] 26)) = w3 at *
      generalize w2.heap.size = tb at *
      have x0 := grew_every (S := fun w' => w'.cell? ⟨w.heap.size, 0, none⟩ = some (.slice A1 r.1.length c1)) (fun w' g => (HR.out.keep g).at 0 _ rfl)
      have x1 := grew_every (S := fun w' => w'.cell? ⟨w.heap.size, 1, none⟩ = some (.slice A2 r.2.1.length c2)) (fun w' g => (HR.out.keep g).at 1 _ rfl)
      have x2 := grew_every (S := fun w' => w'.cell? ⟨w.heap.size, 2, none⟩ = some (.slice A3 r.2.2.length c3)) (fun w' g => (HR.out.keep g).at 2 _ rfl)
      have y0 := grew_every (S := fun w' => w'.cell? ⟨tb, 0, none⟩ = some (.slice T1 r.1.length t1)) (fun w' g => (HT.out.keep g).at 0 _ rfl)
      have y1 := grew_every (S := fun w' => w'.cell? ⟨tb, 1, none⟩ = some (.slice T2 r.2.1.length t2)) (fun w' g => (HT.out.keep g).at 1 _ rfl)
      have y2 := grew_every (S := fun w' => w'.cell? ⟨tb, 2, none⟩ = some (.slice T3 r.2.2.length t3)) (fun w' g => (HT.out.keep g).at 2 _ rfl)
      have C2 := fun w' (g : Grew w3 w') => check_any r T1 T2 T3 r.1.length r.2.1.length r.2.2.length t1 t2 t3 w' (HTI.out.rows.keep g) (by have := HN.out; omega)
      have C3 := fun w' (g : Grew w3 w') => rroll_any r A1 A2 A3 r.1.length r.2.1.length r.2.2.length c1 c2 c3 w' (HI.out.rows.keep g) (by have := HN.out; omega)
      dsimp only [rlV] at C2 C3
      go_cut [37] from 32 to 37 (fun v37 wx => v37 = .bool false ∧ Hid (Grew w3 wx))
      case first =>
        unfold chkV at C2
        cases hrr : rightR r
        all_goals
          (rw [hrr] at C2 C3
           refine wp_region_grew (by kernel_rfl) (by kernel_rfl) ?_
           repeat (go_big_quiet_step (first | with_reducible exact calls_every C2 | with_reducible exact calls_every C3))
           refine wpQuiet_nil ?_
           intro wy hw'
           have HGy := Lib.hid (grew_of hw')
           clear hw' x0 x1 x2 y0 y1 y2
           go_wp2_with fail
           go_meet)
        all_goals (case rel => exact ⟨rfl, HGy.out⟩)
      case rest =>
        obtain ⟨rfl, HGc⟩ := hcut
        clear x0 x1 x2 y0 y1 y2 C2 C3
        replace HR := Lib.hid (HR.out.keep HGc.out); replace HT := Lib.hid (HT.out.keep HGc.out); replace HI := Lib.hid (HI.out.keep HGc.out); replace HTI := Lib.hid (HTI.out.keep HGc.out); replace HS := Lib.hid (HS.out.keep HGc.out); replace HG := Lib.hid (grew_trans HG.out HGc.out)
        clear HGc
        have L6 := fun w' (g : RowE enMb w' T1 r.1.length r.1) => pfindMb_any T1 T2 T3 r.1.length r.2.1.length r.2.2.length t1 t2 t3 r.1 x w' g (by have := HN.out; omega) (fun w hh => firstMb_any T1 r.1.length t1 r.1 x w hh (by have := HN.out; omega))
        have L7 := fun w' (g : RowE enMb w' A1 r.1.length r.1) => rfindMb_any A1 A2 A3 r.1.length r.2.1.length r.2.2.length c1 c2 c3 r.1 x w' g (by have := HN.out; omega)
        have L8 := fun w' (g : RowE enIn w' T2 r.2.1.length r.2.1) => pfindIn_any T1 T2 T3 r.1.length r.2.1.length r.2.2.length t1 t2 t3 r.2.1 x w' g (by have := HN.out; omega) (fun w hh => firstIn_any T2 r.2.1.length t2 r.2.1 x w hh (by have := HN.out; omega))
        have L9 := fun w' (g : RowE enIn w' A2 r.2.1.length r.2.1) => rfindIn_any A1 A2 A3 r.1.length r.2.1.length r.2.2.length c1 c2 c3 r.2.1 x w' g (by have := HN.out; omega)
        have L10 := fun w' (g : RowE enAs w' T3 r.2.2.length r.2.2) => pfindAs_any T1 T2 T3 r.1.length r.2.1.length r.2.2.length t1 t2 t3 r.2.2 x w' g (by have := HN.out; omega) (fun w hh => firstAs_any T3 r.2.2.length t3 r.2.2 x w hh (by have := HN.out; omega))
        have L11 := fun w' (g : RowE enAs w' A3 r.2.2.length r.2.2) => rfindAs_any A1 A2 A3 r.1.length r.2.1.length r.2.2.length c1 c2 c3 r.2.2 x w' g (by have := HN.out; omega)
        generalize findL noMb mb0 r.1 x = p at *
        generalize hasL noMb r.1 x = f1 at *
        generalize findL noIn in0 r.2.1 x = q at *
        generalize hasL noIn r.2.1 x = f2 at *
        generalize findL noAs as0 r.2.2 x = h at *
        generalize hasL noAs r.2.2 x = f3 at *
        obtain ⟨p1, p2, p3⟩ := p
        obtain ⟨⟨q1, q2, q3, q4, q5, q6⟩, ⟨q7, q8, q9, q10, q11, q12⟩⟩ := q
        obtain ⟨h1, h2, h3, h4⟩ := h
        dsimp only [vMb, vIn, vAs] at L6 L7 L8 L9 L10 L11
        go_upto_region 6 with fail
        have z0 := HT.out.at 0 _ rfl
        have z1 := HT.out.at 1 _ rfl
        have z2 := HT.out.at 2 _ rfl
        go_upto_region 7 with (go_at_call 13; ((with_reducible refine (L6 _ HTI.out.rows.m).mono ?_); rintro e wn ⟨rfl, hg⟩; replace HR := Lib.hid (HR.out.keep hg); replace HT := Lib.hid (HT.out.keep hg); replace HI := Lib.hid (HI.out.keep hg); replace HTI := Lib.hid (HTI.out.keep hg); replace HS := Lib.hid (HS.out.keep hg); replace HG := Lib.hid (grew_trans HG.out hg); clear hg z0 z1 z2))
        have O8 : Hid (OwnC (wn.alloc (.cells #[.int .i64 p1, .int .i64 p2, .int .i64 p3] 33)) wn.heap.size [.int .i64 p1, .int .i64 p2, .int .i64 p3]) := OwnC.new wn [.int .i64 p1, .int .i64 p2, .int .i64 p3] _ _ rfl
        replace HR := Lib.hid (HR.out.keep (grew_alloc wn #[.int .i64 p1, .int .i64 p2, .int .i64 p3] 33)); replace HT := Lib.hid (HT.out.keep (grew_alloc wn #[.int .i64 p1, .int .i64 p2, .int .i64 p3] 33)); replace HI := Lib.hid (HI.out.keep (grew_alloc wn #[.int .i64 p1, .int .i64 p2, .int .i64 p3] 33)); replace HTI := Lib.hid (HTI.out.keep (grew_alloc wn #[.int .i64 p1, .int .i64 p2, .int .i64 p3] 33)); replace HS := Lib.hid (HS.out.keep (grew_alloc wn #[.int .i64 p1, .int .i64 p2, .int .i64 p3] 33)); replace HG := Lib.hid (grew_trans HG.out (grew_alloc wn #[.int .i64 p1, .int .i64 p2, .int .i64 p3] 33))
        generalize (wn.alloc (.cells #[.int .i64 p1, .int .i64 p2, .int .i64 p3] 33)) = wx8 at *
        generalize wn.heap.size = b8 at *
        clear wn
        have z0 := HR.out.at 0 _ rfl
        have z1 := HR.out.at 1 _ rfl
        have z2 := HR.out.at 2 _ rfl
        go_upto_region 8 with (go_at_call 14; ((with_reducible refine (L7 _ HI.out.rows.m).mono ?_); rintro e wn ⟨rfl, hg⟩; replace HR := Lib.hid (HR.out.keep hg); replace HT := Lib.hid (HT.out.keep hg); replace HI := Lib.hid (HI.out.keep hg); replace HTI := Lib.hid (HTI.out.keep hg); replace HS := Lib.hid (HS.out.keep hg); replace O8 := Lib.hid (O8.out.keep hg); replace HG := Lib.hid (grew_trans HG.out hg); clear hg z0 z1 z2))
        have O10 : Hid (OwnC (wn.alloc (.cells #[.int .i64 p1, .int .i64 p2, .int .i64 p3] 33)) wn.heap.size [.int .i64 p1, .int .i64 p2, .int .i64 p3]) := OwnC.new wn [.int .i64 p1, .int .i64 p2, .int .i64 p3] _ _ rfl
        replace HR := Lib.hid (HR.out.keep (grew_alloc wn #[.int .i64 p1, .int .i64 p2, .int .i64 p3] 33)); replace HT := Lib.hid (HT.out.keep (grew_alloc wn #[.int .i64 p1, .int .i64 p2, .int .i64 p3] 33)); replace HI := Lib.hid (HI.out.keep (grew_alloc wn #[.int .i64 p1, .int .i64 p2, .int .i64 p3] 33)); replace HTI := Lib.hid (HTI.out.keep (grew_alloc wn #[.int .i64 p1, .int .i64 p2, .int .i64 p3] 33)); replace HS := Lib.hid (HS.out.keep (grew_alloc wn #[.int .i64 p1, .int .i64 p2, .int .i64 p3] 33)); replace O8 := Lib.hid (O8.out.keep (grew_alloc wn #[.int .i64 p1, .int .i64 p2, .int .i64 p3] 33)); replace HG := Lib.hid (grew_trans HG.out (grew_alloc wn #[.int .i64 p1, .int .i64 p2, .int .i64 p3] 33))
        generalize (wn.alloc (.cells #[.int .i64 p1, .int .i64 p2, .int .i64 p3] 33)) = wx10 at *
        generalize wn.heap.size = b10 at *
        clear wn
        have z0 := HT.out.at 0 _ rfl
        have z1 := HT.out.at 1 _ rfl
        have z2 := HT.out.at 2 _ rfl
        go_upto_region 9 with (go_at_call 15; ((with_reducible refine (L8 _ HTI.out.rows.i).mono ?_); rintro e wn ⟨rfl, hg⟩; replace HR := Lib.hid (HR.out.keep hg); replace HT := Lib.hid (HT.out.keep hg); replace HI := Lib.hid (HI.out.keep hg); replace HTI := Lib.hid (HTI.out.keep hg); replace HS := Lib.hid (HS.out.keep hg); replace O8 := Lib.hid (O8.out.keep hg); replace O10 := Lib.hid (O10.out.keep hg); replace HG := Lib.hid (grew_trans HG.out hg); clear hg z0 z1 z2))
        have O12 : Hid (OwnC (wn.alloc (.cells #[.int .i64 q1, .int .i64 q2, .int .i64 q3, .int .i64 q4, .int .i64 q5, .int .i64 q6, .int .i64 q7, .int .i64 q8, .int .i64 q9, .int .i64 q10, .int .i64 q11, .int .i64 q12] 38)) wn.heap.size [.int .i64 q1, .int .i64 q2, .int .i64 q3, .int .i64 q4, .int .i64 q5, .int .i64 q6, .int .i64 q7, .int .i64 q8, .int .i64 q9, .int .i64 q10, .int .i64 q11, .int .i64 q12]) := OwnC.new wn [.int .i64 q1, .int .i64 q2, .int .i64 q3, .int .i64 q4, .int .i64 q5, .int .i64 q6, .int .i64 q7, .int .i64 q8, .int .i64 q9, .int .i64 q10, .int .i64 q11, .int .i64 q12] _ _ rfl
        replace HR := Lib.hid (HR.out.keep (grew_alloc wn #[.int .i64 q1, .int .i64 q2, .int .i64 q3, .int .i64 q4, .int .i64 q5, .int .i64 q6, .int .i64 q7, .int .i64 q8, .int .i64 q9, .int .i64 q10, .int .i64 q11, .int .i64 q12] 38)); replace HT := Lib.hid (HT.out.keep (grew_alloc wn #[.int .i64 q1, .int .i64 q2, .int .i64 q3, .int .i64 q4, .int .i64 q5, .int .i64 q6, .int .i64 q7, .int .i64 q8, .int .i64 q9, .int .i64 q10, .int .i64 q11, .int .i64 q12] 38)); replace HI := Lib.hid (HI.out.keep (grew_alloc wn #[.int .i64 q1, .int .i64 q2, .int .i64 q3, .int .i64 q4, .int .i64 q5, .int .i64 q6, .int .i64 q7, .int .i64 q8, .int .i64 q9, .int .i64 q10, .int .i64 q11, .int .i64 q12] 38)); replace HTI := Lib.hid (HTI.out.keep (grew_alloc wn #[.int .i64 q1, .int .i64 q2, .int .i64 q3, .int .i64 q4, .int .i64 q5, .int .i64 q6, .int .i64 q7, .int .i64 q8, .int .i64 q9, .int .i64 q10, .int .i64 q11, .int .i64 q12] 38)); replace HS := Lib.hid (HS.out.keep (grew_alloc wn #[.int .i64 q1, .int .i64 q2, .int .i64 q3, .int .i64 q4, .int .i64 q5, .int .i64 q6, .int .i64 q7, .int .i64 q8, .int .i64 q9, .int .i64 q10, .int .i64 q11, .int .i64 q12] 38)); replace O8 := Lib.hid (O8.out.keep (grew_alloc wn #[.int .i64 q1, .int .i64 q2, .int .i64 q3, .int .i64 q4, .int .i64 q5, .int .i64 q6, .int .i64 q7, .int .i64 q8, .int .i64 q9, .int .i64 q10, .int .i64 q11, .int .i64 q12] 38)); replace O10 := Lib.hid (O10.out.keep (grew_alloc wn #[.int .i64 q1, .int .i64 q2, .int .i64 q3, .int .i64 q4, .int .i64 q5, .int .i64 q6, .int .i64 q7, .int .i64 q8, .int .i64 q9, .int .i64 q10, .int .i64 q11, .int .i64 q12] 38)); replace HG := Lib.hid (grew_trans HG.out (grew_alloc wn #[.int .i64 q1, .int .i64 q2, .int .i64 q3, .int .i64 q4, .int .i64 q5, .int .i64 q6, .int .i64 q7, .int .i64 q8, .int .i64 q9, .int .i64 q10, .int .i64 q11, .int .i64 q12] 38))
        generalize (wn.alloc (.cells #[.int .i64 q1, .int .i64 q2, .int .i64 q3, .int .i64 q4, .int .i64 q5, .int .i64 q6, .int .i64 q7, .int .i64 q8, .int .i64 q9, .int .i64 q10, .int .i64 q11, .int .i64 q12] 38)) = wx12 at *
        generalize wn.heap.size = b12 at *
        clear wn
        have z0 := HR.out.at 0 _ rfl
        have z1 := HR.out.at 1 _ rfl
        have z2 := HR.out.at 2 _ rfl
        go_upto_region 10 with (go_at_call 16; ((with_reducible refine (L9 _ HI.out.rows.i).mono ?_); rintro e wn ⟨rfl, hg⟩; replace HR := Lib.hid (HR.out.keep hg); replace HT := Lib.hid (HT.out.keep hg); replace HI := Lib.hid (HI.out.keep hg); replace HTI := Lib.hid (HTI.out.keep hg); replace HS := Lib.hid (HS.out.keep hg); replace O8 := Lib.hid (O8.out.keep hg); replace O10 := Lib.hid (O10.out.keep hg); replace O12 := Lib.hid (O12.out.keep hg); replace HG := Lib.hid (grew_trans HG.out hg); clear hg z0 z1 z2))
        have O14 : Hid (OwnC (wn.alloc (.cells #[.int .i64 q1, .int .i64 q2, .int .i64 q3, .int .i64 q4, .int .i64 q5, .int .i64 q6, .int .i64 q7, .int .i64 q8, .int .i64 q9, .int .i64 q10, .int .i64 q11, .int .i64 q12] 38)) wn.heap.size [.int .i64 q1, .int .i64 q2, .int .i64 q3, .int .i64 q4, .int .i64 q5, .int .i64 q6, .int .i64 q7, .int .i64 q8, .int .i64 q9, .int .i64 q10, .int .i64 q11, .int .i64 q12]) := OwnC.new wn [.int .i64 q1, .int .i64 q2, .int .i64 q3, .int .i64 q4, .int .i64 q5, .int .i64 q6, .int .i64 q7, .int .i64 q8, .int .i64 q9, .int .i64 q10, .int .i64 q11, .int .i64 q12] _ _ rfl
        replace HR := Lib.hid (HR.out.keep (grew_alloc wn #[.int .i64 q1, .int .i64 q2, .int .i64 q3, .int .i64 q4, .int .i64 q5, .int .i64 q6, .int .i64 q7, .int .i64 q8, .int .i64 q9, .int .i64 q10, .int .i64 q11, .int .i64 q12] 38)); replace HT := Lib.hid (HT.out.keep (grew_alloc wn #[.int .i64 q1, .int .i64 q2, .int .i64 q3, .int .i64 q4, .int .i64 q5, .int .i64 q6, .int .i64 q7, .int .i64 q8, .int .i64 q9, .int .i64 q10, .int .i64 q11, .int .i64 q12] 38)); replace HI := Lib.hid (HI.out.keep (grew_alloc wn #[.int .i64 q1, .int .i64 q2, .int .i64 q3, .int .i64 q4, .int .i64 q5, .int .i64 q6, .int .i64 q7, .int .i64 q8, .int .i64 q9, .int .i64 q10, .int .i64 q11, .int .i64 q12] 38)); replace HTI := Lib.hid (HTI.out.keep (grew_alloc wn #[.int .i64 q1, .int .i64 q2, .int .i64 q3, .int .i64 q4, .int .i64 q5, .int .i64 q6, .int .i64 q7, .int .i64 q8, .int .i64 q9, .int .i64 q10, .int .i64 q11, .int .i64 q12] 38)); replace HS := Lib.hid (HS.out.keep (grew_alloc wn #[.int .i64 q1, .int .i64 q2, .int .i64 q3, .int .i64 q4, .int .i64 q5, .int .i64 q6, .int .i64 q7, .int .i64 q8, .int .i64 q9, .int .i64 q10, .int .i64 q11, .int .i64 q12] 38)); replace O8 := Lib.hid (O8.out.keep (grew_alloc wn #[.int .i64 q1, .int .i64 q2, .int .i64 q3, .int .i64 q4, .int .i64 q5, .int .i64 q6, .int .i64 q7, .int .i64 q8, .int .i64 q9, .int .i64 q10, .int .i64 q11, .int .i64 q12] 38)); replace O10 := Lib.hid (O10.out.keep (grew_alloc wn #[.int .i64 q1, .int .i64 q2, .int .i64 q3, .int .i64 q4, .int .i64 q5, .int .i64 q6, .int .i64 q7, .int .i64 q8, .int .i64 q9, .int .i64 q10, .int .i64 q11, .int .i64 q12] 38)); replace O12 := Lib.hid (O12.out.keep (grew_alloc wn #[.int .i64 q1, .int .i64 q2, .int .i64 q3, .int .i64 q4, .int .i64 q5, .int .i64 q6, .int .i64 q7, .int .i64 q8, .int .i64 q9, .int .i64 q10, .int .i64 q11, .int .i64 q12] 38)); replace HG := Lib.hid (grew_trans HG.out (grew_alloc wn #[.int .i64 q1, .int .i64 q2, .int .i64 q3, .int .i64 q4, .int .i64 q5, .int .i64 q6, .int .i64 q7, .int .i64 q8, .int .i64 q9, .int .i64 q10, .int .i64 q11, .int .i64 q12] 38))
        generalize (wn.alloc (.cells #[.int .i64 q1, .int .i64 q2, .int .i64 q3, .int .i64 q4, .int .i64 q5, .int .i64 q6, .int .i64 q7, .int .i64 q8, .int .i64 q9, .int .i64 q10, .int .i64 q11, .int .i64 q12] 38)) = wx14 at *
        generalize wn.heap.size = b14 at *
        clear wn
        have z0 := HT.out.at 0 _ rfl
        have z1 := HT.out.at 1 _ rfl
        have z2 := HT.out.at 2 _ rfl
        go_upto_region 11 with (go_at_call 17; ((with_reducible refine (L10 _ HTI.out.rows.h).mono ?_); rintro e wn ⟨rfl, hg⟩; replace HR := Lib.hid (HR.out.keep hg); replace HT := Lib.hid (HT.out.keep hg); replace HI := Lib.hid (HI.out.keep hg); replace HTI := Lib.hid (HTI.out.keep hg); replace HS := Lib.hid (HS.out.keep hg); replace O8 := Lib.hid (O8.out.keep hg); replace O10 := Lib.hid (O10.out.keep hg); replace O12 := Lib.hid (O12.out.keep hg); replace O14 := Lib.hid (O14.out.keep hg); replace HG := Lib.hid (grew_trans HG.out hg); clear hg z0 z1 z2))
        have O16 : Hid (OwnC (wn.alloc (.cells #[.int .i64 h1, .int .i64 h2, .int .i64 h3, .int .i64 h4] 42)) wn.heap.size [.int .i64 h1, .int .i64 h2, .int .i64 h3, .int .i64 h4]) := OwnC.new wn [.int .i64 h1, .int .i64 h2, .int .i64 h3, .int .i64 h4] _ _ rfl
        replace HR := Lib.hid (HR.out.keep (grew_alloc wn #[.int .i64 h1, .int .i64 h2, .int .i64 h3, .int .i64 h4] 42)); replace HT := Lib.hid (HT.out.keep (grew_alloc wn #[.int .i64 h1, .int .i64 h2, .int .i64 h3, .int .i64 h4] 42)); replace HI := Lib.hid (HI.out.keep (grew_alloc wn #[.int .i64 h1, .int .i64 h2, .int .i64 h3, .int .i64 h4] 42)); replace HTI := Lib.hid (HTI.out.keep (grew_alloc wn #[.int .i64 h1, .int .i64 h2, .int .i64 h3, .int .i64 h4] 42)); replace HS := Lib.hid (HS.out.keep (grew_alloc wn #[.int .i64 h1, .int .i64 h2, .int .i64 h3, .int .i64 h4] 42)); replace O8 := Lib.hid (O8.out.keep (grew_alloc wn #[.int .i64 h1, .int .i64 h2, .int .i64 h3, .int .i64 h4] 42)); replace O10 := Lib.hid (O10.out.keep (grew_alloc wn #[.int .i64 h1, .int .i64 h2, .int .i64 h3, .int .i64 h4] 42)); replace O12 := Lib.hid (O12.out.keep (grew_alloc wn #[.int .i64 h1, .int .i64 h2, .int .i64 h3, .int .i64 h4] 42)); replace O14 := Lib.hid (O14.out.keep (grew_alloc wn #[.int .i64 h1, .int .i64 h2, .int .i64 h3, .int .i64 h4] 42)); replace HG := Lib.hid (grew_trans HG.out (grew_alloc wn #[.int .i64 h1, .int .i64 h2, .int .i64 h3, .int .i64 h4] 42))
        generalize (wn.alloc (.cells #[.int .i64 h1, .int .i64 h2, .int .i64 h3, .int .i64 h4] 42)) = wx16 at *
        generalize wn.heap.size = b16 at *
        clear wn
        have z0 := HR.out.at 0 _ rfl
        have z1 := HR.out.at 1 _ rfl
        have z2 := HR.out.at 2 _ rfl
        go_upto_region 12 with (go_at_call 18; ((with_reducible refine (L11 _ HI.out.rows.h).mono ?_); rintro e wn ⟨rfl, hg⟩; replace HR := Lib.hid (HR.out.keep hg); replace HT := Lib.hid (HT.out.keep hg); replace HI := Lib.hid (HI.out.keep hg); replace HTI := Lib.hid (HTI.out.keep hg); replace HS := Lib.hid (HS.out.keep hg); replace O8 := Lib.hid (O8.out.keep hg); replace O10 := Lib.hid (O10.out.keep hg); replace O12 := Lib.hid (O12.out.keep hg); replace O14 := Lib.hid (O14.out.keep hg); replace O16 := Lib.hid (O16.out.keep hg); replace HG := Lib.hid (grew_trans HG.out hg); clear hg z0 z1 z2))
        have O18 : Hid (OwnC (wn.alloc (.cells #[.int .i64 h1, .int .i64 h2, .int .i64 h3, .int .i64 h4] 42)) wn.heap.size [.int .i64 h1, .int .i64 h2, .int .i64 h3, .int .i64 h4]) := OwnC.new wn [.int .i64 h1, .int .i64 h2, .int .i64 h3, .int .i64 h4] _ _ rfl
        replace HR := Lib.hid (HR.out.keep (grew_alloc wn #[.int .i64 h1, .int .i64 h2, .int .i64 h3, .int .i64 h4] 42)); replace HT := Lib.hid (HT.out.keep (grew_alloc wn #[.int .i64 h1, .int .i64 h2, .int .i64 h3, .int .i64 h4] 42)); replace HI := Lib.hid (HI.out.keep (grew_alloc wn #[.int .i64 h1, .int .i64 h2, .int .i64 h3, .int .i64 h4] 42)); replace HTI := Lib.hid (HTI.out.keep (grew_alloc wn #[.int .i64 h1, .int .i64 h2, .int .i64 h3, .int .i64 h4] 42)); replace HS := Lib.hid (HS.out.keep (grew_alloc wn #[.int .i64 h1, .int .i64 h2, .int .i64 h3, .int .i64 h4] 42)); replace O8 := Lib.hid (O8.out.keep (grew_alloc wn #[.int .i64 h1, .int .i64 h2, .int .i64 h3, .int .i64 h4] 42)); replace O10 := Lib.hid (O10.out.keep (grew_alloc wn #[.int .i64 h1, .int .i64 h2, .int .i64 h3, .int .i64 h4] 42)); replace O12 := Lib.hid (O12.out.keep (grew_alloc wn #[.int .i64 h1, .int .i64 h2, .int .i64 h3, .int .i64 h4] 42)); replace O14 := Lib.hid (O14.out.keep (grew_alloc wn #[.int .i64 h1, .int .i64 h2, .int .i64 h3, .int .i64 h4] 42)); replace O16 := Lib.hid (O16.out.keep (grew_alloc wn #[.int .i64 h1, .int .i64 h2, .int .i64 h3, .int .i64 h4] 42)); replace HG := Lib.hid (grew_trans HG.out (grew_alloc wn #[.int .i64 h1, .int .i64 h2, .int .i64 h3, .int .i64 h4] 42))
        generalize (wn.alloc (.cells #[.int .i64 h1, .int .i64 h2, .int .i64 h3, .int .i64 h4] 42)) = wx18 at *
        generalize wn.heap.size = b18 at *
        clear wn
        generalize hww : wx18 = ww at *
        clear L6 L7 L8 L9 L10 L11
        have hbb := Lib.hid (O10.out.keep (grew_alloc ww #[.int .i64 p1, .int .i64 p2, .int .i64 p3] 33))
        have o0 := O8.out.at 0 _ rfl
        have o1 := O8.out.at 1 _ rfl
        have o2 := O8.out.at 2 _ rfl
        have z0 := hbb.out.at 0 _ rfl
        have z1 := hbb.out.at 1 _ rfl
        have z2 := hbb.out.at 2 _ rfl
        have HB1 : Hid (RowE enMb (ww.alloc (.cells #[.int .i64 p1, .int .i64 p2, .int .i64 p3] 33)) (some ⟨ww.heap.size, 0, none⟩) 1 [(p1, p2, p3)]) := RowE.one enMb ww (p1, p2, p3) 33 _ rfl
        have HB2 : Hid (RowE enMb ((ww.alloc (.cells #[.int .i64 p1, .int .i64 p2, .int .i64 p3] 33)).alloc (.cells #[.int .i64 p1, .int .i64 p2, .int .i64 p3] 33)) (some ⟨ww.heap.size + 1, 0, none⟩) 1 [(p1, p2, p3)]) := RowE.one enMb (ww.alloc (.cells #[.int .i64 p1, .int .i64 p2, .int .i64 p3] 33)) (p1, p2, p3) 33 _ (by simp)
        have CM := keepMbs_yes (some ⟨ww.heap.size, 0, none⟩) (some ⟨ww.heap.size + 1, 0, none⟩) 1 1 1 [(p1, p2, p3)] _ (HB1.out.keep (grew_alloc _ _ _)) HB2.out (by omega)
        have CI := fun w' => keepInst_yes ((q1, q2, q3, q4, q5, q6), (q7, q8, q9, q10, q11, q12)) w'
        have CA := fun w' => keepAsset_yes (h1, h2, h3, h4) w'
        dsimp only [vIn, vAs] at CI CA
        have hbne1 : (f1 != f1) = false := by simp
        have hbne2 : (f2 != f2) = false := by simp
        have hbne3 : (f3 != f3) = false := by simp
        have HGA : Hid (Grew ww ((ww.alloc (.cells #[.int .i64 p1, .int .i64 p2, .int .i64 p3] 33)).alloc (.cells #[.int .i64 p1, .int .i64 p2, .int .i64 p3] 33))) := grew_trans (grew_alloc _ _ _) (grew_alloc _ _ _)
        go_upto_region 14 with (first
          | (go_at_call 19; ((with_reducible refine CM.mono ?_); rintro e wa ⟨rfl, hg⟩; have hg2 := grew_trans HGA.out hg; clear o0 o1 o2 z0 z1 z2; replace HR := Lib.hid (HR.out.keep hg2); replace HT := Lib.hid (HT.out.keep hg2); replace HI := Lib.hid (HI.out.keep hg2); replace HTI := Lib.hid (HTI.out.keep hg2); replace HS := Lib.hid (HS.out.keep hg2); replace O8 := Lib.hid (O8.out.keep hg2); replace O10 := Lib.hid (O10.out.keep hg2); replace O12 := Lib.hid (O12.out.keep hg2); replace O14 := Lib.hid (O14.out.keep hg2); replace O16 := Lib.hid (O16.out.keep hg2); replace O18 := Lib.hid (O18.out.keep hg2); replace HG := Lib.hid (grew_trans HG.out hg2); clear hg hg2; have y0 := O12.out.at 0 _ rfl; have z0 := O14.out.at 0 _ rfl; have y1 := O12.out.at 1 _ rfl; have z1 := O14.out.at 1 _ rfl; have y2 := O12.out.at 2 _ rfl; have z2 := O14.out.at 2 _ rfl; have y3 := O12.out.at 3 _ rfl; have z3 := O14.out.at 3 _ rfl; have y4 := O12.out.at 4 _ rfl; have z4 := O14.out.at 4 _ rfl; have y5 := O12.out.at 5 _ rfl; have z5 := O14.out.at 5 _ rfl; have y6 := O12.out.at 6 _ rfl; have z6 := O14.out.at 6 _ rfl; have y7 := O12.out.at 7 _ rfl; have z7 := O14.out.at 7 _ rfl; have y8 := O12.out.at 8 _ rfl; have z8 := O14.out.at 8 _ rfl; have y9 := O12.out.at 9 _ rfl; have z9 := O14.out.at 9 _ rfl; have y10 := O12.out.at 10 _ rfl; have z10 := O14.out.at 10 _ rfl; have y11 := O12.out.at 11 _ rfl; have z11 := O14.out.at 11 _ rfl))
          | (go_at_call 20; ((with_reducible refine (CI _).mono ?_); rintro e wb ⟨rfl, hg⟩; clear y0 z0 y1 z1 y2 z2 y3 z3 y4 z4 y5 z5 y6 z6 y7 z7 y8 z8 y9 z9 y10 z10 y11 z11; replace HR := Lib.hid (HR.out.keep hg); replace HT := Lib.hid (HT.out.keep hg); replace HI := Lib.hid (HI.out.keep hg); replace HTI := Lib.hid (HTI.out.keep hg); replace HS := Lib.hid (HS.out.keep hg); replace O8 := Lib.hid (O8.out.keep hg); replace O10 := Lib.hid (O10.out.keep hg); replace O12 := Lib.hid (O12.out.keep hg); replace O14 := Lib.hid (O14.out.keep hg); replace O16 := Lib.hid (O16.out.keep hg); replace O18 := Lib.hid (O18.out.keep hg); replace HG := Lib.hid (grew_trans HG.out hg); clear hg; have y0 := O16.out.at 0 _ rfl; have z0 := O18.out.at 0 _ rfl; have y1 := O16.out.at 1 _ rfl; have z1 := O18.out.at 1 _ rfl; have y2 := O16.out.at 2 _ rfl; have z2 := O18.out.at 2 _ rfl; have y3 := O16.out.at 3 _ rfl; have z3 := O18.out.at 3 _ rfl))
          | (go_at_call 21; ((with_reducible refine (CA _).mono ?_); rintro e wd ⟨rfl, hg⟩; clear y0 z0 y1 z1 y2 z2 y3 z3; replace HR := Lib.hid (HR.out.keep hg); replace HT := Lib.hid (HT.out.keep hg); replace HI := Lib.hid (HI.out.keep hg); replace HTI := Lib.hid (HTI.out.keep hg); replace HS := Lib.hid (HS.out.keep hg); replace HG := Lib.hid (grew_trans HG.out hg); clear hg)))
        clear CM CI CA HB1 HB2 HGA hbb O8 O10 O12 O14 O16 O18
        have KR := HR
        have KT := HT
        have KI := HI
        have KTI := HTI
        have KS := HS
        have KG := HG
        have CU := turn_any r T1 T2 T3 r.1.length r.2.1.length r.2.2.length t1 t2 t3 wd HTI.out (by have := HN.out; omega)
        dsimp only [rlV] at CU
        have z0 := HT.out.at 0 _ rfl
        have z1 := HT.out.at 1 _ rfl
        have z2 := HT.out.at 2 _ rfl
        have HGb : Hid (Grew wd wd) := grew_refl _
        go_upto_region 15 with (go_at_call 22; ((with_reducible refine CU.mono ?_); rintro e we ⟨U1, U2, U3, u1, u2, u3, rfl, ho, hg⟩; dsimp only [rlV]; have HUO := Lib.hid ho; replace HR := Lib.hid (HR.out.keep hg); replace HT := Lib.hid (HT.out.keep hg); replace HI := Lib.hid (HI.out.keep hg); replace HTI := Lib.hid (HTI.out.keep hg); replace HS := Lib.hid (HS.out.keep hg); replace HG := Lib.hid (grew_trans HG.out hg); replace HGb := Lib.hid hg; clear ho hg z0 z1 z2))
        have HU : Hid (OwnC (we.alloc (.cells #[.slice U1 (turnF r).1.length u1, .slice U2 (turnF r).2.1.length u2, .slice U3 (turnF r).2.2.length u3] 26)) we.heap.size [.slice U1 (turnF r).1.length u1, .slice U2 (turnF r).2.1.length u2, .slice U3 (turnF r).2.2.length u3]) := OwnC.new we [.slice U1 (turnF r).1.length u1, .slice U2 (turnF r).2.1.length u2, .slice U3 (turnF r).2.2.length u3] _ _ rfl
        replace HR := Lib.hid (HR.out.keep (grew_alloc we #[.slice U1 (turnF r).1.length u1, .slice U2 (turnF r).2.1.length u2, .slice U3 (turnF r).2.2.length u3] 26)); replace HT := Lib.hid (HT.out.keep (grew_alloc we #[.slice U1 (turnF r).1.length u1, .slice U2 (turnF r).2.1.length u2, .slice U3 (turnF r).2.2.length u3] 26)); replace HI := Lib.hid (HI.out.keep (grew_alloc we #[.slice U1 (turnF r).1.length u1, .slice U2 (turnF r).2.1.length u2, .slice U3 (turnF r).2.2.length u3] 26)); replace HTI := Lib.hid (HTI.out.keep (grew_alloc we #[.slice U1 (turnF r).1.length u1, .slice U2 (turnF r).2.1.length u2, .slice U3 (turnF r).2.2.length u3] 26)); replace HS := Lib.hid (HS.out.keep (grew_alloc we #[.slice U1 (turnF r).1.length u1, .slice U2 (turnF r).2.1.length u2, .slice U3 (turnF r).2.2.length u3] 26)); replace HUO := Lib.hid (HUO.out.keep (grew_alloc we #[.slice U1 (turnF r).1.length u1, .slice U2 (turnF r).2.1.length u2, .slice U3 (turnF r).2.2.length u3] 26)); replace HG := Lib.hid (grew_trans HG.out (grew_alloc we #[.slice U1 (turnF r).1.length u1, .slice U2 (turnF r).2.1.length u2, .slice U3 (turnF r).2.2.length u3] 26))
        replace HGb := Lib.hid (grew_trans HGb.out (grew_alloc we #[.slice U1 (turnF r).1.length u1, .slice U2 (turnF r).2.1.length u2, .slice U3 (turnF r).2.2.length u3] 26))
        generalize (we.alloc (.cells #[.slice U1 (turnF r).1.length u1, .slice U2 (turnF r).2.1.length u2, .slice U3 (turnF r).2.2.length u3] 26)) = wf at *
        generalize we.heap.size = ub at *
        have CV := fun w' (g : Grew wf w') => rturn_any r A1 A2 A3 r.1.length r.2.1.length r.2.2.length c1 c2 c3 w' (HI.out.keep g) (by have := HN.out; omega)
        have CK := fun w' (g : Grew wf w') (V1 V2 V3 : Option Addr) (v1 v2 v3 : Nat) (hh : Rows3 w' (turnF r) V1 V2 V3 (turnF r).1.length (turnF r).2.1.length (turnF r).2.2.length) => keepRoll_yes (turnF r) U1 U2 U3 V1 V2 V3 (turnF r).1.length (turnF r).2.1.length (turnF r).2.2.length u1 u2 u3 v1 v2 v3 w' (HUO.out.in3.rows.keep g) hh (by have := HN.out; have := turn_len r; omega)
        dsimp only [rlV] at CV CK
        have HK : Hid (∀ w', Grew wf w' → (w'.cell? ⟨ub, 0, none⟩ = some (.slice U1 (turnF r).1.length u1) ∧ w'.cell? ⟨ub, 1, none⟩ = some (.slice U2 (turnF r).2.1.length u2) ∧ w'.cell? ⟨ub, 2, none⟩ = some (.slice U3 (turnF r).2.2.length u3)) ∧ w'.cell? ⟨w.heap.size, 0, none⟩ = some (.slice A1 r.1.length c1) ∧ w'.cell? ⟨w.heap.size, 1, none⟩ = some (.slice A2 r.2.1.length c2) ∧ w'.cell? ⟨w.heap.size, 2, none⟩ = some (.slice A3 r.2.2.length c3)) := fun w' g =>
          ⟨⟨(HU.out.keep g).at 0 _ rfl, (HU.out.keep g).at 1 _ rfl, (HU.out.keep g).at 2 _ rfl⟩, (HR.out.keep g).at 0 _ rfl, (HR.out.keep g).at 1 _ rfl, (HR.out.keep g).at 2 _ rfl⟩
        go_region_held3 (fun w' => (w'.cell? ⟨ub, 0, none⟩ = some (.slice U1 (turnF r).1.length u1) ∧ w'.cell? ⟨ub, 1, none⟩ = some (.slice U2 (turnF r).2.1.length u2) ∧ w'.cell? ⟨ub, 2, none⟩ = some (.slice U3 (turnF r).2.2.length u3)) ∧ w'.cell? ⟨w.heap.size, 0, none⟩ = some (.slice A1 r.1.length c1) ∧ w'.cell? ⟨w.heap.size, 1, none⟩ = some (.slice A2 r.2.1.length c2) ∧ w'.cell? ⟨w.heap.size, 2, none⟩ = some (.slice A3 r.2.2.length c3))
          (first
            | (with_reducible exact HK.out _ (grew_drew (grew_refl _)))
            | (with_reducible exact HK.out _ HGt.out)
            | (with_reducible exact HK.out _ HGs.out))
          (first
            | (go_at_call 24; ((with_reducible refine (CV _ (grew_drew (grew_refl _))).mono ?_); rintro e wg ⟨V1, V2, V3, v1, v2, v3, rfl, ho, hg⟩; dsimp only [rlV]; have HGs : Hid (Grew wf wg) := grew_trans (grew_drew (grew_refl _)) hg; have HVO := Lib.hid ho; clear ho hg))
            | (go_at_call 23; ((with_reducible refine (CK _ HGs.out _ _ _ _ _ _ HVO.out.in3.rows).mono ?_); rintro e wh ⟨rfl, hg⟩; have HGt : Hid (Grew wf wh) := grew_trans HGs.out hg; clear hg)))
        clear HK CV CK HVO CU
        replace HR := Lib.hid (HR.out.keep HGt.out); replace HT := Lib.hid (HT.out.keep HGt.out); replace HI := Lib.hid (HI.out.keep HGt.out); replace HTI := Lib.hid (HTI.out.keep HGt.out); replace HS := Lib.hid (HS.out.keep HGt.out); replace HU := Lib.hid (HU.out.keep HGt.out); replace HUO := Lib.hid (HUO.out.keep HGt.out); replace HG := Lib.hid (grew_trans HG.out HGt.out)
        replace HGb := Lib.hid (grew_trans HGb.out HGt.out)
        go_upto_region 16 with fail
        have CSP := spoilRoll_any U1 U2 U3 (turnF r).1.length (turnF r).2.1.length (turnF r).2.2.length u1 u2 u3 wd.heap.size wh HUO.out.m.sp3 HUO.out.i.sp3 HUO.out.h.sp3 HGb.out.size (by have := HN.out; have := turn_len r; omega)
        dsimp only [rlV] at CSP
        have z0 := HU.out.at 0 _ rfl
        have z1 := HU.out.at 1 _ rfl
        have z2 := HU.out.at 2 _ rfl
        go_upto_region 17 with (go_at_call 25; ((with_reducible refine CSP.mono ?_); rintro e wi2 ⟨rfl, hbel⟩; have hlow := grew_low HGb.out hbel (Nat.le_refl _); clear hbel z0 z1 z2 HR HT HI HTI HS HG; have HR := Lib.hid (KR.out.keep hlow); have HT := Lib.hid (KT.out.keep hlow); have HI := Lib.hid (KI.out.keep hlow); have HTI := Lib.hid (KTI.out.keep hlow); have HS := Lib.hid (KS.out.keep hlow); have HG := Lib.hid (grew_trans KG.out hlow); clear hlow))
        clear CSP HU HUO HGb KR KT KI KTI KS KG HGt HGs
        have CTH := those_any r T1 T2 T3 S r.1.length r.2.1.length r.2.2.length t1 t2 t3 m d ss wi2 HTI.out.rows.m HS.out (by have := HN.out; omega) (by omega)
        dsimp only [rlV] at CTH
        have z0 := HT.out.at 0 _ rfl
        have z1 := HT.out.at 1 _ rfl
        have z2 := HT.out.at 2 _ rfl
        have HTL := Lib.hid (those_len ss r.1)
        go_upto_region 18 with (go_at_call 26; ((with_reducible refine CTH.mono ?_); rintro e wj ⟨v, rfl, ho, hg⟩; obtain ⟨B1, bc, e1, -⟩ := ho.slab; subst e1; have HBO := Lib.hid ho; have HGe := Lib.hid hg; clear ho hg z0 z1 z2))
        clear CTH
        generalize htl : thoseL ss r.1 = tl at *
        have CRT := rthose_any r A1 A2 A3 S r.1.length r.2.1.length r.2.2.length c1 c2 c3 m d ss wj (HI.out.rows.m.keep HGe.out) (HS.out.keep HGe.out) (by have := HN.out; omega) (by omega)
        rw [htl] at CRT
        dsimp only [rlV] at CRT
        have CKI := fun w' (g : Grew wj w') (V : Option Addr) (vc : Nat) (hh : Ints w' V tl.length tl) => keepInts_yes B1 V tl.length bc vc tl w' (ints_of_E (own_form (HBO.out.keep g)).1) hh (by have := HTL.out; have := HN.out; omega)
        have z0 := (HR.out.keep HGe.out).at 0 _ rfl
        have z1 := (HR.out.keep HGe.out).at 1 _ rfl
        have z2 := (HR.out.keep HGe.out).at 2 _ rfl
        go_upto_region 19 with (first
          | (go_at_call 28; ((with_reducible refine CRT.mono ?_); rintro e wk ⟨v, rfl, ho, hg⟩; obtain ⟨V1, vc, rfl, hrw, -⟩ := ho.form; have HVI := Lib.hid (ints_of_E hrw); have HGk := Lib.hid hg; clear ho hg hrw))
          | (go_at_call 27; ((with_reducible refine (CKI _ HGk.out _ _ HVI.out).mono ?_); rintro e wl ⟨rfl, hg⟩; have HGl := Lib.hid (grew_trans HGk.out hg); clear hg z0 z1 z2)))
        clear CRT CKI
        have CSI := spoilInts_any B1 tl.length bc wi2.heap.size wl (by
          obtain ⟨B, bc', e1, hs⟩ := (HBO.out.keep HGl.out).slab
          cases e1
          rcases hs with hs | ⟨g, h1, h2, h3⟩
          · exact Or.inl hs
          · exact Or.inr ⟨g, h1, h2, by have h4 : Slab wl g (tl.length * 1) := h3; rw [Nat.mul_one] at h4; exact h4⟩) (by have := HTL.out; have := HN.out; omega)
        go_upto_region 20 with (go_at_call 29; ((with_reducible refine CSI.mono ?_); rintro e wo ⟨rfl, hbel⟩; have hlow := grew_low (grew_trans HGe.out HGl.out) hbel (Nat.le_refl _); clear hbel; replace HR := Lib.hid (HR.out.keep hlow); replace HT := Lib.hid (HT.out.keep hlow); replace HI := Lib.hid (HI.out.keep hlow); replace HTI := Lib.hid (HTI.out.keep hlow); replace HS := Lib.hid (HS.out.keep hlow); replace HG := Lib.hid (grew_trans HG.out hlow); clear hlow))
        clear CSI HBO
        have CKR := keepRoll_yes r T1 T2 T3 A1 A2 A3 r.1.length r.2.1.length r.2.2.length t1 t2 t3 c1 c2 c3 wo HTI.out.rows HI.out.rows (by have := HN.out; omega)
        dsimp only [rlV] at CKR
        have z0 := HR.out.at 0 _ rfl
        have z1 := HR.out.at 1 _ rfl
        have z2 := HR.out.at 2 _ rfl
        have y0 := HT.out.at 0 _ rfl
        have y1 := HT.out.at 1 _ rfl
        have y2 := HT.out.at 2 _ rfl
        go_wp2_with (first
          | (go_at_call 23; ((with_reducible refine CKR.mono ?_); rintro e wp ⟨rfl, hg⟩; have HGp := Lib.hid hg; clear hg z0 z1 z2 y0 y1 y2))
          | (go_at_call 30; ((with_reducible refine (wakes11_any _).mono ?_); rintro e wq ⟨rfl, hg⟩; have HGq := Lib.hid (grew_trans HGp.out hg); clear hg)))
        go_ret
        exact ⟨rfl, grew_trans HG.out HGq.out⟩
  · rw [hhv] at C0
    go_enter Try.func3, Try.ntmps3
    go_upto_region 1 with fail
    generalize (w.alloc (.cells #[.slice A1 r.1.length c1, .slice A2 r.2.1.length c2, .slice A3 r.2.2.length c3] 26)) = w0 at *
    have z0 := HR.out.at 0 _ rfl
    have z1 := HR.out.at 1 _ rfl
    have z2 := HR.out.at 2 _ rfl
    go_wp2_with (go_at_call 9; ((with_reducible refine (C0 _).mono ?_); rintro e wn ⟨rfl, hg⟩; have HGn := Lib.hid hg; clear hg))
    go_ret
    exact ⟨rfl, grew_trans HG0.out HGn.out⟩
end Go.Proofs.Ytnbgbfbiieimgaa.NumK
namespace Go.Proofs.Ytnbgbfbiieimgaa.NumK
open Go.RowKit
theorem rollFinds_row (w : World) {cs : Array Value} {r : Rl} (h : spRl.rd w cs.toList r) (x : Int) (S : Option Addr) (m d : Nat) (ss : List Int) (hS : Ints w S m ss) (hm : m ≤ 9223372036854775807) :
    Calls Try.prog 3 #[.agg cs, .int .i64 x, .slice S m d] w fun e w' => e = .returned (.bool true) ∧ Grew w w' := by
  obtain ⟨A1, A2, A3, n1, n2, n3, c1, c2, c3, e, hI⟩ := roll_of h
  rw [e]
  exact rollFinds_walk r x ss A1 A2 A3 S n1 n2 n3 c1 c2 c3 m d w hI hS hm
end Go.Proofs.Ytnbgbfbiieimgaa.NumK
namespace Go.Proofs.Ytnbgbfbiieimgaa.rollFinds
open Go.ChangeShapes Go.WideShapes Go.ChangeAt Go.RowKit
set_option linter.unusedVariables false

theorem own : ownKnob Try.prog.godebug = none := by kernel_rfl
theorem laidOut : laidOutB Try.prog = true := by kernel_rfl

set_option maxRecDepth 100000 in
theorem lifted (os : Os) (started : os.Started) (H : Type) (enc : TypeId × Value → H) :
    ReturnsInHanded {} Try.checked os 3 .any (Rows.rollFindsSpec.pre6 enc Try.prog Try.f3 Rows.rollFindsRow.domain false) (Rows.rollFindsSpec.post enc Try.prog Try.f3 false true false false) := by
  refine returnsInHanded_of_change (C := Try.checked) own started (by kernel_rfl) Try.func3
    (ChangeSpec.witness6 (enc := enc) (C := Try.checked) false ⟨#[], #[.agg #[.slice none 0 0, .slice none 0 0, .slice none 0 0], .int .i64 0, .slice none 0 0], []⟩ 8 (by kernel_rfl) (by kernel_rfl) (by kernel_rfl) (by kernel_rfl)) ?_
  intro W base args ds gs before hval0 hW hcnd _
  have hval : ∀ (j : Nat) t v, Try.f3.params[j]? = some t → args[j]? = some v → Value.okWide Try.prog W .any base t v := hval0
  have hW' := hW
  obtain ⟨p, q, hA0, hV, rfl, hfz, hnd⟩ := hW
  have hA : DataW.TrodAll enc Try.prog W 0 (fun _ => true) true Try.f3.params.toList args.toList ds p := hA0
  skip
  rw [Try.params3] at hA hval
  obtain ⟨v0, vs0, d0, ds0, p0, q0, hargs, rfl, rfl, h0, r0⟩ := trodAll_cons hA
  obtain ⟨v1, vs1, d1, ds1, p1, q1, rfl, rfl, rfl, h1, r1⟩ := trodAll_cons r0
  obtain ⟨v2, vs2, d2, ds2, p2, q2, rfl, rfl, rfl, h2, r2⟩ := trodAll_cons r1
  obtain ⟨rfl, rfl, rfl⟩ := trodAll_nil r2
  obtain rfl : args = #[v0, v1, v2] := by cases args; simp_all
  obtain ⟨rfl, rfl⟩ := trodVars_none hV
  have k0 := h0
  have lt0 : ∀ x ∈ p0, x.block < W.heap.size := by obtain ⟨m, hm⟩ := k0; exact DataW.trod_lt m _ _ _ hm
  obtain ⟨cs0, x0, rfl, e0⟩ := NumK.arg_struct Try.underlying26 NumK.opens_roll (hval 0 26 v0 rfl rfl) h0
  obtain ⟨a1, rfl, rfl, rfl, w1⟩ := open_int Try.underlying3 (hval 1 3 v1 rfl rfl) h1
  have k2 := h2
  have lt2 : ∀ x ∈ p2, x.block < W.heap.size := by obtain ⟨m, hm⟩ := k2; exact DataW.trod_lt m _ _ _ hm
  obtain ⟨A2, len2, cap2, l2, rfl, ro2, n2, c2, m2⟩ := NumK.arg_slice Try.underlying27 NumK.opens_ints (hval 2 27 v2 rfl rfl) h2
  clear hA0 hval0
  refine (NumK.rollFinds_row W e0 a1 A2 len2 cap2 l2 (NumK.ints_of_spec ro2) (by omega)).mono fun e W' ⟨he, bel⟩ => ?_
  subst he
  exact ⟨_, rfl, _, _, _, [], _, [], hW', trodAll_mk1 (shut_bool Try.underlying4 _), (trodAll_cons_mk (Below.trod laidOut (by kernel_rfl) (of_decide_eq_true (by kernel_rfl)) k0 bel lt0) (trodAll_cons_mk (shut_int Try.underlying3 w1) (trodAll_cons_mk (Below.trod laidOut (by kernel_rfl) (of_decide_eq_true (by kernel_rfl)) k2 bel lt2) trodAll_mk0))), rfl, bel.frame _, fun h => by cases h⟩

theorem over : Rows.rollFindsRow.holds Try.pinned (OpenSpec.ofChange Rows.rollFindsSpec) :=
  OpenClaim.holds_of_wide 3 Try.f3 rfl rfl rfl rfl rfl rfl rfl ⟨rfl, rfl, rfl, rfl, rfl⟩ rfl rfl rfl rfl rfl (by kernel_rfl) Try.func3 (by kernel_rfl)
    (of_decide_eq_true (by kernel_rfl)) (by unfold Func.isWrapper; first | (rw [if_pos (by decide +kernel)]; kernel_rfl) | (rw [if_neg (by decide +kernel)]; exact ⟨rfl, rfl⟩))
    (fun os started H enc _ => lifted os started H enc)

/-! ### the statement -/
theorem proved : Rows.RollFindsSaid := over
end Go.Proofs.Ytnbgbfbiieimgaa.rollFinds
