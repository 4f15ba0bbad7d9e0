/-
  For every trade and number: as many trades as may be are taken on a day, one more is not, and on the next day numbers go on.
-/
import Derived.Test.YtkbmiajgmnfpfaaRX
import Derived.Test.YtkbmiajgmnfpfaaRA2
import Derived.Test.YtkbmiajgmnfpfaaRO
import Derived.Test.YtkbmiajgmnfpfaaRX2
import Derived.Test.YtkbmiajgmnfpfaaRows
import Derived.WalkKit
import Derived.ProofKit
import Derived.OpenShut
import Derived.ShutString
import Derived.ChangeOld
import Derived.Below
import Derived.Carry
namespace Go.Proofs.Ytkbmiajgmnfpfaa.NumK
open Go.RowKit
set_option linter.unusedVariables false

theorem u64_nonneg (a : Int) : 0 ≤ IntKind.u64.wrap a := by
  rw [IntKind.wrap_u64]
  omega
set_option maxRecDepth 100000 in
set_option maxHeartbeats 8000000 in
theorem bookFull_walk (t : Tr) (a : Int) (w : World) :
    Calls Try.prog 8 #[vTr t, .int .i64 a] w fun e w' => e = .returned (.bool true) ∧ Grew w w' := by
  have CW := fun w' => wakes13_any w'
  by_cases ht : numsT t = true
  · have HMAY : Hid (∀ i b, FullP t i b → i < 128 → enterE b t = 0 ∧ enterN b t = (i : Int) + 1 ∧ FullP t (i + 1) (enterB b t)) := fun i b h hi => h.may ht hi
    have HEND : Hid (∀ b, FullP t 128 b → enterE b t = 9 ∧ (∀ no : Int, 1 ≤ no → no ≤ 128 → corrE b no t.1.2.2.2.2.1 t.1.2.2.2.2.2 = 9) ∧ enterE (clearB b) t = 0 ∧ enterN (clearB b) t = 129 ∧ (enterB (clearB b) t).2.1.length = 1) := fun b h => ⟨h.full ht t ht, fun no h1 h2 => h.corr ht no h1 h2, h.clear ht⟩
    have HRT : Hid (∀ i b, FullP t i b → b.2.1.length ≤ 128 ∧ b.2.2.length ≤ 128) := fun i b h => right_lens h.ent.right
    have HF0 := Lib.hid (FullP.zero t)
    clear ht
    have CE := fun (b : Bk) A1 A2 c1 c2 w' (ho : InB w' b A1 A2 b.2.1.length b.2.2.length c1 c2) h => enter_any b t A1 A2 _ _ c1 c2 w' ho h
    unfold BookN at CE
    have CX := fun (b : Bk) no A1 A2 c1 c2 w' (ho : InB w' b A1 A2 b.2.1.length b.2.2.length c1 c2) h => corr_any b no t.1.2.2.2.2.1 t.1.2.2.2.2.2 A1 A2 _ _ c1 c2 w' ho h
    unfold BookN at CX
    obtain ⟨⟨q1, q2, q3, q4, q5, q6⟩, q7⟩ := t
    dsimp only [vBk, vTr] at *
    have HT0 : Hid (OwnC ((w.alloc (.cells #[.int .i64 q1, .int .i64 q2, .int .i64 q3, .int .i64 q4, .int .i64 q5, .int .i64 q6, .bool q7] 49)).alloc (.cells #[.int .i64 0, .slice none 0 0, .slice none 0 0] 25)) (w.heap.size) [.int .i64 q1, .int .i64 q2, .int .i64 q3, .int .i64 q4, .int .i64 q5, .int .i64 q6, .bool q7]) := (OwnC.new w [.int .i64 q1, .int .i64 q2, .int .i64 q3, .int .i64 q4, .int .i64 q5, .int .i64 q6, .bool q7] _ _ rfl).keep (grew_alloc _ _ _)
    have HX0 : Hid (OwnC ((w.alloc (.cells #[.int .i64 q1, .int .i64 q2, .int .i64 q3, .int .i64 q4, .int .i64 q5, .int .i64 q6, .bool q7] 49)).alloc (.cells #[.int .i64 0, .slice none 0 0, .slice none 0 0] 25)) (w.heap.size + 1) [.int .i64 0, .slice none 0 0, .slice none 0 0]) := OwnC.new _ [.int .i64 0, .slice none 0 0, .slice none 0 0] _ _ (by simp)
    have HG0 : Hid (Grew w ((w.alloc (.cells #[.int .i64 q1, .int .i64 q2, .int .i64 q3, .int .i64 q4, .int .i64 q5, .int .i64 q6, .bool q7] 49)).alloc (.cells #[.int .i64 0, .slice none 0 0, .slice none 0 0] 25))) := grew_trans (grew_alloc _ _ _) (grew_alloc _ _ _)
    have HB0 : Hid (OwnB ((w.alloc (.cells #[.int .i64 q1, .int .i64 q2, .int .i64 q3, .int .i64 q4, .int .i64 q5, .int .i64 q6, .bool q7] 49)).alloc (.cells #[.int .i64 0, .slice none 0 0, .slice none 0 0] 25)) (w.heap.size + 2) bk0 none none 0 0) := OwnB.nil _ _
    go_enter Try.func8, Try.ntmps8
    go_upto_region 2 with fail
    generalize (w.alloc (.cells #[.int .i64 q1, .int .i64 q2, .int .i64 q3, .int .i64 q4, .int .i64 q5, .int .i64 q6, .bool q7] 49)).alloc (.cells #[.int .i64 0, .slice none 0 0, .slice none 0 0] 25) = w0 at *
    go_wp2
    go_loopw [6] (fun vi wr => ∃ (i : Nat) (nx : Int) (lt : List Tr) (lp : List Po) (B1 B2 : Option Addr) (d1 d2 : Nat), vi = .int .i64 i ∧ i ≤ 128 ∧ Hid (FullP ((q1, q2, q3, q4, q5, q6), q7) i (nx, lt, lp)) ∧ Hid (OwnC wr (w.heap.size) [.int .i64 q1, .int .i64 q2, .int .i64 q3, .int .i64 q4, .int .i64 q5, .int .i64 q6, .bool q7]) ∧ Hid (OwnC wr (w.heap.size + 1) [.int .i64 nx, .slice B1 lt.length d1, .slice B2 lp.length d2]) ∧ Hid (OwnB wr (w.heap.size + 2) (nx, lt, lp) B1 B2 d1 d2) ∧ Hid (Grew w wr)) (fun vi _ => 128 - (intOf vi).toNat)
    case atStart => exact ⟨0, 0, [], [], none, none, 0, 0, rfl, Nat.zero_le _, HF0.out, HT0.out, HX0.out, HB0.out, HG0.out⟩
    case round =>
      clear HF0 HT0 HX0 HB0 HG0
      obtain ⟨i, nx, lt, lp, B1, B2, d1, d2, rfl, hi, HF, HT, HX, HB, HG⟩ := hrel
      have hlen := HRT.out _ _ HF.out
      dsimp only at hlen
      have t0 : wr.cell? ⟨w.heap.size, 0, none⟩ = some (.int .i64 q1) := HT.out.at 0 _ rfl
      have t1 : wr.cell? ⟨w.heap.size, 1, none⟩ = some (.int .i64 q2) := HT.out.at 1 _ rfl
      have t2 : wr.cell? ⟨w.heap.size, 2, none⟩ = some (.int .i64 q3) := HT.out.at 2 _ rfl
      have t3 : wr.cell? ⟨w.heap.size, 3, none⟩ = some (.int .i64 q4) := HT.out.at 3 _ rfl
      have t4 : wr.cell? ⟨w.heap.size, 4, none⟩ = some (.int .i64 q5) := HT.out.at 4 _ rfl
      have t5 : wr.cell? ⟨w.heap.size, 5, none⟩ = some (.int .i64 q6) := HT.out.at 5 _ rfl
      have t6 : wr.cell? ⟨w.heap.size, 6, none⟩ = some (.bool q7) := HT.out.at 6 _ rfl
      have x0 : wr.cell? ⟨w.heap.size + 1, 0, none⟩ = some (.int .i64 nx) := HX.out.at 0 _ rfl
      have x1 : wr.cell? ⟨w.heap.size + 1, 1, none⟩ = some (.slice B1 lt.length d1) := HX.out.at 1 _ rfl
      have x2 : wr.cell? ⟨w.heap.size + 1, 2, none⟩ = some (.slice B2 lp.length d2) := HX.out.at 2 _ rfl
      by_cases h8 : i < 128
      · obtain ⟨m1, m2, m3⟩ := HMAY.out i _ HF.out h8
        have CE2 := CE (nx, lt, lp) B1 B2 d1 d2 wr HB.out.in ⟨by dsimp only; omega, by dsimp only; omega⟩
        rw [m1, m2] at CE2
        have HF2 := Lib.hid m3
        clear m1 m2 m3 HMAY HEND CX
        generalize enterB (nx, lt, lp) ((q1, q2, q3, q4, q5, q6), q7) = E at *
        obtain ⟨ex, el, ep⟩ := E
        dsimp only at CE2
        have i0 : (i : Int) < 128 := by omega
        have hw : IntKind.i64.wrap ((i : Int) + 1) = (i : Int) + 1 := by rw [IntKind.wrap_i64]; omega
        have hsz : w.heap.size + 2 ≤ wr.heap.size := by have := HX.out.lt; omega
        go_upto_region 6 with (go_at_call 25; ((with_reducible refine (CE2).mono ?_); rintro e w3 ⟨E1, E2, e1, e2, rfl, hb, hg⟩; have HE4 := Lib.hid ((hb.mono hsz).keep (grew_alloc w3 #[.int .i64 ex, .slice E1 el.length e1, .slice E2 ep.length e2] 25)); have HR4 := Lib.hid (grew_trans hg (grew_alloc w3 #[.int .i64 ex, .slice E1 el.length e1, .slice E2 ep.length e2] 25)); have HH4 := Lib.hid (OwnC.new w3 [.int .i64 ex, .slice E1 el.length e1, .slice E2 ep.length e2] 25 _ rfl); have hs3 : w.heap.size + 2 ≤ w3.heap.size := Nat.le_trans hsz hg.size; clear hb hg CE CE2 x0 x1 x2 t0 t1 t2 t3 t4 t5 t6))
        generalize w3.alloc (.cells #[.int .i64 ex, .slice E1 el.length e1, .slice E2 ep.length e2] 25) = w4 at *
        generalize w3.heap.size = H at *
        have HT4 := Lib.hid (HT.out.keep HR4.out)
        have HX4 := Lib.hid (HX.out.keep HR4.out)
        have k0 : w4.cell? ⟨H, 0, none⟩ = some (.int .i64 ex) := HH4.out.at 0 _ rfl
        have k1 : w4.cell? ⟨H, 1, none⟩ = some (.slice E1 el.length e1) := HH4.out.at 1 _ rfl
        have k2 : w4.cell? ⟨H, 2, none⟩ = some (.slice E2 ep.length e2) := HH4.out.at 2 _ rfl
        have x0 : w4.cell? ⟨w.heap.size + 1, 0, none⟩ = some (.int .i64 nx) := HX4.out.at 0 _ rfl
        have x1 : w4.cell? ⟨w.heap.size + 1, 1, none⟩ = some (.slice B1 lt.length d1) := HX4.out.at 1 _ rfl
        have x2 : w4.cell? ⟨w.heap.size + 1, 2, none⟩ = some (.slice B2 lp.length d2) := HX4.out.at 2 _ rfl
        have f0 : w4.frozen? ⟨w.heap.size + 1, 0, none⟩ = false := HX4.out.fr 0 (by show 0 < 3; omega)
        have f1 : w4.frozen? ⟨w.heap.size + 1, 1, none⟩ = false := HX4.out.fr 1 (by show 1 < 3; omega)
        have f2 : w4.frozen? ⟨w.heap.size + 1, 2, none⟩ = false := HX4.out.fr 2 (by show 2 < 3; omega)
        have HX5 : Hid (OwnC (putC w4 (w.heap.size + 1) 0 [.int .i64 ex, .slice E1 el.length e1, .slice E2 ep.length e2]) (w.heap.size + 1) [.int .i64 ex, .slice E1 el.length e1, .slice E2 ep.length e2]) := HX4.out.all [.int .i64 ex, .slice E1 el.length e1, .slice E2 ep.length e2] rfl
        have HT5 : Hid (OwnC (putC w4 (w.heap.size + 1) 0 [.int .i64 ex, .slice E1 el.length e1, .slice E2 ep.length e2]) (w.heap.size) [.int .i64 q1, .int .i64 q2, .int .i64 q3, .int .i64 q4, .int .i64 q5, .int .i64 q6, .bool q7]) := OwnC.putO (by show w.heap.size + 1 ≠ w.heap.size; omega) [.int .i64 ex, .slice E1 el.length e1, .slice E2 ep.length e2] 0 _ HT4.out
        have HB5 : Hid (OwnB (putC w4 (w.heap.size + 1) 0 [.int .i64 ex, .slice E1 el.length e1, .slice E2 ep.length e2]) (w.heap.size + 2) (ex, el, ep) E1 E2 e1 e2) := HE4.out.put (b2 := w.heap.size + 1) (by omega) [.int .i64 ex, .slice E1 el.length e1, .slice E2 ep.length e2]
        have HG5 : Hid (Grew w (putC w4 (w.heap.size + 1) 0 [.int .i64 ex, .slice E1 el.length e1, .slice E2 ep.length e2])) := grew_put (w := w) (w.heap.size + 1) (by omega) [.int .i64 ex, .slice E1 el.length e1, .slice E2 ep.length e2] 0 _ (grew_trans HG.out HR4.out)
        go_wp2
        go_roundw
        case rel => exact ⟨i + 1, ex, el, ep, E1, E2, e1, e2, by go_num, by omega, HF2.out, HT5, HX5, HB5, HG5⟩
        case measure => simp only [intOf]; omega
      · obtain rfl : i = 128 := by omega
        clear HMAY
        obtain ⟨m1, m2, m3, m4, m5⟩ := HEND.out _ HF.out
        clear HEND HF
        have CE2 := CE (nx, lt, lp) B1 B2 d1 d2 wr HB.out.in ⟨by dsimp only; omega, by dsimp only; omega⟩
        have CE3 := CE (clearB (nx, lt, lp))
        rw [m1] at CE2
        rw [m3, m4] at CE3
        generalize enterB (nx, lt, lp) ((q1, q2, q3, q4, q5, q6), q7) = E at *
        generalize enterN (nx, lt, lp) ((q1, q2, q3, q4, q5, q6), q7) = en at *
        obtain ⟨ex, el, ep⟩ := E
        dsimp only at CE2
        clear m1 m3 m4
        go_upto_region 12 with (go_at_call 25; ((with_reducible refine CE2.mono ?_); rintro e w3 ⟨E1, E2, e1, e2, rfl, hb, hg⟩; have HR4 := Lib.hid (grew_trans hg (grew_alloc w3 #[.int .i64 ex, .slice E1 el.length e1, .slice E2 ep.length e2] 25)); clear hb hg CE2 x0 x1 x2 t0 t1 t2 t3 t4 t5 t6))
        generalize w3.alloc (.cells #[.int .i64 ex, .slice E1 el.length e1, .slice E2 ep.length e2] 25) = w4 at *
        have HT4 := Lib.hid (HT.out.keep HR4.out)
        have HX4 := Lib.hid (HX.out.keep HR4.out)
        have t0 : w4.cell? ⟨w.heap.size, 0, none⟩ = some (.int .i64 q1) := HT4.out.at 0 _ rfl
        have t1 : w4.cell? ⟨w.heap.size, 1, none⟩ = some (.int .i64 q2) := HT4.out.at 1 _ rfl
        have t2 : w4.cell? ⟨w.heap.size, 2, none⟩ = some (.int .i64 q3) := HT4.out.at 2 _ rfl
        have t3 : w4.cell? ⟨w.heap.size, 3, none⟩ = some (.int .i64 q4) := HT4.out.at 3 _ rfl
        have t4 : w4.cell? ⟨w.heap.size, 4, none⟩ = some (.int .i64 q5) := HT4.out.at 4 _ rfl
        have t5 : w4.cell? ⟨w.heap.size, 5, none⟩ = some (.int .i64 q6) := HT4.out.at 5 _ rfl
        have t6 : w4.cell? ⟨w.heap.size, 6, none⟩ = some (.bool q7) := HT4.out.at 6 _ rfl
        have x0 : w4.cell? ⟨w.heap.size + 1, 0, none⟩ = some (.int .i64 nx) := HX4.out.at 0 _ rfl
        have x1 : w4.cell? ⟨w.heap.size + 1, 1, none⟩ = some (.slice B1 lt.length d1) := HX4.out.at 1 _ rfl
        have x2 : w4.cell? ⟨w.heap.size + 1, 2, none⟩ = some (.slice B2 lp.length d2) := HX4.out.at 2 _ rfl
        have hM : 0 ≤ (IntKind.u64.wrap a).tmod 128 ∧ (IntKind.u64.wrap a).tmod 128 < 128 := ⟨Int.tmod_nonneg _ (u64_nonneg a), Int.tmod_lt_of_pos _ (by decide)⟩
        have hw1 : IntKind.i64.wrap ((IntKind.u64.wrap a).tmod 128) = (IntKind.u64.wrap a).tmod 128 := by rw [IntKind.wrap_i64]; omega
        have hw2 : IntKind.i64.wrap (1 + (IntKind.u64.wrap a).tmod 128) = 1 + (IntKind.u64.wrap a).tmod 128 := by rw [IntKind.wrap_i64]; omega
        have CR := CX (nx, lt, lp) (1 + (IntKind.u64.wrap a).tmod 128) B1 B2 d1 d2 w4 (HB.out.in.keep HR4.out) ⟨by dsimp only; omega, by dsimp only; omega⟩
        rw [m2 _ (by omega) (by omega)] at CR
        clear m2 CX hM
        generalize corrB (nx, lt, lp) (1 + (IntKind.u64.wrap a).tmod 128) q5 q6 = X at *
        generalize corrN (nx, lt, lp) (1 + (IntKind.u64.wrap a).tmod 128) q5 q6 = xn at *
        obtain ⟨xx, xl, xp⟩ := X
        dsimp only at CR
        go_upto_region 15 with (go_at_call 28; ((with_reducible refine CR.mono ?_); rintro e w5 ⟨X1, X2, g1, g2, rfl, hb, hg⟩; have HR5 := Lib.hid (grew_trans HR4.out hg); clear hb hg CR x0 x1 x2 t0 t1 t2 t3 t4 t5 t6))
        clear hw1 hw2
        have HT5 := Lib.hid (HT.out.keep HR5.out)
        have HX5 := Lib.hid (HX.out.keep HR5.out)
        have t0 : w5.cell? ⟨w.heap.size, 0, none⟩ = some (.int .i64 q1) := HT5.out.at 0 _ rfl
        have t1 : w5.cell? ⟨w.heap.size, 1, none⟩ = some (.int .i64 q2) := HT5.out.at 1 _ rfl
        have t2 : w5.cell? ⟨w.heap.size, 2, none⟩ = some (.int .i64 q3) := HT5.out.at 2 _ rfl
        have t3 : w5.cell? ⟨w.heap.size, 3, none⟩ = some (.int .i64 q4) := HT5.out.at 3 _ rfl
        have t4 : w5.cell? ⟨w.heap.size, 4, none⟩ = some (.int .i64 q5) := HT5.out.at 4 _ rfl
        have t5 : w5.cell? ⟨w.heap.size, 5, none⟩ = some (.int .i64 q6) := HT5.out.at 5 _ rfl
        have t6 : w5.cell? ⟨w.heap.size, 6, none⟩ = some (.bool q7) := HT5.out.at 6 _ rfl
        have x0 : w5.cell? ⟨w.heap.size + 1, 0, none⟩ = some (.int .i64 nx) := HX5.out.at 0 _ rfl
        have x1 : w5.cell? ⟨w.heap.size + 1, 1, none⟩ = some (.slice B1 lt.length d1) := HX5.out.at 1 _ rfl
        have x2 : w5.cell? ⟨w.heap.size + 1, 2, none⟩ = some (.slice B2 lp.length d2) := HX5.out.at 2 _ rfl
        have CL := clear_any (nx, lt, lp) B1 B2 _ _ d1 d2 w5 (HB.out.in.keep HR5.out) (by dsimp only; omega)
        unfold BookP at CL
        have hcl : clearB (nx, lt, lp) = (nx, [], lp) := rfl
        rw [hcl] at CL CE3 m5
        dsimp only [vBk] at CL CE3 m5
        clear hcl CE
        generalize enterB (nx, [], lp) ((q1, q2, q3, q4, q5, q6), q7) = U at *
        obtain ⟨ux, ul, up⟩ := U
        dsimp only at m5 CE3
        rw [m5] at CE3
        simp only [List.length_nil] at CE3 CL
        go_upto_region 18 with (go_at_call 22; ((with_reducible refine CL.mono ?_); rintro e w6 ⟨C1, C2, c1, c2, rfl, hb, hg⟩; have HC7 := Lib.hid (hb.in.keep (grew_alloc w6 #[.int .i64 nx, .slice C1 0 c1, .slice C2 lp.length c2] 25)); have HR7 := Lib.hid (grew_trans HR5.out (grew_trans hg (grew_alloc w6 #[.int .i64 nx, .slice C1 0 c1, .slice C2 lp.length c2] 25))); have HV7 := Lib.hid (OwnC.new w6 [.int .i64 nx, .slice C1 0 c1, .slice C2 lp.length c2] 25 _ rfl); clear hb hg CL x0 x1 x2 t0 t1 t2 t3 t4 t5 t6))
        generalize w6.alloc (.cells #[.int .i64 nx, .slice C1 0 c1, .slice C2 lp.length c2] 25) = w7 at *
        generalize w6.heap.size = H4 at *
        have HT7 := Lib.hid (HT.out.keep HR7.out)
        have t0 : w7.cell? ⟨w.heap.size, 0, none⟩ = some (.int .i64 q1) := HT7.out.at 0 _ rfl
        have t1 : w7.cell? ⟨w.heap.size, 1, none⟩ = some (.int .i64 q2) := HT7.out.at 1 _ rfl
        have t2 : w7.cell? ⟨w.heap.size, 2, none⟩ = some (.int .i64 q3) := HT7.out.at 2 _ rfl
        have t3 : w7.cell? ⟨w.heap.size, 3, none⟩ = some (.int .i64 q4) := HT7.out.at 3 _ rfl
        have t4 : w7.cell? ⟨w.heap.size, 4, none⟩ = some (.int .i64 q5) := HT7.out.at 4 _ rfl
        have t5 : w7.cell? ⟨w.heap.size, 5, none⟩ = some (.int .i64 q6) := HT7.out.at 5 _ rfl
        have t6 : w7.cell? ⟨w.heap.size, 6, none⟩ = some (.bool q7) := HT7.out.at 6 _ rfl
        have v0 : w7.cell? ⟨H4, 0, none⟩ = some (.int .i64 nx) := HV7.out.at 0 _ rfl
        have v1 : w7.cell? ⟨H4, 1, none⟩ = some (.slice C1 0 c1) := HV7.out.at 1 _ rfl
        have v2 : w7.cell? ⟨H4, 2, none⟩ = some (.slice C2 lp.length c2) := HV7.out.at 2 _ rfl
        go_upto_region 19 with (go_at_call 25; ((with_reducible refine (CE3 _ _ _ _ _ HC7.out ⟨by omega, by omega⟩).mono ?_); rintro e w8 ⟨U1, U2, u1', u2', rfl, hb, hg⟩; have HR9 := Lib.hid (grew_trans hg (grew_alloc w8 #[.int .i64 ux, .slice U1 1 u1', .slice U2 up.length u2'] 25)); have HU9 := Lib.hid (OwnC.new w8 [.int .i64 ux, .slice U1 1 u1', .slice U2 up.length u2'] 25 _ rfl); clear hb hg CE3 v0 v1 v2 t0 t1 t2 t3 t4 t5 t6))
        generalize w8.alloc (.cells #[.int .i64 ux, .slice U1 1 u1', .slice U2 up.length u2'] 25) = w9 at *
        generalize w8.heap.size = H6 at *
        have HV9 := Lib.hid (HV7.out.keep HR9.out)
        have HX9 := Lib.hid (HX.out.keep (grew_trans HR7.out HR9.out))
        have k1 : w9.cell? ⟨H6, 1, none⟩ = some (.slice U1 1 u1') := HU9.out.at 1 _ rfl
        have k2 : w9.cell? ⟨H4, 2, none⟩ = some (.slice C2 lp.length c2) := HV9.out.at 2 _ rfl
        have k3 : w9.cell? ⟨w.heap.size + 1, 2, none⟩ = some (.slice B2 lp.length d2) := HX9.out.at 2 _ rfl
        have CP := keepPoss_yes C2 B2 lp.length c2 d2 lp w9 (HC7.out.p.keep HR9.out) (HB.out.in.p.keep (grew_trans HR7.out HR9.out)) (by omega)
        go_wp2_with (first
          | (go_at_call 27; ((with_reducible refine CP.mono ?_); rintro e wB ⟨rfl, hg⟩; have HRB := Lib.hid hg; clear hg))
          | (go_at_call 23; ((with_reducible refine (CW _).mono ?_); rintro e wC ⟨rfl, hg⟩; have HG9 := Lib.hid (grew_trans HG.out (grew_trans (grew_trans HR7.out HR9.out) (grew_trans HRB.out hg))); clear hg)))
        go_ret
        exact ⟨rfl, HG9.out⟩
  · rw [Bool.not_eq_true] at ht
    have he := EntP.nil.mayNot ht
    have CE := fun w' => enter_any bk0 t none none 0 0 0 0 w' (OwnB.nil w' 0).in ⟨by omega, by omega⟩
    unfold BookN at CE
    rw [he] at CE
    clear ht he
    generalize enterN bk0 t = en at *
    generalize enterB bk0 t = E at *
    obtain ⟨ex, el, ep⟩ := E
    obtain ⟨⟨q1, q2, q3, q4, q5, q6⟩, q7⟩ := t
    dsimp only [vBk, vTr] at *
    have HT0 : Hid (OwnC ((w.alloc (.cells #[.int .i64 q1, .int .i64 q2, .int .i64 q3, .int .i64 q4, .int .i64 q5, .int .i64 q6, .bool q7] 49)).alloc (.cells #[.int .i64 0, .slice none 0 0, .slice none 0 0] 25)) (w.heap.size) [.int .i64 q1, .int .i64 q2, .int .i64 q3, .int .i64 q4, .int .i64 q5, .int .i64 q6, .bool q7]) := (OwnC.new w [.int .i64 q1, .int .i64 q2, .int .i64 q3, .int .i64 q4, .int .i64 q5, .int .i64 q6, .bool q7] _ _ rfl).keep (grew_alloc _ _ _)
    have HX0 : Hid (OwnC ((w.alloc (.cells #[.int .i64 q1, .int .i64 q2, .int .i64 q3, .int .i64 q4, .int .i64 q5, .int .i64 q6, .bool q7] 49)).alloc (.cells #[.int .i64 0, .slice none 0 0, .slice none 0 0] 25)) (w.heap.size + 1) [.int .i64 0, .slice none 0 0, .slice none 0 0]) := OwnC.new _ [.int .i64 0, .slice none 0 0, .slice none 0 0] _ _ (by simp)
    have HG0 : Hid (Grew w ((w.alloc (.cells #[.int .i64 q1, .int .i64 q2, .int .i64 q3, .int .i64 q4, .int .i64 q5, .int .i64 q6, .bool q7] 49)).alloc (.cells #[.int .i64 0, .slice none 0 0, .slice none 0 0] 25))) := grew_trans (grew_alloc _ _ _) (grew_alloc _ _ _)
    have HB0 : Hid (OwnB ((w.alloc (.cells #[.int .i64 q1, .int .i64 q2, .int .i64 q3, .int .i64 q4, .int .i64 q5, .int .i64 q6, .bool q7] 49)).alloc (.cells #[.int .i64 0, .slice none 0 0, .slice none 0 0] 25)) (w.heap.size + 2) bk0 none none 0 0) := OwnB.nil _ _
    go_enter Try.func8, Try.ntmps8
    go_upto_region 2 with fail
    generalize (w.alloc (.cells #[.int .i64 q1, .int .i64 q2, .int .i64 q3, .int .i64 q4, .int .i64 q5, .int .i64 q6, .bool q7] 49)).alloc (.cells #[.int .i64 0, .slice none 0 0, .slice none 0 0] 25) = w0 at *
    have t0 : w0.cell? ⟨w.heap.size, 0, none⟩ = some (.int .i64 q1) := HT0.out.at 0 _ rfl
    have t1 : w0.cell? ⟨w.heap.size, 1, none⟩ = some (.int .i64 q2) := HT0.out.at 1 _ rfl
    have t2 : w0.cell? ⟨w.heap.size, 2, none⟩ = some (.int .i64 q3) := HT0.out.at 2 _ rfl
    have t3 : w0.cell? ⟨w.heap.size, 3, none⟩ = some (.int .i64 q4) := HT0.out.at 3 _ rfl
    have t4 : w0.cell? ⟨w.heap.size, 4, none⟩ = some (.int .i64 q5) := HT0.out.at 4 _ rfl
    have t5 : w0.cell? ⟨w.heap.size, 5, none⟩ = some (.int .i64 q6) := HT0.out.at 5 _ rfl
    have t6 : w0.cell? ⟨w.heap.size, 6, none⟩ = some (.bool q7) := HT0.out.at 6 _ rfl
    have x0 : w0.cell? ⟨w.heap.size + 1, 0, none⟩ = some (.int .i64 0) := HX0.out.at 0 _ rfl
    have x1 : w0.cell? ⟨w.heap.size + 1, 1, none⟩ = some (.slice none 0 0) := HX0.out.at 1 _ rfl
    have x2 : w0.cell? ⟨w.heap.size + 1, 2, none⟩ = some (.slice none 0 0) := HX0.out.at 2 _ rfl
    go_wp2
    go_loopw [6] (fun vi wr => vi = .int .i64 0 ∧ wr = w0) (fun _ _ => 0)
    case atStart => exact ⟨rfl, rfl⟩
    case round =>
      obtain ⟨rfl, rfl⟩ := hrel
      go_wp2_with (first
        | (go_at_call 25; ((with_reducible refine (CE _).mono ?_); rintro e w3 ⟨E1, E2, e1, e2, rfl, hb, hg⟩; have HG3 := Lib.hid (grew_trans HG0.out (grew_trans hg (grew_alloc w3 #[.int .i64 ex, .slice E1 el.length e1, .slice E2 ep.length e2] 25))); clear hb hg))
        | (go_at_call 23; ((with_reducible refine (CW _).mono ?_); rintro e w5 ⟨rfl, hg⟩; have HG5 := Lib.hid (grew_trans HG3.out hg); clear hg)))
      go_ret
      exact ⟨rfl, HG5.out⟩
end Go.Proofs.Ytkbmiajgmnfpfaa.NumK
namespace Go.Proofs.Ytkbmiajgmnfpfaa.NumK
open Go.RowKit
set_option linter.unusedVariables false

theorem bookFull_row (w : World) {cs0 : Array Value} {t : Tr} (a : Int) (h0 : spTr.rd w cs0.toList t) :
    Calls Try.prog 8 #[.agg cs0, .int .i64 a] w fun e w' => e = .returned (.bool true) ∧ Grew w w' := by
  rw [tr_of h0]
  exact bookFull_walk t a w
end Go.Proofs.Ytkbmiajgmnfpfaa.NumK
namespace Go.Proofs.Ytkbmiajgmnfpfaa.bookFull
open Go.ChangeShapes Go.WideShapes Go.ChangeAt Go.RowKit
set_option linter.unusedVariables false

theorem own : ownKnob Try.prog.godebug = none := by kernel_rfl
theorem laidOut : laidOutB Try.prog = true := by kernel_rfl

set_option maxRecDepth 100000 in
theorem lifted (os : Os) (started : os.Started) (H : Type) (enc : TypeId × Value → H) :
    ReturnsInHanded {} Try.checked os 8 .any (Rows.bookFullSpec.pre6 enc Try.prog Try.f8 Rows.bookFullRow.domain false) (Rows.bookFullSpec.post enc Try.prog Try.f8 false true false false) := by
  refine returnsInHanded_of_change (C := Try.checked) own started (by kernel_rfl) Try.func8
    (ChangeSpec.witness6 (enc := enc) (C := Try.checked) false ⟨#[], #[.agg #[.int .i64 0, .int .i64 0, .int .i64 0, .int .i64 0, .int .i64 0, .int .i64 0, .bool false], .int .i64 0], []⟩ 8 (by kernel_rfl) (by kernel_rfl) (by kernel_rfl) (by kernel_rfl)) ?_
  intro W base args ds gs before hval0 hW hcnd _
  have hval : ∀ (j : Nat) t v, Try.f8.params[j]? = some t → args[j]? = some v → Value.okWide Try.prog W .any base t v := hval0
  have hW' := hW
  obtain ⟨p, q, hA0, hV, rfl, hfz, hnd⟩ := hW
  have hA : DataW.TrodAll enc Try.prog W 0 (fun _ => true) true Try.f8.params.toList args.toList ds p := hA0
  skip
  rw [Try.params8] at hA hval
  obtain ⟨v0, vs0, d0, ds0, p0, q0, hargs, rfl, rfl, h0, r0⟩ := trodAll_cons hA
  obtain ⟨v1, vs1, d1, ds1, p1, q1, rfl, rfl, rfl, h1, r1⟩ := trodAll_cons r0
  obtain ⟨rfl, rfl, rfl⟩ := trodAll_nil r1
  obtain rfl : args = #[v0, v1] := by cases args; simp_all
  obtain ⟨rfl, rfl⟩ := trodVars_none hV
  have k0 := h0
  have lt0 : ∀ x ∈ p0, x.block < W.heap.size := by obtain ⟨m, hm⟩ := k0; exact DataW.trod_lt m _ _ _ hm
  obtain ⟨cs0, x0, rfl, e0⟩ := NumK.arg_struct Try.underlying49 NumK.opens_trade (hval 0 49 v0 rfl rfl) h0
  obtain ⟨a1, rfl, rfl, rfl, w1⟩ := open_int Try.underlying3 (hval 1 3 v1 rfl rfl) h1
  clear hA0 hval0
  refine (NumK.bookFull_row W a1 e0).mono fun e W' ⟨he, bel⟩ => ?_
  subst he
  exact ⟨_, rfl, _, _, _, [], _, [], hW', trodAll_mk1 (shut_bool Try.underlying4 _), (trodAll_cons_mk (Below.trod laidOut (by kernel_rfl) (of_decide_eq_true (by kernel_rfl)) k0 bel lt0) (trodAll_cons_mk (shut_int Try.underlying3 w1) trodAll_mk0)), rfl, bel.frame _, fun h => by cases h⟩

theorem over : Rows.bookFullRow.holds Try.pinned (OpenSpec.ofChange Rows.bookFullSpec) :=
  OpenClaim.holds_of_wide 8 Try.f8 rfl rfl rfl rfl rfl rfl rfl ⟨rfl, rfl, rfl, rfl, rfl⟩ rfl rfl rfl rfl rfl (by kernel_rfl) Try.func8 (by kernel_rfl)
    (of_decide_eq_true (by kernel_rfl)) (by unfold Func.isWrapper; first | (rw [if_pos (by decide +kernel)]; kernel_rfl) | (rw [if_neg (by decide +kernel)]; exact ⟨rfl, rfl⟩))
    (fun os started H enc _ => lifted os started H enc)

/-! ### the statement -/
theorem proved : Rows.BookFullSaid := over
end Go.Proofs.Ytkbmiajgmnfpfaa.bookFull
