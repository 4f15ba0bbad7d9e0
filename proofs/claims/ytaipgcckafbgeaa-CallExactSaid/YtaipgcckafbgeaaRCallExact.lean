/-
  For all calls, due, ticks and members: whether the calls are right, the amount of one, what is asked, met, late, left, and whose are left out, are what the reference tells, with the errors; what is handed in stays, and what is told is new memory; more than 300 calls or members the statement lets by.
-/
import Derived.Test.YtaipgcckafbgeaaRG5
import Derived.Test.YtaipgcckafbgeaaRG6
import Derived.Test.YtaipgcckafbgeaaRG7
import Derived.Test.YtaipgcckafbgeaaRows
import Derived.WalkKit
import Derived.ProofKit
import Derived.OpenShut
import Derived.ShutString
import Derived.ChangeOld
import Derived.Below
import Derived.Carry
namespace Go.Proofs.Ytaipgcckafbgeaa.NumK
open Go.RowKit
set_option linter.unusedVariables false

theorem late_len0 (l : List Ca) (now : Int) : (lateL l now).length ≤ l.length ∧ (leftL l now).length ≤ l.length := by
  have h1 := List.length_filter_le (fun x : Ca => decide (x.2.2.2 ≤ now)) l
  have h2 := List.length_filter_le (fun x : Ca => !decide (x.2.2.2 ≤ now)) l
  exact ⟨h1, h2⟩
theorem without_len0 (l : List Ca) (ws : List Int) : (withoutL l ws).length ≤ l.length := List.length_filter_le (fun x : Ca => !(ws.any fun w => decide (w = x.1))) l
theorem Ints.grew {w w' : World} {A : Option Addr} {n : Nat} {zs : List Int} (h : Ints w A n zs) (g : Grew w w') : Ints w' A n zs :=
  ⟨h.1, fun h0 => by obtain ⟨b', o', e, hb, hc⟩ := h.2 h0; exact ⟨b', o', e, Nat.lt_of_lt_of_le hb g.size, fun j hj => (grew_cell g (p := ⟨b', _, none⟩) hb).trans (hc j hj)⟩⟩
/-- What may be written over: a slice of the call's own. -/
theorem slab_of {w : World} {base : Nat} {A : Option Addr} {n c : Nat} {l : List Ca} (h : OwnE enC4 w base 32 (.slice A n c) l) (hn : n = l.length) (b2 : Nat) (hb : b2 ≤ base) : n = 0 ∨ ∃ g, A = some ⟨g, 0, none⟩ ∧ b2 ≤ g ∧ Slab w g (n * 4) := by
  obtain ⟨A', c', e, hs⟩ := h.slab
  cases e
  rcases hs with h0 | ⟨g, e, h1, h2⟩
  · exact Or.inl h0
  · exact Or.inr ⟨g, e, Nat.le_trans hb h1, h2⟩

set_option maxRecDepth 100000 in
set_option maxHeartbeats 16000000 in
theorem callExact_walk (A C : Option Addr) (n c m e : Nat) (l : List Ca) (d : Du) (t now : Int) (ws : List Int) (w : World) (h : RowE enC4 w A n l) (hA : A = none → c = 0) (hw : Ints w C m ws) :
    Calls Try.prog 3 #[.slice A n c, vDe d, .int .i64 t, .int .i64 now, .slice C m e] w fun e w' => e = .returned (.bool true) ∧ Grew w w' := by
  have HI := Lib.hid h
  have HL := Lib.hid h.len
  have HWI := Lib.hid hw
  have CW := fun w => wakes18_any w
  clear h hw
  obtain ⟨q1, q2, q3⟩ := d
  dsimp only [vDe] at *
  have HX0 : Hid (OwnC (w.alloc (.cells #[.int .i64 q1, .int .i64 q2, .int .i64 q3] 24)) w.heap.size [.int .i64 q1, .int .i64 q2, .int .i64 q3]) := OwnC.new w [.int .i64 q1, .int .i64 q2, .int .i64 q3] _ _ rfl
  have HG0 : Hid (Grew w (w.alloc (.cells #[.int .i64 q1, .int .i64 q2, .int .i64 q3] 24))) := grew_alloc _ _ _
  go_enter Try.func3, Try.ntmps3
  go_upto_region 1 with (fail)
  generalize w.alloc (.cells #[.int .i64 q1, .int .i64 q2, .int .i64 q3] 24) = w0 at *
  by_cases hn : n > 300
  · have j1 : (n : Int) > 300 := by omega
    clear CW
    go_wp2
    go_ret
    exact ⟨rfl, HG0.out⟩
  · have j1 : ¬ (n : Int) > 300 := by omega
    by_cases hm : m > 300
    · have j2 : (m : Int) > 300 := by omega
      clear CW
      go_wp2
      go_ret
      exact ⟨rfl, HG0.out⟩
    · have j2 : ¬ (m : Int) > 300 := by omega
      have CT := twinCas_any A n c l w0 (HI.out.keep HG0.out) hA (by omega)
      go_upto_region 4 with (go_at_call 8; ((with_reducible refine CT.mono ?_); rintro e w1 ⟨B, dd, rfl, ho, hg⟩; have HOT := Lib.hid ho; have HG1 := Lib.hid (grew_trans HG0.out hg); have HX1 := Lib.hid (HX0.out.keep hg); clear hg ho CT HX0 HG0))
      have HB3 := Lib.hid (own_form HOT.out)
      have HRB : Hid (RowE enC4 w1 B n l) := by have := HB3.out.1; rw [HL.out] at this; exact this
      have hld : n ≤ dd := by have := HB3.out.2.2.1; rw [HL.out] at this; exact this
      have HIB := Lib.hid (HI.out.keep HG1.out)
      have HWB := Lib.hid (HWI.out.grew HG1.out)
      have HKD := Lib.hid HB3.out.2
      clear HI HWI HOT HB3 hA
      have hkr : (chkC l == 0) = rightCa l := by unfold chkC; cases rightCa l <;> rfl
      have C1 := clcheck_any B n dd l w1 HRB.out (by omega)
      have C2 := fun w' (g : Grew w1 w') => rcalls_any A n c l w' (HIB.out.keep g) (by omega)
      generalize chkC l = K at *
      generalize rightCa l = R at *
      go_upto_region 6 with (first
        | (go_at_call 9; ((with_reducible refine C1.mono ?_); rintro e w2 ⟨rfl, hg⟩; have HG2 := Lib.hid hg; clear hg C1))
        | (go_at_call 10; ((with_reducible refine (C2 _ HG2.out).mono ?_); rintro e w3 ⟨rfl, hg⟩; have HG3 := Lib.hid (grew_trans HG2.out hg); clear hg C2 HG2)))
      clear hkr
      have HXK : Hid (∀ w', Grew w1 w' → w'.cell? ⟨w.heap.size, 0, none⟩ = some (.int .i64 q1) ∧ w'.cell? ⟨w.heap.size, 1, none⟩ = some (.int .i64 q2) ∧ w'.cell? ⟨w.heap.size, 2, none⟩ = some (.int .i64 q3)) := fun w' g => ⟨(HX1.out.keep g).at 0 _ rfl, (HX1.out.keep g).at 1 _ rfl, (HX1.out.keep g).at 2 _ rfl⟩
      clear HX1
      obtain ⟨x0, x1, x2⟩ := HXK.out w3 HG3.out
      have C3 := rcalled_any A n c l q1 q2 w3 (HIB.out.keep HG3.out) (by omega)
      have C4 := fun w' (g : Grew w1 w') => clof_any B n dd l q1 q2 w' (HRB.out.keep g) (by omega)
      go_upto_region 8 with (go_at_call 11; ((with_reducible refine C3.mono ?_); rintro e w4 ⟨r, rfl, hp, hg⟩; have HP := Lib.hid hp; have HG4 := Lib.hid (grew_trans HG3.out hg); clear hg hp C3 HG3 x0 x1 x2))
      rcases HP.out with ⟨rfl, hf⟩ | ⟨i, rfl, hi, hf⟩
      · have hof : ofC l q1 q2 = 0 := by unfold ofC; rw [hf]; rfl
        rw [hof] at C4
        clear hof hf HP
        go_upto_region 10 with (fail)
        obtain ⟨x0, x1, x2⟩ := HXK.out w4 HG4.out
        go_upto_region 12 with (go_at_call 12; ((with_reducible refine (C4 _ HG4.out).mono ?_); rintro e w5 ⟨rfl, hg⟩; have HG5 := Lib.hid (grew_trans HG4.out hg); clear hg C4 HG4 x0 x1 x2))
        obtain ⟨x0, x1, x2⟩ := HXK.out w5 HG5.out
        have CA := clask_any B n dd l (q1, q2, q3) t w5 (HRB.out.keep HG5.out) HKD.out.1 hld HKD.out.2.2 (by omega)
        have CB := fun w' (g : Grew w1 w') => rask_any A n c l (q1, q2, q3) t w' (HIB.out.keep g) (by omega)
        have hlen := askL_len l (q1, q2, q3) t
        rw [HL.out] at hlen
        unfold AskPost at CA CB
        dsimp only [vDe] at CA CB
        generalize askE l (q1, q2, q3) t = E5 at *
        generalize askL l (q1, q2, q3) t = L5 at *
        go_upto_region 13 with (go_at_call 13; ((with_reducible refine CA.mono ?_); rintro e w6 ⟨va, rfl, ho, hg⟩; have HO6 := Lib.hid ho; have HG6 := Lib.hid (grew_trans HG5.out hg); clear hg ho CA x0 x1 x2))
        obtain ⟨Aa, ca, rfl, -⟩ := HO6.out.form
        have HSZ : Hid (w1.heap.size ≤ w5.heap.size) := HG5.out.size
        obtain ⟨x0, x1, x2⟩ := HXK.out w6 HG6.out
        go_upto_region 14 with (go_at_call 14; ((with_reducible refine (CB _ HG6.out).mono ?_); rintro e w7 ⟨vb, rfl, ho, hg⟩; have HP7 := Lib.hid ho; have HO7 := Lib.hid (HO6.out.keep hg); have HG7 := Lib.hid (grew_trans HG6.out hg); clear hg ho CB HO6 x0 x1 x2))
        obtain ⟨Ab, cb, rfl, hrb, -⟩ := HP7.out.form
        have hra := (own_form HO7.out).1
        have CK := kcalls_yes Aa Ab L5.length ca cb L5 w7 hra hrb (by omega)
        clear hra hrb HP7
        go_upto_region 15 with (go_at_call 15; ((with_reducible refine CK.mono ?_); rintro e w8 ⟨rfl, hg⟩; have HO8 := Lib.hid (HO7.out.keep hg); have HG8 := Lib.hid (grew_trans HG7.out hg); clear hg CK HO7))
        have CS := spoilCas_any Aa L5.length ca w1.heap.size w8 (slab_of HO8.out rfl _ HSZ.out) (by omega)
        go_upto_region 16 with (go_at_call 16; ((with_reducible refine CS.mono ?_); rintro e w9 ⟨rfl, hg, -⟩; have HG9 : Hid (Grew w1 w9) := Below.trans HG8.out hg; clear hg CS HO8))
        clear HG5 HG6 HG7 HG8 HSZ hlen
        obtain ⟨x0, x1, x2⟩ := HXK.out w9 HG9.out
        have CA := clmeet_any B n dd l (q1, q2, q3) w9 (HRB.out.keep HG9.out) HKD.out.1 hld HKD.out.2.2 (by omega)
        have CB := fun w' (g : Grew w1 w') => rmeet_any A n c l (q1, q2, q3) w' (HIB.out.keep g) (by omega)
        have hlen := meetL_len l (q1, q2, q3)
        rw [HL.out] at hlen
        unfold MeetPost at CA CB
        dsimp only [vDe] at CA CB
        generalize meetE l (q1, q2, q3) = E9 at *
        generalize meetL l (q1, q2, q3) = L9 at *
        go_upto_region 17 with (go_at_call 17; ((with_reducible refine CA.mono ?_); rintro e w10 ⟨va, rfl, ho, hg⟩; have HO10 := Lib.hid ho; have HG10 := Lib.hid (grew_trans HG9.out hg); clear hg ho CA x0 x1 x2))
        obtain ⟨Aa, ca, rfl, -⟩ := HO10.out.form
        have HSZ : Hid (w1.heap.size ≤ w9.heap.size) := HG9.out.size
        obtain ⟨x0, x1, x2⟩ := HXK.out w10 HG10.out
        go_upto_region 18 with (go_at_call 18; ((with_reducible refine (CB _ HG10.out).mono ?_); rintro e w11 ⟨vb, rfl, ho, hg⟩; have HP11 := Lib.hid ho; have HO11 := Lib.hid (HO10.out.keep hg); have HG11 := Lib.hid (grew_trans HG10.out hg); clear hg ho CB HO10 x0 x1 x2))
        obtain ⟨Ab, cb, rfl, hrb, -⟩ := HP11.out.form
        have hra := (own_form HO11.out).1
        have CK := kcalls_yes Aa Ab L9.length ca cb L9 w11 hra hrb (by omega)
        clear hra hrb HP11
        go_upto_region 19 with (go_at_call 15; ((with_reducible refine CK.mono ?_); rintro e w12 ⟨rfl, hg⟩; have HO12 := Lib.hid (HO11.out.keep hg); have HG12 := Lib.hid (grew_trans HG11.out hg); clear hg CK HO11))
        have CS := spoilCas_any Aa L9.length ca w1.heap.size w12 (slab_of HO12.out rfl _ HSZ.out) (by omega)
        go_upto_region 20 with (go_at_call 16; ((with_reducible refine CS.mono ?_); rintro e w13 ⟨rfl, hg, -⟩; have HG13 : Hid (Grew w1 w13) := Below.trans HG12.out hg; clear hg CS HO12))
        clear HG9 HG10 HG11 HG12 HSZ hlen
        have CA := cllate_any B n dd l now w13 (HRB.out.keep HG13.out) (by omega)
        have CB := fun w' (g : Grew w1 w') => rlate_any A n c l now w' (HIB.out.keep g) (by omega)
        unfold LatePost at CA CB
        obtain ⟨hl1, hl2⟩ := late_len0 l now
        rw [HL.out] at hl1 hl2
        generalize lateL l now = La at *
        generalize leftL l now = Lb at *
        go_upto_region 21 with (go_at_call 19; ((with_reducible refine CA.mono ?_); rintro e w14 ⟨va, vc, rfl, ht, hg⟩; have HT14 := Lib.hid ht; have HG14 := Lib.hid (grew_trans HG13.out hg); clear hg ht CA))
        obtain ⟨Aa, ca, rfl, -⟩ := HT14.out.a.form
        obtain ⟨Ac, cc, rfl, -⟩ := HT14.out.b.form
        have HSZ : Hid (w1.heap.size ≤ w13.heap.size) := HG13.out.size
        go_upto_region 22 with (go_at_call 20; ((with_reducible refine (CB _ HG14.out).mono ?_); rintro e w15 ⟨vb, vd, rfl, ht, hg⟩; have HU15 := Lib.hid ht; have HT15 := Lib.hid (HT14.out.keep hg); have HG15 := Lib.hid (grew_trans HG14.out hg); clear hg ht CB HT14))
        obtain ⟨Ab, cb, rfl, hrb, -⟩ := HU15.out.a.form
        obtain ⟨Ad, cd, rfl, hrd, -⟩ := HU15.out.b.form
        have hra := (own_form HT15.out.a).1
        have hrc := (own_form HT15.out.b).1
        have CK := kcalls_yes Aa Ab La.length ca cb La w15 hra hrb (by omega)
        have CL := fun w' (g : Grew w15 w') => kcalls_yes Ac Ad Lb.length cc cd Lb w' (hrc.keep g) (hrd.keep g) (by omega)
        clear hra hrb HU15
        go_upto_region 23 with (first | (go_at_call 15; ((with_reducible refine CK.mono ?_); rintro e w16 ⟨rfl, hg⟩; have HGa := Lib.hid hg; clear hg CK)) | (go_at_call 15; ((with_reducible refine (CL _ HGa.out).mono ?_); rintro e w17 ⟨rfl, hg⟩; have HGb := Lib.hid (grew_trans HGa.out hg); clear hg CL)))
        clear hrc hrd
        have HT17 := Lib.hid (HT15.out.keep HGb.out)
        have HG17 := Lib.hid (grew_trans HG15.out HGb.out)
        clear HGa HGb HT15
        have CS := spoilCas_any Aa La.length ca w1.heap.size w17 (slab_of HT17.out.a rfl _ HSZ.out) (by omega)
        have hsb := slab_of HT17.out.b rfl _ HSZ.out
        go_upto_region 24 with (go_at_call 16; ((with_reducible refine CS.mono ?_); rintro e w18 ⟨rfl, hg, hs⟩; have HG18 : Hid (Grew w1 w18) := Below.trans HG17.out hg; have HS := Lib.hid hs; clear hg hs CS))
        have hsc : Lb.length = 0 ∨ ∃ g, Ac = some ⟨g, 0, none⟩ ∧ w1.heap.size ≤ g ∧ Slab w18 g (Lb.length * 4) := by
          rcases hsb with h0 | ⟨g, e, h1, h2⟩
          · exact Or.inl h0
          · exact Or.inr ⟨g, e, h1, HS.out _ _ h2⟩
        have CS := spoilCas_any Ac Lb.length cc w1.heap.size w18 hsc (by omega)
        clear hsb hsc HS HT17
        go_upto_region 25 with (go_at_call 16; ((with_reducible refine CS.mono ?_); rintro e w19 ⟨rfl, hg, -⟩; have HG19 : Hid (Grew w1 w19) := Below.trans HG18.out hg; clear hg CS))
        clear HG13 HG14 HG15 HG17 HG18 HSZ hl1 hl2
        have CA := clwithout_any B C n dd m e l ws w19 (HRB.out.keep HG19.out) (HWB.out.grew HG19.out) (by omega) (by omega)
        have CB := fun w' (g : Grew w1 w') => rwithout_any A C n c m e l ws w' (HIB.out.keep g) (HWB.out.grew g) (by omega) (by omega)
        have hl1 := without_len0 l ws
        rw [HL.out] at hl1
        generalize withoutL l ws = Lw at *
        have HSZ : Hid (w1.heap.size ≤ w19.heap.size) := HG19.out.size
        go_upto_region 26 with (go_at_call 21; ((with_reducible refine CA.mono ?_); rintro e w20 ⟨va, rfl, ho, hg⟩; have HO20 := Lib.hid ho; have HG20 := Lib.hid (grew_trans HG19.out hg); clear hg ho CA))
        obtain ⟨Aa, ca, rfl, hra, -⟩ := HO20.out.form
        have HRA := Lib.hid hra
        clear hra
        go_upto_region 27 with (first | (go_at_call 22; ((with_reducible refine (CB _ HG20.out).mono ?_); rintro e w21 ⟨vb, rfl, ho, hg⟩; obtain ⟨Ab, cb, rfl, hrb, -⟩ := ho.form; have CK := kcalls_yes Aa Ab Lw.length ca cb Lw w21 (HRA.out.keep hg) hrb (by omega); have HGa := Lib.hid hg; clear hg ho CB hrb)) | (go_at_call 15; ((with_reducible refine CK.mono ?_); rintro e w22 ⟨rfl, hg⟩; have HGb := Lib.hid (grew_trans HGa.out hg); clear hg CK)))
        have HO22 := Lib.hid (HO20.out.keep HGb.out)
        have HG22 := Lib.hid (grew_trans HG20.out HGb.out)
        have CS := spoilCas_any Aa Lw.length ca w1.heap.size w22 (slab_of HO22.out rfl _ HSZ.out) (by omega)
        clear HGa HGb HRA HO20
        go_upto_region 28 with (go_at_call 16; ((with_reducible refine CS.mono ?_); rintro e w23 ⟨rfl, hg, -⟩; have HG23 : Hid (Grew w1 w23) := Below.trans HG22.out hg; clear hg CS))
        have CK := kcalls_yes B A n dd c l w23 (HRB.out.keep HG23.out) (HIB.out.keep HG23.out) (by omega)
        go_wp2_with (first | (go_at_call 15; ((with_reducible refine CK.mono ?_); rintro e wy ⟨rfl, hg⟩; have HGY := Lib.hid (grew_trans HG23.out hg); clear hg CK)) | (go_at_call 23; ((with_reducible refine (CW _).mono ?_); rintro e wz ⟨rfl, hg⟩; have HGZ := Lib.hid (grew_trans HG1.out (grew_trans HGY.out hg)); clear hg CW)))
        go_ret
        exact ⟨rfl, HGZ.out⟩
      · have hof : ofC l q1 q2 = (l.getD i ca0).2.2.1 := by unfold ofC; rw [hf]; rfl
        rw [hof] at C4
        have hin : i < n := by have := HL.out; omega
        obtain ⟨b, o, rfl, hb, hcc⟩ := (HIB.out.keep HG4.out).ca hin
        obtain ⟨-, -, a2, -⟩ := hcc i hin
        have p0 : (0 : Int) ≤ (i : Int) := by omega
        have p1 : (i : Int) < (n : Int) := by omega
        have p2 : (i : Int) ≥ 0 := by omega
        clear hof hf HP hcc hb
        generalize (l.getD i ca0).2.2.1 = am at *
        go_upto_region 10 with (fail)
        clear a2 p0 p1 p2
        obtain ⟨x0, x1, x2⟩ := HXK.out w4 HG4.out
        go_upto_region 12 with (go_at_call 12; ((with_reducible refine (C4 _ HG4.out).mono ?_); rintro e w5 ⟨rfl, hg⟩; have HG5 := Lib.hid (grew_trans HG4.out hg); clear hg C4 HG4 x0 x1 x2))
        obtain ⟨x0, x1, x2⟩ := HXK.out w5 HG5.out
        have CA := clask_any B n dd l (q1, q2, q3) t w5 (HRB.out.keep HG5.out) HKD.out.1 hld HKD.out.2.2 (by omega)
        have CB := fun w' (g : Grew w1 w') => rask_any (some ⟨b, o, none⟩) n c l (q1, q2, q3) t w' (HIB.out.keep g) (by omega)
        have hlen := askL_len l (q1, q2, q3) t
        rw [HL.out] at hlen
        unfold AskPost at CA CB
        dsimp only [vDe] at CA CB
        generalize askE l (q1, q2, q3) t = E5 at *
        generalize askL l (q1, q2, q3) t = L5 at *
        go_upto_region 13 with (go_at_call 13; ((with_reducible refine CA.mono ?_); rintro e w6 ⟨va, rfl, ho, hg⟩; have HO6 := Lib.hid ho; have HG6 := Lib.hid (grew_trans HG5.out hg); clear hg ho CA x0 x1 x2))
        obtain ⟨Aa, ca, rfl, -⟩ := HO6.out.form
        have HSZ : Hid (w1.heap.size ≤ w5.heap.size) := HG5.out.size
        obtain ⟨x0, x1, x2⟩ := HXK.out w6 HG6.out
        go_upto_region 14 with (go_at_call 14; ((with_reducible refine (CB _ HG6.out).mono ?_); rintro e w7 ⟨vb, rfl, ho, hg⟩; have HP7 := Lib.hid ho; have HO7 := Lib.hid (HO6.out.keep hg); have HG7 := Lib.hid (grew_trans HG6.out hg); clear hg ho CB HO6 x0 x1 x2))
        obtain ⟨Ab, cb, rfl, hrb, -⟩ := HP7.out.form
        have hra := (own_form HO7.out).1
        have CK := kcalls_yes Aa Ab L5.length ca cb L5 w7 hra hrb (by omega)
        clear hra hrb HP7
        go_upto_region 15 with (go_at_call 15; ((with_reducible refine CK.mono ?_); rintro e w8 ⟨rfl, hg⟩; have HO8 := Lib.hid (HO7.out.keep hg); have HG8 := Lib.hid (grew_trans HG7.out hg); clear hg CK HO7))
        have CS := spoilCas_any Aa L5.length ca w1.heap.size w8 (slab_of HO8.out rfl _ HSZ.out) (by omega)
        go_upto_region 16 with (go_at_call 16; ((with_reducible refine CS.mono ?_); rintro e w9 ⟨rfl, hg, -⟩; have HG9 : Hid (Grew w1 w9) := Below.trans HG8.out hg; clear hg CS HO8))
        clear HG5 HG6 HG7 HG8 HSZ hlen
        obtain ⟨x0, x1, x2⟩ := HXK.out w9 HG9.out
        have CA := clmeet_any B n dd l (q1, q2, q3) w9 (HRB.out.keep HG9.out) HKD.out.1 hld HKD.out.2.2 (by omega)
        have CB := fun w' (g : Grew w1 w') => rmeet_any (some ⟨b, o, none⟩) n c l (q1, q2, q3) w' (HIB.out.keep g) (by omega)
        have hlen := meetL_len l (q1, q2, q3)
        rw [HL.out] at hlen
        unfold MeetPost at CA CB
        dsimp only [vDe] at CA CB
        generalize meetE l (q1, q2, q3) = E9 at *
        generalize meetL l (q1, q2, q3) = L9 at *
        go_upto_region 17 with (go_at_call 17; ((with_reducible refine CA.mono ?_); rintro e w10 ⟨va, rfl, ho, hg⟩; have HO10 := Lib.hid ho; have HG10 := Lib.hid (grew_trans HG9.out hg); clear hg ho CA x0 x1 x2))
        obtain ⟨Aa, ca, rfl, -⟩ := HO10.out.form
        have HSZ : Hid (w1.heap.size ≤ w9.heap.size) := HG9.out.size
        obtain ⟨x0, x1, x2⟩ := HXK.out w10 HG10.out
        go_upto_region 18 with (go_at_call 18; ((with_reducible refine (CB _ HG10.out).mono ?_); rintro e w11 ⟨vb, rfl, ho, hg⟩; have HP11 := Lib.hid ho; have HO11 := Lib.hid (HO10.out.keep hg); have HG11 := Lib.hid (grew_trans HG10.out hg); clear hg ho CB HO10 x0 x1 x2))
        obtain ⟨Ab, cb, rfl, hrb, -⟩ := HP11.out.form
        have hra := (own_form HO11.out).1
        have CK := kcalls_yes Aa Ab L9.length ca cb L9 w11 hra hrb (by omega)
        clear hra hrb HP11
        go_upto_region 19 with (go_at_call 15; ((with_reducible refine CK.mono ?_); rintro e w12 ⟨rfl, hg⟩; have HO12 := Lib.hid (HO11.out.keep hg); have HG12 := Lib.hid (grew_trans HG11.out hg); clear hg CK HO11))
        have CS := spoilCas_any Aa L9.length ca w1.heap.size w12 (slab_of HO12.out rfl _ HSZ.out) (by omega)
        go_upto_region 20 with (go_at_call 16; ((with_reducible refine CS.mono ?_); rintro e w13 ⟨rfl, hg, -⟩; have HG13 : Hid (Grew w1 w13) := Below.trans HG12.out hg; clear hg CS HO12))
        clear HG9 HG10 HG11 HG12 HSZ hlen
        have CA := cllate_any B n dd l now w13 (HRB.out.keep HG13.out) (by omega)
        have CB := fun w' (g : Grew w1 w') => rlate_any (some ⟨b, o, none⟩) n c l now w' (HIB.out.keep g) (by omega)
        unfold LatePost at CA CB
        obtain ⟨hl1, hl2⟩ := late_len0 l now
        rw [HL.out] at hl1 hl2
        generalize lateL l now = La at *
        generalize leftL l now = Lb at *
        go_upto_region 21 with (go_at_call 19; ((with_reducible refine CA.mono ?_); rintro e w14 ⟨va, vc, rfl, ht, hg⟩; have HT14 := Lib.hid ht; have HG14 := Lib.hid (grew_trans HG13.out hg); clear hg ht CA))
        obtain ⟨Aa, ca, rfl, -⟩ := HT14.out.a.form
        obtain ⟨Ac, cc, rfl, -⟩ := HT14.out.b.form
        have HSZ : Hid (w1.heap.size ≤ w13.heap.size) := HG13.out.size
        go_upto_region 22 with (go_at_call 20; ((with_reducible refine (CB _ HG14.out).mono ?_); rintro e w15 ⟨vb, vd, rfl, ht, hg⟩; have HU15 := Lib.hid ht; have HT15 := Lib.hid (HT14.out.keep hg); have HG15 := Lib.hid (grew_trans HG14.out hg); clear hg ht CB HT14))
        obtain ⟨Ab, cb, rfl, hrb, -⟩ := HU15.out.a.form
        obtain ⟨Ad, cd, rfl, hrd, -⟩ := HU15.out.b.form
        have hra := (own_form HT15.out.a).1
        have hrc := (own_form HT15.out.b).1
        have CK := kcalls_yes Aa Ab La.length ca cb La w15 hra hrb (by omega)
        have CL := fun w' (g : Grew w15 w') => kcalls_yes Ac Ad Lb.length cc cd Lb w' (hrc.keep g) (hrd.keep g) (by omega)
        clear hra hrb HU15
        go_upto_region 23 with (first | (go_at_call 15; ((with_reducible refine CK.mono ?_); rintro e w16 ⟨rfl, hg⟩; have HGa := Lib.hid hg; clear hg CK)) | (go_at_call 15; ((with_reducible refine (CL _ HGa.out).mono ?_); rintro e w17 ⟨rfl, hg⟩; have HGb := Lib.hid (grew_trans HGa.out hg); clear hg CL)))
        clear hrc hrd
        have HT17 := Lib.hid (HT15.out.keep HGb.out)
        have HG17 := Lib.hid (grew_trans HG15.out HGb.out)
        clear HGa HGb HT15
        have CS := spoilCas_any Aa La.length ca w1.heap.size w17 (slab_of HT17.out.a rfl _ HSZ.out) (by omega)
        have hsb := slab_of HT17.out.b rfl _ HSZ.out
        go_upto_region 24 with (go_at_call 16; ((with_reducible refine CS.mono ?_); rintro e w18 ⟨rfl, hg, hs⟩; have HG18 : Hid (Grew w1 w18) := Below.trans HG17.out hg; have HS := Lib.hid hs; clear hg hs CS))
        have hsc : Lb.length = 0 ∨ ∃ g, Ac = some ⟨g, 0, none⟩ ∧ w1.heap.size ≤ g ∧ Slab w18 g (Lb.length * 4) := by
          rcases hsb with h0 | ⟨g, e, h1, h2⟩
          · exact Or.inl h0
          · exact Or.inr ⟨g, e, h1, HS.out _ _ h2⟩
        have CS := spoilCas_any Ac Lb.length cc w1.heap.size w18 hsc (by omega)
        clear hsb hsc HS HT17
        go_upto_region 25 with (go_at_call 16; ((with_reducible refine CS.mono ?_); rintro e w19 ⟨rfl, hg, -⟩; have HG19 : Hid (Grew w1 w19) := Below.trans HG18.out hg; clear hg CS))
        clear HG13 HG14 HG15 HG17 HG18 HSZ hl1 hl2
        have CA := clwithout_any B C n dd m e l ws w19 (HRB.out.keep HG19.out) (HWB.out.grew HG19.out) (by omega) (by omega)
        have CB := fun w' (g : Grew w1 w') => rwithout_any (some ⟨b, o, none⟩) C n c m e l ws w' (HIB.out.keep g) (HWB.out.grew g) (by omega) (by omega)
        have hl1 := without_len0 l ws
        rw [HL.out] at hl1
        generalize withoutL l ws = Lw at *
        have HSZ : Hid (w1.heap.size ≤ w19.heap.size) := HG19.out.size
        go_upto_region 26 with (go_at_call 21; ((with_reducible refine CA.mono ?_); rintro e w20 ⟨va, rfl, ho, hg⟩; have HO20 := Lib.hid ho; have HG20 := Lib.hid (grew_trans HG19.out hg); clear hg ho CA))
        obtain ⟨Aa, ca, rfl, hra, -⟩ := HO20.out.form
        have HRA := Lib.hid hra
        clear hra
        go_upto_region 27 with (first | (go_at_call 22; ((with_reducible refine (CB _ HG20.out).mono ?_); rintro e w21 ⟨vb, rfl, ho, hg⟩; obtain ⟨Ab, cb, rfl, hrb, -⟩ := ho.form; have CK := kcalls_yes Aa Ab Lw.length ca cb Lw w21 (HRA.out.keep hg) hrb (by omega); have HGa := Lib.hid hg; clear hg ho CB hrb)) | (go_at_call 15; ((with_reducible refine CK.mono ?_); rintro e w22 ⟨rfl, hg⟩; have HGb := Lib.hid (grew_trans HGa.out hg); clear hg CK)))
        have HO22 := Lib.hid (HO20.out.keep HGb.out)
        have HG22 := Lib.hid (grew_trans HG20.out HGb.out)
        have CS := spoilCas_any Aa Lw.length ca w1.heap.size w22 (slab_of HO22.out rfl _ HSZ.out) (by omega)
        clear HGa HGb HRA HO20
        go_upto_region 28 with (go_at_call 16; ((with_reducible refine CS.mono ?_); rintro e w23 ⟨rfl, hg, -⟩; have HG23 : Hid (Grew w1 w23) := Below.trans HG22.out hg; clear hg CS))
        have CK := kcalls_yes B (some ⟨b, o, none⟩) n dd c l w23 (HRB.out.keep HG23.out) (HIB.out.keep HG23.out) (by omega)
        go_wp2_with (first | (go_at_call 15; ((with_reducible refine CK.mono ?_); rintro e wy ⟨rfl, hg⟩; have HGY := Lib.hid (grew_trans HG23.out hg); clear hg CK)) | (go_at_call 23; ((with_reducible refine (CW _).mono ?_); rintro e wz ⟨rfl, hg⟩; have HGZ := Lib.hid (grew_trans HG1.out (grew_trans HGY.out hg)); clear hg CW)))
        go_ret
        exact ⟨rfl, HGZ.out⟩
end Go.Proofs.Ytaipgcckafbgeaa.NumK
namespace Go.Proofs.Ytaipgcckafbgeaa.NumK
open Go.RowKit
theorem callExact_row (w : World) {A C : Option Addr} {n c m e : Nat} {l : List ((Int × Int × Int) × Int)} {cs : Array Value} {d : Du} {ws : List Int} (t now : Int) (h : Row spCa w A n l) (hk : A = none → c = 0) (hd : spDu3.rd w cs.toList d) (hw : Row spI w C m ws) :
    Calls Try.prog 3 #[.slice A n c, .agg cs, .int .i64 t, .int .i64 now, .slice C m e] w fun e w' => e = .returned (.bool true) ∧ Grew w w' := by
  rw [due_of hd]
  exact callExact_walk A C n c m e _ d t now ws w (calls_row h) hk (ints_of_spec hw)
end Go.Proofs.Ytaipgcckafbgeaa.NumK
namespace Go.Proofs.Ytaipgcckafbgeaa.callExact
open Go.ChangeShapes Go.WideShapes Go.ChangeAt Go.RowKit
set_option linter.unusedVariables false

theorem own : ownKnob Try.prog.godebug = none := by kernel_rfl
theorem laidOut : laidOutB Try.prog = true := by kernel_rfl

set_option maxRecDepth 100000 in
theorem lifted (os : Os) (started : os.Started) (H : Type) (enc : TypeId × Value → H) :
    ReturnsInHanded {} Try.checked os 3 .any (Rows.callExactSpec.pre6 enc Try.prog Try.f3 Rows.callExactRow.domain false) (Rows.callExactSpec.post enc Try.prog Try.f3 false true false false) := by
  refine returnsInHanded_of_change (C := Try.checked) own started (by kernel_rfl) Try.func3
    (ChangeSpec.witness6 (enc := enc) (C := Try.checked) false ⟨#[], #[.slice none 0 0, .agg #[.int .i64 0, .int .i64 0, .int .i64 0], .int .i64 0, .int .i64 0, .slice none 0 0], []⟩ 8 (by kernel_rfl) (by kernel_rfl) (by kernel_rfl) (by kernel_rfl)) ?_
  intro W base args ds gs before hval0 hW hcnd _
  have hval : ∀ (j : Nat) t v, Try.f3.params[j]? = some t → args[j]? = some v → Value.okWide Try.prog W .any base t v := hval0
  have hW' := hW
  obtain ⟨p, q, hA0, hV, rfl, hfz, hnd⟩ := hW
  have hA : DataW.TrodAll enc Try.prog W 0 (fun _ => true) true Try.f3.params.toList args.toList ds p := hA0
  skip
  rw [Try.params3] at hA hval
  obtain ⟨v0, vs0, d0, ds0, p0, q0, hargs, rfl, rfl, h0, r0⟩ := trodAll_cons hA
  obtain ⟨v1, vs1, d1, ds1, p1, q1, rfl, rfl, rfl, h1, r1⟩ := trodAll_cons r0
  obtain ⟨v2, vs2, d2, ds2, p2, q2, rfl, rfl, rfl, h2, r2⟩ := trodAll_cons r1
  obtain ⟨v3, vs3, d3, ds3, p3, q3, rfl, rfl, rfl, h3, r3⟩ := trodAll_cons r2
  obtain ⟨v4, vs4, d4, ds4, p4, q4, rfl, rfl, rfl, h4, r4⟩ := trodAll_cons r3
  obtain ⟨rfl, rfl, rfl⟩ := trodAll_nil r4
  obtain rfl : args = #[v0, v1, v2, v3, v4] := by cases args; simp_all
  obtain ⟨rfl, rfl⟩ := trodVars_none hV
  have k0 := h0
  have lt0 : ∀ x ∈ p0, x.block < W.heap.size := by obtain ⟨m, hm⟩ := k0; exact DataW.trod_lt m _ _ _ hm
  obtain ⟨A0, len0, cap0, l0, rfl, ro0, n0, c0, m0⟩ := NumK.arg_slice Try.underlying22 NumK.opens_calls (hval 0 22 v0 rfl rfl) h0
  have k1 := h1
  have lt1 : ∀ x ∈ p1, x.block < W.heap.size := by obtain ⟨m, hm⟩ := k1; exact DataW.trod_lt m _ _ _ hm
  obtain ⟨cs1, x1, rfl, e1⟩ := NumK.arg_struct Try.underlying24 NumK.opens_due (hval 1 24 v1 rfl rfl) h1
  obtain ⟨a2, rfl, rfl, rfl, w2⟩ := open_int Try.underlying3 (hval 2 3 v2 rfl rfl) h2
  obtain ⟨a3, rfl, rfl, rfl, w3⟩ := open_int Try.underlying3 (hval 3 3 v3 rfl rfl) h3
  have k4 := h4
  have lt4 : ∀ x ∈ p4, x.block < W.heap.size := by obtain ⟨m, hm⟩ := k4; exact DataW.trod_lt m _ _ _ hm
  obtain ⟨A4, len4, cap4, l4, rfl, ro4, n4, c4, m4⟩ := NumK.arg_slice Try.underlying25 NumK.opens_ints (hval 4 25 v4 rfl rfl) h4
  clear hA0 hval0
  refine (NumK.callExact_row W a2 a3 ro0 n0 e1 ro4).mono fun e W' ⟨he, bel⟩ => ?_
  subst he
  exact ⟨_, rfl, _, _, _, [], _, [], hW', trodAll_mk1 (shut_bool Try.underlying4 _), (trodAll_cons_mk (Below.trod laidOut (by kernel_rfl) (of_decide_eq_true (by kernel_rfl)) k0 bel lt0) (trodAll_cons_mk (Below.trod laidOut (by kernel_rfl) (of_decide_eq_true (by kernel_rfl)) k1 bel lt1) (trodAll_cons_mk (shut_int Try.underlying3 w2) (trodAll_cons_mk (shut_int Try.underlying3 w3) (trodAll_cons_mk (Below.trod laidOut (by kernel_rfl) (of_decide_eq_true (by kernel_rfl)) k4 bel lt4) trodAll_mk0))))), rfl, bel.frame _, fun h => by cases h⟩

theorem over : Rows.callExactRow.holds Try.pinned (OpenSpec.ofChange Rows.callExactSpec) :=
  OpenClaim.holds_of_wide 3 Try.f3 rfl rfl rfl rfl rfl rfl rfl ⟨rfl, rfl, rfl, rfl, rfl⟩ rfl rfl rfl rfl rfl (by kernel_rfl) Try.func3 (by kernel_rfl)
    (of_decide_eq_true (by kernel_rfl)) (by unfold Func.isWrapper; first | (rw [if_pos (by decide +kernel)]; kernel_rfl) | (rw [if_neg (by decide +kernel)]; exact ⟨rfl, rfl⟩))
    (fun os started H enc _ => lifted os started H enc)

/-! ### the statement -/
theorem proved : Rows.CallExactSaid := over
end Go.Proofs.Ytaipgcckafbgeaa.callExact
