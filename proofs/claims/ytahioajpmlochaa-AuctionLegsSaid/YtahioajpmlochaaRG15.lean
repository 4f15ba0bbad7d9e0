/- AuctionExact: the order of bids, what is filled, the legs: as the page says. -/
import Derived.Test.YtahioajpmlochaaRG10
import Derived.Test.YtahioajpmlochaaRG12
import Derived.Test.YtahioajpmlochaaRG13
import Derived.Test.YtahioajpmlochaaRG14
import Derived.Deep.Slices
import Derived.Test.YtahioajpmlochaaRG2
namespace Go.Proofs.Ytahioajpmlochaa.NumK
open Go.RowKit
set_option linter.unusedVariables false

def flL (q : Int) (l : List Bi) : List Fi := if auOK q l then auF q l else []
def flR (q : Int) (l : List Bi) : Int := if auOK q l then auR q l else 0
def flE (q : Int) (l : List Bi) : Int := if auOK q l then 0 else 3
theorem FillPost.all {q : Int} {l : List Bi} {w w' : World} {e : Ending} (h : FillPost q l w e w') :
    ∃ A c, e = .returned (.tuple #[.slice A (flL q l).length c, .int .i64 (flR q l), .int .i64 (flE q l)]) ∧ RowE enD3 w' A (flL q l).length (flL q l) ∧ (A = none → c = 0) ∧ Grew w w' := by
  unfold flL flR flE
  rcases h with ⟨h1, h2, h3⟩ | ⟨h1, v, h2, h3, h4⟩
  · rw [h1]
    exact ⟨none, 0, h2, RowE.nil _ _ _, fun _ => rfl, h3⟩
  · rw [h1]
    obtain ⟨A, c, rfl, hr, hk, _⟩ := h3.form
    exact ⟨A, c, h2, hr, hk, h4⟩
theorem fl_len (q : Int) (l : List Bi) : (flL q l).length ≤ l.length := by
  unfold flL
  split
  · exact au_len q l
  · simp

set_option maxRecDepth 100000 in
set_option maxHeartbeats 16000000 in
theorem auctionExact_walk (q : Int) (A C : Option Addr) (n c m e : Nat) (l : List B5) (k : Ky) (long : Bool) (fs : List Fi) (w : World) (h : RowE enB5 w A n l) (hA : A = none → c = 0) (hf : ∀ b ∈ l, in64 b.2.2.1) (hq : in64 q) (h2 : RowE enD3 w C m fs) (hC : C = none → e = 0) :
    Calls Try.prog 3 #[.int .i64 q, .slice A n c, .agg #[.int .i64 k.1, .int .i64 k.2], .bool long, .slice C m e] w fun e w' => e = .returned (.bool true) ∧ Grew w w' := by
  have HI := Lib.hid h
  have HL := Lib.hid h.len
  have HFI := Lib.hid h2
  have HFL := Lib.hid h2.len
  have HF := Lib.hid hf
  have CW := fun w => wakes19_any w
  clear h h2 hf
  obtain ⟨k1, k2⟩ := k
  dsimp only
  have HX0 : Hid (OwnC (w.alloc (.cells #[.int .i64 k1, .int .i64 k2] 24)) w.heap.size [.int .i64 k1, .int .i64 k2]) := OwnC.new w [.int .i64 k1, .int .i64 k2] _ _ rfl
  have HG0 : Hid (Grew w (w.alloc (.cells #[.int .i64 k1, .int .i64 k2] 24))) := grew_alloc _ _ _
  go_enter Try.func3, Try.ntmps3
  go_upto_region 1 with (fail)
  generalize w.alloc (.cells #[.int .i64 k1, .int .i64 k2] 24) = w0 at *
  generalize w.heap.size = N0 at *
  by_cases hn : n > 300
  · have j1 : (n : Int) > 300 := by omega
    clear CW
    go_wp2
    go_ret
    exact ⟨rfl, HG0.out⟩
  · have j1 : ¬ (n : Int) > 300 := by omega
    by_cases hm : m > 300
    · have j2 : (m : Int) > 300 := by omega
      clear CW
      go_wp2
      go_ret
      exact ⟨rfl, HG0.out⟩
    · have j2 : ¬ (m : Int) > 300 := by omega
      have CT := twinBids_any A n c l w0 (HI.out.keep HG0.out) hA (by omega)
      go_upto_region 4 with (go_at_call 8; ((with_reducible refine CT.mono ?_); rintro e w1 ⟨B, dd, rfl, ho, hg⟩; have HOT := Lib.hid ho; have HG1 := Lib.hid (grew_trans HG0.out hg); have HX1 := Lib.hid (HX0.out.keep hg); clear hg ho CT HX0 HG0))
      have HB3 := Lib.hid (own_form HOT.out)
      have HRB : Hid (RowE enB5 w1 B n l) := by have := HB3.out.1; rw [HL.out] at this; exact this
      have HKB : Hid (B = none → dd = 0) := HB3.out.2.1
      have HIA := Lib.hid (HI.out.keep HG1.out)
      have HFA := Lib.hid (HFI.out.keep HG1.out)
      clear HOT HB3 HI HFI
      have CO := aorder_any long B n dd l w1 HRB.out HKB.out (by omega) HF.out
      have hol : (ordB long l).length = n := by unfold ordB; rw [ordF_len, HL.out]
      go_upto_region 5 with (go_at_call 9; ((with_reducible refine CO.mono ?_); rintro e w2 ⟨v, rfl, ho, hg⟩; have HOO := Lib.hid ho; have HG2 := Lib.hid hg; clear hg ho CO))
      obtain ⟨A3, c3, rfl, hr3, _, _, hs3⟩ := HOO.out
      rw [hol] at hr3 hs3 ⊢
      have HR3 := Lib.hid hr3
      have HS3 := Lib.hid hs3
      clear HOO hr3 hs3
      have CR := raorder_any long A n c l w2 (HIA.out.keep HG2.out) (by omega) HF.out
      --REST
      have CK := fun (A9 : Option Addr) (c9 : Nat) (w9 : World) (g9 : Grew w2 w9) (hr : RowE enB5 w9 A9 n (ordB long l)) => kbids_yes A3 A9 n c3 c9 (ordB long l) w9 (HR3.out.keep g9) hr (by omega)
      go_upto_region 6 with (first
        | (go_at_call 11; ((with_reducible refine CR.mono ?_); rintro e w3 ⟨v4, rfl, ho, hg⟩; obtain ⟨A4, c4, rfl, hr4, -⟩ := ho.form; rw [hol] at hr4 ⊢; have HG3 := Lib.hid hg; have CK1 := CK A4 c4 w3 hg hr4; clear hg ho hr4 CR CK))
        | (go_at_call 10; ((with_reducible refine CK1.mono ?_); rintro e w4 ⟨rfl, hg⟩; have HG4 := Lib.hid (grew_trans HG3.out hg); clear hg CK1)))
      have HS4 : Hid (0 < n → ∃ g, A3 = some ⟨g, 0, none⟩ ∧ w1.heap.size ≤ g ∧ Slab w4 g (n * 5)) := fun h0 => by
        obtain ⟨g, e, h1, h2⟩ := HS3.out h0
        exact ⟨g, e, h1, h2.keep HG4.out⟩
      have HB4 : Hid (Below w1.heap.size w1 w4) := grew_trans HG2.out HG4.out
      clear HS3 HR3 HG2 HG4 HG3 hol
      go_wp2
      go_loopw [14] (fun v14 wr => ∃ i : Nat, v14 = .int .i64 i ∧ i ≤ n ∧ Hid (0 < n → ∃ g, A3 = some ⟨g, 0, none⟩ ∧ w1.heap.size ≤ g ∧ Slab wr g (n * 5)) ∧ Hid (Below w1.heap.size w1 wr)) (fun v14 _ => n - (intOf v14).toNat)
      case atStart => exact ⟨0, rfl, by omega, HS4.out, HB4.out⟩
      case round =>
        clear HS4 HB4
        obtain ⟨i, rfl, hi, HS, HB⟩ := hrel
        by_cases hlt : i < n
        · obtain ⟨g, rfl, hg1, hsl⟩ := HS.out (by omega)
          obtain ⟨⟨u, hu⟩, hfz⟩ := hsl.2 (i * 5 + 2) (by omega)
          have HSN : Hid (0 < n → ∃ g2, some (⟨g, 0, none⟩ : Addr) = some ⟨g2, 0, none⟩ ∧ w1.heap.size ≤ g2 ∧ Slab (wr.setCell ⟨g, i * 5 + 2, none⟩ (.int .i64 (-77))) g2 (n * 5)) := fun _ => ⟨g, rfl, hg1, hsl.set _ _ _⟩
          have HBN : Hid (Below w1.heap.size w1 (wr.setCell ⟨g, i * 5 + 2, none⟩ (.int .i64 (-77)))) := Below.setCell HB.out (p := ⟨g, i * 5 + 2, none⟩) hg1 _
          have i0 : (0 : Int) ≤ (i : Int) := by omega
          have i1 : (i : Int) < (n : Int) := by omega
          clear HS HB hsl
          go_wp2
          go_roundw
          case rel => exact ⟨i + 1, by go_num, by omega, HSN.out, HBN.out⟩
          case measure => simp only [intOf]; omega
        · obtain rfl : i = n := by omega
          have HG5 : Hid (Grew w1 wr) := HB.out
          clear HS HB
          have HRB5 := Lib.hid (HRB.out.keep HG5.out)
          have CF := afill_any q B i dd l wr HRB5.out HKB.out (by omega) HF.out hq
          go_upto_region 11 with (go_at_call 12; ((with_reducible refine CF.mono ?_); rintro e w6 hP; obtain ⟨A6, c6, rfl, hr6, -, hg6⟩ := hP.all; have HR6 := Lib.hid hr6; have HG6 := Lib.hid hg6; clear hr6 hg6 hP CF))
          have CRF := rafill_any q A i c l w6 (HIA.out.keep (grew_trans HG5.out HG6.out)) (by omega) HF.out hq
          have hfl : (flL q l).length ≤ 300 := by have := fl_len q l; rw [HL.out] at this; omega
          go_upto_region 12 with (go_at_call 13; ((with_reducible refine CRF.mono ?_); rintro e w7 hP; obtain ⟨A7, c7, rfl, hr7, -, hg7⟩ := hP.all; have HR7 := Lib.hid hr7; have HG7 := Lib.hid hg7; clear hr7 hg7 hP CRF))
          have CKF := kfills_yes A6 A7 (flL q l).length c6 c7 (flL q l) w7 (HR6.out.keep HG7.out) HR7.out (by omega)
          generalize (flL q l).length = L6 at *
          generalize flR q l = r6 at *
          generalize flE q l = e6 at *
          have b1 : (r6 == r6) = true := by simp
          have b2 : (e6 == e6) = true := by simp
          go_upto_region 13 with (go_at_call 14; ((with_reducible refine CKF.mono ?_); rintro e w8 ⟨rfl, hg⟩; have HG8 := Lib.hid (grew_trans (grew_trans HG5.out HG6.out) (grew_trans HG7.out hg)); clear hg CKF))
          have HRB8 := Lib.hid (HRB.out.keep HG8.out)
          have HIA8 := Lib.hid (HIA.out.keep HG8.out)
          have HFA8 := Lib.hid (HFA.out.keep HG8.out)
          have HX8 := Lib.hid (HX1.out.keep HG8.out)
          have HG9 := Lib.hid (grew_trans HG1.out HG8.out)
          clear HR6 HR7 HG5 HG6 HG7 HRB5 HRB HIA HFA HX1 HG8 HG1 b1 b2
          go_upto_region 15 with (at_builtin; refine (wpList_append_E rfl _ _ 25 46 (vFi fi0) 24 rfl Try.underlying25 info_fi rfl w8.heap.size _ [] rfl (OwnE.nil enD3 _ _ _) C m e fs rfl hC HFA8.out (by simp; unfold maxLen; omega) (by simp; omega) (Nat.le_refl _) ?_); intro v' w9 ho hb; rw [List.nil_append] at ho; obtain ⟨C1, d1, rfl, hr9, hk9, -⟩ := ho.form; rw [HFL.out] at hr9 ⊢; have HR9 := Lib.hid hr9; have HGB := Lib.hid hb; clear ho hb hr9)
          have HRB9 := Lib.hid (HRB8.out.keep HGB.out)
          have HIA9 := Lib.hid (HIA8.out.keep HGB.out)
          have HFA9 := Lib.hid (HFA8.out.keep HGB.out)
          have HX9 := Lib.hid (HX8.out.keep HGB.out)
          have HGX := Lib.hid (grew_trans HG9.out HGB.out)
          clear HRB8 HIA8 HFA8 HX8 HGB HG9
          have x0 := HX9.out.at 0 _ rfl
          have x1 := HX9.out.at 1 _ rfl
          have CL := flegs_any (k1, k2) long C1 m d1 fs w9 HR9.out (by omega)
          dsimp only at CL
          go_upto_region 16 with (go_at_call 15; ((with_reducible refine CL.mono ?_); rintro e w10 ⟨v, rfl, ho, hg⟩; have HOP := Lib.hid ho; have HG10 := Lib.hid hg; clear ho hg CL x0 x1))
          obtain ⟨AP, cp, rfl, hrp, -⟩ := HOP.out.form
          have HRP := Lib.hid hrp
          clear hrp
          have x0 := (HX9.out.keep HG10.out).at 0 _ rfl
          have x1 := (HX9.out.keep HG10.out).at 1 _ rfl
          have CRL := raflegs_any (k1, k2) long C m e fs w10 (HFA9.out.keep HG10.out) (by omega)
          dsimp only at CRL
          go_upto_region 17 with (go_at_call 16; ((with_reducible refine CRL.mono ?_); rintro e w11 ⟨v, rfl, ho, hg⟩; have HOQ := Lib.hid ho; have HG11 := Lib.hid hg; clear ho hg CRL x0 x1))
          obtain ⟨AQ, cq, rfl, hrq, -⟩ := HOQ.out.form
          have hll : (legsL (k1, k2) long fs).length ≤ 600 := by unfold legsL; split; (rw [legsF_len, HFL.out]; omega); simp
          have CKP := keepPoss_yes AP AQ _ cp cq _ w11 (HRP.out.keep HG11.out) hrq (by omega)
          clear HOQ hrq HX9
          have HSP : Hid ((legsL (k1, k2) long fs).length = 0 ∨ ∃ g, AP = some ⟨g, 0, none⟩ ∧ w9.heap.size ≤ g ∧ ∀ w', Grew w10 w' → Slab w' g ((legsL (k1, k2) long fs).length * 4)) := by
            obtain ⟨A', c', e', hs⟩ := HOP.out.slab
            cases e'
            rcases hs with h0 | ⟨g, e', h1, h2⟩
            · exact Or.inl h0
            · exact Or.inr ⟨g, e', h1, fun w' g' => h2.keep g'⟩
          generalize legsL (k1, k2) long fs = ps at *
          generalize ps.length = LP at *
          generalize legsE fs = le at *
          have b3 : (le == le) = true := by simp
          go_upto_region 18 with (go_at_call 17; ((with_reducible refine CKP.mono ?_); rintro e w12 ⟨rfl, hg⟩; have HG12 := Lib.hid (grew_trans HG11.out hg); clear hg CKP))
          have CSP := spoilPoss_any AP LP cp w9.heap.size w12 (by rcases HSP.out with h0 | ⟨g, e', h1, h2⟩; exact Or.inl h0; exact Or.inr ⟨g, e', h1, h2 _ HG12.out⟩) (by omega)
          go_upto_region 19 with (go_at_call 18; ((with_reducible refine CSP.mono ?_); rintro e w13 ⟨rfl, hg, -⟩; have HG13 : Hid (Grew w9 w13) := Below.trans (grew_trans HG10.out HG12.out) hg; clear hg CSP))
          clear HOP HRP HSP HG10 HG11 HG12 b3
          have CB := fun w' (g : Grew w13 w') => kbids_yes B A i dd c l w' ((HRB9.out.keep HG13.out).keep g) ((HIA9.out.keep HG13.out).keep g) (by omega)
          have CF := fun w' (g : Grew w13 w') => kfills_yes C1 C m d1 e fs w' ((HR9.out.keep HG13.out).keep g) ((HFA9.out.keep HG13.out).keep g) (by omega)
          have CB1 := CB w13 (grew_refl _)
          go_wp2_with (first
            | (go_at_call 10; ((with_reducible refine CB1.mono ?_); rintro e w14 ⟨rfl, hg⟩; have HG14 := Lib.hid hg; have CF1 := CF w14 hg; clear hg CB1))
            | (go_at_call 14; ((with_reducible refine CF1.mono ?_); rintro e w15 ⟨rfl, hg⟩; have HG15 := Lib.hid (grew_trans HG14.out hg); clear hg CF1))
            | (go_at_call 19; ((with_reducible refine (CW _).mono ?_); rintro e w16 ⟨rfl, hg⟩; have HG16 := Lib.hid (grew_trans HG15.out hg); clear hg)))
          go_ret
          exact ⟨rfl, grew_trans HGX.out (grew_trans HG13.out HG16.out)⟩
end Go.Proofs.Ytahioajpmlochaa.NumK
namespace Go.Proofs.Ytahioajpmlochaa.NumK
open Go.RowKit Go.ChangeShapes Go.WideShapes
set_option linter.unusedVariables false

/-! ### rolls among the arguments -/
abbrev spI : Sp Int := spInt .i64
abbrev spMb : Sp Mb := spPair spI (spPair spI spI)
abbrev spAs : Sp As := spPair spI (spPair spI (spPair spI spI))
abbrev spSh : Sp (List Int) := spArr 6 spI
abbrev spInA : Sp (Int × Int × Int × Int × Int × Int × List Int) := spPair spI (spPair spI (spPair spI (spPair spI (spPair spI (spPair spI spSh)))))
def toIn (x : Int × Int × Int × Int × Int × Int × List Int) : In :=
  ((x.1, x.2.1, x.2.2.1, x.2.2.2.1, x.2.2.2.2.1, x.2.2.2.2.2.1), (x.2.2.2.2.2.2.getD 0 0, x.2.2.2.2.2.2.getD 1 0, x.2.2.2.2.2.2.getD 2 0, x.2.2.2.2.2.2.getD 3 0, x.2.2.2.2.2.2.getD 4 0, x.2.2.2.2.2.2.getD 5 0))
theorem opens_i : Opens Try.prog 3 spI := opens_int Try.underlying3 (by kernel_rfl)
def spIn : Sp In := spMap toIn spInA
theorem rowE_of {α : Type} {A : Sp α} {E : En α} (hs : E.size = A.size) (hf : ∀ w cs a, A.rd w cs a → cs = E.cs a) {w : World} {ad : Option Addr} {n : Nat} {l : List α} (h : Row A w ad n l) : RowE E w ad n l := by
  have := Row.imp (A := A) (B := E.sp) (fun x => x) hs (fun cs a hr => hf w cs a hr) h
  rwa [List.map_id'] at this
abbrev spRl : Sp Rl := spPair (spSlice spMb) (spPair (spSlice spIn) (spSlice spAs))
/-! ### Heavy -/
def heavyR (n1 n2 n3 : Nat) : Bool := decide (n1 > 100) || (decide (n2 > 100) || decide (n3 > 100))
end Go.Proofs.Ytahioajpmlochaa.NumK
namespace Go.Proofs.Ytahioajpmlochaa.NumK
open Go.RowKit Go.ChangeShapes Go.WideShapes
set_option linter.unusedVariables false

theorem in64_wf {n : Int} (h : (Lit.int .i64 n).wf = true) : in64 n := by
  unfold in64
  exact Go.bounds_i64 h
abbrev spKy2 : Sp (Int × Int) := spPair spI spI
theorem opens_ky2 : Opens Try.prog 24 spKy2 := opens_struct Try.underlying24 (by kernel_rfl) (Fs.cons _ _ 0 rfl opens_i (Fs.last _ 1 rfl opens_i))
theorem ky2_of {w : World} {cs : Array Value} {a : Int × Int} (h : spKy2.rd w cs.toList a) : Value.agg cs = .agg #[.int .i64 a.1, .int .i64 a.2] := by
  have : cs.toList = [.int .i64 a.1, .int .i64 a.2] := by
    obtain ⟨c1, d1, e1, ⟨rfl, _⟩, rfl, _⟩ := h
    rw [e1]; rfl
  congr 1
  exact Array.toList_inj.1 this
abbrev spFi3 : Sp (Int × Int × Int) := spPair spI (spPair spI spI)
theorem opens_fi : Opens Try.prog 46 spFi3 := opens_struct Try.underlying46 (by kernel_rfl) (Fs.cons _ _ 0 rfl opens_i (Fs.cons _ _ 1 rfl opens_i (Fs.last _ 2 rfl opens_i)))
theorem opens_fis : Opens Try.prog 25 (spSlice spFi3) := opens_slice Try.underlying25 (by kernel_rfl) opens_fi (by decide)
theorem fi_rd {w : World} {cs : List Value} {a : D3} (h : spFi3.rd w cs a) : cs = enD3.cs a := by obtain ⟨c1, d1, rfl, ⟨rfl, _⟩, c2, d2, rfl, ⟨rfl, _⟩, rfl, _⟩ := h; rfl
theorem fis_row {w : World} {A : Option Addr} {n : Nat} {l : List D3} (h : Row spFi3 w A n l) : RowE enD3 w A n l := rowE_of rfl (fun _ _ _ => fi_rd) h
abbrev spBi5 : Sp ((Int × Int) × Int × Int × Int) := spPair spKy2 (spPair spI (spPair spI spI))
def toBi (x : (Int × Int) × Int × Int × Int) : B5 := (x.1.1, x.1.2, x.2.1, x.2.2.1, x.2.2.2)
def spBi : Sp B5 := spMap toBi spBi5
theorem opens_bi : Opens Try.prog 31 spBi :=
  opens_map toBi (opens_struct Try.underlying31 (by kernel_rfl) (Fs.cons _ _ 0 rfl opens_ky2 (Fs.cons _ _ 2 rfl opens_i (Fs.cons _ _ 3 rfl opens_i (Fs.last _ 4 rfl opens_i)))))
theorem opens_bis : Opens Try.prog 22 (spSlice spBi) := opens_slice Try.underlying22 (by kernel_rfl) opens_bi (by decide)
theorem bi_rd {w : World} {cs : List Value} {a : B5} (h : spBi.rd w cs a) : cs = enB5.cs a ∧ in64 a.2.2.1 := by
  obtain ⟨x, ⟨c0, d0, rfl, ⟨c1, d1, rfl, ⟨rfl, _⟩, rfl, _⟩, c3, d3, rfl, ⟨rfl, hw⟩, c4, d4, rfl, ⟨rfl, _⟩, rfl, _⟩, rfl⟩ := h
  exact ⟨rfl, in64_wf hw⟩
theorem bi_of {w : World} {cs : Array Value} {a : B5} (h : spBi.rd w cs.toList a) : Value.agg cs = vBd a ∧ in64 a.2.2.1 := by
  have h1 := bi_rd h
  refine ⟨?_, h1.2⟩
  congr 1
  exact Array.toList_inj.1 (by rw [h1.1]; rfl)
theorem bis_row {w : World} {A : Option Addr} {n : Nat} {l : List B5} (h : Row spBi w A n l) : RowE enB5 w A n l := rowE_of rfl (fun _ _ _ hh => (bi_rd hh).1) h
theorem bis_in {w : World} {A : Option Addr} {n : Nat} {l : List B5} (h : Row spBi w A n l) : ∀ b ∈ l, in64 b.2.2.1 := by
  intro b hb
  obtain ⟨i, hi, rfl⟩ := List.getElem_of_mem hb
  obtain ⟨_, _, _, _, hc⟩ := h.2 (by have := h.1; omega)
  obtain ⟨cs, h1, _⟩ := hc i hi
  exact (bi_rd h1).2
end Go.Proofs.Ytahioajpmlochaa.NumK
