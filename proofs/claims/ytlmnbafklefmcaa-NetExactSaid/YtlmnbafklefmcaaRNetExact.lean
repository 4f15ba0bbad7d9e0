/-
  For all dues, member and currency: what the dues are netted, what one member has of them, and the legs that pay them, are what the reference tells, with the errors; what is handed in stays; more than 300 dues the statement lets by.
-/
import Derived.Test.YtlmnbafklefmcaaRG11
import Derived.Test.YtlmnbafklefmcaaRG13
import Derived.Test.YtlmnbafklefmcaaRG5
import Derived.Test.YtlmnbafklefmcaaRG3
import Derived.Test.YtlmnbafklefmcaaRows
import Derived.WalkKit
import Derived.ProofKit
import Derived.OpenShut
import Derived.ShutString
import Derived.ChangeOld
import Derived.Below
import Derived.Carry
namespace Go.Proofs.Ytlmnbafklefmcaa.NumK
open Go.RowKit Go.Maps
set_option linter.unusedVariables false

theorem slabOf {w : World} {base : Nat} {t : TypeId} {α : Type} {E : En α} {A : Option Addr} {n c : Nat} {l : List α} (h : OwnE E w base t (.slice A n c) l) (k : Nat) (hk : E.size = k) : n = 0 ∨ ∃ g, A = some ⟨g, 0, none⟩ ∧ base ≤ g ∧ Slab w g (n * k) := by
  subst hk
  obtain ⟨A', c', e, hs⟩ := h.slab
  cases e
  exact hs

set_option maxRecDepth 100000 in
set_option maxHeartbeats 8000000 in
theorem netExact_walk (A : Option Addr) (n c : Nat) (l : List D3) (who cur : Int) (w : World) (h : RowE enD3 w A n l) (hk : ∀ x ∈ l, okDk (keyD x) = true) (hA : A = none → c = 0) :
    Calls Try.prog 3 #[.slice A n c, .int .i64 who, .int .i64 cur] w fun e w' => e = .returned (.bool true) ∧ Grew w w' := by
  have HI := Lib.hid h
  have HL := Lib.hid h.len
  have CW := fun w => wakes17_any w
  clear h
  by_cases hn : n > 300
  · have j1 : (n : Int) > 300 := by omega
    clear CW
    go_enter Try.func3, Try.ntmps3
    go_wp2
    go_ret
    exact ⟨rfl, grew_refl _⟩
  · have j1 : ¬ (n : Int) > 300 := by omega
    have CT := twinDues_any A n c l w HI.out hA (by omega)
    have CRN := fun w' (g : Grew w w') => rnet_any A n c l w' (HI.out.keep g) (by omega)
    have CRG := fun w' (g : Grew w w') => rgross_any A n c l who cur w' (HI.out.keep g) (by omega)
    have CRL := fun w' (g : Grew w w') => rnetlegs_any A n c l w' (HI.out.keep g) (by omega)
    have CN := fun B d w' (hr : RowE enD3 w' B n l) => net_any B n d l w' hr hk (by omega)
    have CG := fun B d w' (hr : RowE enD3 w' B n l) => ngross_any B n d l who cur w' hr (by omega)
    have CL := fun B d w' (hr : RowE enD3 w' B n l) => nlegs_any B n d l w' hr hk (by omega)
    have CD := fun B d w' (hr : RowE enD3 w' B n l) (g : Grew w w') => kdues_yes B A n d c l w' hr (HI.out.keep g) (by omega)
    have HLN : Hid ((netL l).length ≤ n) := by
      show _ ≤ _
      rw [← HL.out]
      unfold netL
      split
      · exact len_net l
      · simp
    have HLL := Lib.hid (nlL_len l)
    unfold NetPost at CN CRN
    unfold NlPost at CL CRL
    generalize netL l = nl at *
    generalize netE l = ne at *
    generalize nlL l = ll at *
    generalize nlE l = le at *
    generalize grossR l (who, cur) = gr at *
    generalize grossE l (who, cur) = ge at *
    go_enter Try.func3, Try.ntmps3
    go_wp2_with (first
      | (go_at_call 8; ((with_reducible refine CT.mono ?_); rintro e w1 ⟨B, d, rfl, ho, hg⟩; have HR1 : Hid (RowE enD3 w1 B n l) := (by have h9 := (own_form ho).1; rw [HL.out] at h9; exact h9); have HG1 := Lib.hid hg; clear ho hg CT))
      | (go_at_call 9; ((with_reducible refine (CN _ _ _ HR1.out).mono ?_); rintro e w2 ⟨v2, rfl, ho, hg⟩; obtain ⟨A2, c2, rfl, -⟩ := ho.form; have HO2 := Lib.hid ho; have HG12 := Lib.hid hg; have HG2 := Lib.hid (grew_trans HG1.out hg); clear ho hg CN))
      | (go_at_call 10; ((with_reducible refine (CRN _ HG2.out).mono ?_); rintro e w3 ⟨v3, rfl, ho, hg⟩; obtain ⟨A3, c3, rfl, hr3, -⟩ := ho.form; have HR3 := Lib.hid hr3; have HO3 := Lib.hid (HO2.out.keep hg); have HG13 := Lib.hid (grew_trans HG12.out hg); have HG3 := Lib.hid (grew_trans HG2.out hg); clear ho hg hr3 CRN; refine Hid.out ?_)))
    refine Lib.hid ?_
    have CD1 := kdues_yes A2 A3 nl.length c2 c3 nl w3 (own_form HO3.out).1 HR3.out (by have := HLN.out; omega)
    go_wp2_with (go_at_call 11; ((with_reducible refine CD1.mono ?_); rintro e w4 ⟨rfl, hg⟩; have HO4 := Lib.hid (HO3.out.keep hg); have HG14 := Lib.hid (grew_trans HG13.out hg); have HG4 := Lib.hid (grew_trans HG3.out hg); clear hg CD1; refine Hid.out ?_))
    refine Lib.hid ?_
    have CS1 := spoilDues_any A2 nl.length c2 w1.heap.size w4 (slabOf HO4.out 3 rfl) (by have := HLN.out; omega)
    go_wp2_with (go_at_call 12; ((with_reducible refine CS1.mono ?_); rintro e w5 ⟨rfl, hb, -⟩; have HG15 : Hid (Grew w1 w5) := Below.trans HG14.out hb; have HG5 : Hid (Grew w w5) := Below.trans HG4.out (Below.mono hb HG1.out.size); clear hb CS1; refine Hid.out ?_))
    refine Lib.hid ?_
    clear HO2 HO3 HO4 HR3 HG12 HG13 HG14 HG2 HG3 HG4
    have HR5 := Lib.hid (HR1.out.keep HG15.out)
    go_wp2_with (first
      | (go_at_call 13; ((with_reducible refine (CG _ _ _ HR5.out).mono ?_); rintro e w6 ⟨rfl, hg⟩; have HG16 := Lib.hid (grew_trans HG15.out hg); have HG6 := Lib.hid (grew_trans HG5.out hg); clear hg CG))
      | (go_at_call 14; ((with_reducible refine (CRG _ HG6.out).mono ?_); rintro e w7 ⟨rfl, hg⟩; have HG17 := Lib.hid (grew_trans HG16.out hg); have HG7 := Lib.hid (grew_trans HG6.out hg); have HR7 := Lib.hid (HR1.out.keep HG17.out); clear hg CRG))
      | (go_at_call 15; ((with_reducible refine (CL _ _ _ HR7.out).mono ?_); rintro e w8 ⟨v8, rfl, ho, hg⟩; obtain ⟨A8, c8, rfl, -⟩ := ho.form; have HO8 := Lib.hid (ho.mono HG17.out.size); have HG18 := Lib.hid (grew_trans HG17.out hg); have HG8 := Lib.hid (grew_trans HG7.out hg); clear ho hg CL))
      | (go_at_call 16; ((with_reducible refine (CRL _ HG8.out).mono ?_); rintro e w9 ⟨v9, rfl, ho, hg⟩; obtain ⟨A9, c9, rfl, hr9, -⟩ := ho.form; have HR9 := Lib.hid hr9; have HO9 := Lib.hid (HO8.out.keep hg); have HG19 := Lib.hid (grew_trans HG18.out hg); have HG9 := Lib.hid (grew_trans HG8.out hg); clear ho hg hr9 CRL; refine Hid.out ?_)))
    refine Lib.hid ?_
    have CK := keepLegs_any A8 A9 ll.length ll.length c8 c9 ll ll w9 (own_form HO9.out).1 HR9.out (by have := HLL.out; omega)
    rw [decide_eq_true rfl] at CK
    go_wp2_with (go_at_call 17; ((with_reducible refine CK.mono ?_); rintro e w10 ⟨rfl, hg⟩; have HO10 := Lib.hid (HO9.out.keep hg); have HG110 := Lib.hid (grew_trans HG19.out hg); have HG10 := Lib.hid (grew_trans HG9.out hg); clear hg CK; refine Hid.out ?_))
    refine Lib.hid ?_
    have CS2 := spoilLegs_any A8 ll.length c8 w1.heap.size w10 (slabOf HO10.out 4 rfl) (by have := HLL.out; omega)
    go_wp2_with (go_at_call 18; ((with_reducible refine CS2.mono ?_); rintro e w11 ⟨rfl, hb⟩; have HG111 : Hid (Grew w1 w11) := Below.trans HG110.out hb; have HG11 : Hid (Grew w w11) := Below.trans HG10.out (Below.mono hb HG1.out.size); clear hb CS2; refine Hid.out ?_))
    refine Lib.hid ?_
    have HR11 := Lib.hid (HR1.out.keep HG111.out)
    go_wp2_with (first
      | (go_at_call 11; ((with_reducible refine (CD _ _ _ HR11.out HG11.out).mono ?_); rintro e w12 ⟨rfl, hg⟩; have HG12 := Lib.hid (grew_trans HG11.out hg); clear hg))
      | (go_at_call 19; ((with_reducible refine (CW _).mono ?_); rintro e w13 ⟨rfl, hg⟩; have HG13 := Lib.hid (grew_trans HG12.out hg); clear hg)))
    go_ret
    exact ⟨rfl, HG13.out⟩
end Go.Proofs.Ytlmnbafklefmcaa.NumK
namespace Go.Proofs.Ytlmnbafklefmcaa.NumK
open Go.RowKit
theorem netExact_row (w : World) {A : Option Addr} {n c : Nat} {l : List D3} (who cur : Int) (h : Row spDu3 w A n l) (hk : A = none → c = 0) :
    Calls Try.prog 3 #[.slice A n c, .int .i64 who, .int .i64 cur] w fun e w' => e = .returned (.bool true) ∧ Grew w w' :=
  netExact_walk A n c l who cur w (dues_in h).1 (dues_in h).2 hk
end Go.Proofs.Ytlmnbafklefmcaa.NumK
namespace Go.Proofs.Ytlmnbafklefmcaa.netExact
open Go.ChangeShapes Go.WideShapes Go.ChangeAt Go.RowKit
set_option linter.unusedVariables false

theorem own : ownKnob Try.prog.godebug = none := by kernel_rfl
theorem laidOut : laidOutB Try.prog = true := by kernel_rfl

set_option maxRecDepth 100000 in
theorem lifted (os : Os) (started : os.Started) (H : Type) (enc : TypeId × Value → H) :
    ReturnsInHanded {} Try.checked os 3 .any (Rows.netExactSpec.pre6 enc Try.prog Try.f3 Rows.netExactRow.domain false) (Rows.netExactSpec.post enc Try.prog Try.f3 false true false false) := by
  refine returnsInHanded_of_change (C := Try.checked) own started (by kernel_rfl) Try.func3
    (ChangeSpec.witness6 (enc := enc) (C := Try.checked) false ⟨#[], #[.slice none 0 0, .int .i64 0, .int .i64 0], []⟩ 8 (by kernel_rfl) (by kernel_rfl) (by kernel_rfl) (by kernel_rfl)) ?_
  intro W base args ds gs before hval0 hW hcnd _
  have hval : ∀ (j : Nat) t v, Try.f3.params[j]? = some t → args[j]? = some v → Value.okWide Try.prog W .any base t v := hval0
  have hW' := hW
  obtain ⟨p, q, hA0, hV, rfl, hfz, hnd⟩ := hW
  have hA : DataW.TrodAll enc Try.prog W 0 (fun _ => true) true Try.f3.params.toList args.toList ds p := hA0
  skip
  rw [Try.params3] at hA hval
  obtain ⟨v0, vs0, d0, ds0, p0, q0, hargs, rfl, rfl, h0, r0⟩ := trodAll_cons hA
  obtain ⟨v1, vs1, d1, ds1, p1, q1, rfl, rfl, rfl, h1, r1⟩ := trodAll_cons r0
  obtain ⟨v2, vs2, d2, ds2, p2, q2, rfl, rfl, rfl, h2, r2⟩ := trodAll_cons r1
  obtain ⟨rfl, rfl, rfl⟩ := trodAll_nil r2
  obtain rfl : args = #[v0, v1, v2] := by cases args; simp_all
  obtain ⟨rfl, rfl⟩ := trodVars_none hV
  have k0 := h0
  have lt0 : ∀ x ∈ p0, x.block < W.heap.size := by obtain ⟨m, hm⟩ := k0; exact DataW.trod_lt m _ _ _ hm
  obtain ⟨A0, len0, cap0, l0, rfl, ro0, n0, c0, m0⟩ := NumK.arg_slice Try.underlying22 NumK.opens_dues (hval 0 22 v0 rfl rfl) h0
  obtain ⟨a1, rfl, rfl, rfl, w1⟩ := open_int Try.underlying3 (hval 1 3 v1 rfl rfl) h1
  obtain ⟨a2, rfl, rfl, rfl, w2⟩ := open_int Try.underlying3 (hval 2 3 v2 rfl rfl) h2
  clear hA0 hval0
  refine (NumK.netExact_row W a1 a2 ro0 n0).mono fun e W' ⟨he, bel⟩ => ?_
  subst he
  exact ⟨_, rfl, _, _, _, [], _, [], hW', trodAll_mk1 (shut_bool Try.underlying4 _), (trodAll_cons_mk (Below.trod laidOut (by kernel_rfl) (of_decide_eq_true (by kernel_rfl)) k0 bel lt0) (trodAll_cons_mk (shut_int Try.underlying3 w1) (trodAll_cons_mk (shut_int Try.underlying3 w2) trodAll_mk0))), rfl, bel.frame _, fun h => by cases h⟩

theorem over : Rows.netExactRow.holds Try.pinned (OpenSpec.ofChange Rows.netExactSpec) :=
  OpenClaim.holds_of_wide 3 Try.f3 rfl rfl rfl rfl rfl rfl rfl ⟨rfl, rfl, rfl, rfl, rfl⟩ rfl rfl rfl rfl rfl (by kernel_rfl) Try.func3 (by kernel_rfl)
    (of_decide_eq_true (by kernel_rfl)) (by unfold Func.isWrapper; first | (rw [if_pos (by decide +kernel)]; kernel_rfl) | (rw [if_neg (by decide +kernel)]; exact ⟨rfl, rfl⟩))
    (fun os started H enc _ => lifted os started H enc)

/-! ### the statement -/
theorem proved : Rows.NetExactSaid := over
end Go.Proofs.Ytlmnbafklefmcaa.netExact
