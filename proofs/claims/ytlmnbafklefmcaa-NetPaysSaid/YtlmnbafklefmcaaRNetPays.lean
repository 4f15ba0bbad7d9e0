/-
  For all dues: the legs that pay them may be posted where there are some and not too many, each cash leg is a net due, in their order, and all others are of Var; more than 300 dues the statement lets by, and dues that are refused have no legs.
-/
import Derived.Test.YtlmnbafklefmcaaRG10
import Derived.Test.YtlmnbafklefmcaaRG13
import Derived.Test.YtlmnbafklefmcaaRG4
import Derived.Deep.QuietTactic
import Derived.BigQuiet
import Derived.Test.YtlmnbafklefmcaaRows
import Derived.WalkKit
import Derived.ProofKit
import Derived.OpenShut
import Derived.ShutString
import Derived.ChangeOld
import Derived.Below
import Derived.Carry
namespace Go.Proofs.Ytlmnbafklefmcaa.NumK
open Go.RowKit Go.Maps
set_option linter.unusedVariables false

set_option maxRecDepth 100000 in
set_option maxHeartbeats 8000000 in
theorem netPays_walk (A : Option Addr) (n c : Nat) (l : List D3) (w : World) (h : RowE enD3 w A n l) (hk : ∀ x ∈ l, okDk (keyD x) = true) :
    Calls Try.prog 6 #[.slice A n c] w fun e w' => e = .returned (.bool true) ∧ Grew w w' := by
  have HI := Lib.hid h
  have HL := Lib.hid h.len
  have CW := fun w => wakes17_any w
  clear h
  by_cases hn : n > 300
  · have j1 : (n : Int) > 300 := by omega
    clear CW
    go_enter Try.func6, Try.ntmps6
    go_wp2
    go_ret
    exact ⟨rfl, grew_refl _⟩
  · have j1 : ¬ (n : Int) > 300 := by omega
    have CN := fun w' (g : Grew w w') => net_any A n c l w' (HI.out.keep g) hk (by omega)
    have CL := nlegs_any A n c l w HI.out hk (by omega)
    unfold NetPost at CN
    unfold NlPost at CL
    clear hk
    by_cases hz : nlE l = 0
    · have hz2 := (nl_zero hz).2.1
      have HLL := Lib.hid (nlL_len l)
      have HNL : Hid ((netF l).length ≤ n) := by show _ ≤ _; rw [← HL.out]; exact len_net l
      have HKI : Hid (∀ i, i < (nlL l).length → ((nlL l).getD i lg0).1.1 = 2 ∨ ((nlL l).getD i lg0).1.1 = 5) := fun i hi => nl_kinds hz _ (getD_mem _ lg0 i hi)
      have HAT := Lib.hid (nl_at hz)
      have HCH := Lib.hid (@nl_check l hz)
      have HNO := Lib.hid (nl_none hz)
      have HLE := Lib.hid (nl_len hz)
      have HST : Hid (∀ i, i < (nlL l).length → (((nlL l).take (i + 1)).filter isCash).length = (((nlL l).take i).filter isCash).length + if isCash ((nlL l).getD i lg0) then 1 else 0) := fun i hi => filter_step isCash lg0 (nlL l) i hi
      rw [netL_ok hz2, hz2] at CN
      rw [hz] at CL
      clear hz hz2
      generalize nlL l = q at *
      generalize netF l = m at *
      have CC := fun B d w' (hr : RowE enLg w' B q.length q) => refCheck_any B q.length d q w' hr (by have := HLL.out; omega)
      have q9 : q.length ≤ 108 := HLL.out
      go_enter Try.func6, Try.ntmps6
      go_wp2_with (first
        | (go_at_call 15; ((with_reducible refine CL.mono ?_); rintro e w1 ⟨v1, rfl, ho, hg⟩; obtain ⟨A1, c1, rfl, hr1, -⟩ := ho.form; have HR1 := Lib.hid hr1; have HG1 := Lib.hid hg; clear ho hg hr1 CL))
        | (go_at_call 9; ((with_reducible refine (CN _ HG1.out).mono ?_); rintro e w2 ⟨v2, rfl, ho, hg⟩; obtain ⟨A2, c2, rfl, hr2, -⟩ := ho.form; have HR2 := Lib.hid hr2; have HR12 := Lib.hid (HR1.out.keep hg); have HG2 := Lib.hid (grew_trans HG1.out hg); clear ho hg hr2 CN; refine Hid.out ?_)))
      refine Lib.hid ?_
      have C5 := CC A1 c1 w2 HR12.out
      go_upto_region 7 with fail
      go_cut [60] (fun s60 wx => s60 = .bool false ∧ Hid (Grew w2 wx))
      case first =>
        by_cases h0 : q.length = 0
        · have hm : m.length = 0 := by rw [HNO.out (List.eq_nil_of_length_eq_zero h0)]; rfl
          have j2 : ¬ (0 : Int) < (q.length : Int) := by omega
          have j3 : ¬ (0 : Int) < (m.length : Int) := by omega
          have j4 : ((q.length : Int) == 0) = true := by rw [beq_iff_eq]; omega
          have hm' : ¬ 0 < m.length := by omega
          clear C5 h0 hm
          go_wp2
          go_meet
          exact ⟨rfl, grew_refl _⟩
        · by_cases h1 : q.length ≤ 64
          · have j2 : (0 : Int) < (q.length : Int) := by omega
            have j3 : (q.length : Int) ≤ 64 := by omega
            have j4 : ((q.length : Int) == 0) = false := by rw [beq_eq_false_iff_ne]; omega
            rw [HCH.out h0 h1] at C5
            clear h0 h1
            go_wp2_with (go_at_call 20; ((with_reducible refine C5.mono ?_); rintro e w3 ⟨rfl, hg⟩))
            go_meet
            exact ⟨rfl, hg⟩
          · have j2 : (0 : Int) < (q.length : Int) := by omega
            have j3 : ¬ (q.length : Int) ≤ 64 := by omega
            have j4 : ((q.length : Int) == 0) = false := by rw [beq_eq_false_iff_ne]; omega
            clear C5
            go_wp2
            go_meet
            exact ⟨rfl, grew_refl _⟩
      case rest =>
        obtain ⟨rfl, HGC⟩ := hcut
        clear C5 CC HCH HNO
        have HR3 := Lib.hid (HR12.out.keep HGC.out)
        have HR4 := Lib.hid (HR2.out.keep HGC.out)
        have HG4 := Lib.hid (grew_trans HG2.out HGC.out)
        go_wp2
        go_loopw [7, 8] (fun v7 v8 wr => ∃ i : Nat, v8 = .int .i64 i ∧ i ≤ q.length ∧ v7 = .int .i64 (((q.take i).filter isCash).length : Nat) ∧ Hid (Grew wc wr)) (fun _ v8 _ => q.length - (intOf v8).toNat)
        case atStart => exact ⟨0, rfl, Nat.zero_le _, rfl, grew_refl _⟩
        case round =>
          obtain ⟨i, rfl, hi, rfl, HG⟩ := hrel
          by_cases hlt : i < q.length
          · obtain ⟨b, o, rfl, hb, a0, a1, a2, a3⟩ := (HR3.out.keep HG.out).lg hlt
            have HS := Lib.hid (HST.out i hlt)
            have HC9 : Hid ((((q.take i).filter isCash).length) ≤ 108) := by
              refine Nat.le_trans (List.length_filter_le _ _) ?_
              rw [List.length_take]; omega
            have i0 : (0 : Int) ≤ (i : Int) := by omega
            have i1 : (i : Int) < (q.length : Int) := by omega
            have HAI := Lib.hid (HAT.out i hlt)
            have HKII := HKI.out i hlt
            have HIC : Hid (isCash (q.getD i lg0) = decide ((q.getD i lg0).1.1 = 2)) := rfl
            clear HKI HLE HST HAT
            generalize isCash (q.getD i lg0) = ic at *
            rcases HKII with hk2 | hk5
            · obtain ⟨g1, g2⟩ := HAI.out hk2
              have e9 : (1 : Nat) = if ic = true then 1 else 0 := by rw [HIC.out, hk2]; rfl
              rw [← e9] at HS
              rw [g2] at a0 a1 a2 a3
              generalize ((q.take i).filter isCash).length = cnt at *
              obtain ⟨b2, o2, rfl, hb2, hc2⟩ := (HR4.out.keep HG.out).rD3 g1
              obtain ⟨e0, e1, e2⟩ := hc2 cnt g1
              have k0 : (0 : Int) ≤ (cnt : Int) := by omega
              have k1 : (cnt : Int) < (m.length : Int) := by omega
              have k2 : ¬ (m.length : Int) ≤ (cnt : Int) := by omega
              have c9 : cnt ≤ 108 := HC9.out
              clear hc2 HAI HIC e9 hk2 g2
              generalize m.getD cnt (0, 0, 0) = x at *
              obtain ⟨q1, q2, q3⟩ := x
              dsimp only [cashN] at a0 a1 a2 a3 e0 e1 e2
              go_upto_region 16 with fail
              have x1 := grew_every (w := wr) (S := fun w' => w'.cell? ⟨b, o + i * 4 + 1, none⟩ = some (.int .i64 q1)) (fun w' g => (grew_cell g (p := ⟨b, _, none⟩) hb).trans a1)
              have x2 := grew_every (w := wr) (S := fun w' => w'.cell? ⟨b, o + i * 4 + 2, none⟩ = some (.int .i64 q2)) (fun w' g => (grew_cell g (p := ⟨b, _, none⟩) hb).trans a2)
              have x3 := grew_every (w := wr) (S := fun w' => w'.cell? ⟨b, o + i * 4 + 3, none⟩ = some (.int .i64 q3)) (fun w' g => (grew_cell g (p := ⟨b, _, none⟩) hb).trans a3)
              have y0 := grew_every (w := wr) (S := fun w' => w'.cell? ⟨b2, o2 + cnt * 3, none⟩ = some (.int .i64 q1)) (fun w' g => (grew_cell g (p := ⟨b2, _, none⟩) hb2).trans e0)
              have y1 := grew_every (w := wr) (S := fun w' => w'.cell? ⟨b2, o2 + cnt * 3 + 1, none⟩ = some (.int .i64 q2)) (fun w' g => (grew_cell g (p := ⟨b2, _, none⟩) hb2).trans e1)
              have y2 := grew_every (w := wr) (S := fun w' => w'.cell? ⟨b2, o2 + cnt * 3 + 2, none⟩ = some (.int .i64 q3)) (fun w' g => (grew_cell g (p := ⟨b2, _, none⟩) hb2).trans e2)
              refine wp_region_grew (by kernel_rfl) (by kernel_rfl) ?_
              repeat (go_big_quiet_step (fail))
              refine wpQuiet_nil ?_
              intro w8 hw'
              have HG8 := Lib.hid (grew_of hw')
              clear hw' x1 x2 x3 y0 y1 y2 a0 a1 a2 a3 e0 e1 e2
              go_wp2
              go_roundw
              case rel => exact ⟨i + 1, by go_num, by omega, by rw [HS.out]; go_num, grew_trans HG.out HG8.out⟩
              case measure => simp only [intOf]; omega
            · have e9 : (0 : Nat) = if ic = true then 1 else 0 := by rw [HIC.out, hk5]; rfl
              rw [← e9] at HS
              rw [hk5] at a0
              clear HAI HIC e9 hk5
              generalize ((q.take i).filter isCash).length = cnt at *
              go_wp2
              go_roundw
              case rel => exact ⟨i + 1, by go_num, by omega, by rw [HS.out, Nat.add_zero], HG.out⟩
              case measure => simp only [intOf]; omega
          · obtain rfl : i = q.length := by omega
            rw [List.take_length, HLE.out]
            go_wp2_with (go_at_call 19; ((with_reducible refine (CW _).mono ?_); rintro e w9 ⟨rfl, hg⟩; have HG9 := Lib.hid (grew_trans (grew_trans HG4.out HG.out) hg); clear hg))
            go_ret
            exact ⟨rfl, HG9.out⟩
    · have d0 : (nlE l != 0) = true := by simpa using hz
      have e0 : nlL l = [] := nlL_no hz
      rw [e0] at CL
      clear hz e0
      generalize nlE l = E at *
      generalize netE l = E2 at *
      go_enter Try.func6, Try.ntmps6
      go_wp2_with (first
        | (go_at_call 15; ((with_reducible refine CL.mono ?_); rintro e w1 ⟨v1, rfl, ho, hg⟩; obtain ⟨A1, c1, rfl, -⟩ := ho.form; have HG1 := Lib.hid hg; clear ho hg CL))
        | (go_at_call 9; ((with_reducible refine (CN _ HG1.out).mono ?_); rintro e w2 ⟨v2, rfl, ho, hg⟩; obtain ⟨A2, c2, rfl, -⟩ := ho.form; have HG2 := Lib.hid (grew_trans HG1.out hg); clear ho hg CN))
        | (go_at_call 19; ((with_reducible refine (CW _).mono ?_); rintro e w3 ⟨rfl, hg⟩; have HG3 := Lib.hid (grew_trans HG2.out hg); clear hg)))
      go_ret
      exact ⟨rfl, HG3.out⟩
end Go.Proofs.Ytlmnbafklefmcaa.NumK
namespace Go.Proofs.Ytlmnbafklefmcaa.NumK
open Go.RowKit
theorem netPays_row (w : World) {A : Option Addr} {n c : Nat} {l : List D3} (h : Row spDu3 w A n l) :
    Calls Try.prog 6 #[.slice A n c] w fun e w' => e = .returned (.bool true) ∧ Grew w w' :=
  netPays_walk A n c l w (dues_in h).1 (dues_in h).2
end Go.Proofs.Ytlmnbafklefmcaa.NumK
namespace Go.Proofs.Ytlmnbafklefmcaa.netPays
open Go.ChangeShapes Go.WideShapes Go.ChangeAt Go.RowKit
set_option linter.unusedVariables false

theorem own : ownKnob Try.prog.godebug = none := by kernel_rfl
theorem laidOut : laidOutB Try.prog = true := by kernel_rfl

set_option maxRecDepth 100000 in
theorem lifted (os : Os) (started : os.Started) (H : Type) (enc : TypeId × Value → H) :
    ReturnsInHanded {} Try.checked os 6 .any (Rows.netPaysSpec.pre6 enc Try.prog Try.f6 Rows.netPaysRow.domain false) (Rows.netPaysSpec.post enc Try.prog Try.f6 false true false false) := by
  refine returnsInHanded_of_change (C := Try.checked) own started (by kernel_rfl) Try.func6
    (ChangeSpec.witness6 (enc := enc) (C := Try.checked) false ⟨#[], #[.slice none 0 0], []⟩ 8 (by kernel_rfl) (by kernel_rfl) (by kernel_rfl) (by kernel_rfl)) ?_
  intro W base args ds gs before hval0 hW hcnd _
  have hval : ∀ (j : Nat) t v, Try.f6.params[j]? = some t → args[j]? = some v → Value.okWide Try.prog W .any base t v := hval0
  have hW' := hW
  obtain ⟨p, q, hA0, hV, rfl, hfz, hnd⟩ := hW
  have hA : DataW.TrodAll enc Try.prog W 0 (fun _ => true) true Try.f6.params.toList args.toList ds p := hA0
  skip
  rw [Try.params6] at hA hval
  obtain ⟨v0, vs0, d0, ds0, p0, q0, hargs, rfl, rfl, h0, r0⟩ := trodAll_cons hA
  obtain ⟨rfl, rfl, rfl⟩ := trodAll_nil r0
  obtain rfl : args = #[v0] := by cases args; simp_all
  obtain ⟨rfl, rfl⟩ := trodVars_none hV
  have k0 := h0
  have lt0 : ∀ x ∈ p0, x.block < W.heap.size := by obtain ⟨m, hm⟩ := k0; exact DataW.trod_lt m _ _ _ hm
  obtain ⟨A0, len0, cap0, l0, rfl, ro0, n0, c0, m0⟩ := NumK.arg_slice Try.underlying22 NumK.opens_dues (hval 0 22 v0 rfl rfl) h0
  clear hA0 hval0
  refine (NumK.netPays_row W ro0).mono fun e W' ⟨he, bel⟩ => ?_
  subst he
  exact ⟨_, rfl, _, _, _, [], _, [], hW', trodAll_mk1 (shut_bool Try.underlying4 _), (trodAll_cons_mk (Below.trod laidOut (by kernel_rfl) (of_decide_eq_true (by kernel_rfl)) k0 bel lt0) trodAll_mk0), rfl, bel.frame _, fun h => by cases h⟩

theorem over : Rows.netPaysRow.holds Try.pinned (OpenSpec.ofChange Rows.netPaysSpec) :=
  OpenClaim.holds_of_wide 6 Try.f6 rfl rfl rfl rfl rfl rfl rfl ⟨rfl, rfl, rfl, rfl, rfl⟩ rfl rfl rfl rfl rfl (by kernel_rfl) Try.func6 (by kernel_rfl)
    (of_decide_eq_true (by kernel_rfl)) (by unfold Func.isWrapper; first | (rw [if_pos (by decide +kernel)]; kernel_rfl) | (rw [if_neg (by decide +kernel)]; exact ⟨rfl, rfl⟩))
    (fun os started H enc _ => lifted os started H enc)

/-! ### the statement -/
theorem proved : Rows.NetPaysSaid := over
end Go.Proofs.Ytlmnbafklefmcaa.netPays
