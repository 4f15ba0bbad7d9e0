/-
  For all calls and two ticks, the second no earlier: late and left are all, each in one of both and in order, who is late at a tick is late at the later one, and nobody ahead of his deadline; more than 300 calls the statement lets by.
-/
import Derived.Test.YtaipgcckafbgeaaRG5
import Derived.Test.YtaipgcckafbgeaaRG6
import Derived.Test.YtaipgcckafbgeaaRG7
import Derived.Test.YtaipgcckafbgeaaRows
import Derived.WalkKit
import Derived.ProofKit
import Derived.OpenShut
import Derived.ShutString
import Derived.ChangeOld
import Derived.Below
import Derived.Carry
namespace Go.Proofs.Ytaipgcckafbgeaa.NumK
open Go.RowKit
set_option linter.unusedVariables false

theorem RowE.single {w : World} {b o n : Nat} {l : List Ca} (h : RowE enC4 w (some ⟨b, o, none⟩) n l) {i : Nat} (hi : i < n) : RowE enC4 w (some ⟨b, o + i * 4, none⟩) 1 [l.getD i ca0] := by
  have hl := h.len
  have h2 := Row.drop (k := i) h (by omega)
  rw [addr_add, show o + i * enC4.sp.size = o + i * 4 from rfl] at h2
  have h3 := RowE.take (k := 1) h2 (by omega)
  have e : (l.drop i).take 1 = [l.getD i ca0] := by
    rw [List.drop_eq_getElem_cons (by omega), getD_at l ca0 i (by omega)]
    rfl
  rw [e] at h3
  exact h3
theorem filter_at {α : Type} (p : α → Bool) (d : α) (l : List α) (j : Nat) (h : j < l.length) (hp : p (l.getD j d) = true) : ((l.take j).filter p).length < (l.filter p).length ∧ (l.filter p).getD ((l.take j).filter p).length d = l.getD j d := by
  have e : l.filter p = (l.take j).filter p ++ (l.getD j d :: (l.drop (j + 1)).filter p) := by
    have e1 : l = l.take j ++ (l.getD j d :: l.drop (j + 1)) := by
      rw [getD_at l d j h, ← List.drop_eq_getElem_cons h, List.take_append_drop]
    have e2 : l.filter p = (l.take j ++ (l.getD j d :: l.drop (j + 1))).filter p := by rw [← e1]
    rw [e2, List.filter_append, List.filter_cons, if_pos hp]
  rw [e]
  refine ⟨by rw [List.length_append, List.length_cons]; omega, ?_⟩
  simp [List.getD]
theorem late_at (l : List Ca) (now : Int) (j : Nat) (h : j < l.length) (hp : (l.getD j ca0).2.2.2 ≤ now) : (lateL (l.take j) now).length < (lateL l now).length ∧ (lateL l now).getD (lateL (l.take j) now).length ca0 = l.getD j ca0 :=
  filter_at _ ca0 l j h (by simpa using hp)
theorem left_at (l : List Ca) (now : Int) (j : Nat) (h : j < l.length) (hp : ¬ (l.getD j ca0).2.2.2 ≤ now) : (leftL (l.take j) now).length < (leftL l now).length ∧ (leftL l now).getD (leftL (l.take j) now).length ca0 = l.getD j ca0 :=
  filter_at _ ca0 l j h (by simpa using hp)

set_option maxRecDepth 100000 in
set_option maxHeartbeats 16000000 in
theorem callLate_walk (A : Option Addr) (n c : Nat) (l : List Ca) (now later : Int) (w : World) (h : RowE enC4 w A n l) (hnc : n ≤ c) (hcm : c ≤ 9223372036854775807) :
    Calls Try.prog 6 #[.slice A n c, .int .i64 now, .int .i64 later] w fun e w' => e = .returned (.bool true) ∧ Grew w w' := by
  have HI := Lib.hid h
  have HL := Lib.hid h.len
  have CW := fun w => wakes18_any w
  clear h
  go_enter Try.func6, Try.ntmps6
  by_cases hn : n > 300
  · have j1 : (n : Int) > 300 := by omega
    clear CW
    go_wp2
    go_ret
    exact ⟨rfl, grew_refl _⟩
  · have j1 : ¬ (n : Int) > 300 := by omega
    by_cases hlt : later < now
    · clear CW
      go_wp2
      go_ret
      exact ⟨rfl, grew_refl _⟩
    · have C1 := cllate_any A n c l now w HI.out (by omega)
      have C2 := fun w' (g : Grew w w') => cllate_any A n c l later w' (HI.out.keep g) (by omega)
      unfold LatePost at C1 C2
      go_upto_region 4 with (go_at_call 19; ((with_reducible refine C1.mono ?_); rintro e w1 ⟨va, vb, rfl, ht, hg⟩; have HT1 := Lib.hid ht; have HG1 := Lib.hid hg; clear ht hg C1))
      go_upto_region 5 with (go_at_call 19; ((with_reducible refine (C2 _ HG1.out).mono ?_); rintro e w2 ⟨vc, vd, rfl, ht, hg⟩; have HT2 := Lib.hid ht; have HT12 := Lib.hid (HT1.out.keep hg); have HG2 := Lib.hid (grew_trans HG1.out hg); clear ht hg C2 HT1))
      obtain ⟨Aa, ca, rfl, hra, -, hla, -⟩ := HT12.out.a.form
      obtain ⟨Ab, cb, rfl, hrb, -, hlb, -⟩ := HT12.out.b.form
      obtain ⟨Ac, cc, rfl, hrc, -⟩ := HT2.out.a.form
      obtain ⟨hca, hcb⟩ : ca ≤ 9223372036854775807 ∧ cb ≤ 9223372036854775807 := ⟨(own_form HT12.out.a).2.2.2, (own_form HT12.out.b).2.2.2⟩
      have HRA := Lib.hid hra
      have HRB := Lib.hid hrb
      have h1 := late_left l now
      have h2 := late_mono l (show now ≤ later by omega)
      have h3 := HL.out
      clear hra hrb hrc HT12 HT2
      have HLA := Lib.hid (fun j => late_at l now j)
      have HLB := Lib.hid (fun j => left_at l now j)
      have HSA := Lib.hid (fun j => late_step l now j)
      have HSB := Lib.hid (fun j => left_step l now j)
      have HSC := Lib.hid (fun j => late_step l later j)
      have HNC : Hid (l.take n = l) := by show _ = _; rw [List.take_of_length_le (by omega)]
      have HLN := Lib.hid (fun j => late_len l now j)
      have HLM := Lib.hid (fun j => late_len l later j)
      generalize hLA : lateL l now = LA at *
      generalize hLB : leftL l now = LB at *
      generalize hLC : (lateL l later).length = nc at *
      have HLC := Lib.hid hLC
      clear hLA hLB hLC
      have e5 : IntKind.i64.wrap ((LA.length : Int) + (LB.length : Int)) = (n : Int) := by rw [IntKind.wrap_i64]; omega
      have e6 : ¬ ((nc : Nat) : Int) < (LA.length : Int) := by omega
      generalize hna : LA.length = na at *
      generalize hnb : LB.length = nb at *
      have HNA := Lib.hid hna
      have HNB := Lib.hid hnb
      clear hna hnb h3
      go_upto_region 7 with (fail)
      clear e5 e6
      go_wp2
      go_loopw [11, 12, 13, 14] (fun v11 v12 v13 v14 wr => ∃ j i k m : Nat, v14 = .int .i64 j ∧ v11 = .int .i64 i ∧ v12 = .int .i64 k ∧ v13 = .int .i64 m ∧ j ≤ n ∧ Hid (i = (lateL (l.take j) now).length) ∧ Hid (k = (leftL (l.take j) now).length) ∧ Hid (m = (lateL (l.take j) later).length) ∧ Hid (Grew w2 wr)) (fun _ _ _ v14 _ => n - (intOf v14).toNat)
      case atStart => exact ⟨0, 0, 0, 0, rfl, rfl, rfl, rfl, by omega, rfl, rfl, rfl, grew_refl _⟩
      case round =>
        obtain ⟨j, i, k, m, rfl, rfl, rfl, rfl, hj, HJA, HJB, HJC, HGR⟩ := hrel
        by_cases hlj : j < n
        · have HGW := Lib.hid (grew_trans HG2.out HGR.out)
          obtain ⟨b, o, rfl, hb, hcl⟩ := (HI.out.keep HGW.out).ca hlj
          obtain ⟨-, -, -, a3⟩ := hcl j hlj
          have hjl : j < l.length := by have := HL.out; omega
          have j2 : (j : Int) < (n : Int) := by omega
          have j3 : (0 : Int) ≤ (j : Int) := by omega
          have hij : i ≤ j ∧ k ≤ j ∧ m ≤ j := ⟨by rw [HJA.out]; exact (HLN.out j).1, by rw [HJB.out]; exact (HLN.out j).2, by rw [HJC.out]; exact (HLM.out j).1⟩
          have HSA1 := Lib.hid (HSA.out j hjl)
          have HSB1 := Lib.hid (HSB.out j hjl)
          have HSC1 := Lib.hid (HSC.out j hjl)
          have HLA1 := Lib.hid (HLA.out j hjl)
          have HLB1 := Lib.hid (HLB.out j hjl)
          have hone := (HI.out.keep HGW.out).single hlj
          clear hcl CW
          generalize l.getD j ca0 = x at *
          obtain ⟨q1, q2, q3, q4⟩ := x
          dsimp only at a3
          by_cases hq : q4 ≤ now
          · obtain ⟨hp1, hp2⟩ := HLA1.out (by first | exact hq | (show _ < _; simp only; omega))
            rw [← HJA.out] at hp1 hp2
            obtain ⟨b2, o2, rfl, hb2, -⟩ := (HRA.out.keep HGR.out).ca hp1
            have htwo := (HRA.out.keep HGR.out).single hp1
            rw [hp2] at htwo
            have f1 : ¬ ca = i := by omega
            have f2 : ¬ c = j := by omega
            have f3 : (i : Int) < (na : Int) := by omega
            have f4 : ¬ ((i : Int) ≥ (na : Int)) := by omega
            have f5 : IntKind.i64.wrap ((i : Int) + 1) = ((i + 1 : Nat) : Int) := by rw [IntKind.wrap_i64]; omega
            have f6 : IntKind.i64.wrap ((j : Int) + 1) = ((j + 1 : Nat) : Int) := by rw [IntKind.wrap_i64]; omega
            have f7 : ((i + 1 : Nat) : Int) ≤ (ca : Int) := by omega
            have f8 : ((j + 1 : Nat) : Int) ≤ (c : Int) := by omega
            have f9 : (i : Int) ≤ ((i + 1 : Nat) : Int) := by omega
            have f10 : (j : Int) ≤ ((j + 1 : Nat) : Int) := by omega
            have f11 : (0 : Int) ≤ (i : Int) := by omega
            have CK := fun w' (g : Grew wr w') => kcalls_yes (some ⟨b2, o2 + i * 4, none⟩) (some ⟨b, o + j * 4, none⟩) 1 (ca - i) (c - j) [(q1, q2, q3, q4)] w' (htwo.keep g) (hone.keep g) (by omega)
            have y3 := grew_every (w := wr) (S := fun w' => w'.cell? ⟨b, o + j * 4 + 3, none⟩ = some (.int .i64 q4)) (fun w' g => (grew_cell g (p := ⟨b, _, none⟩) hb).trans a3)
            have HY3 := Lib.hid (fun w' (g : Grew wr w') => (grew_cell g (p := ⟨b, o + j * 4 + 3, none⟩) hb).trans a3)
            have HA2 : Hid (i + 1 = (lateL (l.take (j + 1)) now).length) := by show _ = _; rw [HSA1.out, if_pos hq, List.length_append, ← HJA.out]; rfl
            have HB2 : Hid (k = (leftL (l.take (j + 1)) now).length) := by show _ = _; rw [HSB1.out, if_pos hq, List.length_append, ← HJB.out]; rfl
            clear HSA1 HSB1 HLA1 HLB1 HJA HJB hp2 htwo hone hb2
            go_upto_region 12 with (fail)
            clear a3 hb
            refine wp_region_grew (by kernel_rfl) (by kernel_rfl) ?_
            repeat (go_big_quiet_step (with_reducible exact calls_every CK))
            refine wpQuiet_nil ?_
            intro w5 hw'
            have HG5 := Lib.hid (grew_of hw')
            clear hw' CK y3
            have a3 := HY3.out w5 HG5.out
            have HGE := Lib.hid (grew_trans HGR.out HG5.out)
            clear HY3
            by_cases hql : q4 ≤ later
            · have HC2 : Hid (m + 1 = (lateL (l.take (j + 1)) later).length) := by show _ = _; rw [HSC1.out, if_pos hql, List.length_append, ← HJC.out]; rfl
              clear HSC1 HJC
              go_wp2
              go_roundw
              case rel => exact ⟨j + 1, i + 1, k, m + 1, by go_num, by go_num, by go_num, by go_num, by omega, HA2.out, HB2.out, HC2.out, HGE.out⟩
              case measure => simp only [intOf]; omega
            · exfalso; omega
          · obtain ⟨hp1, hp2⟩ := HLB1.out (by first | exact hq | (show _ < _; simp only; omega))
            rw [← HJB.out] at hp1 hp2
            obtain ⟨b2, o2, rfl, hb2, -⟩ := (HRB.out.keep HGR.out).ca hp1
            have htwo := (HRB.out.keep HGR.out).single hp1
            rw [hp2] at htwo
            have f1 : ¬ cb = k := by omega
            have f2 : ¬ c = j := by omega
            have f3 : (k : Int) < (nb : Int) := by omega
            have f4 : ¬ ((k : Int) ≥ (nb : Int)) := by omega
            have f5 : IntKind.i64.wrap ((k : Int) + 1) = ((k + 1 : Nat) : Int) := by rw [IntKind.wrap_i64]; omega
            have f6 : IntKind.i64.wrap ((j : Int) + 1) = ((j + 1 : Nat) : Int) := by rw [IntKind.wrap_i64]; omega
            have f7 : ((k + 1 : Nat) : Int) ≤ (cb : Int) := by omega
            have f8 : ((j + 1 : Nat) : Int) ≤ (c : Int) := by omega
            have f9 : (k : Int) ≤ ((k + 1 : Nat) : Int) := by omega
            have f10 : (j : Int) ≤ ((j + 1 : Nat) : Int) := by omega
            have f11 : (0 : Int) ≤ (k : Int) := by omega
            have CK := fun w' (g : Grew wr w') => kcalls_yes (some ⟨b2, o2 + k * 4, none⟩) (some ⟨b, o + j * 4, none⟩) 1 (cb - k) (c - j) [(q1, q2, q3, q4)] w' (htwo.keep g) (hone.keep g) (by omega)
            have y3 := grew_every (w := wr) (S := fun w' => w'.cell? ⟨b, o + j * 4 + 3, none⟩ = some (.int .i64 q4)) (fun w' g => (grew_cell g (p := ⟨b, _, none⟩) hb).trans a3)
            have HY3 := Lib.hid (fun w' (g : Grew wr w') => (grew_cell g (p := ⟨b, o + j * 4 + 3, none⟩) hb).trans a3)
            have HA2 : Hid (i = (lateL (l.take (j + 1)) now).length) := by show _ = _; rw [HSA1.out, if_neg hq, List.length_append, ← HJA.out]; rfl
            have HB2 : Hid (k + 1 = (leftL (l.take (j + 1)) now).length) := by show _ = _; rw [HSB1.out, if_neg hq, List.length_append, ← HJB.out]; rfl
            clear HSA1 HSB1 HLA1 HLB1 HJA HJB hp2 htwo hone hb2
            go_upto_region 15 with (fail)
            clear a3 hb
            refine wp_region_grew (by kernel_rfl) (by kernel_rfl) ?_
            repeat (go_big_quiet_step (with_reducible exact calls_every CK))
            refine wpQuiet_nil ?_
            intro w5 hw'
            have HG5 := Lib.hid (grew_of hw')
            clear hw' CK y3
            have a3 := HY3.out w5 HG5.out
            have HGE := Lib.hid (grew_trans HGR.out HG5.out)
            clear HY3
            by_cases hql : q4 ≤ later
            · have HC2 : Hid (m + 1 = (lateL (l.take (j + 1)) later).length) := by show _ = _; rw [HSC1.out, if_pos hql, List.length_append, ← HJC.out]; rfl
              clear HSC1 HJC
              go_wp2
              go_roundw
              case rel => exact ⟨j + 1, i, k + 1, m + 1, by go_num, by go_num, by go_num, by go_num, by omega, HA2.out, HB2.out, HC2.out, HGE.out⟩
              case measure => simp only [intOf]; omega
            · have HC2 : Hid (m = (lateL (l.take (j + 1)) later).length) := by show _ = _; rw [HSC1.out, if_neg hql, List.length_append, ← HJC.out]; rfl
              clear HSC1 HJC
              go_wp2
              go_roundw
              case rel => exact ⟨j + 1, i, k + 1, m, by go_num, by go_num, by go_num, by go_num, by omega, HA2.out, HB2.out, HC2.out, HGE.out⟩
              case measure => simp only [intOf]; omega
        · obtain rfl : j = n := by omega
          have hm : m = nc := by rw [HJC.out, HNC.out]; exact HLC.out
          subst hm
          clear HJA HJB HJC HLA HLB HSA HSB HSC HLN HLM
          go_wp2_with (go_at_call 23; ((with_reducible refine (CW _).mono ?_); rintro e wz ⟨rfl, hg⟩; have HGZ := Lib.hid (grew_trans (grew_trans HG2.out HGR.out) hg); clear hg CW))
          go_ret
          exact ⟨rfl, HGZ.out⟩
end Go.Proofs.Ytaipgcckafbgeaa.NumK
namespace Go.Proofs.Ytaipgcckafbgeaa.NumK
open Go.RowKit
theorem callLate_row (w : World) {A : Option Addr} {n c : Nat} {l : List ((Int × Int × Int) × Int)} (now later : Int) (h : Row spCa w A n l) (hn : n ≤ c) (hc : c ≤ 9223372036854775807) :
    Calls Try.prog 6 #[.slice A n c, .int .i64 now, .int .i64 later] w fun e w' => e = .returned (.bool true) ∧ Grew w w' :=
  callLate_walk A n c _ now later w (calls_row h) hn hc
end Go.Proofs.Ytaipgcckafbgeaa.NumK
namespace Go.Proofs.Ytaipgcckafbgeaa.callLate
open Go.ChangeShapes Go.WideShapes Go.ChangeAt Go.RowKit
set_option linter.unusedVariables false

theorem own : ownKnob Try.prog.godebug = none := by kernel_rfl
theorem laidOut : laidOutB Try.prog = true := by kernel_rfl

set_option maxRecDepth 100000 in
theorem lifted (os : Os) (started : os.Started) (H : Type) (enc : TypeId × Value → H) :
    ReturnsInHanded {} Try.checked os 6 .any (Rows.callLateSpec.pre6 enc Try.prog Try.f6 Rows.callLateRow.domain false) (Rows.callLateSpec.post enc Try.prog Try.f6 false true false false) := by
  refine returnsInHanded_of_change (C := Try.checked) own started (by kernel_rfl) Try.func6
    (ChangeSpec.witness6 (enc := enc) (C := Try.checked) false ⟨#[], #[.slice none 0 0, .int .i64 0, .int .i64 0], []⟩ 8 (by kernel_rfl) (by kernel_rfl) (by kernel_rfl) (by kernel_rfl)) ?_
  intro W base args ds gs before hval0 hW hcnd _
  have hval : ∀ (j : Nat) t v, Try.f6.params[j]? = some t → args[j]? = some v → Value.okWide Try.prog W .any base t v := hval0
  have hW' := hW
  obtain ⟨p, q, hA0, hV, rfl, hfz, hnd⟩ := hW
  have hA : DataW.TrodAll enc Try.prog W 0 (fun _ => true) true Try.f6.params.toList args.toList ds p := hA0
  skip
  rw [Try.params6] at hA hval
  obtain ⟨v0, vs0, d0, ds0, p0, q0, hargs, rfl, rfl, h0, r0⟩ := trodAll_cons hA
  obtain ⟨v1, vs1, d1, ds1, p1, q1, rfl, rfl, rfl, h1, r1⟩ := trodAll_cons r0
  obtain ⟨v2, vs2, d2, ds2, p2, q2, rfl, rfl, rfl, h2, r2⟩ := trodAll_cons r1
  obtain ⟨rfl, rfl, rfl⟩ := trodAll_nil r2
  obtain rfl : args = #[v0, v1, v2] := by cases args; simp_all
  obtain ⟨rfl, rfl⟩ := trodVars_none hV
  have k0 := h0
  have lt0 : ∀ x ∈ p0, x.block < W.heap.size := by obtain ⟨m, hm⟩ := k0; exact DataW.trod_lt m _ _ _ hm
  obtain ⟨A0, len0, cap0, l0, rfl, ro0, n0, c0, m0⟩ := NumK.arg_slice Try.underlying22 NumK.opens_calls (hval 0 22 v0 rfl rfl) h0
  obtain ⟨a1, rfl, rfl, rfl, w1⟩ := open_int Try.underlying3 (hval 1 3 v1 rfl rfl) h1
  obtain ⟨a2, rfl, rfl, rfl, w2⟩ := open_int Try.underlying3 (hval 2 3 v2 rfl rfl) h2
  clear hA0 hval0
  refine (NumK.callLate_row W a1 a2 ro0 c0 m0).mono fun e W' ⟨he, bel⟩ => ?_
  subst he
  exact ⟨_, rfl, _, _, _, [], _, [], hW', trodAll_mk1 (shut_bool Try.underlying4 _), (trodAll_cons_mk (Below.trod laidOut (by kernel_rfl) (of_decide_eq_true (by kernel_rfl)) k0 bel lt0) (trodAll_cons_mk (shut_int Try.underlying3 w1) (trodAll_cons_mk (shut_int Try.underlying3 w2) trodAll_mk0))), rfl, bel.frame _, fun h => by cases h⟩

theorem over : Rows.callLateRow.holds Try.pinned (OpenSpec.ofChange Rows.callLateSpec) :=
  OpenClaim.holds_of_wide 6 Try.f6 rfl rfl rfl rfl rfl rfl rfl ⟨rfl, rfl, rfl, rfl, rfl⟩ rfl rfl rfl rfl rfl (by kernel_rfl) Try.func6 (by kernel_rfl)
    (of_decide_eq_true (by kernel_rfl)) (by unfold Func.isWrapper; first | (rw [if_pos (by decide +kernel)]; kernel_rfl) | (rw [if_neg (by decide +kernel)]; exact ⟨rfl, rfl⟩))
    (fun os started H enc _ => lifted os started H enc)

/-! ### the statement -/
theorem proved : Rows.CallLateSaid := over
end Go.Proofs.Ytaipgcckafbgeaa.callLate
