/-
  For all dues that can be netted: each net due is the sum of that member and currency, taken one by one, nobody who is owed something is left out, and they rise; more than 300 dues, and dues that are not netted, the statement lets by (nothing is told then).
-/
import Derived.Test.YtlmnbafklefmcaaRG13
import Derived.Test.YtlmnbafklefmcaaRG9
import Derived.Test.YtlmnbafklefmcaaRG4
import Derived.Deep.QuietTactic
import Derived.BigQuiet
import Derived.Deep.DeepCutAuto
import Derived.Test.YtlmnbafklefmcaaRows
import Derived.WalkKit
import Derived.ProofKit
import Derived.OpenShut
import Derived.ShutString
import Derived.ChangeOld
import Derived.Below
import Derived.Carry
namespace Go.Proofs.Ytlmnbafklefmcaa.NumK
open Go.RowKit Go.Maps
set_option linter.unusedVariables false

theorem net_count (l : List Dn) (k : Dk) : ((netF l).filter (isD k)).length = if grossV l k = 0 then 0 else 1 := by
  by_cases h : grossV l k = 0
  · rw [if_pos h]
    have : (netF l).filter (isD k) = [] := by
      rw [List.filter_eq_nil_iff]
      intro d hd he
      have hm := (mem_net l d).1 hd
      rw [(isD_iff k d).1 he, h] at hm
      exact hm.2 hm.1
    rw [this]; rfl
  · rw [if_neg h]
    have := net_one l (k.1, k.2, grossV l k) ((mem_net l _).2 ⟨rfl, h⟩)
    rw [show keyD (k.1, k.2, grossV l k) = k from rfl] at this
    rw [this]; rfl
theorem count_snoc (m : List Dn) (k : Dk) (j : Nat) (h : j < m.length) : ((m.take (j + 1)).filter (isD k)).length = ((m.take j).filter (isD k)).length + if isD k (m.getD j (0, 0, 0)) then 1 else 0 := by
  rw [filter_take_succ _ m (0, 0, 0) j h, List.length_append]
  split <;> rfl
theorem count_le (m : List Dn) (k : Dk) (j : Nat) : ((m.take j).filter (isD k)).length ≤ j := Nat.le_trans (List.length_filter_le _ _) (by rw [List.length_take]; omega)
theorem rise_net_at (l : List Dn) (j : Nat) (h : j + 1 < (netF l).length) : ltK (keyD ((netF l).getD j (0, 0, 0))) (keyD ((netF l).getD (j + 1) (0, 0, 0))) := by
  have := List.pairwise_iff_getElem.1 (rise_net l) j (j + 1) (by omega) h (by omega)
  rw [getD_at _ (0, 0, 0) j (by omega), getD_at _ (0, 0, 0) (j + 1) h]
  exact this

set_option maxRecDepth 100000 in
set_option maxHeartbeats 8000000 in
theorem netSums_walk (A : Option Addr) (n c : Nat) (l : List D3) (w : World) (h : RowE enD3 w A n l) (hk : ∀ x ∈ l, okDk (keyD x) = true) :
    Calls Try.prog 4 #[.slice A n c] w fun e w' => e = .returned (.bool true) ∧ Grew w w' := by
  have HI := Lib.hid h
  have HL := Lib.hid h.len
  have CW := fun w => wakes17_any w
  clear h
  by_cases hn : n > 300
  · have j1 : (n : Int) > 300 := by omega
    clear CW
    go_enter Try.func4, Try.ntmps4
    go_wp2
    go_ret
    exact ⟨rfl, grew_refl _⟩
  · have j1 : ¬ (n : Int) > 300 := by omega
    have CN := net_any A n c l w HI.out hk (by omega)
    unfold NetPost at CN
    by_cases hz : netE l = 0
    · have HGE : Hid (∀ k, grossE l k = 0) := fun k => by
        obtain ⟨z1, z2⟩ := netE_ok.1 hz
        show _ = _
        unfold grossE
        rw [z1, if_pos rfl, z2 k]; rfl
      have HGR : Hid (∀ k, grossR l k = grossV l k) := fun k => by show _ = _; unfold grossR; rw [HGE.out k]; rfl
      have CG := fun who cur w' (g : Grew w w') => ngross_any A n c l who cur w' (HI.out.keep g) (by omega)
      have HCO := Lib.hid (net_count l)
      have HRI := Lib.hid (rise_net_at l)
      have HIN : Hid (∀ j, j < (netF l).length → ((netF l).getD j (0, 0, 0)).2.2 = grossV l (keyD ((netF l).getD j (0, 0, 0))) ∧ ((netF l).getD j (0, 0, 0)).2.2 ≠ 0) := fun j hj => (mem_net l _).1 (getD_mem _ (0, 0, 0) j hj)
      have HNL : Hid ((netF l).length ≤ n) := by show _ ≤ _; rw [← HL.out]; exact len_net l
      rw [netL_ok hz, hz] at CN
      clear hz hk
      generalize netF l = m at *
      go_enter Try.func4, Try.ntmps4
      go_wp2_with (go_at_call 9; ((with_reducible refine CN.mono ?_); rintro e w1 ⟨v1, rfl, ho, hg⟩; obtain ⟨A1, c1, rfl, hr1, -⟩ := ho.form; have HR1 := Lib.hid hr1; have HG1 := Lib.hid hg; clear ho hg hr1 CN))
      go_loopw [5] (fun v5 wr => ∃ i : Nat, v5 = .int .i64 i ∧ i ≤ n ∧ Hid (Grew w1 wr)) (fun v5 _ => n - (intOf v5).toNat)
      case atStart => exact ⟨0, rfl, Nat.zero_le _, grew_refl _⟩
      case round =>
        obtain ⟨i, rfl, hi, HG⟩ := hrel
        have HGW := Lib.hid (grew_trans HG1.out HG.out)
        by_cases hlt : i < n
        · obtain ⟨b, o, rfl, hb, hc⟩ := (HI.out.keep HGW.out).rD3 hlt
          obtain ⟨a0, a1, a2⟩ := hc i hlt
          have i0 : (0 : Int) ≤ (i : Int) := by omega
          have i1 : (i : Int) < (n : Int) := by omega
          have D1 := fun w' (g : Grew wr w') => CG (l.getD i (0, 0, 0)).1 (l.getD i (0, 0, 0)).2.1 w' (grew_trans HGW.out g)
          have HE := Lib.hid (HGE.out ((l.getD i (0, 0, 0)).1, (l.getD i (0, 0, 0)).2.1))
          have HRG := Lib.hid (HGR.out ((l.getD i (0, 0, 0)).1, (l.getD i (0, 0, 0)).2.1))
          rw [HE.out, HRG.out] at D1
          clear hc HE HRG CG HGE HGR HI
          generalize l.getD i (0, 0, 0) = x at *
          obtain ⟨q1, q2, q3⟩ := x
          dsimp only at a0 a1 a2 D1
          have x0 := grew_every (w := wr) (S := fun w' => w'.cell? ⟨b, o + i * 3, none⟩ = some (.int .i64 q1)) (fun w' g => (grew_cell g (p := ⟨b, _, none⟩) hb).trans a0)
          have x1 := grew_every (w := wr) (S := fun w' => w'.cell? ⟨b, o + i * 3 + 1, none⟩ = some (.int .i64 q2)) (fun w' g => (grew_cell g (p := ⟨b, _, none⟩) hb).trans a1)
          go_upto_region 9 with fail
          refine wp_region_grew (by kernel_rfl) (by kernel_rfl) ?_
          repeat (go_big_quiet_step (with_reducible (exact calls_every D1)))
          refine wpQuiet_nil ?_
          intro w6 hw'
          have HG6 := Lib.hid (grew_of hw')
          have b0 := (grew_cell HG6.out (p := ⟨b, o + i * 3, none⟩) hb).trans a0
          have b1 := (grew_cell HG6.out (p := ⟨b, o + i * 3 + 1, none⟩) hb).trans a1
          have hb6 : b < w6.heap.size := Nat.lt_of_lt_of_le hb HG6.out.size
          have HR6 := Lib.hid (HR1.out.keep (grew_trans HG.out HG6.out))
          have HG16 := Lib.hid (grew_trans HG.out HG6.out)
          clear hw' x0 x1 D1 a0 a1 a2 hb HG HG6 HR1 HGW
          have HC := Lib.hid (HCO.out (q1, q2))
          have HKEY : Hid (∀ d : Dn, keyD d = (q1, q2) → grossV l (keyD d) = grossV l (q1, q2)) := fun d e => by rw [e]
          generalize grossV l (q1, q2) = G at *
          go_wp2
          go_loopw [8, 9] (fun v8 v9 wr => ∃ k : Nat, v9 = .int .i64 k ∧ k ≤ m.length ∧ v8 = .int .i64 (((m.take k).filter (isD (q1, q2))).length : Nat) ∧ Hid (Grew w6 wr)) (fun _ v9 _ => m.length - (intOf v9).toNat)
          case atStart => exact ⟨0, rfl, Nat.zero_le _, rfl, grew_refl _⟩
          case round =>
            obtain ⟨k, rfl, hk, rfl, HG⟩ := hrel
            have hk9 : k ≤ 300 := by have := HNL.out; omega
            have z0 := (grew_cell HG.out (p := ⟨b, o + i * 3, none⟩) hb6).trans b0
            have z1 := (grew_cell HG.out (p := ⟨b, o + i * 3 + 1, none⟩) hb6).trans b1
            have hbr : b < wr.heap.size := Nat.lt_of_lt_of_le hb6 HG.out.size
            by_cases hlk : k < m.length
            · obtain ⟨b2, o2, rfl, hb2, hc2⟩ := (HR6.out.keep HG.out).rD3 hlk
              obtain ⟨e0, e1, e2⟩ := hc2 k hlk
              have HS := Lib.hid (count_snoc m (q1, q2) k hlk)
              have HLE := Lib.hid (count_le m (q1, q2) k)
              have HM := Lib.hid (isD_alt q1 q2 (m.getD k (0, 0, 0)))
              have HN1 := Lib.hid (HIN.out k hlk)
              have HK1 := Lib.hid (HKEY.out (m.getD k (0, 0, 0)))
              have k0 : (0 : Int) ≤ (k : Int) := by omega
              have k1 : (k : Int) < (m.length : Int) := by omega
              clear hc2 HIN HKEY HCO HRI HC
              generalize ((m.take k).filter (isD (q1, q2))).length = cnt at *
              generalize isD (q1, q2) (m.getD k (0, 0, 0)) = im at *
              generalize m.getD k (0, 0, 0) = y at *
              obtain ⟨p1, p2, p3⟩ := y
              dsimp only [keyD] at e0 e1 e2 HM HN1 HK1
              have HCN : Hid (cnt ≤ 300) := by have := HLE.out; show _ ≤ _; omega
              have x0 := grew_every (w := wr) (S := fun w' => w'.cell? ⟨b, o + i * 3, none⟩ = some (.int .i64 q1)) (fun w' g => (grew_cell g (p := ⟨b, _, none⟩) hbr).trans z0)
              have x1 := grew_every (w := wr) (S := fun w' => w'.cell? ⟨b, o + i * 3 + 1, none⟩ = some (.int .i64 q2)) (fun w' g => (grew_cell g (p := ⟨b, _, none⟩) hbr).trans z1)
              have y0 := grew_every (w := wr) (S := fun w' => w'.cell? ⟨b2, o2 + k * 3, none⟩ = some (.int .i64 p1)) (fun w' g => (grew_cell g (p := ⟨b2, _, none⟩) hb2).trans e0)
              have y1 := grew_every (w := wr) (S := fun w' => w'.cell? ⟨b2, o2 + k * 3 + 1, none⟩ = some (.int .i64 p2)) (fun w' g => (grew_cell g (p := ⟨b2, _, none⟩) hb2).trans e1)
              by_cases h1 : p1 = q1
              · subst h1
                by_cases h2 : p2 = q2
                · subst h2
                  have hp := HN1.out
                  have hG := HK1.out rfl
                  rw [hG] at hp
                  obtain ⟨rfl, hp0⟩ := hp
                  have d0 : (p3 == 0) = false := by simpa using hp0
                  have HS2 : Hid (((m.take (k + 1)).filter (isD (p1, p2))).length = cnt + 1) := by show _ = _; rw [HS.out, HM.out]; simp
                  clear HS HM HN1 HK1 hG hp0
                  go_upto_region 16 with fail
                  refine wp_region_grew (by kernel_rfl) (by kernel_rfl) ?_
                  repeat (go_big_quiet_step (fail))
                  refine wpQuiet_nil ?_
                  intro w8 hw'
                  have HG8 := Lib.hid (grew_of hw')
                  have e2' := (grew_cell HG8.out (p := ⟨b2, o2 + k * 3 + 2, none⟩) hb2).trans e2
                  have c9 : cnt ≤ 300 := HCN.out
                  clear hw' x0 x1 y0 y1
                  go_wp2
                  go_roundw
                  case rel => exact ⟨k + 1, by go_num, by omega, by rw [HS2.out]; go_num, grew_trans HG.out HG8.out⟩
                  case measure => simp only [intOf]; omega
                · have HS2 : Hid (((m.take (k + 1)).filter (isD (p1, q2))).length = cnt) := by show _ = _; rw [HS.out, HM.out]; simp [h2]
                  have d0 : (p2 == q2) = false := by simpa using h2
                  clear HS HM HN1 HK1 h2
                  go_upto_region 16 with fail
                  refine wp_region_grew (by kernel_rfl) (by kernel_rfl) ?_
                  repeat (go_big_quiet_step (fail))
                  refine wpQuiet_nil ?_
                  intro w8 hw'
                  have HG8 := Lib.hid (grew_of hw')
                  clear hw' x0 x1 y0 y1
                  go_wp2
                  go_roundw
                  case rel => exact ⟨k + 1, by go_num, by omega, by rw [HS2.out], grew_trans HG.out HG8.out⟩
                  case measure => simp only [intOf]; omega
              · have HS2 : Hid (((m.take (k + 1)).filter (isD (q1, q2))).length = cnt) := by show _ = _; rw [HS.out, HM.out]; simp [h1]
                have d0 : (p1 == q1) = false := by simpa using h1
                clear HS HM HN1 HK1 h1
                go_upto_region 16 with fail
                refine wp_region_grew (by kernel_rfl) (by kernel_rfl) ?_
                repeat (go_big_quiet_step (fail))
                refine wpQuiet_nil ?_
                intro w8 hw'
                have HG8 := Lib.hid (grew_of hw')
                clear hw' x0 x1 y0 y1
                go_wp2
                go_roundw
                case rel => exact ⟨k + 1, by go_num, by omega, by rw [HS2.out], grew_trans HG.out HG8.out⟩
                case measure => simp only [intOf]; omega
            · obtain rfl : k = m.length := by omega
              rw [List.take_length, HC.out]
              have HG9 := Lib.hid (grew_trans HG16.out HG.out)
              clear HC HKEY HCO HRI HIN HR6
              by_cases hG : G = 0
              · rw [if_pos hG]
                subst hG
                go_wp2
                go_roundw
                case rel => exact ⟨i + 1, by go_num, by omega, HG9.out⟩
                case measure => simp only [intOf]; omega
              · rw [if_neg hG]
                have d2 : (G != 0) = true := by simpa using hG
                clear hG
                go_wp2
                go_roundw
                case rel => exact ⟨i + 1, by go_num, by omega, HG9.out⟩
                case measure => simp only [intOf]; omega
        · obtain rfl : i = n := by omega
          have HR2 := Lib.hid (HR1.out.keep HG.out)
          clear CG HGE HGR HCO HIN HI hlt hi HR1
          generalize wr = wB at *
          go_wp2
          go_loopw [10] (fun v10 wr => ∃ k : Nat, v10 = .int .i64 ((k : Int) + 1) ∧ k ≤ m.length ∧ Hid (Grew wB wr)) (fun v10 _ => m.length + 1 - (intOf v10).toNat)
          case atStart => exact ⟨0, by go_num, Nat.zero_le _, grew_refl _⟩
          case round =>
            obtain ⟨k, rfl, hk, HG2⟩ := hrel
            have hk9 : k ≤ 300 := by have := HNL.out; omega
            by_cases hlk : k + 1 < m.length
            · obtain ⟨b2, o2, rfl, hb2, hc2⟩ := (HR2.out.keep HG2.out).rD3 hlk
              obtain ⟨e0, e1, e2⟩ := hc2 k (by omega)
              obtain ⟨f0, f1, f2⟩ := hc2 (k + 1) hlk
              have hlt := HRI.out k hlk
              have k0 : (0 : Int) ≤ (k : Int) := by omega
              have k1 : (k : Int) + 1 < (m.length : Int) := by omega
              have k2 : (k : Int) < (m.length : Int) := by omega
              clear hc2 HRI
              generalize m.getD k (0, 0, 0) = x at *
              generalize m.getD (k + 1) (0, 0, 0) = y at *
              obtain ⟨q1, q2, q3⟩ := x
              obtain ⟨p1, p2, p3⟩ := y
              dsimp only [keyD, ltK] at e0 e1 f0 f1 hlt
              have x0 := grew_every (w := wr) (S := fun w' => w'.cell? ⟨b2, o2 + k * 3, none⟩ = some (.int .i64 q1)) (fun w' g => (grew_cell g (p := ⟨b2, _, none⟩) hb2).trans e0)
              have x1 := grew_every (w := wr) (S := fun w' => w'.cell? ⟨b2, o2 + k * 3 + 1, none⟩ = some (.int .i64 q2)) (fun w' g => (grew_cell g (p := ⟨b2, _, none⟩) hb2).trans e1)
              have y0 := grew_every (w := wr) (S := fun w' => w'.cell? ⟨b2, o2 + (k + 1) * 3, none⟩ = some (.int .i64 p1)) (fun w' g => (grew_cell g (p := ⟨b2, _, none⟩) hb2).trans f0)
              have y1 := grew_every (w := wr) (S := fun w' => w'.cell? ⟨b2, o2 + (k + 1) * 3 + 1, none⟩ = some (.int .i64 p2)) (fun w' g => (grew_cell g (p := ⟨b2, _, none⟩) hb2).trans f1)
              go_upto_region 25 with fail
              have hs : wrap64 ((k : Int) + 1 - 1) = (k : Int) := by unfold wrap64; omega
              by_cases hq : q1 < p1
              · have d0 : (q1 == p1) = false := by simp; omega
                have d1 : ¬ p1 < q1 := by omega
                clear hlt hq
                refine wp_region_grew (by kernel_rfl) (by kernel_rfl) ?_
                repeat (go_big_quiet_step (fail))
                refine wpQuiet_nil ?_
                intro w8 hw'
                have HG8 := Lib.hid (grew_of hw')
                clear hw' x0 x1 y0 y1
                go_wp2
                go_roundw
                case rel => exact ⟨k + 1, by go_num, by omega, grew_trans HG2.out HG8.out⟩
                case measure => simp only [intOf]; omega
              · obtain rfl : q1 = p1 := by omega
                have hq2 : ¬ p2 ≤ q2 := by omega
                clear hlt hq
                refine wp_region_grew (by kernel_rfl) (by kernel_rfl) ?_
                repeat (go_big_quiet_step (fail))
                refine wpQuiet_nil ?_
                intro w8 hw'
                have HG8 := Lib.hid (grew_of hw')
                clear hw' x0 x1 y0 y1
                go_wp2
                go_roundw
                case rel => exact ⟨k + 1, by go_num, by omega, grew_trans HG2.out HG8.out⟩
                case measure => simp only [intOf]; omega
            · go_wp2_with (go_at_call 19; ((with_reducible refine (CW _).mono ?_); rintro e w8 ⟨rfl, hg⟩; have HG8 := Lib.hid (grew_trans (grew_trans HGW.out HG2.out) hg); clear hg))
              go_ret
              exact ⟨rfl, HG8.out⟩
    · have d0 : (netE l == 0) = false := by simpa using hz
      have e0 : netL l = [] := by unfold netL; rw [if_neg hz]
      rw [e0] at CN
      clear hz e0
      generalize netE l = E at *
      go_enter Try.func4, Try.ntmps4
      go_wp2_with (first
        | (go_at_call 9; ((with_reducible refine CN.mono ?_); rintro e w1 ⟨v1, rfl, ho, hg⟩; obtain ⟨A1, c1, rfl, -⟩ := ho.form; have HG1 := Lib.hid hg; clear ho hg CN))
        | (go_at_call 19; ((with_reducible refine (CW _).mono ?_); rintro e w2 ⟨rfl, hg⟩; have HG2 := Lib.hid (grew_trans HG1.out hg); clear hg)))
      go_ret
      exact ⟨rfl, HG2.out⟩
end Go.Proofs.Ytlmnbafklefmcaa.NumK
namespace Go.Proofs.Ytlmnbafklefmcaa.NumK
open Go.RowKit
theorem netSums_row (w : World) {A : Option Addr} {n c : Nat} {l : List D3} (h : Row spDu3 w A n l) :
    Calls Try.prog 4 #[.slice A n c] w fun e w' => e = .returned (.bool true) ∧ Grew w w' :=
  netSums_walk A n c l w (dues_in h).1 (dues_in h).2
end Go.Proofs.Ytlmnbafklefmcaa.NumK
namespace Go.Proofs.Ytlmnbafklefmcaa.netSums
open Go.ChangeShapes Go.WideShapes Go.ChangeAt Go.RowKit
set_option linter.unusedVariables false

theorem own : ownKnob Try.prog.godebug = none := by kernel_rfl
theorem laidOut : laidOutB Try.prog = true := by kernel_rfl

set_option maxRecDepth 100000 in
theorem lifted (os : Os) (started : os.Started) (H : Type) (enc : TypeId × Value → H) :
    ReturnsInHanded {} Try.checked os 4 .any (Rows.netSumsSpec.pre6 enc Try.prog Try.f4 Rows.netSumsRow.domain false) (Rows.netSumsSpec.post enc Try.prog Try.f4 false true false false) := by
  refine returnsInHanded_of_change (C := Try.checked) own started (by kernel_rfl) Try.func4
    (ChangeSpec.witness6 (enc := enc) (C := Try.checked) false ⟨#[], #[.slice none 0 0], []⟩ 8 (by kernel_rfl) (by kernel_rfl) (by kernel_rfl) (by kernel_rfl)) ?_
  intro W base args ds gs before hval0 hW hcnd _
  have hval : ∀ (j : Nat) t v, Try.f4.params[j]? = some t → args[j]? = some v → Value.okWide Try.prog W .any base t v := hval0
  have hW' := hW
  obtain ⟨p, q, hA0, hV, rfl, hfz, hnd⟩ := hW
  have hA : DataW.TrodAll enc Try.prog W 0 (fun _ => true) true Try.f4.params.toList args.toList ds p := hA0
  skip
  rw [Try.params4] at hA hval
  obtain ⟨v0, vs0, d0, ds0, p0, q0, hargs, rfl, rfl, h0, r0⟩ := trodAll_cons hA
  obtain ⟨rfl, rfl, rfl⟩ := trodAll_nil r0
  obtain rfl : args = #[v0] := by cases args; simp_all
  obtain ⟨rfl, rfl⟩ := trodVars_none hV
  have k0 := h0
  have lt0 : ∀ x ∈ p0, x.block < W.heap.size := by obtain ⟨m, hm⟩ := k0; exact DataW.trod_lt m _ _ _ hm
  obtain ⟨A0, len0, cap0, l0, rfl, ro0, n0, c0, m0⟩ := NumK.arg_slice Try.underlying22 NumK.opens_dues (hval 0 22 v0 rfl rfl) h0
  clear hA0 hval0
  refine (NumK.netSums_row W ro0).mono fun e W' ⟨he, bel⟩ => ?_
  subst he
  exact ⟨_, rfl, _, _, _, [], _, [], hW', trodAll_mk1 (shut_bool Try.underlying4 _), (trodAll_cons_mk (Below.trod laidOut (by kernel_rfl) (of_decide_eq_true (by kernel_rfl)) k0 bel lt0) trodAll_mk0), rfl, bel.frame _, fun h => by cases h⟩

theorem over : Rows.netSumsRow.holds Try.pinned (OpenSpec.ofChange Rows.netSumsSpec) :=
  OpenClaim.holds_of_wide 4 Try.f4 rfl rfl rfl rfl rfl rfl rfl ⟨rfl, rfl, rfl, rfl, rfl⟩ rfl rfl rfl rfl rfl (by kernel_rfl) Try.func4 (by kernel_rfl)
    (of_decide_eq_true (by kernel_rfl)) (by unfold Func.isWrapper; first | (rw [if_pos (by decide +kernel)]; kernel_rfl) | (rw [if_neg (by decide +kernel)]; exact ⟨rfl, rfl⟩))
    (fun os started H enc _ => lifted os started H enc)

/-! ### the statement -/
theorem proved : Rows.NetSumsSaid := over
end Go.Proofs.Ytlmnbafklefmcaa.netSums
