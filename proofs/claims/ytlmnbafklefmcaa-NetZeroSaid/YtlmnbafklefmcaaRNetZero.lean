/-
  For all dues and a currency: dues, and the same turned round, are netted nothing, and what is netted of a currency adds up to what it was; more than 300 dues, and dues that are not netted, the statement lets by.
-/
import Derived.Test.YtlmnbafklefmcaaRG13
import Derived.Test.YtlmnbafklefmcaaRG3
import Derived.Test.YtlmnbafklefmcaaRG2
import Derived.Deep.RegionHeld3
import Derived.Test.YtlmnbafklefmcaaRows
import Derived.WalkKit
import Derived.ProofKit
import Derived.OpenShut
import Derived.ShutString
import Derived.ChangeOld
import Derived.Below
import Derived.Carry
namespace Go.Proofs.Ytlmnbafklefmcaa.NumK
open Go.RowKit Go.Maps
set_option linter.unusedVariables false

theorem curD_snoc (l : List Dn) (j : Nat) (h : j < l.length) (c : Int) : curD (l.take (j + 1)) c = curD (l.take j) c + if (l.getD j (0, 0, 0)).2.1 = c then (l.getD j (0, 0, 0)).2.2 else 0 := by
  unfold curD
  rw [filter_take_succ _ l (0, 0, 0) j h, List.map_append, List.sum_append]
  congr 1
  by_cases hc : (l.getD j (0, 0, 0)).2.1 = c
  · rw [if_pos (by simpa using hc), if_pos hc]; simp
  · rw [if_neg (by simpa using hc), if_neg hc]; rfl
def backN (l : List Dn) (i : Nat) : List Dn := l ++ ((l.drop i).map turnD).reverse
theorem backN_step (l : List Dn) (i : Nat) (h : i < l.length) : backN l i = backN l (i + 1) ++ [turnD (l.getD i (0, 0, 0))] := by
  unfold backN
  rw [List.drop_eq_getElem_cons h, List.map_cons, List.reverse_cons, List.append_assoc, getD_at l (0, 0, 0) i h]
theorem backN_len (l : List Dn) (i : Nat) : (backN l i).length ≤ 2 * l.length := by
  unfold backN
  rw [List.length_append, List.length_reverse, List.length_map, List.length_drop]; omega
theorem backN_keys {l : List Dn} (hk : ∀ x ∈ l, okDk (keyD x) = true) (i : Nat) : ∀ x ∈ backN l i, okDk (keyD x) = true := fun x hx => by
  rcases List.mem_append.1 hx with hx | hx
  · exact hk x hx
  · obtain ⟨y, hy, rfl⟩ := List.mem_map.1 (List.mem_reverse.1 hx)
    exact hk y (List.mem_of_mem_drop hy)
theorem backN_all (l : List Dn) : backN l 0 = l ++ (l.map turnD).reverse := rfl
theorem backN_none (l : List Dn) : backN l l.length = l := by unfold backN; rw [List.drop_length]; simp
theorem wrap_wrap (x y : Int) : wrap64 (wrap64 x + y) = wrap64 (x + y) := by
  unfold wrap64
  omega

theorem cur_start (l : List Dn) (c : Int) : Value.int .i64 0 = Value.int .i64 (wrap64 (curD (l.take 0) c)) := by
  rw [List.take_zero, show curD [] c = 0 from rfl, show wrap64 0 = 0 by simp [wrap64]]

set_option maxRecDepth 100000 in
set_option maxHeartbeats 8000000 in
theorem netZero_walk (A : Option Addr) (n c : Nat) (l : List D3) (cur : Int) (w : World) (h : RowE enD3 w A n l) (hk : ∀ x ∈ l, okDk (keyD x) = true) (hA : A = none → c = 0) :
    Calls Try.prog 7 #[.slice A n c, .int .i64 cur] w fun e w' => e = .returned (.bool true) ∧ Grew w w' := by
  have HI := Lib.hid h
  have HL := Lib.hid h.len
  have CW := fun w => wakes17_any w
  clear h
  by_cases hn : n > 300
  · have j1 : (n : Int) > 300 := by omega
    clear CW
    go_enter Try.func7, Try.ntmps7
    go_wp2
    go_ret
    exact ⟨rfl, grew_refl _⟩
  · have j1 : ¬ (n : Int) > 300 := by omega
    have CN := net_any A n c l w HI.out hk (by omega)
    unfold NetPost at CN
    by_cases hz : netE l = 0
    · have hmoney := (netE_ok.1 hz).1
      have HOK : Hid (∀ j, j < n → isMoney (l.getD j (0, 0, 0)).2.2 = true) := fun j hj => List.all_eq_true.1 hmoney _ (getD_mem l (0, 0, 0) j (by rw [HL.out]; exact hj))
      obtain ⟨z1, z2⟩ := net_zero hz
      have CM := fun B m d w' (hr : RowE enD3 w' B m (backN l 0)) (hm : m ≤ 1000) => net_any B m d (backN l 0) w' hr (backN_keys hk 0) (by omega)
      have HCU := Lib.hid (cur_net l cur)
      unfold NetPost at CM
      rw [netL_ok (by rw [backN_all]; exact z1), backN_all, z1, z2, ← backN_all] at CM
      rw [netL_ok hz, hz] at CN
      have CT := fun w' (g : Grew w w') => twinDues_any A n c l w' (HI.out.keep g) hA (by omega)
      have HNL : Hid ((netF l).length ≤ n) := by show _ ≤ _; rw [← HL.out]; exact len_net l
      clear z1 z2 hz hmoney hk
      go_enter Try.func7, Try.ntmps7
      go_wp2_with (first
        | (go_at_call 9; ((with_reducible refine CN.mono ?_); rintro e w1 ⟨v1, rfl, ho, hg⟩; obtain ⟨A1, c1, rfl, hr1, -⟩ := ho.form; have HR1 := Lib.hid hr1; have HG1 := Lib.hid hg; clear ho hg hr1 CN))
        | (go_at_call 8; ((with_reducible refine (CT _ HG1.out).mono ?_); rintro e w2 ⟨B, d, rfl, ho, hg⟩; have HO2 := Lib.hid ho; have HG12 := Lib.hid hg; clear ho hg CT)))
      generalize netF l = m at *
      go_loopw [7, 8] (fun v7 v8 wr => ∃ i : Nat, v8 = .int .i64 ((i : Int) - 1) ∧ i ≤ n ∧ Hid (OwnE enD3 wr w1.heap.size 42 v7 (backN l i)) ∧ Hid (Grew w1 wr)) (fun _ v8 _ => (intOf v8 + 1).toNat)
      case atStart => exact ⟨n, by go_num, Nat.le_refl _, by rw [← HL.out, backN_none]; rw [HL.out]; exact HO2.out, HG12.out⟩
      case round =>
        obtain ⟨i, rfl, hi, HO, HG⟩ := hrel
        have HGW := Lib.hid (grew_trans HG1.out HG.out)
        have HRM := Lib.hid (HR1.out.keep HG.out)
        rcases i with _ | i
        · have e0 : ((0 : Nat) : Int) - 1 = -1 := by omega
          rw [e0]
          clear HO2 HG12 hi
          have CX := fun B d w' (hr : RowE enD3 w' B (backN l 0).length (backN l 0)) => CM B _ d w' hr (by have := backN_len l 0; have := HL.out; omega)
          obtain ⟨B3, d3, rfl, hr3, -, -, -⟩ := HO.out.form
          have CY := CX _ d3 _ hr3
          clear CM CX hr3 HO
          generalize (backN l 0).length = n3 at *
          go_wp2_with (go_at_call 9; ((with_reducible refine CY.mono ?_); rintro e w4 ⟨v4, rfl, ho, hg⟩; obtain ⟨A4, c4, rfl, -⟩ := ho.form; have HR4 := Lib.hid (HRM.out.keep hg); have HG4 := Lib.hid (grew_trans HGW.out hg); clear ho hg CY))
          generalize w4 = wB at *
          clear HOK HG HGW HR1 HG1 HRM
          go_loopw [10, 12] (fun v10 v12 wr => ∃ i : Nat, v12 = .int .i64 i ∧ i ≤ n ∧ v10 = .int .i64 (wrap64 (curD (l.take i) cur)) ∧ Hid (Grew wB wr)) (fun _ v12 _ => n - (intOf v12).toNat)
          case atStart => exact ⟨0, rfl, Nat.zero_le _, cur_start _ _, grew_refl _⟩
          case round =>
            obtain ⟨i, rfl, hi, rfl, HG⟩ := hrel
            have HGW := Lib.hid (grew_trans HG4.out HG.out)
            by_cases hlt : i < n
            · obtain ⟨b, o, rfl, hb, hc⟩ := (HI.out.keep HGW.out).rD3 hlt
              obtain ⟨a0, a1, a2⟩ := hc i hlt
              have HS := Lib.hid (curD_snoc l i (by rw [HL.out]; exact hlt) cur)
              have i0 : (0 : Int) ≤ (i : Int) := by omega
              have i1 : (i : Int) < (n : Int) := by omega
              clear hc HR4 HCU HNL
              generalize curD (l.take i) cur = S at *
              generalize l.getD i (0, 0, 0) = x at *
              obtain ⟨q1, q2, q3⟩ := x
              dsimp only at a0 a1 a2 HS
              by_cases hq : q2 = cur
              · rw [if_pos hq] at HS
                subst hq
                go_wp2
                go_roundw
                case rel => exact ⟨i + 1, by go_num, by omega, by rw [HS.out, wrap_wrap], HG.out⟩
                case measure => simp only [intOf]; omega
              · rw [if_neg hq, Int.add_zero] at HS
                have d0 : (q2 == cur) = false := by simpa using hq
                go_wp2
                go_roundw
                case rel => exact ⟨i + 1, by go_num, by omega, by rw [HS.out], HG.out⟩
                case measure => simp only [intOf]; omega
            · obtain rfl : i = n := by omega
              have ht : l.take i = l := List.take_of_length_le (by rw [HL.out]; exact Nat.le_refl _)
              rw [ht]
              have HR5 := Lib.hid (HR4.out.keep HG.out)
              clear ht HR4 HG HG4 hlt hi HI
              generalize wr = wC at *
              go_wp2
              go_loopw [11, 13] (fun v11 v13 wr => ∃ j : Nat, v13 = .int .i64 j ∧ j ≤ m.length ∧ v11 = .int .i64 (wrap64 (curD (m.take j) cur)) ∧ Hid (Grew wC wr)) (fun _ v13 _ => m.length - (intOf v13).toNat)
              case atStart => exact ⟨0, rfl, Nat.zero_le _, cur_start _ _, grew_refl _⟩
              case round =>
                obtain ⟨j, rfl, hj, rfl, HG⟩ := hrel
                have hj9 : j ≤ 300 := by have := HNL.out; omega
                by_cases hlt : j < m.length
                · obtain ⟨b, o, rfl, hb, hc⟩ := (HR5.out.keep HG.out).rD3 hlt
                  obtain ⟨a0, a1, a2⟩ := hc j hlt
                  have HS := Lib.hid (curD_snoc m j hlt cur)
                  have i0 : (0 : Int) ≤ (j : Int) := by omega
                  have i1 : (j : Int) < (m.length : Int) := by omega
                  clear hc HCU HNL
                  generalize curD (m.take j) cur = S at *
                  generalize m.getD j (0, 0, 0) = x at *
                  obtain ⟨q1, q2, q3⟩ := x
                  dsimp only at a0 a1 a2 HS
                  by_cases hq : q2 = cur
                  · rw [if_pos hq] at HS
                    subst hq
                    go_wp2
                    go_roundw
                    case rel => exact ⟨j + 1, by go_num, by omega, by rw [HS.out, wrap_wrap], HG.out⟩
                    case measure => simp only [intOf]; omega
                  · rw [if_neg hq, Int.add_zero] at HS
                    have d0 : (q2 == cur) = false := by simpa using hq
                    go_wp2
                    go_roundw
                    case rel => exact ⟨j + 1, by go_num, by omega, by rw [HS.out], HG.out⟩
                    case measure => simp only [intOf]; omega
                · obtain rfl : j = m.length := by omega
                  rw [List.take_length, HCU.out]
                  go_wp2_with (go_at_call 19; ((with_reducible refine (CW _).mono ?_); rintro e w8 ⟨rfl, hg⟩; have HG8 := Lib.hid (grew_trans (grew_trans HGW.out HG.out) hg); clear hg))
                  go_ret
                  exact ⟨rfl, HG8.out⟩
        · have e0 : ((i + 1 : Nat) : Int) - 1 = (i : Int) := by omega
          rw [e0]
          clear e0 HO2 HG12 HRM
          have hlt : i < n := by omega
          obtain ⟨b, o, rfl, hb, hc⟩ := HI.out.rD3 hlt
          obtain ⟨a0, a1, a2⟩ := hc i hlt
          have HS := Lib.hid (backN_step l i (by rw [HL.out]; exact hlt))
          have HLL : Hid ((backN l (i + 1)).length ≤ 600) := by have := backN_len l (i + 1); have := HL.out; show _ ≤ _; omega
          have HM := Lib.hid (HOK.out i hlt)
          have i0 : (0 : Int) ≤ (i : Int) := by omega
          have i1 : (i : Int) < (n : Int) := by omega
          clear hc HOK CM
          generalize backN l (i + 1) = lj at *
          generalize l.getD i (0, 0, 0) = x at *
          obtain ⟨q1, q2, q3⟩ := x
          dsimp only at a0 a1 a2
          have hq : -4611686018427387904 ≤ q3 ∧ q3 ≤ 4611686018427387904 := (isMoney_iff q3).1 HM.out
          have hbW : b < wr.heap.size := Nat.lt_of_lt_of_le hb HGW.out.size
          have HCL : Hid (∀ w', Grew wr w' → (w'.cell? ⟨b, o + i * 3, none⟩ = some (.int .i64 q1) ∧ w'.cell? ⟨b, o + i * 3 + 1, none⟩ = some (.int .i64 q2) ∧ w'.cell? ⟨b, o + i * 3 + 2, none⟩ = some (.int .i64 q3))) := fun w' g => ⟨(grew_cell (grew_trans HGW.out g) (p := ⟨b, _, none⟩) hb).trans a0, (grew_cell (grew_trans HGW.out g) (p := ⟨b, _, none⟩) hb).trans a1, (grew_cell (grew_trans HGW.out g) (p := ⟨b, _, none⟩) hb).trans a2⟩
          have hw : IntKind.i64.wrap (-q3) = -q3 := by simp [IntKind.wrap, IntKind.bits, IntKind.signed]; omega
          have HRW : Hid (RowE enD3 (wr.alloc (.cells #[.int .i64 q1, .int .i64 q2, .int .i64 (IntKind.i64.wrap (-q3))] 42)) (some ⟨wr.heap.size, 0, none⟩) 1 [turnD (q1, q2, q3)]) := by rw [hw]; exact RowE.one1 enD3 _ _ _ _ _ rfl rfl
          clear hw
          have HVL : Hid (∀ g, u7.ownBlock = some g → w1.heap.size ≤ g) := fun g e => (World.ownsRow.lt HO.out g e).1
          have HVN : Hid (∀ wx wy : World, wx.grownBy wy u7.ownBlock → wr.heap.size ≤ wx.heap.size → ∀ p, wy.cell? ⟨b, p, none⟩ = wx.cell? ⟨b, p, none⟩) := fun wx wy hg hs p => hg.cell_far ⟨b, p, none⟩ (Nat.lt_of_lt_of_le hbW hs) (fun e => by have := HVL.out b e.symm; have := HG1.out.size; omega)
          go_upto_region 10 with fail
          go_region_held3 (fun w' => w'.cell? ⟨b, o + i * 3, none⟩ = some (.int .i64 q1) ∧ w'.cell? ⟨b, o + i * 3 + 1, none⟩ = some (.int .i64 q2) ∧ w'.cell? ⟨b, o + i * 3 + 2, none⟩ = some (.int .i64 q3))
            (first
              | (with_reducible exact HCL.out _ (grew_drew (grew_refl _)))
              | (with_reducible exact HCL.out _ (grew_drew (grew_alloc _ _ _)))
              | (with_reducible exact HS5.out))
            (first
              | (refine step_append_G rfl _ _ 22 42 (vD3 (0, 0, 0)) 24 rfl Try.underlying22 infoD3 rfl w1.heap.size _ lj (by rfl) (HO.out.keep (grew_drew (grew_alloc _ _ _))) ⟨wr.heap.size, 0, none⟩ 1 1 [turnD (q1, q2, q3)] (by rfl) (HRW.out.keep (grew_drew (grew_refl _))) (by have := HLL.out; unfold maxLen; omega) (by have := HLL.out; omega) (Nat.le_trans HG.out.size (grew_drew (grew_alloc _ _ _)).size) ?_; intro v5 w5 ho hb5 hgb; have HO5 := Lib.hid ho; have HG5 : Hid (Grew w1 w5) := Below.trans (grew_trans HG.out (grew_drew (grew_alloc _ _ _))) hb5; have HS5 : Hid (w5.cell? ⟨b, o + i * 3, none⟩ = some (.int .i64 q1) ∧ w5.cell? ⟨b, o + i * 3 + 1, none⟩ = some (.int .i64 q2) ∧ w5.cell? ⟨b, o + i * 3 + 2, none⟩ = some (.int .i64 q3)) := ⟨(HVN.out _ _ hgb (grew_drew (grew_alloc _ _ _)).size _).trans (HCL.out _ (grew_drew (grew_alloc _ _ _))).1, (HVN.out _ _ hgb (grew_drew (grew_alloc _ _ _)).size _).trans (HCL.out _ (grew_drew (grew_alloc _ _ _))).2.1, (HVN.out _ _ hgb (grew_drew (grew_alloc _ _ _)).size _).trans (HCL.out _ (grew_drew (grew_alloc _ _ _))).2.2⟩; clear ho hb5 hgb))
          rw [← HS.out] at HO5
          go_wp2
          go_roundw
          case rel => exact ⟨i, by go_num, by omega, HO5.out, HG5.out⟩
          case measure => simp only [intOf]; omega
    · have HNZ := Lib.hid hz
      have d0 : (netE l == 0) = false := by simpa using hz
      clear hz
      generalize netE l = E at *
      go_enter Try.func7, Try.ntmps7
      go_wp2_with (first
        | (go_at_call 9; ((with_reducible refine CN.mono ?_); rintro e w1 ⟨v1, rfl, ho, hg⟩; have HG1 := Lib.hid hg; clear ho hg CN))
        | (go_at_call 19; ((with_reducible refine (CW _).mono ?_); rintro e w2 ⟨rfl, hg⟩; have HG2 := Lib.hid (grew_trans HG1.out hg); clear hg)))
      go_ret
      exact ⟨rfl, HG2.out⟩
end Go.Proofs.Ytlmnbafklefmcaa.NumK
namespace Go.Proofs.Ytlmnbafklefmcaa.NumK
open Go.RowKit
theorem netZero_row (w : World) {A : Option Addr} {n c : Nat} {l : List D3} (cur : Int) (h : Row spDu3 w A n l) (hk : A = none → c = 0) :
    Calls Try.prog 7 #[.slice A n c, .int .i64 cur] w fun e w' => e = .returned (.bool true) ∧ Grew w w' :=
  netZero_walk A n c l cur w (dues_in h).1 (dues_in h).2 hk
end Go.Proofs.Ytlmnbafklefmcaa.NumK
namespace Go.Proofs.Ytlmnbafklefmcaa.netZero
open Go.ChangeShapes Go.WideShapes Go.ChangeAt Go.RowKit
set_option linter.unusedVariables false

theorem own : ownKnob Try.prog.godebug = none := by kernel_rfl
theorem laidOut : laidOutB Try.prog = true := by kernel_rfl

set_option maxRecDepth 100000 in
theorem lifted (os : Os) (started : os.Started) (H : Type) (enc : TypeId × Value → H) :
    ReturnsInHanded {} Try.checked os 7 .any (Rows.netZeroSpec.pre6 enc Try.prog Try.f7 Rows.netZeroRow.domain false) (Rows.netZeroSpec.post enc Try.prog Try.f7 false true false false) := by
  refine returnsInHanded_of_change (C := Try.checked) own started (by kernel_rfl) Try.func7
    (ChangeSpec.witness6 (enc := enc) (C := Try.checked) false ⟨#[], #[.slice none 0 0, .int .i64 0], []⟩ 8 (by kernel_rfl) (by kernel_rfl) (by kernel_rfl) (by kernel_rfl)) ?_
  intro W base args ds gs before hval0 hW hcnd _
  have hval : ∀ (j : Nat) t v, Try.f7.params[j]? = some t → args[j]? = some v → Value.okWide Try.prog W .any base t v := hval0
  have hW' := hW
  obtain ⟨p, q, hA0, hV, rfl, hfz, hnd⟩ := hW
  have hA : DataW.TrodAll enc Try.prog W 0 (fun _ => true) true Try.f7.params.toList args.toList ds p := hA0
  skip
  rw [Try.params7] at hA hval
  obtain ⟨v0, vs0, d0, ds0, p0, q0, hargs, rfl, rfl, h0, r0⟩ := trodAll_cons hA
  obtain ⟨v1, vs1, d1, ds1, p1, q1, rfl, rfl, rfl, h1, r1⟩ := trodAll_cons r0
  obtain ⟨rfl, rfl, rfl⟩ := trodAll_nil r1
  obtain rfl : args = #[v0, v1] := by cases args; simp_all
  obtain ⟨rfl, rfl⟩ := trodVars_none hV
  have k0 := h0
  have lt0 : ∀ x ∈ p0, x.block < W.heap.size := by obtain ⟨m, hm⟩ := k0; exact DataW.trod_lt m _ _ _ hm
  obtain ⟨A0, len0, cap0, l0, rfl, ro0, n0, c0, m0⟩ := NumK.arg_slice Try.underlying22 NumK.opens_dues (hval 0 22 v0 rfl rfl) h0
  obtain ⟨a1, rfl, rfl, rfl, w1⟩ := open_int Try.underlying3 (hval 1 3 v1 rfl rfl) h1
  clear hA0 hval0
  refine (NumK.netZero_row W a1 ro0 n0).mono fun e W' ⟨he, bel⟩ => ?_
  subst he
  exact ⟨_, rfl, _, _, _, [], _, [], hW', trodAll_mk1 (shut_bool Try.underlying4 _), (trodAll_cons_mk (Below.trod laidOut (by kernel_rfl) (of_decide_eq_true (by kernel_rfl)) k0 bel lt0) (trodAll_cons_mk (shut_int Try.underlying3 w1) trodAll_mk0)), rfl, bel.frame _, fun h => by cases h⟩

theorem over : Rows.netZeroRow.holds Try.pinned (OpenSpec.ofChange Rows.netZeroSpec) :=
  OpenClaim.holds_of_wide 7 Try.f7 rfl rfl rfl rfl rfl rfl rfl ⟨rfl, rfl, rfl, rfl, rfl⟩ rfl rfl rfl rfl rfl (by kernel_rfl) Try.func7 (by kernel_rfl)
    (of_decide_eq_true (by kernel_rfl)) (by unfold Func.isWrapper; first | (rw [if_pos (by decide +kernel)]; kernel_rfl) | (rw [if_neg (by decide +kernel)]; exact ⟨rfl, rfl⟩))
    (fun os started H enc _ => lifted os started H enc)

/-! ### the statement -/
theorem proved : Rows.NetZeroSaid := over
end Go.Proofs.Ytlmnbafklefmcaa.netZero
