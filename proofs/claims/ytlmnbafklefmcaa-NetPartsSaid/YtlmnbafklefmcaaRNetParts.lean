/-
  For all dues: what is netted twice is netted once, what is netted in two parts and then together is netted at once, and the order does not matter; more than 300 dues, and dues or parts that are not netted, the statement lets by.
-/
import Derived.Test.YtlmnbafklefmcaaRG13
import Derived.Test.YtlmnbafklefmcaaRG3
import Derived.Test.YtlmnbafklefmcaaRG7
import Derived.Test.YtlmnbafklefmcaaRows
import Derived.WalkKit
import Derived.ProofKit
import Derived.OpenShut
import Derived.ShutString
import Derived.ChangeOld
import Derived.Below
import Derived.Carry
namespace Go.Proofs.Ytlmnbafklefmcaa.NumK
open Go.RowKit Go.Maps
set_option linter.unusedVariables false

theorem dues_take (A : Option Addr) (n c k : Nat) (hk : k ≤ n) (hnc : n ≤ c) (hc : c ≤ 9223372036854775807) (w : World) : (Instr.slice 22 (.slice A n c) none (some (.int .i64 k)) none).run Try.prog w = .ok (.slice A k c) w := by
  have sz : ∀ w, (sizeOf 42).run Try.prog w = .ok 3 w := fun w => by kernel_rfl
  have el : Try.prog.elem 22 = 42 := by kernel_rfl
  have ht : Try.prog.underlying 22 = some (.slice (Try.prog.elem 22)) := by rw [el]; exact Try.underlying22
  rw [run_slice_h w 22 A n c ht .i64 k (by omega) (by omega), el, sz]
  cases A with
  | none => simp [sliced, Result.andThen]
  | some a => simp [sliced, Addr.add, Result.andThen]
theorem dues_drop (A : Option Addr) (n c k : Nat) (hk : k ≤ n) (hnc : n ≤ c) (hc : c ≤ 9223372036854775807) : ∃ A2, (∀ w, (Instr.slice 22 (.slice A n c) (some (.int .i64 k)) none none).run Try.prog w = .ok (.slice A2 (n - k) (c - k)) w) ∧
    ∀ w (l : List D3), RowE enD3 w A n l → RowE enD3 w A2 (n - k) (l.drop k) := by
  have sz : ∀ w, (sizeOf 42).run Try.prog w = .ok 3 w := fun w => by kernel_rfl
  have el : Try.prog.elem 22 = 42 := by kernel_rfl
  have ht : Try.prog.underlying 22 = some (.slice (Try.prog.elem 22)) := by rw [el]; exact Try.underlying22
  have S2 : ∀ w, (Instr.slice 22 (.slice A n c) (some (.int .i64 k)) none none).run Try.prog w = .ok (sliced A k n c 3) w := fun w => by
    rw [run_slice_l w 22 A n c ht .i64 k (by omega) (by omega), el, sz]; simp [Result.andThen]
  unfold sliced at S2
  refine ⟨_, S2, fun w l h => ?_⟩
  split
  · next h2 =>
    have hnk : n = k := by omega
    exact ⟨by rw [List.length_drop, h.len], fun h0 => by omega⟩
  · exact RowE.dropO h hk
theorem pickAt (at' : Int) (n : Nat) (hn : n ≤ 2000) : ∃ K : Nat, wrap64 ((IntKind.u64.wrap at').tmod ((n : Int) + 1)) = (K : Int) ∧ K ≤ n := by
  have u0 : 0 ≤ IntKind.u64.wrap at' := by rw [IntKind.wrap_u64]; omega
  have t0 := Int.tmod_nonneg (a := IntKind.u64.wrap at') ((n : Int) + 1) u0
  have t1 := Int.tmod_lt_of_pos (IntKind.u64.wrap at') (show (0 : Int) < (n : Int) + 1 by omega)
  generalize (IntKind.u64.wrap at').tmod ((n : Int) + 1) = T at *
  refine ⟨T.toNat, ?_, by omega⟩
  unfold wrap64
  omega
theorem net_keys {l : List Dn} (hk : ∀ x ∈ l, okDk (keyD x) = true) : ∀ x ∈ netF l, okDk (keyD x) = true := fun y hy => by
  have hm := (mem_net l y).1 hy
  by_cases hc : ∃ d ∈ l, keyD d = keyD y
  · obtain ⟨d, hd, e⟩ := hc
    rw [← e]; exact hk d hd
  · exact absurd (hm.1.trans (gross_out fun d hd he => hc ⟨d, hd, he⟩)) hm.2
theorem rev_step (l : List Dn) (i : Nat) (h : i < l.length) : (l.drop i).reverse = (l.drop (i + 1)).reverse ++ [l.getD i (0, 0, 0)] := by
  rw [List.drop_eq_getElem_cons h, List.reverse_cons, getD_at l (0, 0, 0) i h]

set_option maxRecDepth 100000 in
set_option maxHeartbeats 8000000 in
theorem netParts_walk (A : Option Addr) (n c : Nat) (l : List D3) (at' : Int) (w : World) (h : RowE enD3 w A n l) (hk : ∀ x ∈ l, okDk (keyD x) = true) (hA : A = none → c = 0) (hnc : n ≤ c) (hc9 : c ≤ 9223372036854775807) :
    Calls Try.prog 5 #[.slice A n c, .int .i64 at'] w fun e w' => e = .returned (.bool true) ∧ Grew w w' := by
  have HI := Lib.hid h
  have HL := Lib.hid h.len
  have CW := fun w => wakes17_any w
  clear h
  by_cases hn : n > 300
  · have j1 : (n : Int) > 300 := by omega
    clear CW
    go_enter Try.func5, Try.ntmps5
    go_wp2
    go_ret
    exact ⟨rfl, grew_refl _⟩
  · have j1 : ¬ (n : Int) > 300 := by omega
    have CN := net_any A n c l w HI.out hk (by omega)
    unfold NetPost at CN
    have CR := fun B d w' (hr : RowE enD3 w' B n l.reverse) => net_any B n d l.reverse w' hr (fun x hx => hk x (List.mem_reverse.1 hx)) (by omega)
    unfold NetPost at CR
    rw [(net_rev l).1, (net_rev l).2] at CR
    have HNL : Hid ((netL l).length ≤ n) := by
      show _ ≤ _
      rw [← HL.out]
      unfold netL
      split
      · exact len_net l
      · simp
    have HZ : Hid (netE l = 0 → ∀ B m d w', RowE enD3 w' B m (netL l) → m ≤ 300 → Calls Try.prog 9 #[.slice B m d] w' fun e w'' => ∃ v, e = .returned (.tuple #[v, .int .i64 0]) ∧ OwnE enD3 w'' w'.heap.size 42 v (netL l) ∧ Grew w' w'') := fun hz B m d w' hr hm => by
      obtain ⟨z1, z2⟩ := net_again hz
      rw [netL_ok hz] at hr ⊢
      have := net_any B m d (netF l) w' hr (net_keys hk) (by omega)
      unfold NetPost at this
      rw [netL_ok z1, z1, z2] at this
      exact this
    obtain ⟨K, hK, hKn⟩ := pickAt at' n (by omega)
    have HP : Hid (netE l = 0 → netE (l.take K) = 0 → netE (l.drop K) = 0 → ∀ B m d w', RowE enD3 w' B m (netL (l.take K) ++ netL (l.drop K)) → m ≤ 1000 → Calls Try.prog 9 #[.slice B m d] w' fun e w'' => ∃ v, e = .returned (.tuple #[v, .int .i64 0]) ∧ OwnE enD3 w'' w'.heap.size 42 v (netL l) ∧ Grew w' w'') := fun hz h1 h2 B m d w' hr hm => by
      obtain ⟨z1, z2⟩ := net_parts (List.take_append_drop K l).symm hz h1 h2
      rw [netL_ok h1, netL_ok h2] at hr
      have := net_any B m d (netF (l.take K) ++ netF (l.drop K)) w' hr (fun x hx => by
        rcases List.mem_append.1 hx with hx | hx
        · exact net_keys (fun y hy => hk y (List.mem_of_mem_take hy)) x hx
        · exact net_keys (fun y hy => hk y (List.mem_of_mem_drop hy)) x hx) (by omega)
      unfold NetPost at this
      rw [netL_ok z1, z1, z2, ← netL_ok hz] at this
      exact this
    have S1 := dues_take A n c K hKn hnc hc9
    obtain ⟨A2, S2, HD⟩ := dues_drop A n c K hKn hnc hc9
    have CA := fun w' (g : Grew w w') => net_any A K c (l.take K) w' ((HI.out.keep g).take hKn) (fun x hx => hk x (List.mem_of_mem_take hx)) (by omega)
    have CB := fun w' (g : Grew w w') => net_any A2 (n - K) (c - K) (l.drop K) w' (HD _ _ (HI.out.keep g)) (fun x hx => hk x (List.mem_of_mem_drop hx)) (by omega)
    unfold NetPost at CA CB
    have HLA : Hid ((netL (l.take K)).length ≤ 300) := by
      show _ ≤ _
      unfold netL
      split
      · refine Nat.le_trans (len_net _) ?_; rw [List.length_take]; omega
      · simp
    have HLB : Hid ((netL (l.drop K)).length ≤ 300) := by
      show _ ≤ _
      unfold netL
      split
      · refine Nat.le_trans (len_net _) ?_; rw [List.length_drop]; have := HL.out; omega
      · simp
    clear hk HD
    generalize netL l = NL at *
    generalize netE l = E at *
    generalize netL (l.take K) = NA at *
    generalize netE (l.take K) = EA at *
    generalize netL (l.drop K) = NB at *
    generalize netE (l.drop K) = EB at *
    go_enter Try.func5, Try.ntmps5
    go_wp2_with (go_at_call 9; ((with_reducible refine CN.mono ?_); rintro e w1 ⟨v1, rfl, ho, hg⟩; obtain ⟨A1, c1, rfl, hr1, -⟩ := ho.form; have HR1 := Lib.hid hr1; have HG1 := Lib.hid hg; clear ho hg hr1 CN))
    go_loopw [7, 8] (fun v7 v8 wr => ∃ i : Nat, v8 = .int .i64 ((i : Int) - 1) ∧ i ≤ n ∧ Hid (OwnE enD3 wr w1.heap.size 42 v7 (l.drop i).reverse) ∧ Hid (Grew w1 wr)) (fun _ v8 _ => (intOf v8 + 1).toNat)
    case atStart => exact ⟨n, by go_num, Nat.le_refl _, by rw [List.drop_of_length_le (by rw [HL.out]; exact Nat.le_refl _)]; exact OwnE.nil _ _ _ _, grew_refl _⟩
    case round =>
      obtain ⟨i, rfl, hi, HO, HG⟩ := hrel
      have HGW := Lib.hid (grew_trans HG1.out HG.out)
      rcases i with _ | i
      · have e0 : ((0 : Nat) : Int) - 1 = -1 := by omega
        rw [e0]
        clear hi e0
        rw [List.drop_zero] at HO
        have HR1' := Lib.hid (HR1.out.keep HG.out)
        obtain ⟨B3, d3, rfl, hr3, -, -, -⟩ := HO.out.form
        rw [List.length_reverse, HL.out] at hr3 ⊢
        have CY := CR _ d3 _ hr3
        clear CR hr3 HO HR1
        go_wp2_with (go_at_call 9; ((with_reducible refine CY.mono ?_); rintro e w3 ⟨v3, rfl, ho, hg⟩; obtain ⟨A3, c3, rfl, hr3, -⟩ := ho.form; have HR3 := Lib.hid hr3; have HR13 := Lib.hid (HR1'.out.keep hg); have HG3 := Lib.hid (grew_trans HGW.out hg); clear ho hg hr3 CY; refine Hid.out ?_))
        refine Lib.hid ?_
        have CD := kdues_yes A1 A3 NL.length c1 c3 NL w3 HR13.out HR3.out (by have := HNL.out; omega)
        have HNL9 : Hid (NL.length ≤ 300) := by have := HNL.out; show _ ≤ _; omega
        by_cases hE : E = 0
        · subst hE
          have CZ := fun w' (g : Grew w3 w') => HZ.out rfl A1 NL.length c1 w' (HR13.out.keep g) HNL9.out
          have HP' := Lib.hid (HP.out rfl)
          clear HZ HP HG HR1' HGW HG1
          go_wp2_with (first
            | (go_at_call 11; ((with_reducible refine CD.mono ?_); rintro e w4 ⟨rfl, hg⟩; have HG34 := Lib.hid hg; clear hg CD))
            | (go_at_call 9; ((with_reducible refine (CZ _ HG34.out).mono ?_); rintro e w5 ⟨v5, rfl, ho, hg⟩; obtain ⟨A5, c5, rfl, hr5, -⟩ := ho.form; have HR5 := Lib.hid hr5; have HG35 := Lib.hid (grew_trans HG34.out hg); clear ho hg hr5 CZ; refine Hid.out ?_)))
          refine Lib.hid ?_
          have HR15 := Lib.hid (HR13.out.keep HG35.out)
          have CD2 := kdues_yes A5 A1 NL.length c5 c1 NL w5 HR5.out HR15.out (by have := HNL9.out; omega)
          go_wp2_with (go_at_call 11; ((with_reducible refine CD2.mono ?_); rintro e w6 ⟨rfl, hg⟩; have HR16 := Lib.hid (HR15.out.keep hg); have HG6 := Lib.hid (grew_trans HG3.out (grew_trans HG35.out hg)); clear hg CD2 HR15 HR5; refine Hid.out ?_))
          refine Lib.hid ?_
          have u2 : IntKind.u64.wrap ((n : Int) + 1) = (n : Int) + 1 := by rw [IntKind.wrap_u64]; omega
          have u3 : ((n : Int) + 1 == 0) = false := by simp; omega
          go_upto_region 18 with fail
          rw [hK]
          clear u2 u3 hK
          have k0 : (0 : Int) ≤ (K : Int) := by omega
          have k3 : (K : Int) ≤ (n : Int) := by omega
          have k4 : (n : Int) ≤ (c : Int) := by omega
          go_wp2_with (first
            | (go_at_call 9; ((with_reducible refine (CA _ HG6.out).mono ?_); rintro e w7 ⟨v7, rfl, ho, hg⟩; have HO7 := Lib.hid ho; have HG67 := Lib.hid hg; have HG7 := Lib.hid (grew_trans HG6.out hg); clear ho hg CA; refine Hid.out ?_)))
          refine Lib.hid ?_
          go_wp2_with (first
            | (go_at_call 9; ((with_reducible refine (CB _ HG7.out).mono ?_); rintro e w8 ⟨v8, rfl, ho, hg⟩; obtain ⟨A8, c8, rfl, hr8, hn8, -⟩ := ho.form; have HR8 := Lib.hid hr8; have HO8 := Lib.hid (HO7.out.keep hg); have HG68 := Lib.hid (grew_trans HG67.out hg); have HG8 := Lib.hid (grew_trans HG7.out hg); clear ho hg hr8 CB; refine Hid.out ?_)))
          refine Lib.hid ?_
          have HSZ : Hid (w6.heap.size ≤ w8.heap.size) := HG68.out.size
          clear HO7 HG67 HG7 S1 S2
          by_cases hEA : EA = 0
          · subst hEA
            by_cases hEB : EB = 0
            · subst hEB
              have CP := HP'.out rfl rfl
              clear HP'
              go_wp2_with (at_builtin; refine Hid.out ?_)
              refine Lib.hid ?_
              refine (wpList_append_E rfl _ _ 22 42 (vD3 (0, 0, 0)) 24 rfl Try.underlying22 infoD3 rfl w6.heap.size _ NA rfl HO8.out A8 NB.length c8 NB rfl hn8 HR8.out (by have := HLA.out; have := HLB.out; unfold maxLen; omega) (by have := HLA.out; have := HLB.out; omega) (Nat.le_trans (Nat.le_refl _) (HSZ.out)) ?_)
              intro v9 w9 ho hb
              have HR19 : Hid (RowE enD3 w9 A1 NL.length NL) := HR16.out.keep (Below.trans HG68.out hb)
              have HG9 : Hid (Grew w w9) := Below.trans HG8.out (Below.mono hb HG6.out.size)
              obtain ⟨B9, d9, rfl, hr9, -⟩ := ho.form
              have CPX := CP B9 _ d9 _ hr9 (by have := HLA.out; have := HLB.out; rw [List.length_append]; omega)
              clear ho hb hr9 HR8 HO8 HG68 HG8 HR16 HSZ CP
              generalize (NA ++ NB).length = n9 at *
              go_wp2_with (go_at_call 9; ((with_reducible refine CPX.mono ?_); rintro e w10 ⟨v10, rfl, ho, hg⟩; obtain ⟨A10, c10, rfl, hr10, -⟩ := ho.form; have HR10 := Lib.hid hr10; have HR110 := Lib.hid (HR19.out.keep hg); have HG10 := Lib.hid (grew_trans HG9.out hg); clear ho hg hr10 CPX; refine Hid.out ?_))
              refine Lib.hid ?_
              have CD3 := kdues_yes A10 A1 NL.length c10 c1 NL w10 HR10.out HR110.out (by have := HNL9.out; omega)
              go_wp2_with (first
                | (go_at_call 11; ((with_reducible refine CD3.mono ?_); rintro e w11 ⟨rfl, hg⟩; have HG11 := Lib.hid (grew_trans HG10.out hg); clear hg CD3))
                | (go_at_call 19; ((with_reducible refine (CW _).mono ?_); rintro e w12 ⟨rfl, hg⟩; have HG12 := Lib.hid (grew_trans HG11.out hg); clear hg)))
              go_ret
              exact ⟨rfl, HG12.out⟩
            · have d1 : (EB == 0) = false := by simpa using hEB
              clear HP' hEB
              go_wp2_with (go_at_call 19; ((with_reducible refine (CW _).mono ?_); rintro e w9 ⟨rfl, hg⟩; have HG9 := Lib.hid (grew_trans HG8.out hg); clear hg))
              go_ret
              exact ⟨rfl, HG9.out⟩
          · have d1 : (EA == 0) = false := by simpa using hEA
            clear HP' hEA
            go_wp2_with (go_at_call 19; ((with_reducible refine (CW _).mono ?_); rintro e w9 ⟨rfl, hg⟩; have HG9 := Lib.hid (grew_trans HG8.out hg); clear hg))
            go_ret
            exact ⟨rfl, HG9.out⟩
        · have d0 : (E == 0) = false := by simpa using hE
          clear HZ HP CA CB S1 S2 hE
          go_wp2_with (first
            | (go_at_call 11; ((with_reducible refine CD.mono ?_); rintro e w4 ⟨rfl, hg⟩; have HG4 := Lib.hid (grew_trans HG3.out hg); clear hg CD))
            | (go_at_call 19; ((with_reducible refine (CW _).mono ?_); rintro e w5 ⟨rfl, hg⟩; have HG5 := Lib.hid (grew_trans HG4.out hg); clear hg)))
          go_ret
          exact ⟨rfl, HG5.out⟩
      · have e0 : ((i + 1 : Nat) : Int) - 1 = (i : Int) := by omega
        rw [e0]
        clear e0
        have hlt : i < n := by omega
        obtain ⟨b, o, rfl, hb, hc⟩ := (HI.out.keep HGW.out).rD3 hlt
        obtain ⟨a0, a1, a2⟩ := hc i hlt
        have HS := Lib.hid (rev_step l i (by rw [HL.out]; exact hlt))
        have HLL : Hid (((l.drop (i + 1)).reverse).length ≤ 300) := by show _ ≤ _; rw [List.length_reverse, List.length_drop, HL.out]; omega
        have HSZ : Hid (w1.heap.size ≤ wr.heap.size) := HG.out.size
        have i0 : (0 : Int) ≤ (i : Int) := by omega
        have i1 : (i : Int) < (n : Int) := by omega
        clear hc CR HZ HP CA CB S1 S2 hA
        generalize (l.drop (i + 1)).reverse = lj at *
        generalize l.getD i (0, 0, 0) = x at *
        obtain ⟨q1, q2, q3⟩ := x
        dsimp only at a0 a1 a2
        go_wp2_with (at_builtin; refine Hid.out ?_)
        refine Lib.hid ?_
        refine (wpList_append_E rfl _ _ 22 42 (vD3 (0, 0, 0)) 24 rfl Try.underlying22 infoD3 rfl w1.heap.size _ lj rfl (HO.out.keep (grew_alloc _ _ _)) _ 1 1 [(q1, q2, q3)] rfl (by intro h; cases h) (RowE.one1 enD3 _ _ _ _ _ rfl rfl) (by have := HLL.out; unfold maxLen; omega) (by have := HLL.out; omega) (Nat.le_trans HSZ.out (by simp)) ?_)
        intro v' w' ho hb'
        have HP := Lib.hid ho
        have HB : Hid (Grew w1 w') := Below.trans (grew_trans HG.out (grew_alloc _ _ _)) hb'
        clear ho hb'
        rw [← HS.out] at HP
        go_wp2
        go_roundw
        case rel => exact ⟨i, by go_num, by omega, HP.out, HB.out⟩
        case measure => simp only [intOf]; omega
end Go.Proofs.Ytlmnbafklefmcaa.NumK
namespace Go.Proofs.Ytlmnbafklefmcaa.NumK
open Go.RowKit
theorem netParts_row (w : World) {A : Option Addr} {n c : Nat} {l : List D3} (at' : Int) (h : Row spDu3 w A n l) (hk : A = none → c = 0) (hn : n ≤ c) (hc : c ≤ 9223372036854775807) :
    Calls Try.prog 5 #[.slice A n c, .int .i64 at'] w fun e w' => e = .returned (.bool true) ∧ Grew w w' :=
  netParts_walk A n c l at' w (dues_in h).1 (dues_in h).2 hk hn hc
end Go.Proofs.Ytlmnbafklefmcaa.NumK
namespace Go.Proofs.Ytlmnbafklefmcaa.netParts
open Go.ChangeShapes Go.WideShapes Go.ChangeAt Go.RowKit
set_option linter.unusedVariables false

theorem own : ownKnob Try.prog.godebug = none := by kernel_rfl
theorem laidOut : laidOutB Try.prog = true := by kernel_rfl

set_option maxRecDepth 100000 in
theorem lifted (os : Os) (started : os.Started) (H : Type) (enc : TypeId × Value → H) :
    ReturnsInHanded {} Try.checked os 5 .any (Rows.netPartsSpec.pre6 enc Try.prog Try.f5 Rows.netPartsRow.domain false) (Rows.netPartsSpec.post enc Try.prog Try.f5 false true false false) := by
  refine returnsInHanded_of_change (C := Try.checked) own started (by kernel_rfl) Try.func5
    (ChangeSpec.witness6 (enc := enc) (C := Try.checked) false ⟨#[], #[.slice none 0 0, .int .i64 0], []⟩ 8 (by kernel_rfl) (by kernel_rfl) (by kernel_rfl) (by kernel_rfl)) ?_
  intro W base args ds gs before hval0 hW hcnd _
  have hval : ∀ (j : Nat) t v, Try.f5.params[j]? = some t → args[j]? = some v → Value.okWide Try.prog W .any base t v := hval0
  have hW' := hW
  obtain ⟨p, q, hA0, hV, rfl, hfz, hnd⟩ := hW
  have hA : DataW.TrodAll enc Try.prog W 0 (fun _ => true) true Try.f5.params.toList args.toList ds p := hA0
  skip
  rw [Try.params5] at hA hval
  obtain ⟨v0, vs0, d0, ds0, p0, q0, hargs, rfl, rfl, h0, r0⟩ := trodAll_cons hA
  obtain ⟨v1, vs1, d1, ds1, p1, q1, rfl, rfl, rfl, h1, r1⟩ := trodAll_cons r0
  obtain ⟨rfl, rfl, rfl⟩ := trodAll_nil r1
  obtain rfl : args = #[v0, v1] := by cases args; simp_all
  obtain ⟨rfl, rfl⟩ := trodVars_none hV
  have k0 := h0
  have lt0 : ∀ x ∈ p0, x.block < W.heap.size := by obtain ⟨m, hm⟩ := k0; exact DataW.trod_lt m _ _ _ hm
  obtain ⟨A0, len0, cap0, l0, rfl, ro0, n0, c0, m0⟩ := NumK.arg_slice Try.underlying22 NumK.opens_dues (hval 0 22 v0 rfl rfl) h0
  obtain ⟨a1, rfl, rfl, rfl, w1⟩ := open_int Try.underlying3 (hval 1 3 v1 rfl rfl) h1
  clear hA0 hval0
  refine (NumK.netParts_row W a1 ro0 n0 c0 m0).mono fun e W' ⟨he, bel⟩ => ?_
  subst he
  exact ⟨_, rfl, _, _, _, [], _, [], hW', trodAll_mk1 (shut_bool Try.underlying4 _), (trodAll_cons_mk (Below.trod laidOut (by kernel_rfl) (of_decide_eq_true (by kernel_rfl)) k0 bel lt0) (trodAll_cons_mk (shut_int Try.underlying3 w1) trodAll_mk0)), rfl, bel.frame _, fun h => by cases h⟩

theorem over : Rows.netPartsRow.holds Try.pinned (OpenSpec.ofChange Rows.netPartsSpec) :=
  OpenClaim.holds_of_wide 5 Try.f5 rfl rfl rfl rfl rfl rfl rfl ⟨rfl, rfl, rfl, rfl, rfl⟩ rfl rfl rfl rfl rfl (by kernel_rfl) Try.func5 (by kernel_rfl)
    (of_decide_eq_true (by kernel_rfl)) (by unfold Func.isWrapper; first | (rw [if_pos (by decide +kernel)]; kernel_rfl) | (rw [if_neg (by decide +kernel)]; exact ⟨rfl, rfl⟩))
    (fun os started H enc _ => lifted os started H enc)

/-! ### the statement -/
theorem proved : Rows.NetPartsSaid := over
end Go.Proofs.Ytlmnbafklefmcaa.netParts
