/-
  For every due, tick and parts: who brings it in parts has brought it, who brings more has no call, and nothing stands for later; parts that are no money, or negative, are refused; more than 300 parts the statement lets by.
-/
import Derived.Test.YtaipgcckafbgeaaRG6
import Derived.Test.YtaipgcckafbgeaaRG2
import Derived.Deep.RegionHeld3
import Derived.Test.YtaipgcckafbgeaaRG7
import Derived.Test.YtaipgcckafbgeaaRows
import Derived.WalkKit
import Derived.ProofKit
import Derived.OpenShut
import Derived.ShutString
import Derived.ChangeOld
import Derived.Below
import Derived.Carry
namespace Go.Proofs.Ytaipgcckafbgeaa.NumK
open Go.RowKit
set_option linter.unusedVariables false

theorem meet_part {d : Du} {t a p : Int} (h : okDu d = true) (ht : 0 ≤ t ∧ t ≤ 1099511627776) (ha : 0 ≤ a ∧ a ≤ 4611686018427387904) (hp : 0 ≤ p ∧ p ≤ 4611686018427387904) :
    meetE (oneC d t a) (d.1, d.2.1, p) = 0 ∧ meetL (oneC d t a) (d.1, d.2.1, p) = oneC d t (max0 (a - p)) ∧ ofC (oneC d t (max0 (a - p))) d.1 d.2.1 = max0 (a - p) := by
  have hm : max0 a = a := by unfold max0; split <;> omega
  obtain ⟨h1, h2, h3⟩ := meet_one (a := a) (p := p) h ht ha.2 hp
  rw [hm] at h2
  refine ⟨h1, h2, ?_⟩
  have hb : max0 (a - p) ≤ 4611686018427387904 := by unfold max0; split <;> omega
  obtain ⟨_, _, h6⟩ := meet_one (a := max0 (a - p)) (p := p) h ht hb hp
  rw [h6]
  unfold max0
  split <;> (try split) <;> omega
theorem meet_bad {d : Du} {t a p : Int} (h : okDu d = true) (ht : 0 ≤ t ∧ t ≤ 1099511627776) (ha : 0 ≤ a ∧ a ≤ 4611686018427387904) (hp : ¬ (0 ≤ p ∧ p ≤ 4611686018427387904)) :
    meetE (oneC d t a) (d.1, d.2.1, p) = 3 ∧ meetL (oneC d t a) (d.1, d.2.1, p) = [] := by
  obtain ⟨h1, -, -⟩ := meet_one (a := a) (p := 0) h ht ha.2 (by omega)
  have hr := (meetE_ok.1 h1).1
  have h3 : meetE (oneC d t a) (d.1, d.2.1, p) = 3 := by
    unfold meetE
    rw [if_pos hr, if_neg]
    intro h4
    exact hp ((okDu_iff _).1 h4).2
  exact ⟨h3, by unfold meetL; rw [if_neg (by rw [h3]; decide)]⟩

set_option maxRecDepth 100000 in
set_option maxHeartbeats 8000000 in
theorem callMeets_walk (d : Du) (t : Int) (B : Option Addr) (m e : Nat) (ps : List Int) (w : World) (h : Ints w B m ps) :
    Calls Try.prog 5 #[vDe d, .int .i64 t, .slice B m e] w fun e w' => e = .returned (.bool true) ∧ Grew w w' := by
  have HI := Lib.hid h
  have CW := fun w => wakes18_any w
  have CA := fun w => clask_any none 0 0 [] d t w (RowE.nil _ _ _) (fun _ => rfl) (by omega) (by omega) (by omega)
  have HAO := Lib.hid ((@askE_ok [] d t).1)
  have HAN := Lib.hid (@askL_no [] d t)
  have HNL := Lib.hid (@ask_nil d t)
  have HMP := Lib.hid (fun (a p : Int) h ht ha hp => @meet_part d t a p h ht ha hp)
  have HMB := Lib.hid (fun (a p : Int) h ht ha hp => @meet_bad d t a p h ht ha hp)
  have HDU := Lib.hid ((okDu_iff d).1)
  unfold AskPost at CA
  clear h
  obtain ⟨q1, q2, q3⟩ := d
  dsimp only [vDe] at *
  have HX0 : Hid (OwnC (w.alloc (.cells #[.int .i64 q1, .int .i64 q2, .int .i64 q3] 24)) w.heap.size [.int .i64 q1, .int .i64 q2, .int .i64 q3]) := OwnC.new w [.int .i64 q1, .int .i64 q2, .int .i64 q3] _ _ rfl
  have HG0 : Hid (Grew w (w.alloc (.cells #[.int .i64 q1, .int .i64 q2, .int .i64 q3] 24))) := grew_alloc _ _ _
  go_enter Try.func5, Try.ntmps5
  go_upto_region 1 with (fail)
  generalize w.alloc (.cells #[.int .i64 q1, .int .i64 q2, .int .i64 q3] 24) = w0 at *
  by_cases hn : m > 300
  · have j1 : (m : Int) > 300 := by omega
    clear CW CA
    go_wp2
    go_ret
    exact ⟨rfl, HG0.out⟩
  · have j1 : ¬ (m : Int) > 300 := by omega
    have x0 := HX0.out.at 0 _ rfl; have x1 := HX0.out.at 1 _ rfl; have x2 := HX0.out.at 2 _ rfl
    have C1 := CA w0
    clear CA
    go_upto_region 4 with (go_at_call 13; ((with_reducible refine C1.mono ?_); rintro e w1 ⟨v1, rfl, ho, hg⟩; have HO := Lib.hid ho; have HX1 := Lib.hid (HX0.out.keep hg); have HG1 := Lib.hid (grew_trans HG0.out hg); clear hg ho C1 HX0 x0 x1 x2))
    by_cases he : askE [] (q1, q2, q3) t = 0
    · obtain ⟨-, h2, h3⟩ := HAO.out he
      obtain ⟨-, h4⟩ := HNL.out h2 h3
      have hdu := HDU.out h2
      rw [h4] at HO
      rw [he]
      have HMP2 := Lib.hid (fun a p => HMP.out a p h2 h3)
      have HMB2 := Lib.hid (fun a p => HMB.out a p h2 h3)
      clear HAO HAN HNL HMP HMB HDU h2 h3 h4 he
      have x2 := HX1.out.at 2 (.int .i64 q3) rfl
      have HO1 := Lib.hid (HO.out.mono (grew_size HG0.out))
      obtain ⟨hdu1, hdu2⟩ := hdu
      clear hdu1 HO
      go_wp2
      clear x2
      go_loopw [7, 9, 10] (fun v7 v9 v10 wr => ∃ (i : Nat) (a : Int), v10 = .int .i64 i ∧ i ≤ m ∧ v9 = .int .i64 a ∧ 0 ≤ a ∧ a ≤ 4611686018427387904 ∧ Hid (OwnE enC4 wr w.heap.size 32 v7 (oneC (q1, q2, q3) t a)) ∧ Hid (Grew w1 wr)) (fun _ _ v10 _ => m - (intOf v10).toNat)
      case atStart => exact ⟨0, q3, rfl, by omega, rfl, hdu2.1, hdu2.2, HO1.out, grew_refl _⟩
      case round =>
        obtain ⟨i, a, rfl, hi, rfl, ha0, ha1, HO, HGR⟩ := hrel
        by_cases hlt : i < m
        · obtain ⟨b, o, rfl, hb, hc⟩ := HI.out.2 (by omega)
          have HGW := Lib.hid (grew_trans HG1.out HGR.out)
          have y0 := (grew_cell HGW.out (p := ⟨b, o + i, none⟩) hb).trans (hc i hlt)
          have hbr : b < wr.heap.size := Nat.lt_of_lt_of_le hb HGW.out.size
          have i0 : (0 : Int) ≤ (i : Int) := by omega
          have i1 : (i : Int) < (m : Int) := by omega
          clear hc hb
          have HXR := Lib.hid (HX1.out.keep HGR.out)
          have hwr := HXR.out.lt
          generalize ps.getD i 0 = p at *
          obtain ⟨A7, c7, rfl, -⟩ := HO.out.form
          obtain ⟨hr7, hk7, hl7, hc7⟩ := own_form HO.out
          have hlen : (oneC (q1, q2, q3) t a).length ≤ 1 := by unfold oneC; split <;> simp
          have CM := fun w' (g : Grew wr w') => clmeet_any A7 _ c7 (oneC (q1, q2, q3) t a) (q1, q2, p) w' (hr7.keep g) hk7 hl7 hc7 (by omega)
          have HMP3 := Lib.hid (fun hp => HMP2.out a p ⟨ha0, ha1⟩ hp)
          have HMB3 := Lib.hid (fun hp => HMB2.out a p ⟨ha0, ha1⟩ hp)
          unfold MeetPost at CM
          dsimp only [vDe] at CM
          clear hr7 hk7 hl7 hc7 HO1 CW
          have HKY : Hid (∀ w', Grew wr w' → w'.cell? ⟨b, o + i, none⟩ = some (.int .i64 p)) := fun w' g => (grew_cell g (p := ⟨b, _, none⟩) hbr).trans y0
          have HS0 : Hid (∀ w', Grew wr w' → (w'.cell? ⟨w.heap.size, 0, none⟩ = some (.int .i64 q1) ∧ w'.cell? ⟨w.heap.size, 1, none⟩ = some (.int .i64 q2) ∧ w'.cell? ⟨b, o + i, none⟩ = some (.int .i64 p))) := fun w' g => ⟨(HXR.out.keep g).at 0 _ rfl, (HXR.out.keep g).at 1 _ rfl, HKY.out w' g⟩
          clear y0
          have HXM : Hid (OwnC (wr.alloc (.cells #[.int .i64 q1, .int .i64 q2, .int .i64 p] 24)).drew wr.heap.size [.int .i64 q1, .int .i64 q2, .int .i64 p]) := (OwnC.new wr [.int .i64 q1, .int .i64 q2, .int .i64 p] _ _ rfl).drew
          have HGM : Hid (Grew wr (wr.alloc (.cells #[.int .i64 q1, .int .i64 q2, .int .i64 p] 24)).drew) := grew_drew (grew_alloc _ _ _)
          go_upto_region 10 with (fail)
          generalize hN : w.heap.size = N at HS0 ⊢
          go_region_held3 (fun w' => w'.cell? ⟨N, 0, none⟩ = some (.int .i64 q1) ∧ w'.cell? ⟨N, 1, none⟩ = some (.int .i64 q2) ∧ w'.cell? ⟨b, o + i, none⟩ = some (.int .i64 p))
            (first
              | (with_reducible exact HS0.out _ (grew_drew (grew_refl _)))
              | (with_reducible exact HS0.out _ (grew_drew (grew_alloc _ _ _)))
              | (with_reducible exact HS0.out _ (grew_alloc _ _ _)))
            (fail)
          subst hN
          generalize (wr.alloc (.cells #[.int .i64 q1, .int .i64 q2, .int .i64 p] 24)).drew = w5 at *
          apply_assumption
          have x0 := HXM.out.at 0 _ rfl; have x1 := HXM.out.at 1 _ rfl; have x2 := HXM.out.at 2 _ rfl
          have CM1 := CM w5 HGM.out
          clear CM
          have HMP4 := Lib.hid HMP3.out
          have HMB4 := Lib.hid HMB3.out
          clear HMP2 HMB2 HMP3 HMB3
          have HPR : Hid (∀ w', Grew w5 w' → w'.cell? ⟨w.heap.size, 0, none⟩ = some (.int .i64 q1) ∧ w'.cell? ⟨w.heap.size, 1, none⟩ = some (.int .i64 q2) ∧ w'.cell? ⟨b, o + i, none⟩ = some (.int .i64 p)) := fun w' g => HS0.out w' (grew_trans HGM.out g)
          have HON : Hid (∀ w', Grew w5 w' → OwnE enC4 w' w.heap.size 32 (.slice A7 (oneC (q1, q2, q3) t a).length c7) (oneC (q1, q2, q3) t a)) := fun w' g => HO.out.keep (grew_trans HGM.out g)
          have HGN : Hid (∀ w', Grew w5 w' → Grew w1 w') := fun w' g => grew_trans HGR.out (grew_trans HGM.out g)
          have HGS : Hid (∀ w', Grew w5 w' → w.heap.size ≤ w'.heap.size) := fun w' g => (grew_trans HG1.out (HGN.out w' g)).size
          clear HS0 HKY HXR HXM HGM hwr HGW HO HGR
          by_cases hp : 0 ≤ p ∧ p ≤ 4611686018427387904
          · obtain ⟨f1, f2, f3⟩ := HMP4.out hp
            rw [f1, f2] at CM1
            obtain ⟨hp0, hp1⟩ := hp
            have d4 : ¬ p < 0 := by omega
            have d5 : ¬ p > 4611686018427387904 := by omega
            clear HMP4 HMB4 f1 f2
            obtain ⟨nu, hnu⟩ : ∃ nu, nu = a - p := ⟨_, rfl⟩
            have q5 : IntKind.i64.wrap (a - p) = nu := by rw [IntKind.wrap_i64, hnu]; omega
            rw [← hnu] at CM1 f3
            have hnb : nu ≤ 4611686018427387904 := by omega
            clear hnu
            go_upto_region 12 with (go_at_call 17; ((with_reducible refine CM1.mono ?_); rintro e w6 ⟨v6, rfl, ho, hg⟩; have HO6 := Lib.hid ho; have HG6 := Lib.hid hg; clear hg ho CM1 x0 x1 x2))
            obtain ⟨x0, x1, y0⟩ := HPR.out w6 HG6.out
            obtain ⟨A6, c6, rfl, -⟩ := HO6.out.form
            obtain ⟨hr6, -, -, -⟩ := own_form HO6.out
            have HO7 := Lib.hid (HO6.out.mono (HGS.out w5 (grew_refl _)))
            by_cases hz : nu ≤ 0
            · have hm0 : max0 nu = 0 := by unfold max0; rw [if_pos hz]
              have hone : oneC (q1, q2, q3) t 0 = [] := by unfold oneC; rw [if_pos (by omega)]
              have hmx : max nu 0 = 0 := by omega
              rw [hm0] at f3 HO7 HO6
              have hlen6 : (oneC (q1, q2, q3) t (max0 nu)).length = 0 := by rw [hm0, hone]; rfl
              have CF := fun w' (g : Grew w6 w') => clof_any A6 _ c6 _ q1 q2 w' (hr6.keep g) (by rw [hlen6]; omega)
              rw [hlen6, hm0, f3] at CF
              rw [hlen6]
              have CF1 := CF w6 (grew_refl _)
              have HOE : Hid (∀ w', Grew w6 w' → OwnE enC4 w' w.heap.size 32 (.slice A6 0 c6) (oneC (q1, q2, q3) t 0)) := fun w' g => by
                have h := HO7.out.keep g
                have h2 := hlen6
                rw [hm0] at h2
                rw [h2] at h; exact h
              clear CF hr6 HO6 HO7 hm0 hone hlen6 f3 HON HPR
              go_wp2_with (go_at_call 12; ((with_reducible refine CF1.mono ?_); rintro e w7 ⟨rfl, hg⟩; have HG7 := Lib.hid hg; clear hg CF1))
              go_roundw
              case rel => exact ⟨i + 1, 0, by go_num, by omega, by first | rfl | (simp only [hmx]), by omega, by omega, HOE.out w7 HG7.out, HGN.out w7 (grew_trans HG6.out HG7.out)⟩
              case measure => simp only [intOf]; omega
            · have hm0 : max0 nu = nu := by unfold max0; rw [if_neg hz]
              have hone : oneC (q1, q2, q3) t nu = [(q1, q2, nu, t)] := by unfold oneC; rw [if_neg (by omega)]
              have hmx : max nu 0 = nu := by omega
              rw [hm0] at f3 HO7 HO6
              have hlen6 : (oneC (q1, q2, q3) t (max0 nu)).length = 1 := by rw [hm0, hone]; rfl
              have CF := fun w' (g : Grew w6 w') => clof_any A6 _ c6 _ q1 q2 w' (hr6.keep g) (by rw [hlen6]; omega)
              rw [hlen6, hm0, f3] at CF
              rw [hlen6]
              have CF1 := CF w6 (grew_refl _)
              have HOE : Hid (∀ w', Grew w6 w' → OwnE enC4 w' w.heap.size 32 (.slice A6 1 c6) (oneC (q1, q2, q3) t nu)) := fun w' g => by
                have h := HO7.out.keep g
                have h2 := hlen6
                rw [hm0] at h2
                rw [h2] at h; exact h
              clear CF hr6 HO6 HO7 hm0 hone hlen6 f3 HON HPR
              go_wp2_with (go_at_call 12; ((with_reducible refine CF1.mono ?_); rintro e w7 ⟨rfl, hg⟩; have HG7 := Lib.hid hg; clear hg CF1))
              go_roundw
              case rel => exact ⟨i + 1, nu, by go_num, by omega, by first | rfl | (simp only [hmx]), by omega, by omega, HOE.out w7 HG7.out, HGN.out w7 (grew_trans HG6.out HG7.out)⟩
              case measure => simp only [intOf]; omega
          · obtain ⟨f1, f2⟩ := HMB4.out hp
            rw [f1, f2] at CM1
            clear HMP4 HMB4 f1 f2
            have hd : p < 0 ∨ (¬ p < 0 ∧ p > 4611686018427387904) := by omega
            clear hp
            go_upto_region 12 with (go_at_call 17; ((with_reducible refine CM1.mono ?_); rintro e w6 ⟨v6, rfl, ho, hg⟩; have HO6 := Lib.hid ho; have HG6 := Lib.hid hg; clear hg ho CM1 x0 x1 x2))
            obtain ⟨x0, x1, y0⟩ := HPR.out w6 HG6.out
            obtain ⟨A6, c6, rfl, -⟩ := HO6.out.form
            have HOE := Lib.hid (HON.out w6 HG6.out)
            have HGE := Lib.hid (HGN.out w6 HG6.out)
            clear HON HGN HGS HPR HO6
            rcases hd with d4 | ⟨d4, d5⟩
            · go_wp2
              go_roundw
              case rel => exact ⟨i + 1, a, by go_num, by omega, rfl, ha0, ha1, HOE.out, HGE.out⟩
              case measure => simp only [intOf]; omega
            · go_wp2
              go_roundw
              case rel => exact ⟨i + 1, a, by go_num, by omega, rfl, ha0, ha1, HOE.out, HGE.out⟩
              case measure => simp only [intOf]; omega
        · obtain rfl : i = m := by omega
          clear HMP2 HMB2
          go_wp2_with (go_at_call 23; ((with_reducible refine (CW _).mono ?_); rintro e wz ⟨rfl, hg⟩; have HGZ := Lib.hid (grew_trans (grew_trans HG1.out HGR.out) hg); clear hg CW))
          go_ret
          exact ⟨rfl, HGZ.out⟩
    · rw [HAN.out he] at HO
      obtain ⟨A1, c1, rfl, -⟩ := HO.out.form
      clear HAO HAN HNL HMP HMB HDU HO
      generalize askE [] (q1, q2, q3) t = E at *
      have d2 : (E == 0) = false := by simpa using he
      have d3 : (E != 0) = true := bne_iff_ne.2 he
      clear he
      go_wp2_with (go_at_call 23; ((with_reducible refine (CW _).mono ?_); rintro e wz ⟨rfl, hg⟩; have HGZ := Lib.hid (grew_trans HG1.out hg); clear hg CW))
      go_ret
      exact ⟨rfl, HGZ.out⟩
end Go.Proofs.Ytaipgcckafbgeaa.NumK
namespace Go.Proofs.Ytaipgcckafbgeaa.NumK
open Go.RowKit
theorem callMeets_row (w : World) {C : Option Addr} {m e : Nat} {cs : Array Value} {d : Du} {ws : List Int} (t : Int) (hd : spDu3.rd w cs.toList d) (hw : Row spI w C m ws) :
    Calls Try.prog 5 #[.agg cs, .int .i64 t, .slice C m e] w fun e w' => e = .returned (.bool true) ∧ Grew w w' := by
  rw [due_of hd]
  exact callMeets_walk d t C m e ws w (ints_of_spec hw)
end Go.Proofs.Ytaipgcckafbgeaa.NumK
namespace Go.Proofs.Ytaipgcckafbgeaa.callMeets
open Go.ChangeShapes Go.WideShapes Go.ChangeAt Go.RowKit
set_option linter.unusedVariables false

theorem own : ownKnob Try.prog.godebug = none := by kernel_rfl
theorem laidOut : laidOutB Try.prog = true := by kernel_rfl

set_option maxRecDepth 100000 in
theorem lifted (os : Os) (started : os.Started) (H : Type) (enc : TypeId × Value → H) :
    ReturnsInHanded {} Try.checked os 5 .any (Rows.callMeetsSpec.pre6 enc Try.prog Try.f5 Rows.callMeetsRow.domain false) (Rows.callMeetsSpec.post enc Try.prog Try.f5 false true false false) := by
  refine returnsInHanded_of_change (C := Try.checked) own started (by kernel_rfl) Try.func5
    (ChangeSpec.witness6 (enc := enc) (C := Try.checked) false ⟨#[], #[.agg #[.int .i64 0, .int .i64 0, .int .i64 0], .int .i64 0, .slice none 0 0], []⟩ 8 (by kernel_rfl) (by kernel_rfl) (by kernel_rfl) (by kernel_rfl)) ?_
  intro W base args ds gs before hval0 hW hcnd _
  have hval : ∀ (j : Nat) t v, Try.f5.params[j]? = some t → args[j]? = some v → Value.okWide Try.prog W .any base t v := hval0
  have hW' := hW
  obtain ⟨p, q, hA0, hV, rfl, hfz, hnd⟩ := hW
  have hA : DataW.TrodAll enc Try.prog W 0 (fun _ => true) true Try.f5.params.toList args.toList ds p := hA0
  skip
  rw [Try.params5] at hA hval
  obtain ⟨v0, vs0, d0, ds0, p0, q0, hargs, rfl, rfl, h0, r0⟩ := trodAll_cons hA
  obtain ⟨v1, vs1, d1, ds1, p1, q1, rfl, rfl, rfl, h1, r1⟩ := trodAll_cons r0
  obtain ⟨v2, vs2, d2, ds2, p2, q2, rfl, rfl, rfl, h2, r2⟩ := trodAll_cons r1
  obtain ⟨rfl, rfl, rfl⟩ := trodAll_nil r2
  obtain rfl : args = #[v0, v1, v2] := by cases args; simp_all
  obtain ⟨rfl, rfl⟩ := trodVars_none hV
  have k0 := h0
  have lt0 : ∀ x ∈ p0, x.block < W.heap.size := by obtain ⟨m, hm⟩ := k0; exact DataW.trod_lt m _ _ _ hm
  obtain ⟨cs0, x0, rfl, e0⟩ := NumK.arg_struct Try.underlying24 NumK.opens_due (hval 0 24 v0 rfl rfl) h0
  obtain ⟨a1, rfl, rfl, rfl, w1⟩ := open_int Try.underlying3 (hval 1 3 v1 rfl rfl) h1
  have k2 := h2
  have lt2 : ∀ x ∈ p2, x.block < W.heap.size := by obtain ⟨m, hm⟩ := k2; exact DataW.trod_lt m _ _ _ hm
  obtain ⟨A2, len2, cap2, l2, rfl, ro2, n2, c2, m2⟩ := NumK.arg_slice Try.underlying25 NumK.opens_ints (hval 2 25 v2 rfl rfl) h2
  clear hA0 hval0
  refine (NumK.callMeets_row W a1 e0 ro2).mono fun e W' ⟨he, bel⟩ => ?_
  subst he
  exact ⟨_, rfl, _, _, _, [], _, [], hW', trodAll_mk1 (shut_bool Try.underlying4 _), (trodAll_cons_mk (Below.trod laidOut (by kernel_rfl) (of_decide_eq_true (by kernel_rfl)) k0 bel lt0) (trodAll_cons_mk (shut_int Try.underlying3 w1) (trodAll_cons_mk (Below.trod laidOut (by kernel_rfl) (of_decide_eq_true (by kernel_rfl)) k2 bel lt2) trodAll_mk0))), rfl, bel.frame _, fun h => by cases h⟩

theorem over : Rows.callMeetsRow.holds Try.pinned (OpenSpec.ofChange Rows.callMeetsSpec) :=
  OpenClaim.holds_of_wide 5 Try.f5 rfl rfl rfl rfl rfl rfl rfl ⟨rfl, rfl, rfl, rfl, rfl⟩ rfl rfl rfl rfl rfl (by kernel_rfl) Try.func5 (by kernel_rfl)
    (of_decide_eq_true (by kernel_rfl)) (by unfold Func.isWrapper; first | (rw [if_pos (by decide +kernel)]; kernel_rfl) | (rw [if_neg (by decide +kernel)]; exact ⟨rfl, rfl⟩))
    (fun os started H enc _ => lifted os started H enc)

/-! ### the statement -/
theorem proved : Rows.CallMeetsSaid := over
end Go.Proofs.Ytaipgcckafbgeaa.callMeets
