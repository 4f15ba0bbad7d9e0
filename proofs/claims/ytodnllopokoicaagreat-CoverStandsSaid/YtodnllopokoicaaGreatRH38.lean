/- What stands for a member, as the reference tells it. -/
import Derived.Test.YtodnllopokoicaaGreatRH34
import Derived.Test.YtodnllopokoicaaGreatRH36
import Derived.Test.YtodnllopokoicaaGreatRH37
import Derived.Test.YtodnllopokoicaaGreatRH23
import Derived.Test.YtodnllopokoicaaGreatRH2
import Derived.Deep.RegionHeld3
namespace Go.Proofs.YtodnllopokoicaaGreat.NumK
open Go.RowKit
set_option linter.unusedVariables false

theorem int_cap (n : Int) : intV n = capV n := rfl
theorem capE_no {n : Int} (h : isMoney n = false) : capE n = 1 := by unfold capE; rw [h]; rfl
theorem capV_no {n : Int} (h : isMoney n = false) : capV n = 0 := by unfold capV; rw [h]; rfl
theorem held_any (r : Rl) (A1 A2 A3 : Option Addr) (n1 n2 n3 c1 c2 c3 : Nat) (m : Int) (w : World) (h3 : Rows3 w r A1 A2 A3 n1 n2 n3) (hn3 : n3 ≤ 1000000) :
    Calls Tryz.prog 32 #[rlV A1 A2 A3 n1 n2 n3 c1 c2 c3, .int .i64 m] w fun e w' => e = .returned (.tuple #[vAs (findL noAs as0 r.2.2 m), .bool (hasL noAs r.2.2 m)]) ∧ Grew w w' :=
  rfindAs_any A1 A2 A3 n1 n2 n3 c1 c2 c3 r.2.2 m w h3.h hn3

set_option maxRecDepth 100000 in
set_option maxHeartbeats 16000000 in
theorem rcover_any (last : Int) (A B A1 A2 A3 : Option Addr) (n c nb cb n1 n2 n3 c1 c2 c3 : Nat) (lg : List Lg) (r : Rl) (l : List Pg) (who cur : Int) (w : World) (h : RowE enLg w A n lg) (hn : n ≤ 90000)
    (h3 : Rows3 w r A1 A2 A3 n1 n2 n3) (hn3 : n1 ≤ 1000000 ∧ n2 ≤ 1000000 ∧ n3 ≤ 1000000) (hp : RowE enPg w B nb l) (hnb : nb ≤ 90000) :
    Calls Tryz.prog 8 #[ldV last A n c, rlV A1 A2 A3 n1 n2 n3 c1 c2 c3, .slice B nb cb, .int .i64 who, .int .i64 cur] w fun e w' =>
      e = .returned (.tuple #[.int .i64 (covN (ledgerB last lg) (ofL lg (2, who, cur)) r who cur l), .int .i64 (covE (ledgerB last lg) (ofL lg (2, who, cur)) r who cur l)]) ∧ Grew w w' := by
  have C1 := fun w' (g : Grew w w') => rledger_any last A n c lg w' (h.keep g) hn
  have C2 := fun w' (g : Grew w w') => rroll_any r A1 A2 A3 n1 n2 n3 c1 c2 c3 w' (h3.keep g) hn3
  have C3 := fun w' (g : Grew w w') => rpledges_any B nb cb l w' (hp.keep g) (by omega)
  have CO := fun w' (g : Grew w w') => lrof_any last A n c lg 2 who cur w' (h.keep g) (by omega)
  have HAS := Lib.hid (fun (m : Int) w' (g : Grew w w') => held_any r A1 A2 A3 n1 n2 n3 c1 c2 c3 m w' (h3.keep g) hn3.2.2)
  have HI := Lib.hid hp
  have HL := Lib.hid hp.len
  have HBM := Lib.hid (fun (h : ledgerB last lg = true) => of_money h (2, who, cur))
  have H14 := Lib.hid (@cov_14 (ledgerB last lg) (ofL lg (2, who, cur)) r who cur l)
  have H1 := Lib.hid (@cov_1 (ofL lg (2, who, cur)) r who cur l)
  have HE := Lib.hid (@cov_end (ofL lg (2, who, cur)) r who cur l)
  have HT : Hid (∀ h : ledgerB last lg = true, covN (ledgerB last lg) (ofL lg (2, who, cur)) r who cur l = covN true (ofL lg (2, who, cur)) r who cur l ∧ covE (ledgerB last lg) (ofL lg (2, who, cur)) r who cur l = covE true (ofL lg (2, who, cur)) r who cur l) := fun h => by rw [h]; exact ⟨rfl, rfl⟩
  generalize covN (ledgerB last lg) (ofL lg (2, who, cur)) r who cur l = CN at *
  generalize covE (ledgerB last lg) (ofL lg (2, who, cur)) r who cur l = CE at *
  clear h h3 hp
  dsimp only [ldV, rlV, acV] at *
  have HA0 : Hid (OwnC ((w.alloc (.cells #[.int .i64 last, .slice A n c] 35)).alloc (.cells #[.slice A1 n1 c1, .slice A2 n2 c2, .slice A3 n3 c3] 28)) w.heap.size [.int .i64 last, .slice A n c]) := (OwnC.new w [.int .i64 last, .slice A n c] _ _ rfl).keep (grew_alloc _ _ _)
  have HR0 : Hid (OwnC ((w.alloc (.cells #[.int .i64 last, .slice A n c] 35)).alloc (.cells #[.slice A1 n1 c1, .slice A2 n2 c2, .slice A3 n3 c3] 28)) (w.heap.size + 1) [.slice A1 n1 c1, .slice A2 n2 c2, .slice A3 n3 c3]) := OwnC.new _ [.slice A1 n1 c1, .slice A2 n2 c2, .slice A3 n3 c3] _ _ (by simp)
  have HG0 : Hid (Grew w ((w.alloc (.cells #[.int .i64 last, .slice A n c] 35)).alloc (.cells #[.slice A1 n1 c1, .slice A2 n2 c2, .slice A3 n3 c3] 28))) := grew_trans (grew_alloc _ _ _) (grew_alloc _ _ _)
  go_enter Tryz.func8, Tryz.ntmps8
  go_upto_region 1 with (fail)
  generalize ((w.alloc (.cells #[.int .i64 last, .slice A n c] 35)).alloc (.cells #[.slice A1 n1 c1, .slice A2 n2 c2, .slice A3 n3 c3] 28)) = w0 at *
  have a0 := HA0.out.at 0 (.int .i64 last) rfl; have a1 := HA0.out.at 1 (.slice A n c) rfl
  generalize hLB : ledgerB last lg = LB at *
  generalize hRB : rightR r = RB at *
  generalize hPB : rightPg l = PB at *
  have H : (LB = false) ∨ (LB = true ∧ RB = false) ∨ (LB = true ∧ RB = true ∧ PB = false) ∨ (LB = true ∧ RB = true ∧ PB = true) := by cases LB <;> cases RB <;> cases PB <;> simp
  rcases H with rfl | ⟨rfl, rfl⟩ | ⟨rfl, rfl, rfl⟩ | ⟨rfl, rfl, rfl⟩
  · obtain ⟨rfl, rfl⟩ := H14.out (.inl rfl)
    clear H14 H1 HE HT HBM hLB hRB hPB HAS CO
    go_wp2_with (first
      | (go_at_call 28; ((with_reducible refine (C1 _ HG0.out).mono ?_); rintro e w1 ⟨rfl, hg⟩; have HA1 := Lib.hid (HA0.out.keep hg); have HR1 := Lib.hid (HR0.out.keep hg); have HG1 := Lib.hid (grew_trans HG0.out hg); clear hg a0 a1 HA0 HR0 HG0; have r0 := HR1.out.at 0 (.slice A1 n1 c1) rfl; have r1 := HR1.out.at 1 (.slice A2 n2 c2) rfl; have r2 := HR1.out.at 2 (.slice A3 n3 c3) rfl)))
    go_ret2
    exact ⟨rfl, HG1.out⟩
  · obtain ⟨rfl, rfl⟩ := H14.out (.inr (.inl rfl))
    clear H14 H1 HE HT HBM hLB hRB hPB HAS CO
    go_wp2_with (first
      | (go_at_call 28; ((with_reducible refine (C1 _ HG0.out).mono ?_); rintro e w1 ⟨rfl, hg⟩; have HA1 := Lib.hid (HA0.out.keep hg); have HR1 := Lib.hid (HR0.out.keep hg); have HG1 := Lib.hid (grew_trans HG0.out hg); clear hg a0 a1 HA0 HR0 HG0; have r0 := HR1.out.at 0 (.slice A1 n1 c1) rfl; have r1 := HR1.out.at 1 (.slice A2 n2 c2) rfl; have r2 := HR1.out.at 2 (.slice A3 n3 c3) rfl))
      | (go_at_call 29; ((with_reducible refine (C2 _ HG1.out).mono ?_); rintro e w2 ⟨rfl, hg⟩; have HA2 := Lib.hid (HA1.out.keep hg); have HR2 := Lib.hid (HR1.out.keep hg); have HG2 := Lib.hid (grew_trans HG1.out hg); clear hg r0 r1 r2 HA1 HR1 HG1)))
    go_ret2
    exact ⟨rfl, HG2.out⟩
  · obtain ⟨rfl, rfl⟩ := H14.out (.inr (.inr rfl))
    clear H14 H1 HE HT HBM hLB hRB hPB HAS CO
    go_wp2_with (first
      | (go_at_call 28; ((with_reducible refine (C1 _ HG0.out).mono ?_); rintro e w1 ⟨rfl, hg⟩; have HA1 := Lib.hid (HA0.out.keep hg); have HR1 := Lib.hid (HR0.out.keep hg); have HG1 := Lib.hid (grew_trans HG0.out hg); clear hg a0 a1 HA0 HR0 HG0; have r0 := HR1.out.at 0 (.slice A1 n1 c1) rfl; have r1 := HR1.out.at 1 (.slice A2 n2 c2) rfl; have r2 := HR1.out.at 2 (.slice A3 n3 c3) rfl))
      | (go_at_call 29; ((with_reducible refine (C2 _ HG1.out).mono ?_); rintro e w2 ⟨rfl, hg⟩; have HA2 := Lib.hid (HA1.out.keep hg); have HR2 := Lib.hid (HR1.out.keep hg); have HG2 := Lib.hid (grew_trans HG1.out hg); clear hg r0 r1 r2 HA1 HR1 HG1))
      | (go_at_call 30; ((with_reducible refine (C3 _ HG2.out).mono ?_); rintro e w3 ⟨rfl, hg⟩; have HA3 := Lib.hid (HA2.out.keep hg); have HR3 := Lib.hid (HR2.out.keep hg); have HG3 := Lib.hid (grew_trans HG2.out hg); clear hg HA2 HR2 HG2)))
    go_ret2
    exact ⟨rfl, HG3.out⟩
  · obtain ⟨z1, z2⟩ := HT.out rfl
    have H11 := Lib.hid (H1.out rfl rfl)
    have HEE := Lib.hid (HE.out rfl rfl)
    rw [← z1, ← z2] at H11 HEE
    have hbm := HBM.out rfl
    have HOKP := Lib.hid ((rightPg_iff l).1 hPB).1
    have HRR := Lib.hid hRB
    clear H14 HT H1 HE z1 z2 HBM hLB hPB hRB
    generalize ofL lg (2, who, cur) = bb at *
    go_upto_region 3 with (first
      | (go_at_call 28; ((with_reducible refine (C1 _ HG0.out).mono ?_); rintro e w1 ⟨rfl, hg⟩; have HA1 := Lib.hid (HA0.out.keep hg); have HR1 := Lib.hid (HR0.out.keep hg); have HG1 := Lib.hid (grew_trans HG0.out hg); clear hg a0 a1 HA0 HR0 HG0; have r0 := HR1.out.at 0 (.slice A1 n1 c1) rfl; have r1 := HR1.out.at 1 (.slice A2 n2 c2) rfl; have r2 := HR1.out.at 2 (.slice A3 n3 c3) rfl))
      | (go_at_call 29; ((with_reducible refine (C2 _ HG1.out).mono ?_); rintro e w2 ⟨rfl, hg⟩; have HA2 := Lib.hid (HA1.out.keep hg); have HR2 := Lib.hid (HR1.out.keep hg); have HG2 := Lib.hid (grew_trans HG1.out hg); clear hg r0 r1 r2 HA1 HR1 HG1))
      | (go_at_call 30; ((with_reducible refine (C3 _ HG2.out).mono ?_); rintro e w3 ⟨rfl, hg⟩; have HA3 := Lib.hid (HA2.out.keep hg); have HR3 := Lib.hid (HR2.out.keep hg); have HG3 := Lib.hid (grew_trans HG2.out hg); clear hg HA2 HR2 HG2)))
    have a0 := HA3.out.at 0 (.int .i64 last) rfl; have a1 := HA3.out.at 1 (.slice A n c) rfl
    go_upto_region 4 with (go_at_call 31; ((with_reducible refine (CO _ HG3.out).mono ?_); rintro e w4 ⟨rfl, hg⟩; have HR4 := Lib.hid (HR3.out.keep hg); have HG4 := Lib.hid (grew_trans HG3.out hg); clear hg CO HA3 HR3 HG3 a0 a1))
    have HO5 : Hid (OwnE enInt (w4.alloc (.cells #[.int .i64 bb] 3)) w4.heap.size 3 (.slice (some ⟨w4.heap.size, 0, none⟩) 1 1) (partsL r who cur bb (l.take 0))) := OwnE.lit enInt w4 [bb] 3 #[.int .i64 bb] _ rfl rfl (by show 1 * 1 ≤ maxLen; unfold maxLen; decide)
    have HWP : Hid (w.heap.size ≤ w4.heap.size) := grew_size HG4.out
    have HRP : Hid (w.heap.size + 1 < w4.heap.size) := HR4.out.lt
    have HP5 : Hid (w4.heap.size ≤ (w4.alloc (.cells #[.int .i64 bb] 3)).heap.size) := grew_size (grew_alloc _ _ _)
    have HR5 := Lib.hid (HR4.out.keep (grew_alloc w4 #[.int .i64 bb] 3))
    have HG5 := Lib.hid (grew_trans HG4.out (grew_alloc w4 #[.int .i64 bb] 3))
    clear HR4 HG4
    generalize w4.alloc (.cells #[.int .i64 bb] 3) = w5 at *
    generalize w4.heap.size = pb at *
    go_wp2
    go_loopw [12, 13] (fun v12 v13 wr => ∃ j : Nat, v13 = .int .i64 j ∧ j ≤ nb ∧ Hid (OwnE enInt wr pb 3 v12 (partsL r who cur bb (l.take j))) ∧ Hid (pb ≤ wr.heap.size) ∧ Hid (valsOK r who cur (l.take j) = true) ∧ Hid (OwnC wr (w.heap.size + 1) [.slice A1 n1 c1, .slice A2 n2 c2, .slice A3 n3 c3]) ∧ Hid (Grew w wr)) (fun _ v13 _ => nb - (intOf v13).toNat)
    case atStart => exact ⟨0, rfl, by omega, HO5.out, HP5.out, rfl, HR5.out, HG5.out⟩
    case round =>
      clear HO5 HR5 HG5 HP5
      obtain ⟨j, rfl, hj, HO, HPB, HV, HR, HG⟩ := hrel
      by_cases hlt : j < nb
      · obtain ⟨b, o, rfl, hb, hc⟩ := (HI.out.keep HG.out).pg hlt
        obtain ⟨b0, b1, b2⟩ := hc j hlt
        clear hc
        have hjl : j < l.length := by rw [HL.out]; exact hlt
        have HPS := Lib.hid (parts_step r who cur bb l j hjl)
        have HPL := Lib.hid (parts_len r who cur bb l j)
        have HVS := Lib.hid (fun h => vals_step r who cur l j hjl HV.out h)
        have HVN := Lib.hid (vals_no r who cur l j hjl)
        have HVC := Lib.hid (fun hc => @val_cnt r HRR.out who cur (l.getD j pg0) (by rw [getD_at l pg0 j hjl]; exact HOKP.out _ (List.getElem_mem _)) hc)
        have HCV : Hid (cntV r who cur (l.getD j pg0) = (hasL noAs r.2.2 (l.getD j pg0).2.1 && (decide ((l.getD j pg0).1 = who) && decide ((assetOf r (l.getD j pg0)).2.1 = cur)))) := rfl
        have CA := fun w' (g : Grew wr w') => HAS.out (l.getD j pg0).2.1 w' (grew_trans HG.out g)
        have HFA : Hid (assetOf r (l.getD j pg0) = findL noAs as0 r.2.2 (l.getD j pg0).2.1) := rfl
        have CVA := fun w => rvalue_any (assetOf r (l.getD j pg0)) (l.getD j pg0).2.2 w
        rw [← HFA.out] at CA
        have i0 : (0 : Int) ≤ (j : Int) := by omega
        have i1 : (j : Int) < (nb : Int) := by omega
        clear HFA
        generalize hpj : partsL r who cur bb (l.take j) = pj at *
        clear hpj
        generalize valP r (l.getD j pg0) = VP at *
        generalize cntV r who cur (l.getD j pg0) = CV at *
        generalize assetOf r (l.getD j pg0) = aT at *
        generalize l.getD j pg0 = x at *
        obtain ⟨q1, q2, q3⟩ := x
        generalize valueN aT (q1, q2, q3).2.2 = VN at *
        generalize valueE aT (q1, q2, q3).2.2 = VE at *
        obtain ⟨s1, s2, s3, s4⟩ := aT
        dsimp only [vAs] at b0 b1 b2 HCV CA CVA
        generalize hasL noAs r.2.2 q2 = HB at *
        have HK : Hid (∀ w', Grew wr w' → w'.cell? ⟨w.heap.size + 1, 0, none⟩ = some (.slice A1 n1 c1) ∧ w'.cell? ⟨w.heap.size + 1, 1, none⟩ = some (.slice A2 n2 c2) ∧ w'.cell? ⟨w.heap.size + 1, 2, none⟩ = some (.slice A3 n3 c3) ∧ w'.cell? ⟨b, o + j * 3 + 1, none⟩ = some (.int .i64 q2)) := fun w' g => ⟨(HR.out.keep g).at 0 _ rfl, (HR.out.keep g).at 1 _ rfl, (HR.out.keep g).at 2 _ rfl, (grew_cell g (p := ⟨b, _, none⟩) hb).trans b1⟩
        have HQ : Hid (∀ w', Grew wr w' → w'.cell? ⟨b, o + j * 3, none⟩ = some (.int .i64 q1) ∧ w'.cell? ⟨b, o + j * 3 + 2, none⟩ = some (.int .i64 q3)) := fun w' g => ⟨(grew_cell g (p := ⟨b, _, none⟩) hb).trans b0, (grew_cell g (p := ⟨b, _, none⟩) hb).trans b2⟩
        clear b0 b1 b2 hb
        go_upto_region 7 with (fail)
        go_region_held3 (fun w' => w'.cell? ⟨w.heap.size + 1, 0, none⟩ = some (.slice A1 n1 c1) ∧ w'.cell? ⟨w.heap.size + 1, 1, none⟩ = some (.slice A2 n2 c2) ∧ w'.cell? ⟨w.heap.size + 1, 2, none⟩ = some (.slice A3 n3 c3) ∧ w'.cell? ⟨b, o + j * 3 + 1, none⟩ = some (.int .i64 q2))
          (first
            | ((with_reducible show World.cell? (World.setCell _ _ _) _ = _ ∧ _); have HK9 := HK.out _ (grew_put wr.heap.size (Nat.le_refl _) [.int .i64 s1, .int .i64 s2, .int .i64 s3, .int .i64 s4] 0 _ HG2.out); simp only [putC, Nat.zero_add, Nat.reduceAdd] at HK9; with_reducible exact HK9)
            | (with_reducible exact HK.out _ (grew_drew (grew_refl _)))
            | (with_reducible exact HK.out _ (grew_trans (grew_drew (grew_refl _)) (grew_alloc _ _ _)))
            | (with_reducible exact HK.out _ (grew_drew (grew_alloc _ _ _)))
            | (with_reducible exact HK.out _ HG2.out)
            | (with_reducible exact HK.out _ (grew_trans HG2.out (grew_alloc _ _ _))))
          (first
            | (go_at_call 32; (with_reducible refine (CA _ (grew_drew (grew_refl _))).mono ?_); rintro e w2 ⟨rfl, hg⟩; have HG2 : Hid (Grew wr w2) := grew_trans (grew_drew (grew_refl _)) hg; clear hg)
            | (go_at_call 32; (with_reducible refine (CA _ (grew_drew (grew_alloc _ _ _))).mono ?_); rintro e w2 ⟨rfl, hg⟩; have HG2 : Hid (Grew wr w2) := grew_trans (grew_drew (grew_alloc _ _ _)) hg; have HB2 : Hid (OwnC w2 wr.heap.size [.int .i64 0, .int .i64 0, .int .i64 0, .int .i64 0]) := ((OwnC.new wr [.int .i64 0, .int .i64 0, .int .i64 0, .int .i64 0] _ _ rfl).drew).keep hg; have y0 := HB2.out.at 0 (.int .i64 0) rfl; have f0 := HB2.out.fr 0 (by simp); have y1 := HB2.out.at 1 (.int .i64 0) rfl; have f1 := HB2.out.fr 1 (by simp); have y2 := HB2.out.at 2 (.int .i64 0) rfl; have f2 := HB2.out.fr 2 (by simp); have y3 := HB2.out.at 3 (.int .i64 0) rfl; have f3 := HB2.out.fr 3 (by simp); clear hg))
        all_goals
          (first
            | (have hh1 := HB2.out.all [.int .i64 s1, .int .i64 s2, .int .i64 s3, .int .i64 s4] rfl
               have hh2 := grew_put wr.heap.size (Nat.le_refl _) [.int .i64 s1, .int .i64 s2, .int .i64 s3, .int .i64 s4] 0 _ HG2.out
               simp only [putC, Nat.zero_add, Nat.reduceAdd] at hh1 hh2
               refine end_eq (P := Exit.then _ _ Exit.normal _) ?_
               intro w8 hw5
               rw [← hw5] at hh1 hh2
               obtain ⟨ib, hibe⟩ : ∃ b, wr.heap.size = b := ⟨_, rfl⟩
               rw [hibe] at hh1 ⊢
               have h5 := hh1
               have g5 := hh2
               clear hw5 hh1 hh2 hibe)
            | (refine end_new (w := wr) (P := Exit.then _ _ Exit.normal _) [.int .i64 s1, .int .i64 s2, .int .i64 s3, .int .i64 s4] 76 HG2.out ?_
               intro w8 h5 g5
               obtain ⟨ib, hibe⟩ : ∃ b, w2.heap.size = b := ⟨_, rfl⟩
               rw [hibe] at h5 ⊢
               clear hibe)
           have HS8 := Lib.hid h5
           have HR8 := Lib.hid (HR.out.keep g5)
           have HO8 := Lib.hid (HO.out.keep g5)
           have HP8 := Lib.hid (Nat.le_trans HPB.out (grew_size g5))
           have HG8 := Lib.hid (grew_trans HG.out g5)
           have HQ8 := Lib.hid (fun w' (g : Grew w8 w') => HQ.out w' (grew_trans g5 g))
           obtain ⟨x0, x2⟩ := HQ8.out _ (grew_refl _)
           have s0' := h5.at 0 (.int .i64 s1) rfl; have s1' := h5.at 1 (.int .i64 s2) rfl
           clear h5 g5
           apply_assumption
           cases HB
           · have hcv : CV = false := by rw [HCV.out]; simp []
             have HV9 := Lib.hid (HVS.out (fun h => by rw [hcv] at h; cases h))
             have HO9 : Hid (OwnE enInt w8 pb 3 u12 (partsL r who cur bb (l.take (j + 1)))) := by show OwnE _ _ _ _ _ _; rw [HPS.out, hcv, if_neg (by decide), List.append_nil]; exact HO8.out
             clear HPS HVS HVN HVC HCV hcv HK HQ CVA CA
             go_wp2
             go_roundw
             case rel => exact ⟨j + 1, by go_num, by omega, HO9.out, HP8.out, HV9.out, HR8.out, HG8.out⟩
             case measure => simp only [intOf]; omega
           · by_cases h1 : q1 = who
             · have h1s := h1.symm
               subst h1s
               by_cases h2 : s2 = cur
               · have h2s := h2.symm
                 subst h2s
                 have hcv : CV = true := by rw [HCV.out]; simp
                 obtain ⟨v1, v2⟩ := HVC.out hcv
                 by_cases h3 : VP ≤ 4611686018427387904
                 · obtain ⟨rfl, rfl⟩ := v1 (by omega)
                   have HV9 := Lib.hid (HVS.out (fun _ => by omega))
                   have HPS9 : Hid (partsL r who cur bb (l.take (j + 1)) = pj ++ [VN]) := by show _ = _; rw [HPS.out, hcv, if_pos rfl]
                   clear HPS HVS HVN HVC HCV hcv v1 v2 HK HQ CA
                   go_upto_region 9 with (fail)
                   clear x0 x2 s0' s1'
                   have e0 := grew_every (w := w8) (S := fun w' => w'.cell? ⟨ib, 0, none⟩ = some (.int .i64 s1)) (fun w' g => (HS8.out.keep g).at 0 _ rfl)
                   have e1 := grew_every (w := w8) (S := fun w' => w'.cell? ⟨ib, 1, none⟩ = some (.int .i64 cur)) (fun w' g => (HS8.out.keep g).at 1 _ rfl)
                   have e2 := grew_every (w := w8) (S := fun w' => w'.cell? ⟨ib, 2, none⟩ = some (.int .i64 s3)) (fun w' g => (HS8.out.keep g).at 2 _ rfl)
                   have e3 := grew_every (w := w8) (S := fun w' => w'.cell? ⟨ib, 3, none⟩ = some (.int .i64 s4)) (fun w' g => (HS8.out.keep g).at 3 _ rfl)
                   have e4 := grew_every (w := w8) (S := fun w' => w'.cell? ⟨b, o + j * 3 + 2, none⟩ = some (.int .i64 q3)) (fun w' g => (HQ8.out w' g).2)
                   have CV9 := fun w' (g : Grew w8 w') => CVA w'
                   refine wp_region_grew (by kernel_rfl) (by kernel_rfl) ?_
                   repeat (go_big_quiet_step (with_reducible exact calls_every CV9))
                   refine wpQuiet_nil ?_
                   intro w9 hw'
                   have hg := grew_of hw'
                   have HO9 := Lib.hid (HO8.out.keep hg); have HP9 := Lib.hid (Nat.le_trans HP8.out (grew_size hg)); have HR9 := Lib.hid (HR8.out.keep hg); have HG9 := Lib.hid (grew_trans HG8.out hg)
                   clear hw' hg e0 e1 e2 e3 e4 CV9
                   go_wp2_with (at_builtin; refine (wpList_append_E rfl _ _ 72 3 (.int .i64 0) 8 rfl Tryz.underlying72 info_int1 rfl pb _ pj rfl (HO9.out.keep (grew_alloc _ _ _)) (some ⟨w9.heap.size, 0, none⟩) 1 1 [VN] rfl (by intro h; cases h) (RowE.one enInt w9 VN 3 _ rfl) (by have := HPL.out; simp; unfold maxLen; omega) (by have := HPL.out; simp; omega) (Nat.le_trans HP9.out (grew_size (grew_alloc _ _ _))) ?_); intro v' w10 ho hb; have HO10 := Lib.hid ho; have HG10 : Hid (Grew w w10) := Below.trans (grew_trans HG9.out (grew_alloc _ _ _)) (Below.mono hb HWP.out); have HR10 := Lib.hid ((HR9.out.keep (grew_alloc w9 #[.int .i64 VN] 3)).below hb HRP.out); have HP10 := Lib.hid (Nat.le_trans (Nat.le_trans HP9.out (grew_size (grew_alloc w9 #[.int .i64 VN] 3))) hb.size); clear ho hb)
                   go_roundw
                   case rel => exact ⟨j + 1, by go_num, by omega, by rw [HPS9.out]; exact HO10.out, HP10.out, HV9.out, HR10.out, HG10.out⟩
                   case measure => simp only [intOf]; omega
                 · obtain ⟨rfl, rfl⟩ := v2 (by omega)
                   obtain ⟨rfl, rfl⟩ := H11.out (HVN.out hcv (by omega))
                   clear HPS HVS HVN HVC HCV hcv v1 v2 HK HQ CA
                   go_upto_region 9 with (fail)
                   clear x0 x2 s0' s1'
                   have e0 := grew_every (w := w8) (S := fun w' => w'.cell? ⟨ib, 0, none⟩ = some (.int .i64 s1)) (fun w' g => (HS8.out.keep g).at 0 _ rfl)
                   have e1 := grew_every (w := w8) (S := fun w' => w'.cell? ⟨ib, 1, none⟩ = some (.int .i64 cur)) (fun w' g => (HS8.out.keep g).at 1 _ rfl)
                   have e2 := grew_every (w := w8) (S := fun w' => w'.cell? ⟨ib, 2, none⟩ = some (.int .i64 s3)) (fun w' g => (HS8.out.keep g).at 2 _ rfl)
                   have e3 := grew_every (w := w8) (S := fun w' => w'.cell? ⟨ib, 3, none⟩ = some (.int .i64 s4)) (fun w' g => (HS8.out.keep g).at 3 _ rfl)
                   have e4 := grew_every (w := w8) (S := fun w' => w'.cell? ⟨b, o + j * 3 + 2, none⟩ = some (.int .i64 q3)) (fun w' g => (HQ8.out w' g).2)
                   have CV9 := fun w' (g : Grew w8 w') => CVA w'
                   refine wp_region_grew (by kernel_rfl) (by kernel_rfl) ?_
                   repeat (go_big_quiet_step (with_reducible exact calls_every CV9))
                   refine wpQuiet_nil ?_
                   intro w9 hw'
                   have hg := grew_of hw'
                   have HO9 := Lib.hid (HO8.out.keep hg); have HP9 := Lib.hid (Nat.le_trans HP8.out (grew_size hg)); have HR9 := Lib.hid (HR8.out.keep hg); have HG9 := Lib.hid (grew_trans HG8.out hg)
                   clear hw' hg e0 e1 e2 e3 e4 CV9
                   go_wp2
                   go_ret2
                   exact ⟨rfl, HG9.out⟩
               · have hcv : CV = false := by rw [HCV.out]; simp [h2]
                 have HV9 := Lib.hid (HVS.out (fun h => by rw [hcv] at h; cases h))
                 have HO9 : Hid (OwnE enInt w8 pb 3 u12 (partsL r who cur bb (l.take (j + 1)))) := by show OwnE _ _ _ _ _ _; rw [HPS.out, hcv, if_neg (by decide), List.append_nil]; exact HO8.out
                 clear HPS HVS HVN HVC HCV hcv HK HQ CVA CA
                 go_wp2
                 go_roundw
                 case rel => exact ⟨j + 1, by go_num, by omega, HO9.out, HP8.out, HV9.out, HR8.out, HG8.out⟩
                 case measure => simp only [intOf]; omega
             · have hcv : CV = false := by rw [HCV.out]; simp [h1]
               have HV9 := Lib.hid (HVS.out (fun h => by rw [hcv] at h; cases h))
               have HO9 : Hid (OwnE enInt w8 pb 3 u12 (partsL r who cur bb (l.take (j + 1)))) := by show OwnE _ _ _ _ _ _; rw [HPS.out, hcv, if_neg (by decide), List.append_nil]; exact HO8.out
               clear HPS HVS HVN HVC HCV hcv HK HQ CVA CA
               go_wp2
               go_roundw
               case rel => exact ⟨j + 1, by go_num, by omega, HO9.out, HP8.out, HV9.out, HR8.out, HG8.out⟩
               case measure => simp only [intOf]; omega)
      · obtain rfl : j = nb := by omega
        have ht : l.take j = l := List.take_of_length_le (by rw [HL.out]; exact Nat.le_refl _)
        rw [ht] at HO HV
        obtain ⟨A9, c9, rfl, hr9, -⟩ := HO.out.form
        have hpl := parts_len r who cur bb l j
        rw [ht] at hpl
        have hm := parts_money HRR.out (b := bb) hbm HOKP.out HV.out
        have CS := fun w' (g : Grew wr w') => add_any A9 _ c9 _ w' (ints_of_E (hr9.keep g)) (fun z hz => by have := (isMoney_iff z).1 (List.all_eq_true.1 hm z hz); omega) (by omega)
        rw [parts_sum, int_cap] at CS
        obtain ⟨z1, z2⟩ := HEE.out HV.out
        have HC0 := Lib.hid (@capV_no (bb + covS r who cur l))
        have HC1 := Lib.hid (@capE_no (bb + covS r who cur l))
        have HC2 := Lib.hid (@capE_in (bb + covS r who cur l))
        rw [← z1] at CS HC0
        rw [← z2] at HC1 HC2
        clear z1 z2 hm hr9 ht hpl HEE HV H11
        generalize (partsL r who cur bb l).length = pn at *
        generalize isMoney (bb + covS r who cur l) = IM at *
        cases IM
        · obtain rfl := HC0.out rfl
          obtain rfl := HC1.out rfl
          clear HC0 HC1 HC2
          go_wp2_with (go_at_call 34; ((with_reducible refine (CS _ (grew_refl _)).mono ?_); rintro e w9 ⟨rfl, hg⟩; have HG9 := Lib.hid (grew_trans HG.out hg); clear hg CS))
          go_ret2
          exact ⟨rfl, HG9.out⟩
        · obtain rfl := HC2.out rfl
          clear HC0 HC1 HC2
          go_wp2_with (go_at_call 34; ((with_reducible refine (CS _ (grew_refl _)).mono ?_); rintro e w9 ⟨rfl, hg⟩; have HG9 := Lib.hid (grew_trans HG.out hg); clear hg CS))
          go_ret2
          exact ⟨rfl, HG9.out⟩
end Go.Proofs.YtodnllopokoicaaGreat.NumK
