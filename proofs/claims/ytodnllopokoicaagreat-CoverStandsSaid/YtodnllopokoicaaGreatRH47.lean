/- The document's margin. -/
import Derived.Test.YtodnllopokoicaaGreatRH46
import Derived.Test.YtodnllopokoicaaGreatRH45
namespace Go.Proofs.YtodnllopokoicaaGreat.NumK
open Go.RowKit
set_option linter.unusedVariables false

set_option maxRecDepth 100000 in
set_option maxHeartbeats 8000000 in
theorem rmargin_any (r : Rl) (A1 A2 A3 B : Option Addr) (n1 n2 n3 c1 c2 c3 n c : Nat) (who cur : Int) (l : List Po) (w : World) (h3 : Rows3 w r A1 A2 A3 n1 n2 n3) (hn3 : n1 ≤ 1000000 ∧ n2 ≤ 1000000 ∧ n3 ≤ 1000000) (h : RowE enPo w B n l) (hn : n ≤ 900000) :
    Calls Tryz.prog 13 #[rlV A1 A2 A3 n1 n2 n3 c1 c2 c3, .int .i64 who, .int .i64 cur, .slice B n c] w fun e w' => e = .returned (.tuple #[.int .i64 (margN r who cur l), .int .i64 (margE r who cur l)]) ∧ Grew w w' := by
  have HC1 := Lib.hid (fun w' (g : Grew w w') => rlosses_any r A1 A2 A3 B n1 n2 n3 c1 c2 c3 n c who cur l w' (h3.keep g) hn3 (h.keep g) (by omega))
  have HCI := Lib.hid (fun (m : Int) w' (g : Grew w w') => rfindIn_any A1 A2 A3 n1 n2 n3 c1 c2 c3 r.2.1 m w' (h3.i.keep g) hn3.2.1)
  have HI := Lib.hid h
  have HL := Lib.hid h.len
  have HR0 : Hid (OwnC (w.alloc (.cells #[.slice A1 n1 c1, .slice A2 n2 c2, .slice A3 n3 c3] 28)) w.heap.size [.slice A1 n1 c1, .slice A2 n2 c2, .slice A3 n3 c3]) := OwnC.new w [.slice A1 n1 c1, .slice A2 n2 c2, .slice A3 n3 c3] _ _ rfl
  have HG0 : Hid (Grew w (w.alloc (.cells #[.slice A1 n1 c1, .slice A2 n2 c2, .slice A3 n3 c3] 28))) := grew_alloc _ _ _
  dsimp only [rlV] at HC1 ⊢
  clear h h3
  by_cases he : lossE r who cur l = 0
  · obtain ⟨hr, hq, g3⟩ := lossE_iff.1 he
    have hA : lossA r who cur l = lossV r who cur l := (lossA_ok hr hq (lossOK_iff.1 g3)).2
    obtain ⟨hE, hN⟩ := marg_ok he
    rw [hE, hN]
    rw [he, hA] at HC1
    obtain ⟨m0, m1⟩ := most_money g3
    have hB := fun p (hp : p ∈ l) (hc : cntG r who cur p = true) => (add_i (inst_ok (right_i hr) (cnt_has hc)) (qsOK_iff.1 hq p hp)).1
    have hW : ∀ x ∈ mostV (lossV r who cur l) 6 :: parL addI r who cur l, isWide x = true := fun x hx => by
      rcases List.mem_cons.1 hx with rfl | hx
      · exact isWide_abs (by omega)
      · exact par_wide (fun p hp hc => Nat.le_trans (hB p hp hc) (by decide)) x hx
    have HW := Lib.hid hW
    have hLl : l.length ≤ 1000000 := by rw [HL.out]; omega
    have ha := Nat.le_trans (add_le (who := who) (cur := cur) hr hq) (Nat.mul_le_mul_right _ hLl)
    have hv : mostV (lossV r who cur l) 6 + addG r who cur l = margV r who cur l := rfl
    have hSW : isWide (margV r who cur l) = true := isWide_abs (by omega)
    have HSW := Lib.hid hSW
    have hsum : (mostV (lossV r who cur l) 6 :: parL addI r who cur l).sum = margV r who cur l := by rw [List.sum_cons, par_sum, tot_add]; rfl
    have HSUM := Lib.hid hsum
    have CO := fun w => of_any (mostV (lossV r who cur l) 6) w (by omega)
    have HM0 : Hid (mostV (lossV r who cur l) 6 = mostV (lossV r who cur l) 6) := rfl
    clear hv ha hSW hsum hW hE hN m0 m1 hA he g3 HM0 hB
    dsimp only [v6] at HC1
    generalize margV r who cur l = V at *
    generalize hf : lossV r who cur l = f at *
    clear hf
    go_enter Tryz.func13, Tryz.ntmps13
    go_upto_region 1 with (fail)
    generalize (w.alloc (.cells #[.slice A1 n1 c1, .slice A2 n2 c2, .slice A3 n3 c3] 28)) = w0 at *
    have r0 := HR0.out.at 0 (.slice A1 n1 c1) rfl; have r1 := HR0.out.at 1 (.slice A2 n2 c2) rfl; have r2 := HR0.out.at 2 (.slice A3 n3 c3) rfl
    go_upto_region 2 with (go_at_call 47; ((with_reducible refine (HC1.out _ HG0.out).mono ?_); rintro e w1 ⟨rfl, hg⟩; have HR1 := Lib.hid (HR0.out.keep hg); have HG1 := Lib.hid (grew_trans HG0.out hg); clear hg HR0 HG0 r0 r1 r2))
    have HR2 := Lib.hid (HR1.out.keep (grew_alloc w1 #[.int .i64 (f 0), .int .i64 (f 1), .int .i64 (f 2), .int .i64 (f 3), .int .i64 (f 4), .int .i64 (f 5)] 96))
    have HL2 : Hid (OwnC (w1.alloc (.cells #[.int .i64 (f 0), .int .i64 (f 1), .int .i64 (f 2), .int .i64 (f 3), .int .i64 (f 4), .int .i64 (f 5)] 96)) w1.heap.size [.int .i64 (f 0), .int .i64 (f 1), .int .i64 (f 2), .int .i64 (f 3), .int .i64 (f 4), .int .i64 (f 5)]) := OwnC.new w1 [.int .i64 (f 0), .int .i64 (f 1), .int .i64 (f 2), .int .i64 (f 3), .int .i64 (f 4), .int .i64 (f 5)] _ _ rfl
    have HG2 := Lib.hid (grew_trans HG1.out (grew_alloc w1 #[.int .i64 (f 0), .int .i64 (f 1), .int .i64 (f 2), .int .i64 (f 3), .int .i64 (f 4), .int .i64 (f 5)] 96))
    clear HR1 HG1 HC1
    generalize (w1.alloc (.cells #[.int .i64 (f 0), .int .i64 (f 1), .int .i64 (f 2), .int .i64 (f 3), .int .i64 (f 4), .int .i64 (f 5)] 96)) = w2 at *
    generalize w1.heap.size = lb at *
    go_upto_block 1 with (fail)
    go_wp2
    go_loopw [12, 13] (fun v12 v13 wr => ∃ k : Nat, v13 = .int .i64 k ∧ v12 = .int .i64 (mostV f k) ∧ k ≤ 6 ∧ w2 = wr) (fun _ v13 _ => 6 - (intOf v13).toNat)
    case atStart => exact ⟨0, rfl, rfl, by omega, rfl⟩
    case round =>
      obtain ⟨k, rfl, rfl, hk, rfl⟩ := hrel
      by_cases hlt : k < 6
      · have i0 : (0 : Int) ≤ (k : Int) := by omega
        have i1 : (k : Int) < 6 := by omega
        have lk : w2.cell? ⟨lb, k, none⟩ = some (.int .i64 (f k)) := by
          rcases k with _ | _ | _ | _ | _ | _ | k
          · exact HL2.out.at 0 _ rfl
          · exact HL2.out.at 1 _ rfl
          · exact HL2.out.at 2 _ rfl
          · exact HL2.out.at 3 _ rfl
          · exact HL2.out.at 4 _ rfl
          · exact HL2.out.at 5 _ rfl
          · omega
        have HMs : Hid (mostV f (k + 1) = if mostV f k < f k then f k else mostV f k) := rfl
        have HMs := Lib.hid HMs.out
        generalize hMk : mostV f k = M0 at *
        generalize f k = x at *
        go_wp2
        refine ⟨⟨k + 1, by go_num, by rw [HMs.out], by omega, trivial⟩, ?_⟩
        simp only [intOf]; omega
      · obtain rfl : 6 = k := by omega
        clear HL2
        generalize mostV f 6 = X at *
        obtain ⟨x1, hx1⟩ : ∃ y, hi64 X = y := ⟨_, rfl⟩
        obtain ⟨x2, hx2⟩ : ∃ y, lo64 X = y := ⟨_, rfl⟩
        rw [hx1, hx2] at CO
        go_upto_region 10 with (go_at_call 48; ((with_reducible refine (CO _).mono ?_); rintro e w5 ⟨rfl, hg⟩; have HR5 := Lib.hid (HR2.out.keep hg); have HG5 := Lib.hid (grew_trans HG2.out hg); clear hg HR2 HG2))
        have HR6 := Lib.hid (HR5.out.keep (grew_alloc w5 #[.int .i64 x1, .int .u64 x2] 101))
        have HG6 := Lib.hid (grew_trans HG5.out (grew_alloc w5 #[.int .i64 x1, .int .u64 x2] 101))
        have HO6 : Hid (OwnE enWd (w5.alloc (.cells #[.int .i64 x1, .int .u64 x2] 101)) w5.heap.size 101 (.slice (some ⟨w5.heap.size, 0, none⟩) 1 1) [X]) := OwnE.lit enWd w5 [X] _ _ _ rfl (by rw [← hx1, ← hx2]; rfl) (by show 1 * 2 ≤ maxLen; unfold maxLen; omega)
        have HSZ6 : Hid (w5.heap.size ≤ (w5.alloc (.cells #[.int .i64 x1, .int .u64 x2] 101)).heap.size) := (grew_alloc w5 #[.int .i64 x1, .int .u64 x2] 101).size
        have HBW : Hid (w.heap.size ≤ w5.heap.size) := HG5.out.size
        have HBR : Hid (w.heap.size < w5.heap.size) := HR5.out.lt
        clear HR5 HG5 hx1 hx2 CO
        generalize (w5.alloc (.cells #[.int .i64 x1, .int .u64 x2] 101)) = w6 at *
        generalize w5.heap.size = bs at *
        go_upto_block 2 with (fail)
        go_wp2
        go_loopw [14, 15] (fun v14 v15 wr => ∃ i : Nat, v15 = .int .i64 i ∧ i ≤ n ∧ Hid (OwnE enWd wr bs 101 v14 (X :: parL addI r who cur (l.take i))) ∧ Hid (OwnC wr w.heap.size [.slice A1 n1 c1, .slice A2 n2 c2, .slice A3 n3 c3]) ∧ Hid (Grew w wr) ∧ Hid (bs ≤ wr.heap.size)) (fun _ v15 _ => n - (intOf v15).toNat)
        case atStart => exact ⟨0, rfl, by omega, HO6.out, HR6.out, HG6.out, HSZ6.out⟩
        case round =>
          clear HO6 HR6 HG6 HSZ6
          obtain ⟨i, rfl, hi, HO, HR, HGw, HSZ⟩ := hrel
          by_cases hli : i < n
          · have hil : i < l.length := by rw [HL.out]; exact hli
            have HT := Lib.hid (congrArg (fun t => X :: t) (par_succ addI r who cur l hil))
            have HLN : Hid ((X :: parL addI r who cur (l.take i)).length + 1 ≤ 1000001) := by
              show _ ≤ _
              have := par_len addI r who cur (l.take i)
              rw [List.length_take] at this
              rw [List.length_cons]; omega
            have HLM : Hid ((X :: parL addI r who cur (l.take i)).length + 1 ≤ maxLen) := by show _ ≤ _; have := HLN.out; unfold maxLen; omega
            have HLB : Hid (((X :: parL addI r who cur (l.take i)).length + 1) * 16 ≤ 140737488355328) := by show _ ≤ _; have := HLN.out; omega
            have hok := qsOK_iff.1 hq _ (getD_mem l po0 i hil)
            obtain ⟨b, o, rfl, hb, hc⟩ := HI.out.po hli
            have hcc := (hc i hli).keep HGw.out hb
            have hbj : b < bs := Nat.lt_of_lt_of_le hb HBW.out
            have hbr : b < wr.heap.size := Nat.lt_of_lt_of_le hbj HSZ.out
            have CI2 := Lib.hid (fun w' (g : Grew wr w') => HCI.out (l.getD i po0).2.1 w' (grew_trans HGw.out g))
            have hinst := fun h => inst_ok (p := l.getD i po0) (right_i hr) h
            have hcnt : cntG r who cur (l.getD i po0) = (hasI r (l.getD i po0) && (decide ((l.getD i po0).1 = who) && decide ((instOf r (l.getD i po0)).1.2.1 = cur))) := rfl
            change Hid (∀ w', Grew wr w' → Calls _ _ #[_, .int .i64 (l.getD i po0).2.1] w' fun e w'' => e = .returned (.tuple #[vIn (instOf r (l.getD i po0)), .bool (hasI r (l.getD i po0))]) ∧ Grew w' w'') at CI2
            have hVd : addI (l.getD i po0) (instOf r (l.getD i po0)) = absI (l.getD i po0).2.2.1 * (instOf r (l.getD i po0)).1.2.2.2.1 := rfl
            have hAb : absI (l.getD i po0).2.2.1 = if -(l.getD i po0).2.2.1 < (l.getD i po0).2.2.1 then (l.getD i po0).2.2.1 else -(l.getD i po0).2.2.1 := rfl
            have hbnd := fun h => (inst_add (hinst h)).2.1
            clear hc hinst
            generalize cntG r who cur (l.getD i po0) = CN at *
            generalize addI (l.getD i po0) (instOf r (l.getD i po0)) = V0 at *
            generalize hasI r (l.getD i po0) = HS at *
            generalize absI (l.getD i po0).2.2.1 = AB at *
            generalize instOf r (l.getD i po0) = x at *
            generalize l.getD i po0 = p at *
            obtain ⟨q1, q2, q3, q4⟩ := p
            obtain ⟨⟨t1, t2, t3, t4, t5, t6⟩, ⟨s1, s2, s3, s4, s5, s6⟩⟩ := x
            obtain ⟨a0, a1, a2, a3⟩ := hcc
            dsimp only [vPo, vIn] at a0 a1 a2 a3 CI2 hcnt hVd hbnd hok hAb HT
            have k0 : (0 : Int) ≤ (i : Int) := by omega
            have k1 : (i : Int) < (n : Int) := by omega
            have HS16 : Hid (∀ w', Grew wr w' → w'.cell? ⟨w.heap.size, 0, none⟩ = some (.slice A1 n1 c1) ∧ w'.cell? ⟨w.heap.size, 1, none⟩ = some (.slice A2 n2 c2) ∧ w'.cell? ⟨w.heap.size, 2, none⟩ = some (.slice A3 n3 c3) ∧ w'.cell? ⟨b, o + i * 4 + 1, none⟩ = some (.int .i64 q2)) := fun w' g => ⟨(HR.out.keep g).at 0 _ rfl, (HR.out.keep g).at 1 _ rfl, (HR.out.keep g).at 2 _ rfl, (grew_cell g (p := ⟨b, _, none⟩) hbr).trans a1⟩
            have HQ0 : Hid (∀ w', Grew wr w' → w'.cell? ⟨b, o + i * 4, none⟩ = some (.int .i64 q1)) := fun w' g => (grew_cell g (p := ⟨b, _, none⟩) hbr).trans a0
            have HQ : Hid (∀ w', Grew wr w' → w'.cell? ⟨b, o + i * 4 + 2, none⟩ = some (.int .i64 q3)) := fun w' g => (grew_cell g (p := ⟨b, _, none⟩) hbr).trans a2
            have HQB : Hid (∀ w', Below bs wr w' → w'.cell? ⟨b, o + i * 4 + 2, none⟩ = some (.int .i64 q3)) := fun w' g => (Below.cell g (p := ⟨b, o + i * 4 + 2, none⟩) hbj).trans a2
            clear hb hbj hbr a0 a1 a2 a3
            cases HS
            · have HLS : Hid (X :: parL addI r who cur (l.take (i + 1)) = X :: parL addI r who cur (l.take i)) := by show _ = _; rw [HT.out, hcnt]; simp
              clear HT hcnt hbnd hVd hAb HQ HQB HLN HLM HLB
              go_upto_region 13 with (fail)
              go_region_held3 (fun w' => w'.cell? ⟨w.heap.size, 0, none⟩ = some (.slice A1 n1 c1) ∧ w'.cell? ⟨w.heap.size, 1, none⟩ = some (.slice A2 n2 c2) ∧ w'.cell? ⟨w.heap.size, 2, none⟩ = some (.slice A3 n3 c3) ∧ w'.cell? ⟨b, o + i * 4 + 1, none⟩ = some (.int .i64 q2))
                (first
                  | ((with_reducible show World.cell? (World.setCell _ _ _) _ = _ ∧ _); have HK9 := HS16.out _ (grew_put wr.heap.size (Nat.le_refl _) [.int .i64 t1, .int .i64 t2, .int .i64 t3, .int .i64 t4, .int .i64 t5, .int .i64 t6, .int .i64 s1, .int .i64 s2, .int .i64 s3, .int .i64 s4, .int .i64 s5, .int .i64 s6] 0 _ HG2.out); simp only [putC, Nat.zero_add, Nat.reduceAdd] at HK9; with_reducible exact HK9)
                  | (with_reducible exact HS16.out _ (grew_drew (grew_refl _)))
                  | (with_reducible exact HS16.out _ (grew_trans (grew_drew (grew_refl _)) (grew_alloc _ _ _)))
                  | (with_reducible exact HS16.out _ (grew_drew (grew_alloc _ _ _)))
                  | (with_reducible exact HS16.out _ HG2.out)
                  | (with_reducible exact HS16.out _ (grew_trans HG2.out (grew_alloc _ _ _))))
                (first
                  | (go_at_call 49; (with_reducible refine (CI2.out _ (grew_drew (grew_refl _))).mono ?_); rintro e w2 ⟨rfl, hg⟩; have HG2 : Hid (Grew wr w2) := grew_trans (grew_drew (grew_refl _)) hg; clear hg)
                  | (go_at_call 49; (with_reducible refine (CI2.out _ (grew_drew (grew_alloc _ _ _))).mono ?_); rintro e w2 ⟨rfl, hg⟩; have HG2 : Hid (Grew wr w2) := grew_trans (grew_drew (grew_alloc _ _ _)) hg; have HB2 : Hid (OwnC w2 wr.heap.size [.int .i64 0, .int .i64 0, .int .i64 0, .int .i64 0, .int .i64 0, .int .i64 0, .int .i64 0, .int .i64 0, .int .i64 0, .int .i64 0, .int .i64 0, .int .i64 0]) := ((OwnC.new wr [.int .i64 0, .int .i64 0, .int .i64 0, .int .i64 0, .int .i64 0, .int .i64 0, .int .i64 0, .int .i64 0, .int .i64 0, .int .i64 0, .int .i64 0, .int .i64 0] _ _ rfl).drew).keep hg; have y0 := HB2.out.at 0 (.int .i64 0) rfl; have f0 := HB2.out.fr 0 (by simp); have y1 := HB2.out.at 1 (.int .i64 0) rfl; have f1 := HB2.out.fr 1 (by simp); have y2 := HB2.out.at 2 (.int .i64 0) rfl; have f2 := HB2.out.fr 2 (by simp); have y3 := HB2.out.at 3 (.int .i64 0) rfl; have f3 := HB2.out.fr 3 (by simp); have y4 := HB2.out.at 4 (.int .i64 0) rfl; have f4 := HB2.out.fr 4 (by simp); have y5 := HB2.out.at 5 (.int .i64 0) rfl; have f5 := HB2.out.fr 5 (by simp); have y6 := HB2.out.at 6 (.int .i64 0) rfl; have f6 := HB2.out.fr 6 (by simp); have y7 := HB2.out.at 7 (.int .i64 0) rfl; have f7 := HB2.out.fr 7 (by simp); have y8 := HB2.out.at 8 (.int .i64 0) rfl; have f8 := HB2.out.fr 8 (by simp); have y9 := HB2.out.at 9 (.int .i64 0) rfl; have f9 := HB2.out.fr 9 (by simp); have y10 := HB2.out.at 10 (.int .i64 0) rfl; have f10 := HB2.out.fr 10 (by simp); have y11 := HB2.out.at 11 (.int .i64 0) rfl; have f11 := HB2.out.fr 11 (by simp); clear hg))
              all_goals
                (first
                  | (have hh1 := HB2.out.all [.int .i64 t1, .int .i64 t2, .int .i64 t3, .int .i64 t4, .int .i64 t5, .int .i64 t6, .int .i64 s1, .int .i64 s2, .int .i64 s3, .int .i64 s4, .int .i64 s5, .int .i64 s6] rfl
                     have hh2 := grew_put wr.heap.size (Nat.le_refl _) [.int .i64 t1, .int .i64 t2, .int .i64 t3, .int .i64 t4, .int .i64 t5, .int .i64 t6, .int .i64 s1, .int .i64 s2, .int .i64 s3, .int .i64 s4, .int .i64 s5, .int .i64 s6] 0 _ HG2.out
                     simp only [putC, Nat.zero_add, Nat.reduceAdd] at hh1 hh2
                     refine end_eq (P := Exit.then _ _ Exit.normal _) ?_
                     intro w5 hw5
                     rw [← hw5] at hh1 hh2
                     obtain ⟨ib, hibe⟩ : ∃ b, wr.heap.size = b := ⟨_, rfl⟩
                     have hib9 : wr.heap.size ≤ ib := Nat.le_of_eq hibe
                     rw [hibe] at hh1 ⊢
                     have h5 := hh1
                     have g5 := hh2
                     clear hw5 hh1 hh2 hibe)
                  | (refine end_new (w := wr) (P := Exit.then _ _ Exit.normal _) [.int .i64 t1, .int .i64 t2, .int .i64 t3, .int .i64 t4, .int .i64 t5, .int .i64 t6, .int .i64 s1, .int .i64 s2, .int .i64 s3, .int .i64 s4, .int .i64 s5, .int .i64 s6] 105 HG2.out ?_
                     intro w5 h5 g5
                     obtain ⟨ib, hibe⟩ : ∃ b, w2.heap.size = b := ⟨_, rfl⟩
                     have hib9 : wr.heap.size ≤ ib := by rw [← hibe]; exact HG2.out.size
                     rw [hibe] at h5 ⊢
                     clear hibe)
                 have HI5 := Lib.hid h5
                 have HG5 := Lib.hid g5
                 clear h5 g5
                 apply_assumption
                 go_wp2
                 go_roundw
                 case rel => exact ⟨i + 1, by go_num, by omega, (by rw [HLS.out]; exact HO.out.keep HG5.out), HR.out.keep HG5.out, grew_trans HGw.out HG5.out, Nat.le_trans HSZ.out HG5.out.size⟩
                 case measure => simp only [intOf]; omega
              )
            · by_cases hw : q1 = who
              · have d1 : (q1 == who) = true := by rw [hw]; simp
                rw [decide_eq_true hw, Bool.true_and, Bool.true_and] at hcnt
                clear hw
                by_cases hcu : t2 = cur
                · have d2 : (t2 == cur) = true := by rw [hcu]; simp
                  have HLS : Hid (X :: parL addI r who cur (l.take (i + 1)) = (X :: parL addI r who cur (l.take i)) ++ [V0]) := by show _ = _; rw [HT.out, hcnt, decide_eq_true hcu]; simp
                  obtain ⟨m1, m2⟩ := hbnd rfl
                  have hq3 : q3.natAbs ≤ 1099511627776 := by simp only [okQ, wi, Bool.and_eq_true, decide_eq_true_eq] at hok; omega
                  have C1 := fun w => refTimes_any AB t4 w (by rw [hAb]; split <;> omega) (by omega)
                  rw [← hVd] at C1
                  have HM : IntKind.i64.wrap (-q3) = -q3 := by rw [IntKind.wrap_i64]; omega
                  have HM2 : wrap64 (-q3) = -q3 := by unfold wrap64; omega
                  obtain ⟨v1, hv1⟩ : ∃ y, hi64 V0 = y := ⟨_, rfl⟩
                  obtain ⟨v2, hv2⟩ : ∃ y, lo64 V0 = y := ⟨_, rfl⟩
                  rw [hv1, hv2] at C1
                  have HONE := Lib.hid (fun w N hN => one_wd V0 v1 v2 hv1 hv2 w N hN)
                  by_cases hsg : q3 < -q3
                  · have hAB : AB = -q3 := by rw [hAb]; split <;> omega
                    rw [hAB, ← HM] at C1
                    have hsg2 : q3 < IntKind.i64.wrap (-q3) := by rw [HM]; exact hsg
                    clear HT hcnt hbnd hVd hcu HM HM2 hq3 hv1 hv2 m1 m2 hok hAb hAB hsg
                    go_upto_region 13 with (fail)
                    go_region_held3 (fun w' => w'.cell? ⟨w.heap.size, 0, none⟩ = some (.slice A1 n1 c1) ∧ w'.cell? ⟨w.heap.size, 1, none⟩ = some (.slice A2 n2 c2) ∧ w'.cell? ⟨w.heap.size, 2, none⟩ = some (.slice A3 n3 c3) ∧ w'.cell? ⟨b, o + i * 4 + 1, none⟩ = some (.int .i64 q2))
                      (first
                        | ((with_reducible show World.cell? (World.setCell _ _ _) _ = _ ∧ _); have HK9 := HS16.out _ (grew_put wr.heap.size (Nat.le_refl _) [.int .i64 t1, .int .i64 t2, .int .i64 t3, .int .i64 t4, .int .i64 t5, .int .i64 t6, .int .i64 s1, .int .i64 s2, .int .i64 s3, .int .i64 s4, .int .i64 s5, .int .i64 s6] 0 _ HG2.out); simp only [putC, Nat.zero_add, Nat.reduceAdd] at HK9; with_reducible exact HK9)
                        | (with_reducible exact HS16.out _ (grew_drew (grew_refl _)))
                        | (with_reducible exact HS16.out _ (grew_trans (grew_drew (grew_refl _)) (grew_alloc _ _ _)))
                        | (with_reducible exact HS16.out _ (grew_drew (grew_alloc _ _ _)))
                        | (with_reducible exact HS16.out _ HG2.out)
                        | (with_reducible exact HS16.out _ (grew_trans HG2.out (grew_alloc _ _ _))))
                      (first
                        | (go_at_call 49; (with_reducible refine (CI2.out _ (grew_drew (grew_refl _))).mono ?_); rintro e w2 ⟨rfl, hg⟩; have HG2 : Hid (Grew wr w2) := grew_trans (grew_drew (grew_refl _)) hg; clear hg)
                        | (go_at_call 49; (with_reducible refine (CI2.out _ (grew_drew (grew_alloc _ _ _))).mono ?_); rintro e w2 ⟨rfl, hg⟩; have HG2 : Hid (Grew wr w2) := grew_trans (grew_drew (grew_alloc _ _ _)) hg; have HB2 : Hid (OwnC w2 wr.heap.size [.int .i64 0, .int .i64 0, .int .i64 0, .int .i64 0, .int .i64 0, .int .i64 0, .int .i64 0, .int .i64 0, .int .i64 0, .int .i64 0, .int .i64 0, .int .i64 0]) := ((OwnC.new wr [.int .i64 0, .int .i64 0, .int .i64 0, .int .i64 0, .int .i64 0, .int .i64 0, .int .i64 0, .int .i64 0, .int .i64 0, .int .i64 0, .int .i64 0, .int .i64 0] _ _ rfl).drew).keep hg; have y0 := HB2.out.at 0 (.int .i64 0) rfl; have f0 := HB2.out.fr 0 (by simp); have y1 := HB2.out.at 1 (.int .i64 0) rfl; have f1 := HB2.out.fr 1 (by simp); have y2 := HB2.out.at 2 (.int .i64 0) rfl; have f2 := HB2.out.fr 2 (by simp); have y3 := HB2.out.at 3 (.int .i64 0) rfl; have f3 := HB2.out.fr 3 (by simp); have y4 := HB2.out.at 4 (.int .i64 0) rfl; have f4 := HB2.out.fr 4 (by simp); have y5 := HB2.out.at 5 (.int .i64 0) rfl; have f5 := HB2.out.fr 5 (by simp); have y6 := HB2.out.at 6 (.int .i64 0) rfl; have f6 := HB2.out.fr 6 (by simp); have y7 := HB2.out.at 7 (.int .i64 0) rfl; have f7 := HB2.out.fr 7 (by simp); have y8 := HB2.out.at 8 (.int .i64 0) rfl; have f8 := HB2.out.fr 8 (by simp); have y9 := HB2.out.at 9 (.int .i64 0) rfl; have f9 := HB2.out.fr 9 (by simp); have y10 := HB2.out.at 10 (.int .i64 0) rfl; have f10 := HB2.out.fr 10 (by simp); have y11 := HB2.out.at 11 (.int .i64 0) rfl; have f11 := HB2.out.fr 11 (by simp); clear hg))
                    all_goals
                      (first
                        | (have hh1 := HB2.out.all [.int .i64 t1, .int .i64 t2, .int .i64 t3, .int .i64 t4, .int .i64 t5, .int .i64 t6, .int .i64 s1, .int .i64 s2, .int .i64 s3, .int .i64 s4, .int .i64 s5, .int .i64 s6] rfl
                           have hh2 := grew_put wr.heap.size (Nat.le_refl _) [.int .i64 t1, .int .i64 t2, .int .i64 t3, .int .i64 t4, .int .i64 t5, .int .i64 t6, .int .i64 s1, .int .i64 s2, .int .i64 s3, .int .i64 s4, .int .i64 s5, .int .i64 s6] 0 _ HG2.out
                           simp only [putC, Nat.zero_add, Nat.reduceAdd] at hh1 hh2
                           refine end_eq (P := Exit.then _ _ Exit.normal _) ?_
                           intro w5 hw5
                           rw [← hw5] at hh1 hh2
                           obtain ⟨ib, hibe⟩ : ∃ b, wr.heap.size = b := ⟨_, rfl⟩
                           have hib9 : wr.heap.size ≤ ib := Nat.le_of_eq hibe
                           rw [hibe] at hh1 ⊢
                           have h5 := hh1
                           have g5 := hh2
                           clear hw5 hh1 hh2 hibe)
                        | (refine end_new (w := wr) (P := Exit.then _ _ Exit.normal _) [.int .i64 t1, .int .i64 t2, .int .i64 t3, .int .i64 t4, .int .i64 t5, .int .i64 t6, .int .i64 s1, .int .i64 s2, .int .i64 s3, .int .i64 s4, .int .i64 s5, .int .i64 s6] 105 HG2.out ?_
                           intro w5 h5 g5
                           obtain ⟨ib, hibe⟩ : ∃ b, w2.heap.size = b := ⟨_, rfl⟩
                           have hib9 : wr.heap.size ≤ ib := by rw [← hibe]; exact HG2.out.size
                           rw [hibe] at h5 ⊢
                           clear hibe)
                       have HI5 := Lib.hid h5
                       have HG5 := Lib.hid g5
                       clear h5 g5
                       apply_assumption
                       have a0 := HQ0.out _ HG5.out
                       have l2 := HI5.out.at 1 (.int .i64 t2) rfl
                       have HIB := HI5.out.lt
                       have HNE := Lib.hid (own_ne HO.out hib9)
                       have HS18 : Hid (∀ w', OwnC w' ib [.int .i64 t1, .int .i64 t2, .int .i64 t3, .int .i64 t4, .int .i64 t5, .int .i64 t6, .int .i64 s1, .int .i64 s2, .int .i64 s3, .int .i64 s4, .int .i64 s5, .int .i64 s6] → w'.cell? ⟨b, o + i * 4 + 2, none⟩ = some (.int .i64 q3) → w'.cell? ⟨b, o + i * 4 + 2, none⟩ = some (.int .i64 q3) ∧ w'.cell? ⟨ib, 3, none⟩ = some (.int .i64 t4)) := fun w' h hq => ⟨hq, h.at 3 _ rfl⟩
                       go_upto_region 15 with (fail)
                       clear CI2 HS16
                       go_region_held3 (fun w' => w'.cell? ⟨b, o + i * 4 + 2, none⟩ = some (.int .i64 q3) ∧ w'.cell? ⟨ib, 3, none⟩ = some (.int .i64 t4))
                         (first
                           | (with_reducible exact HS18.out _ HI5.out.drew (HQ.out _ (grew_drew HG5.out)))
                           | (with_reducible exact HS18.out _ HI6.out (HQ.out _ HG6.out))
                           | (with_reducible exact HS18.out _ (HI6.out.keep (grew_alloc _ _ _)) (HQ.out _ (grew_trans HG6.out (grew_alloc _ _ _))))
                           | (exact HS18.out _ HI9.out (HQB.out _ HG9.out)))
                         (first
                           | (go_at_call 50; (with_reducible refine (C1 _).mono ?_); rintro e w6 ⟨rfl, hg⟩; have HG6 : Hid (Grew wr w6) := grew_trans (grew_drew HG5.out) hg; have HI6 := Lib.hid (HI5.out.drew.keep hg); clear hg)
                           | (refine step_append_G (E := enWd) rfl _ _ 103 101 (.agg #[.int .i64 0, .int .u64 0]) 16 rfl Tryz.underlying103 info_wide rfl bs _ _ rfl (HO.out.keep (grew_trans HG6.out (grew_alloc _ _ _))) _ 1 1 [V0] rfl (HONE.out _ _ rfl) HLM.out HLB.out (Nat.le_trans HSZ.out (grew_trans HG6.out (grew_alloc _ _ _)).size) ?_; intro v9 w9 hv hb hgb; rw [← HLS.out] at hv; have HV9 := Lib.hid hv; have HI9 := Lib.hid ((HI6.out.keep (grew_alloc _ _ _)).grown hgb HNE.out); have HG9 : Hid (Below bs wr w9) := Below.trans (Below.mono (grew_trans HG6.out (grew_alloc _ _ _)) HSZ.out) hb; have HGx : Hid (Grew w w9) := Below.trans HGw.out (Below.mono HG9.out HBW.out); have HRx := Lib.hid (HR.out.below HG9.out HBR.out); have HSx : Hid (bs ≤ w9.heap.size) := Nat.le_trans HSZ.out HG9.out.size; clear hv hb hgb))
                       all_goals
                         (go_wp2
                          go_roundw
                          case rel => exact ⟨i + 1, by go_num, by omega, HV9.out, HRx.out, HGx.out, HSx.out⟩
                          case measure => simp only [intOf]; omega)
                    )
                  · have hAB : AB = if q3 < IntKind.i64.wrap (-q3) then IntKind.i64.wrap (-q3) else q3 := by rw [if_neg (by rw [HM]; exact hsg), hAb]; split <;> omega
                    rw [hAB] at C1
                    have hsg2 : ¬ q3 < IntKind.i64.wrap (-q3) := by rw [HM]; exact hsg
                    clear HT hcnt hbnd hVd hcu HM HM2 hq3 hv1 hv2 m1 m2 hok hAb hAB hsg
                    go_upto_region 13 with (fail)
                    go_region_held3 (fun w' => w'.cell? ⟨w.heap.size, 0, none⟩ = some (.slice A1 n1 c1) ∧ w'.cell? ⟨w.heap.size, 1, none⟩ = some (.slice A2 n2 c2) ∧ w'.cell? ⟨w.heap.size, 2, none⟩ = some (.slice A3 n3 c3) ∧ w'.cell? ⟨b, o + i * 4 + 1, none⟩ = some (.int .i64 q2))
                      (first
                        | ((with_reducible show World.cell? (World.setCell _ _ _) _ = _ ∧ _); have HK9 := HS16.out _ (grew_put wr.heap.size (Nat.le_refl _) [.int .i64 t1, .int .i64 t2, .int .i64 t3, .int .i64 t4, .int .i64 t5, .int .i64 t6, .int .i64 s1, .int .i64 s2, .int .i64 s3, .int .i64 s4, .int .i64 s5, .int .i64 s6] 0 _ HG2.out); simp only [putC, Nat.zero_add, Nat.reduceAdd] at HK9; with_reducible exact HK9)
                        | (with_reducible exact HS16.out _ (grew_drew (grew_refl _)))
                        | (with_reducible exact HS16.out _ (grew_trans (grew_drew (grew_refl _)) (grew_alloc _ _ _)))
                        | (with_reducible exact HS16.out _ (grew_drew (grew_alloc _ _ _)))
                        | (with_reducible exact HS16.out _ HG2.out)
                        | (with_reducible exact HS16.out _ (grew_trans HG2.out (grew_alloc _ _ _))))
                      (first
                        | (go_at_call 49; (with_reducible refine (CI2.out _ (grew_drew (grew_refl _))).mono ?_); rintro e w2 ⟨rfl, hg⟩; have HG2 : Hid (Grew wr w2) := grew_trans (grew_drew (grew_refl _)) hg; clear hg)
                        | (go_at_call 49; (with_reducible refine (CI2.out _ (grew_drew (grew_alloc _ _ _))).mono ?_); rintro e w2 ⟨rfl, hg⟩; have HG2 : Hid (Grew wr w2) := grew_trans (grew_drew (grew_alloc _ _ _)) hg; have HB2 : Hid (OwnC w2 wr.heap.size [.int .i64 0, .int .i64 0, .int .i64 0, .int .i64 0, .int .i64 0, .int .i64 0, .int .i64 0, .int .i64 0, .int .i64 0, .int .i64 0, .int .i64 0, .int .i64 0]) := ((OwnC.new wr [.int .i64 0, .int .i64 0, .int .i64 0, .int .i64 0, .int .i64 0, .int .i64 0, .int .i64 0, .int .i64 0, .int .i64 0, .int .i64 0, .int .i64 0, .int .i64 0] _ _ rfl).drew).keep hg; have y0 := HB2.out.at 0 (.int .i64 0) rfl; have f0 := HB2.out.fr 0 (by simp); have y1 := HB2.out.at 1 (.int .i64 0) rfl; have f1 := HB2.out.fr 1 (by simp); have y2 := HB2.out.at 2 (.int .i64 0) rfl; have f2 := HB2.out.fr 2 (by simp); have y3 := HB2.out.at 3 (.int .i64 0) rfl; have f3 := HB2.out.fr 3 (by simp); have y4 := HB2.out.at 4 (.int .i64 0) rfl; have f4 := HB2.out.fr 4 (by simp); have y5 := HB2.out.at 5 (.int .i64 0) rfl; have f5 := HB2.out.fr 5 (by simp); have y6 := HB2.out.at 6 (.int .i64 0) rfl; have f6 := HB2.out.fr 6 (by simp); have y7 := HB2.out.at 7 (.int .i64 0) rfl; have f7 := HB2.out.fr 7 (by simp); have y8 := HB2.out.at 8 (.int .i64 0) rfl; have f8 := HB2.out.fr 8 (by simp); have y9 := HB2.out.at 9 (.int .i64 0) rfl; have f9 := HB2.out.fr 9 (by simp); have y10 := HB2.out.at 10 (.int .i64 0) rfl; have f10 := HB2.out.fr 10 (by simp); have y11 := HB2.out.at 11 (.int .i64 0) rfl; have f11 := HB2.out.fr 11 (by simp); clear hg))
                    all_goals
                      (first
                        | (have hh1 := HB2.out.all [.int .i64 t1, .int .i64 t2, .int .i64 t3, .int .i64 t4, .int .i64 t5, .int .i64 t6, .int .i64 s1, .int .i64 s2, .int .i64 s3, .int .i64 s4, .int .i64 s5, .int .i64 s6] rfl
                           have hh2 := grew_put wr.heap.size (Nat.le_refl _) [.int .i64 t1, .int .i64 t2, .int .i64 t3, .int .i64 t4, .int .i64 t5, .int .i64 t6, .int .i64 s1, .int .i64 s2, .int .i64 s3, .int .i64 s4, .int .i64 s5, .int .i64 s6] 0 _ HG2.out
                           simp only [putC, Nat.zero_add, Nat.reduceAdd] at hh1 hh2
                           refine end_eq (P := Exit.then _ _ Exit.normal _) ?_
                           intro w5 hw5
                           rw [← hw5] at hh1 hh2
                           obtain ⟨ib, hibe⟩ : ∃ b, wr.heap.size = b := ⟨_, rfl⟩
                           have hib9 : wr.heap.size ≤ ib := Nat.le_of_eq hibe
                           rw [hibe] at hh1 ⊢
                           have h5 := hh1
                           have g5 := hh2
                           clear hw5 hh1 hh2 hibe)
                        | (refine end_new (w := wr) (P := Exit.then _ _ Exit.normal _) [.int .i64 t1, .int .i64 t2, .int .i64 t3, .int .i64 t4, .int .i64 t5, .int .i64 t6, .int .i64 s1, .int .i64 s2, .int .i64 s3, .int .i64 s4, .int .i64 s5, .int .i64 s6] 105 HG2.out ?_
                           intro w5 h5 g5
                           obtain ⟨ib, hibe⟩ : ∃ b, w2.heap.size = b := ⟨_, rfl⟩
                           have hib9 : wr.heap.size ≤ ib := by rw [← hibe]; exact HG2.out.size
                           rw [hibe] at h5 ⊢
                           clear hibe)
                       have HI5 := Lib.hid h5
                       have HG5 := Lib.hid g5
                       clear h5 g5
                       apply_assumption
                       have a0 := HQ0.out _ HG5.out
                       have l2 := HI5.out.at 1 (.int .i64 t2) rfl
                       have HIB := HI5.out.lt
                       have HNE := Lib.hid (own_ne HO.out hib9)
                       have HS18 : Hid (∀ w', OwnC w' ib [.int .i64 t1, .int .i64 t2, .int .i64 t3, .int .i64 t4, .int .i64 t5, .int .i64 t6, .int .i64 s1, .int .i64 s2, .int .i64 s3, .int .i64 s4, .int .i64 s5, .int .i64 s6] → w'.cell? ⟨b, o + i * 4 + 2, none⟩ = some (.int .i64 q3) → w'.cell? ⟨b, o + i * 4 + 2, none⟩ = some (.int .i64 q3) ∧ w'.cell? ⟨ib, 3, none⟩ = some (.int .i64 t4)) := fun w' h hq => ⟨hq, h.at 3 _ rfl⟩
                       go_upto_region 15 with (fail)
                       clear CI2 HS16
                       go_region_held3 (fun w' => w'.cell? ⟨b, o + i * 4 + 2, none⟩ = some (.int .i64 q3) ∧ w'.cell? ⟨ib, 3, none⟩ = some (.int .i64 t4))
                         (first
                           | (with_reducible exact HS18.out _ HI5.out.drew (HQ.out _ (grew_drew HG5.out)))
                           | (with_reducible exact HS18.out _ HI6.out (HQ.out _ HG6.out))
                           | (with_reducible exact HS18.out _ (HI6.out.keep (grew_alloc _ _ _)) (HQ.out _ (grew_trans HG6.out (grew_alloc _ _ _))))
                           | (exact HS18.out _ HI9.out (HQB.out _ HG9.out)))
                         (first
                           | (go_at_call 50; (with_reducible refine (C1 _).mono ?_); rintro e w6 ⟨rfl, hg⟩; have HG6 : Hid (Grew wr w6) := grew_trans (grew_drew HG5.out) hg; have HI6 := Lib.hid (HI5.out.drew.keep hg); clear hg)
                           | (refine step_append_G (E := enWd) rfl _ _ 103 101 (.agg #[.int .i64 0, .int .u64 0]) 16 rfl Tryz.underlying103 info_wide rfl bs _ _ rfl (HO.out.keep (grew_trans HG6.out (grew_alloc _ _ _))) _ 1 1 [V0] rfl (HONE.out _ _ rfl) HLM.out HLB.out (Nat.le_trans HSZ.out (grew_trans HG6.out (grew_alloc _ _ _)).size) ?_; intro v9 w9 hv hb hgb; rw [← HLS.out] at hv; have HV9 := Lib.hid hv; have HI9 := Lib.hid ((HI6.out.keep (grew_alloc _ _ _)).grown hgb HNE.out); have HG9 : Hid (Below bs wr w9) := Below.trans (Below.mono (grew_trans HG6.out (grew_alloc _ _ _)) HSZ.out) hb; have HGx : Hid (Grew w w9) := Below.trans HGw.out (Below.mono HG9.out HBW.out); have HRx := Lib.hid (HR.out.below HG9.out HBR.out); have HSx : Hid (bs ≤ w9.heap.size) := Nat.le_trans HSZ.out HG9.out.size; clear hv hb hgb))
                       all_goals
                         (go_wp2
                          go_roundw
                          case rel => exact ⟨i + 1, by go_num, by omega, HV9.out, HRx.out, HGx.out, HSx.out⟩
                          case measure => simp only [intOf]; omega)
                    )
                · have d2 : (t2 == cur) = false := by simpa using hcu
                  have HLS : Hid (X :: parL addI r who cur (l.take (i + 1)) = X :: parL addI r who cur (l.take i)) := by show _ = _; rw [HT.out, hcnt, decide_eq_false hcu]; simp
                  clear HT hcnt hbnd hVd hAb HQ HQB HLN HLM HLB hcu
                  go_upto_region 13 with (fail)
                  go_region_held3 (fun w' => w'.cell? ⟨w.heap.size, 0, none⟩ = some (.slice A1 n1 c1) ∧ w'.cell? ⟨w.heap.size, 1, none⟩ = some (.slice A2 n2 c2) ∧ w'.cell? ⟨w.heap.size, 2, none⟩ = some (.slice A3 n3 c3) ∧ w'.cell? ⟨b, o + i * 4 + 1, none⟩ = some (.int .i64 q2))
                    (first
                      | ((with_reducible show World.cell? (World.setCell _ _ _) _ = _ ∧ _); have HK9 := HS16.out _ (grew_put wr.heap.size (Nat.le_refl _) [.int .i64 t1, .int .i64 t2, .int .i64 t3, .int .i64 t4, .int .i64 t5, .int .i64 t6, .int .i64 s1, .int .i64 s2, .int .i64 s3, .int .i64 s4, .int .i64 s5, .int .i64 s6] 0 _ HG2.out); simp only [putC, Nat.zero_add, Nat.reduceAdd] at HK9; with_reducible exact HK9)
                      | (with_reducible exact HS16.out _ (grew_drew (grew_refl _)))
                      | (with_reducible exact HS16.out _ (grew_trans (grew_drew (grew_refl _)) (grew_alloc _ _ _)))
                      | (with_reducible exact HS16.out _ (grew_drew (grew_alloc _ _ _)))
                      | (with_reducible exact HS16.out _ HG2.out)
                      | (with_reducible exact HS16.out _ (grew_trans HG2.out (grew_alloc _ _ _))))
                    (first
                      | (go_at_call 49; (with_reducible refine (CI2.out _ (grew_drew (grew_refl _))).mono ?_); rintro e w2 ⟨rfl, hg⟩; have HG2 : Hid (Grew wr w2) := grew_trans (grew_drew (grew_refl _)) hg; clear hg)
                      | (go_at_call 49; (with_reducible refine (CI2.out _ (grew_drew (grew_alloc _ _ _))).mono ?_); rintro e w2 ⟨rfl, hg⟩; have HG2 : Hid (Grew wr w2) := grew_trans (grew_drew (grew_alloc _ _ _)) hg; have HB2 : Hid (OwnC w2 wr.heap.size [.int .i64 0, .int .i64 0, .int .i64 0, .int .i64 0, .int .i64 0, .int .i64 0, .int .i64 0, .int .i64 0, .int .i64 0, .int .i64 0, .int .i64 0, .int .i64 0]) := ((OwnC.new wr [.int .i64 0, .int .i64 0, .int .i64 0, .int .i64 0, .int .i64 0, .int .i64 0, .int .i64 0, .int .i64 0, .int .i64 0, .int .i64 0, .int .i64 0, .int .i64 0] _ _ rfl).drew).keep hg; have y0 := HB2.out.at 0 (.int .i64 0) rfl; have f0 := HB2.out.fr 0 (by simp); have y1 := HB2.out.at 1 (.int .i64 0) rfl; have f1 := HB2.out.fr 1 (by simp); have y2 := HB2.out.at 2 (.int .i64 0) rfl; have f2 := HB2.out.fr 2 (by simp); have y3 := HB2.out.at 3 (.int .i64 0) rfl; have f3 := HB2.out.fr 3 (by simp); have y4 := HB2.out.at 4 (.int .i64 0) rfl; have f4 := HB2.out.fr 4 (by simp); have y5 := HB2.out.at 5 (.int .i64 0) rfl; have f5 := HB2.out.fr 5 (by simp); have y6 := HB2.out.at 6 (.int .i64 0) rfl; have f6 := HB2.out.fr 6 (by simp); have y7 := HB2.out.at 7 (.int .i64 0) rfl; have f7 := HB2.out.fr 7 (by simp); have y8 := HB2.out.at 8 (.int .i64 0) rfl; have f8 := HB2.out.fr 8 (by simp); have y9 := HB2.out.at 9 (.int .i64 0) rfl; have f9 := HB2.out.fr 9 (by simp); have y10 := HB2.out.at 10 (.int .i64 0) rfl; have f10 := HB2.out.fr 10 (by simp); have y11 := HB2.out.at 11 (.int .i64 0) rfl; have f11 := HB2.out.fr 11 (by simp); clear hg))
                  all_goals
                    (first
                      | (have hh1 := HB2.out.all [.int .i64 t1, .int .i64 t2, .int .i64 t3, .int .i64 t4, .int .i64 t5, .int .i64 t6, .int .i64 s1, .int .i64 s2, .int .i64 s3, .int .i64 s4, .int .i64 s5, .int .i64 s6] rfl
                         have hh2 := grew_put wr.heap.size (Nat.le_refl _) [.int .i64 t1, .int .i64 t2, .int .i64 t3, .int .i64 t4, .int .i64 t5, .int .i64 t6, .int .i64 s1, .int .i64 s2, .int .i64 s3, .int .i64 s4, .int .i64 s5, .int .i64 s6] 0 _ HG2.out
                         simp only [putC, Nat.zero_add, Nat.reduceAdd] at hh1 hh2
                         refine end_eq (P := Exit.then _ _ Exit.normal _) ?_
                         intro w5 hw5
                         rw [← hw5] at hh1 hh2
                         obtain ⟨ib, hibe⟩ : ∃ b, wr.heap.size = b := ⟨_, rfl⟩
                         have hib9 : wr.heap.size ≤ ib := Nat.le_of_eq hibe
                         rw [hibe] at hh1 ⊢
                         have h5 := hh1
                         have g5 := hh2
                         clear hw5 hh1 hh2 hibe)
                      | (refine end_new (w := wr) (P := Exit.then _ _ Exit.normal _) [.int .i64 t1, .int .i64 t2, .int .i64 t3, .int .i64 t4, .int .i64 t5, .int .i64 t6, .int .i64 s1, .int .i64 s2, .int .i64 s3, .int .i64 s4, .int .i64 s5, .int .i64 s6] 105 HG2.out ?_
                         intro w5 h5 g5
                         obtain ⟨ib, hibe⟩ : ∃ b, w2.heap.size = b := ⟨_, rfl⟩
                         have hib9 : wr.heap.size ≤ ib := by rw [← hibe]; exact HG2.out.size
                         rw [hibe] at h5 ⊢
                         clear hibe)
                     have HI5 := Lib.hid h5
                     have HG5 := Lib.hid g5
                     clear h5 g5
                     apply_assumption
                     have a0 := HQ0.out _ HG5.out
                     have l2 := HI5.out.at 1 (.int .i64 t2) rfl
                     go_wp2
                     go_roundw
                     case rel => exact ⟨i + 1, by go_num, by omega, (by rw [HLS.out]; exact HO.out.keep HG5.out), HR.out.keep HG5.out, grew_trans HGw.out HG5.out, Nat.le_trans HSZ.out HG5.out.size⟩
                     case measure => simp only [intOf]; omega
                  )
              · have d1 : (q1 == who) = false := by simpa using hw
                have HLS : Hid (X :: parL addI r who cur (l.take (i + 1)) = X :: parL addI r who cur (l.take i)) := by show _ = _; rw [HT.out, hcnt, decide_eq_false hw]; simp
                clear HT hcnt hbnd hVd hAb HQ HQB HLN HLM HLB hw
                go_upto_region 13 with (fail)
                go_region_held3 (fun w' => w'.cell? ⟨w.heap.size, 0, none⟩ = some (.slice A1 n1 c1) ∧ w'.cell? ⟨w.heap.size, 1, none⟩ = some (.slice A2 n2 c2) ∧ w'.cell? ⟨w.heap.size, 2, none⟩ = some (.slice A3 n3 c3) ∧ w'.cell? ⟨b, o + i * 4 + 1, none⟩ = some (.int .i64 q2))
                  (first
                    | ((with_reducible show World.cell? (World.setCell _ _ _) _ = _ ∧ _); have HK9 := HS16.out _ (grew_put wr.heap.size (Nat.le_refl _) [.int .i64 t1, .int .i64 t2, .int .i64 t3, .int .i64 t4, .int .i64 t5, .int .i64 t6, .int .i64 s1, .int .i64 s2, .int .i64 s3, .int .i64 s4, .int .i64 s5, .int .i64 s6] 0 _ HG2.out); simp only [putC, Nat.zero_add, Nat.reduceAdd] at HK9; with_reducible exact HK9)
                    | (with_reducible exact HS16.out _ (grew_drew (grew_refl _)))
                    | (with_reducible exact HS16.out _ (grew_trans (grew_drew (grew_refl _)) (grew_alloc _ _ _)))
                    | (with_reducible exact HS16.out _ (grew_drew (grew_alloc _ _ _)))
                    | (with_reducible exact HS16.out _ HG2.out)
                    | (with_reducible exact HS16.out _ (grew_trans HG2.out (grew_alloc _ _ _))))
                  (first
                    | (go_at_call 49; (with_reducible refine (CI2.out _ (grew_drew (grew_refl _))).mono ?_); rintro e w2 ⟨rfl, hg⟩; have HG2 : Hid (Grew wr w2) := grew_trans (grew_drew (grew_refl _)) hg; clear hg)
                    | (go_at_call 49; (with_reducible refine (CI2.out _ (grew_drew (grew_alloc _ _ _))).mono ?_); rintro e w2 ⟨rfl, hg⟩; have HG2 : Hid (Grew wr w2) := grew_trans (grew_drew (grew_alloc _ _ _)) hg; have HB2 : Hid (OwnC w2 wr.heap.size [.int .i64 0, .int .i64 0, .int .i64 0, .int .i64 0, .int .i64 0, .int .i64 0, .int .i64 0, .int .i64 0, .int .i64 0, .int .i64 0, .int .i64 0, .int .i64 0]) := ((OwnC.new wr [.int .i64 0, .int .i64 0, .int .i64 0, .int .i64 0, .int .i64 0, .int .i64 0, .int .i64 0, .int .i64 0, .int .i64 0, .int .i64 0, .int .i64 0, .int .i64 0] _ _ rfl).drew).keep hg; have y0 := HB2.out.at 0 (.int .i64 0) rfl; have f0 := HB2.out.fr 0 (by simp); have y1 := HB2.out.at 1 (.int .i64 0) rfl; have f1 := HB2.out.fr 1 (by simp); have y2 := HB2.out.at 2 (.int .i64 0) rfl; have f2 := HB2.out.fr 2 (by simp); have y3 := HB2.out.at 3 (.int .i64 0) rfl; have f3 := HB2.out.fr 3 (by simp); have y4 := HB2.out.at 4 (.int .i64 0) rfl; have f4 := HB2.out.fr 4 (by simp); have y5 := HB2.out.at 5 (.int .i64 0) rfl; have f5 := HB2.out.fr 5 (by simp); have y6 := HB2.out.at 6 (.int .i64 0) rfl; have f6 := HB2.out.fr 6 (by simp); have y7 := HB2.out.at 7 (.int .i64 0) rfl; have f7 := HB2.out.fr 7 (by simp); have y8 := HB2.out.at 8 (.int .i64 0) rfl; have f8 := HB2.out.fr 8 (by simp); have y9 := HB2.out.at 9 (.int .i64 0) rfl; have f9 := HB2.out.fr 9 (by simp); have y10 := HB2.out.at 10 (.int .i64 0) rfl; have f10 := HB2.out.fr 10 (by simp); have y11 := HB2.out.at 11 (.int .i64 0) rfl; have f11 := HB2.out.fr 11 (by simp); clear hg))
                all_goals
                  (first
                    | (have hh1 := HB2.out.all [.int .i64 t1, .int .i64 t2, .int .i64 t3, .int .i64 t4, .int .i64 t5, .int .i64 t6, .int .i64 s1, .int .i64 s2, .int .i64 s3, .int .i64 s4, .int .i64 s5, .int .i64 s6] rfl
                       have hh2 := grew_put wr.heap.size (Nat.le_refl _) [.int .i64 t1, .int .i64 t2, .int .i64 t3, .int .i64 t4, .int .i64 t5, .int .i64 t6, .int .i64 s1, .int .i64 s2, .int .i64 s3, .int .i64 s4, .int .i64 s5, .int .i64 s6] 0 _ HG2.out
                       simp only [putC, Nat.zero_add, Nat.reduceAdd] at hh1 hh2
                       refine end_eq (P := Exit.then _ _ Exit.normal _) ?_
                       intro w5 hw5
                       rw [← hw5] at hh1 hh2
                       obtain ⟨ib, hibe⟩ : ∃ b, wr.heap.size = b := ⟨_, rfl⟩
                       have hib9 : wr.heap.size ≤ ib := Nat.le_of_eq hibe
                       rw [hibe] at hh1 ⊢
                       have h5 := hh1
                       have g5 := hh2
                       clear hw5 hh1 hh2 hibe)
                    | (refine end_new (w := wr) (P := Exit.then _ _ Exit.normal _) [.int .i64 t1, .int .i64 t2, .int .i64 t3, .int .i64 t4, .int .i64 t5, .int .i64 t6, .int .i64 s1, .int .i64 s2, .int .i64 s3, .int .i64 s4, .int .i64 s5, .int .i64 s6] 105 HG2.out ?_
                       intro w5 h5 g5
                       obtain ⟨ib, hibe⟩ : ∃ b, w2.heap.size = b := ⟨_, rfl⟩
                       have hib9 : wr.heap.size ≤ ib := by rw [← hibe]; exact HG2.out.size
                       rw [hibe] at h5 ⊢
                       clear hibe)
                   have HI5 := Lib.hid h5
                   have HG5 := Lib.hid g5
                   clear h5 g5
                   apply_assumption
                   have a0 := HQ0.out _ HG5.out
                   go_wp2
                   go_roundw
                   case rel => exact ⟨i + 1, by go_num, by omega, (by rw [HLS.out]; exact HO.out.keep HG5.out), HR.out.keep HG5.out, grew_trans HGw.out HG5.out, Nat.le_trans HSZ.out HG5.out.size⟩
                   case measure => simp only [intOf]; omega
                )
          · obtain rfl : n = i := by omega
            rw [List.take_of_length_le (Nat.le_of_eq HL.out)] at HO
            obtain ⟨A9, c9, rfl, hrow, -⟩ := HO.out.form
            have hlen := par_len addI r who cur l
            have CSm := refSum_any A9 _ c9 (X :: parL addI r who cur l) wr (wides_of_E hrow) HW.out (by rw [List.length_cons]; have := HL.out; omega)
            rw [HSUM.out, wsV, if_pos HSW.out, HSW.out] at CSm
            have CI := fun w => refInt_any V w
            clear hlen hrow HO HW HSW HSUM HCI HR
            generalize hi64 V = v1 at *
            generalize lo64 V = v2 at *
            generalize (X :: parL addI r who cur l).length = pn at *
            by_cases hm : isMoney V = true
            · rw [intV_in hm, hm] at CI
              have HcV : Hid (capV V = V) := capV_in hm
              have HcE : Hid (capE V = 0) := capE_in hm
              clear hm
              go_wp2_with (first
                | (go_at_call 51; ((with_reducible refine CSm.mono ?_); rintro e w7 ⟨rfl, hg⟩; have HG7 := Lib.hid (grew_trans HGw.out hg); clear hg HGw))
                | (go_at_call 52; ((with_reducible refine (CI _).mono ?_); rintro e w8 ⟨rfl, hg⟩; have HG8 := Lib.hid (grew_trans (grew_trans HG7.out (grew_alloc _ _ _)) hg); clear hg HG7)))
              go_ret2
              exact ⟨by rw [HcV.out, HcE.out]; rfl, HG8.out⟩
            · have hm := Bool.eq_false_iff.2 hm
              rw [intV_out hm, hm] at CI
              have HcV : Hid (capV V = 0) := capV_out hm
              have HcE : Hid (capE V = 1) := capE_out hm
              clear hm
              go_wp2_with (first
                | (go_at_call 51; ((with_reducible refine CSm.mono ?_); rintro e w7 ⟨rfl, hg⟩; have HG7 := Lib.hid (grew_trans HGw.out hg); clear hg HGw))
                | (go_at_call 52; ((with_reducible refine (CI _).mono ?_); rintro e w8 ⟨rfl, hg⟩; have HG8 := Lib.hid (grew_trans (grew_trans HG7.out (grew_alloc _ _ _)) hg); clear hg HG7)))
              go_ret2
              exact ⟨by rw [HcV.out, HcE.out]; rfl, HG8.out⟩
  · obtain ⟨hE, hN⟩ := marg_no he
    rw [hE, hN]
    clear hE hN
    rw [lossA_no _ he rfl] at HC1
    have d0 : (lossE r who cur l != 0) = true := bne_iff_ne.2 he
    clear he
    generalize lossE r who cur l = E at *
    dsimp only [v6] at HC1
    go_enter Tryz.func13, Tryz.ntmps13
    go_upto_region 1 with (fail)
    generalize (w.alloc (.cells #[.slice A1 n1 c1, .slice A2 n2 c2, .slice A3 n3 c3] 28)) = w0 at *
    have r0 := HR0.out.at 0 (.slice A1 n1 c1) rfl; have r1 := HR0.out.at 1 (.slice A2 n2 c2) rfl; have r2 := HR0.out.at 2 (.slice A3 n3 c3) rfl
    go_wp2_with (go_at_call 47; ((with_reducible refine (HC1.out _ HG0.out).mono ?_); rintro e w1 ⟨rfl, hg⟩; have HG1 := Lib.hid (grew_trans HG0.out hg); clear hg HR0 HG0 r0 r1 r2))
    go_ret2
    exact ⟨rfl, grew_trans HG1.out (grew_alloc _ _ _)⟩
end Go.Proofs.YtodnllopokoicaaGreat.NumK
