/-
  For every roll and book: what all win of an instrument adds up to its costs, turned round and multiplied; rolls of more than 100 rows and books of more than 300 the statement lets by.
-/
import Derived.Test.YtlbfljkhlkjcbaaRG12
import Derived.Test.YtlbfljkhlkjcbaaRG17
import Derived.Test.YtlbfljkhlkjcbaaRG3
import Derived.Test.YtlbfljkhlkjcbaaRG10
import Derived.Deep.RegionHeld3
import Derived.BigQuiet
import Derived.Test.YtlbfljkhlkjcbaaRows
import Derived.WalkKit
import Derived.ProofKit
import Derived.OpenShut
import Derived.ShutString
import Derived.ChangeOld
import Derived.Below
import Derived.Carry
namespace Go.Proofs.Ytlbfljkhlkjcbaa.NumK
open Go.RowKit
set_option linter.unusedVariables false

set_option maxRecDepth 100000 in
set_option maxHeartbeats 4000000 in
theorem markZero_walk (r : Rl) (b : Bk) (A1 A2 A3 B1 B2 : Option Addr) (n1 n2 n3 c1 c2 c3 m1 m2 d1 d2 : Nat) (w : World) (h3 : Rows3 w r A1 A2 A3 n1 n2 n3) (h : InB w b B1 B2 m1 m2 d1 d2) :
    Calls Try.prog 5 #[rlV A1 A2 A3 n1 n2 n3 c1 c2 c3, vBk b.1 B1 B2 m1 m2 d1 d2] w fun e w' => e = .returned (.bool true) ∧ Grew w w' := by
  have CH := fun w' => heavy11_any A1 A2 A3 n1 n2 n3 c1 c2 c3 w'
  have CK := fun w' => heavy_any b.1 B1 B2 m1 m2 d1 d2 w'
  have CV := fun w' => wakes14_any w'
  have hH : heavyR n1 n2 n3 = false → n1 ≤ 100 ∧ n2 ≤ 100 ∧ n3 ≤ 100 := by unfold heavyR; simp
  have hK : (decide (300 < m1) || decide (300 < m2)) = false → m1 ≤ 300 ∧ m2 ≤ 300 := by simp
  have CR := fun (hn : n1 ≤ 1000000 ∧ n2 ≤ 1000000 ∧ n3 ≤ 1000000) (hm : m1 ≤ 10000 ∧ m2 ≤ 10000) w' (g : Grew w w') => run_any r b A1 A2 A3 B1 B2 n1 n2 n3 c1 c2 c3 m1 m2 d1 d2 w' (h3.keep g) hn (h.keep g) hm
  have HL1 := Lib.hid h.t.len
  have HL2 := Lib.hid h.p.len
  have HL3 := Lib.hid h3.i.len
  have HI := Lib.hid h.p
  have H3 := Lib.hid h3.i
  clear h h3
  generalize heavyR n1 n2 n3 = HH at *
  generalize (decide (300 < m1) || decide (300 < m2)) = HHb at *
  have HHH := Lib.hid hH
  have HHK := Lib.hid hK
  clear hH hK
  dsimp only [rlV, vBk] at CH CK CR ⊢
  cases HH
  · cases HHb
    · have hn := HHH.out rfl
      have hm := HHK.out rfl
      have CR := CR ⟨by omega, by omega, by omega⟩ ⟨by omega, by omega⟩
      have hm1 := hm.1
      have hm2 := hm.2
      have hn2 := hn.2.1
      clear hm HHH HHK hn
      unfold RunP at CR
      by_cases he : runE r b = 0
      · obtain ⟨g1, g2, g3, g4, g5⟩ := run_ok he
        have HWC : Hid (∀ k, k < n2 → (wonL r (noIn (r.2.1.getD k in0)) b.2.2).sum = (costL (r.2.1.getD k in0).1.2.2.1 (noIn (r.2.1.getD k in0)) b.2.2).sum ∧ isWide (wonL r (noIn (r.2.1.getD k in0)) b.2.2).sum = true ∧ (∀ x ∈ wonL r (noIn (r.2.1.getD k in0)) b.2.2, isWide x = true) ∧ ∀ x ∈ costL (r.2.1.getD k in0).1.2.2.1 (noIn (r.2.1.getD k in0)) b.2.2, isWide x = true) := fun k hk => won_cost g1 g2 g3 (by rw [HL3.out]; exact hk)
        have HDU : Hid (∀ j, j < m2 → (duesM r b.2.2).getD j du0 = ((b.2.2.getD j po0).1, (instOf r (b.2.2.getD j po0)).1.2.1, wonP r (b.2.2.getD j po0)) ∧ isMoney (wonP r (b.2.2.getD j po0)) = true ∧ isMoney (b.2.2.getD j po0).2.2.2 = true) := fun j hj => by
          have hj' : j < b.2.2.length := by rw [HL2.out]; exact hj
          refine ⟨?_, (stepM_ok.1 (g3 _ (getD_in _ _ hj'))).2.2.1, ((okPo_iff _).1 (((rightPs_iff _).1 ((rightB_iff b).1 g2).2.2).1 _ (getD_in _ _ hj'))).2.2.1⟩
          unfold duesM
          rw [List.getD_eq_getElem?_getD, List.getElem?_map, List.getD_eq_getElem?_getD, List.getElem?_eq_getElem hj']; rfl
        have HMU : Hid (∀ k, k < n2 → (r.2.1.getD k in0).1.2.2.1.natAbs ≤ 1024) := fun k hk => by
          have := inst_range g1 (k := k) (by rw [HL3.out]; exact hk)
          omega
        have hdl : (duesM r b.2.2).length = m2 := by unfold duesM; rw [List.length_map]; exact HL2.out
        rw [g4, g5, he] at CR
        clear g1 g2 g3 g4 g5 he
        dsimp only [vBk] at CR
        rw [hdl] at CR
        have HDL := Lib.hid hdl
        clear hdl
        generalize hdd : duesM r b.2.2 = dl at *
        generalize hml : markL r b.2.2 = ml at *
        have hl1 := HL1.out
        generalize hlt : b.2.1 = lt at *
        generalize hpl : b.2.2 = pl at *
        generalize hnx : b.1 = nx at *
        rw [hl1] at CR
        clear hlt hpl hnx hl1 hml hdd
        have HR0 : Hid (OwnC ((w.alloc (.cells #[.slice A1 n1 c1, .slice A2 n2 c2, .slice A3 n3 c3] 26)).alloc (.cells #[.int .i64 nx, .slice B1 m1 d1, .slice B2 m2 d2] 30)) w.heap.size [.slice A1 n1 c1, .slice A2 n2 c2, .slice A3 n3 c3]) := (OwnC.new w [.slice A1 n1 c1, .slice A2 n2 c2, .slice A3 n3 c3] _ _ rfl).keep (grew_alloc _ _ _)
        have HB0 : Hid (OwnC ((w.alloc (.cells #[.slice A1 n1 c1, .slice A2 n2 c2, .slice A3 n3 c3] 26)).alloc (.cells #[.int .i64 nx, .slice B1 m1 d1, .slice B2 m2 d2] 30)) (w.heap.size + 1) [.int .i64 nx, .slice B1 m1 d1, .slice B2 m2 d2]) := OwnC.new (w.alloc (.cells #[.slice A1 n1 c1, .slice A2 n2 c2, .slice A3 n3 c3] 26)) [.int .i64 nx, .slice B1 m1 d1, .slice B2 m2 d2] _ _ (by simp)
        have HG0 : Hid (Grew w ((w.alloc (.cells #[.slice A1 n1 c1, .slice A2 n2 c2, .slice A3 n3 c3] 26)).alloc (.cells #[.int .i64 nx, .slice B1 m1 d1, .slice B2 m2 d2] 30))) := grew_trans (grew_alloc _ _ _) (grew_alloc _ _ _)
        go_enter Try.func5, Try.ntmps5
        go_upto_region 1 with (fail)
        generalize ((w.alloc (.cells #[.slice A1 n1 c1, .slice A2 n2 c2, .slice A3 n3 c3] 26)).alloc (.cells #[.int .i64 nx, .slice B1 m1 d1, .slice B2 m2 d2] 30)) = w0 at *
        have hbb : w.heap.size + 1 < w0.heap.size := HB0.out.lt
        generalize w.heap.size + 1 = bb at *
        have r0 := HR0.out.at 0 (.slice A1 n1 c1) rfl; have r1 := HR0.out.at 1 (.slice A2 n2 c2) rfl; have r2 := HR0.out.at 2 (.slice A3 n3 c3) rfl
        go_upto_region 6 with (first
          | (go_at_call 8; (with_reducible refine (CH _).mono ?_); rintro e w1 ⟨rfl, hg⟩; have HG1 := Lib.hid (grew_trans HG0.out hg); have HR1 := Lib.hid (HR0.out.keep hg); have HB1 := Lib.hid (HB0.out.keep hg); clear hg r0 r1 r2 HG0 HR0 HB0; have b0 := HB1.out.at 0 (.int .i64 nx) rfl; have b1 := HB1.out.at 1 (.slice B1 m1 d1) rfl; have b2 := HB1.out.at 2 (.slice B2 m2 d2) rfl)
          | (go_at_call 9; (with_reducible refine (CK _).mono ?_); rintro e w2 ⟨rfl, hg⟩; have HG2 := Lib.hid (grew_trans HG1.out hg); have HR2 := Lib.hid (HR1.out.keep hg); have HB2 := Lib.hid (HB1.out.keep hg); clear hg b0 b1 b2 HG1 HR1 HB1; have r0 := HR2.out.at 0 (.slice A1 n1 c1) rfl; have r1 := HR2.out.at 1 (.slice A2 n2 c2) rfl; have r2 := HR2.out.at 2 (.slice A3 n3 c3) rfl; have b0 := HB2.out.at 0 (.int .i64 nx) rfl; have b1 := HB2.out.at 1 (.slice B1 m1 d1) rfl; have b2 := HB2.out.at 2 (.slice B2 m2 d2) rfl)
          | (go_at_call 17; (with_reducible refine (CR _ HG2.out).mono ?_); rintro e w3 ⟨C1, C2, C9, e1, e2, e9, rfl, hob, hod, ha1, ha2, hg⟩; have HG3 := Lib.hid (grew_trans HG2.out hg); have HR3 := Lib.hid (HR2.out.keep hg); have HB3 := Lib.hid (HB2.out.keep hg); clear hg r0 r1 r2 b0 b1 b2 HG2 HR2 HB2; have HOD := Lib.hid hod; clear hob hod ha1 ha2))
        have HR4 : Hid (OwnC (w3.alloc (.cells #[.int .i64 nx, .slice C1 m1 e1, .slice C2 ml.length e2] 30)) w.heap.size [.slice A1 n1 c1, .slice A2 n2 c2, .slice A3 n3 c3]) := HR3.out.keep (grew_alloc _ _ _)
        have HB4 : Hid (OwnC (w3.alloc (.cells #[.int .i64 nx, .slice C1 m1 e1, .slice C2 ml.length e2] 30)) bb [.int .i64 nx, .slice B1 m1 d1, .slice B2 m2 d2]) := HB3.out.keep (grew_alloc _ _ _)
        have HG4 : Hid (Grew w (w3.alloc (.cells #[.int .i64 nx, .slice C1 m1 e1, .slice C2 ml.length e2] 30))) := grew_trans HG3.out (grew_alloc _ _ _)
        have HOL : Hid (RowE enDu (w3.alloc (.cells #[.int .i64 nx, .slice C1 m1 e1, .slice C2 ml.length e2] 30)) C9 dl.length dl) := (own_form HOD.out).1.keep (grew_alloc _ _ _)
        clear HR3 HB3 HG3 HOD
        generalize (w3.alloc (.cells #[.int .i64 nx, .slice C1 m1 e1, .slice C2 ml.length e2] 30)) = w4 at *
        generalize w3.heap.size = cb at *
        have b2 := HB4.out.at 2 (.slice B2 m2 d2) rfl
        have r0 := HR4.out.at 0 (.slice A1 n1 c1) rfl; have r1 := HR4.out.at 1 (.slice A2 n2 c2) rfl; have r2 := HR4.out.at 2 (.slice A3 n3 c3) rfl
        go_wp2
        go_loopw [8] (fun v wr => ∃ k : Nat, v = .int .i64 k ∧ k ≤ n2 ∧ Hid (Grew w4 wr)) (fun v _ => n2 - (intOf v).toNat)
        case atStart => exact ⟨0, rfl, Nat.zero_le _, grew_refl _⟩
        case round =>
          obtain ⟨k, rfl, hk, HGr⟩ := hrel
          have y1 := (HR4.out.keep HGr.out).at 1 (.slice A2 n2 c2) rfl
          clear r0 r1 r2 b2
          by_cases hkl : k < n2
          · have k0 : (0 : Int) ≤ (k : Int) := by omega
            have k1 : (k : Int) < (n2 : Int) := by omega
            go_wp2
            generalize wr = wo at *
            go_loopw [9, 10, 11] (fun v9 v10 v11 wq => ∃ (i : Nat) (A B : Option Addr) (ca cb' : Nat), v11 = .int .i64 i ∧ v9 = .slice A (wonL r (noIn (r.2.1.getD k in0)) (pl.take i)).length ca ∧ v10 = .slice B (costL (r.2.1.getD k in0).1.2.2.1 (noIn (r.2.1.getD k in0)) (pl.take i)).length cb' ∧ i ≤ m2 ∧ Hid (Two enWd enWd wq w4.heap.size 64 64 (.slice A (wonL r (noIn (r.2.1.getD k in0)) (pl.take i)).length ca) (.slice B (costL (r.2.1.getD k in0).1.2.2.1 (noIn (r.2.1.getD k in0)) (pl.take i)).length cb') (wonL r (noIn (r.2.1.getD k in0)) (pl.take i)) (costL (r.2.1.getD k in0).1.2.2.1 (noIn (r.2.1.getD k in0)) (pl.take i))) ∧ Hid (Grew w4 wq)) (fun _ _ v11 _ => m2 - (intOf v11).toNat)
            case atStart => exact ⟨0, none, none, 0, 0, rfl, rfl, rfl, Nat.zero_le _, Two.nil _ _ _ _ _ _, HGr.out⟩
            case round =>
              obtain ⟨i, A, B, ca, cb', rfl, rfl, rfl, hi, HT, HGq⟩ := hrel
              have HW := Lib.hid (grew_trans HG4.out HGq.out)
              have HSZ : Hid (w4.heap.size ≤ wr.heap.size) := grew_size HGq.out
              clear y1
              by_cases hil : i < m2
              · have i0 : (0 : Int) ≤ (i : Int) := by omega
                have i1 : (i : Int) < (m2 : Int) := by omega
                have hjl : i < pl.length := by rw [HL2.out]; exact hil
                obtain ⟨hdu, hmo, hmq⟩ := HDU.out i hil
                have hmu := HMU.out k hkl
                obtain ⟨bo, oo, rfl, hb, hc⟩ := HI.out.po hil
                obtain ⟨bi, oi, rfl, hbi, hci⟩ := H3.out.in hkl
                have hdl' : dl.length = m2 := HDL.out
                obtain ⟨bu, ou, rfl, hbu, hcu⟩ := HOL.out.du (by rw [hdl']; exact hil)
                have HKP : Hid (∀ w', Grew w4 w' → CPo w' bo (oo + i * 4) (pl.getD i po0)) := fun w' g => (hc i hil).keep (grew_trans HG4.out g) hb
                have HKI : Hid (∀ w', Grew w4 w' → CIn w' bi (oi + k * 12) (r.2.1.getD k in0)) := fun w' g => (hci k hkl).keep (grew_trans HG4.out g) hbi
                have HKU : Hid (∀ w', Grew w4 w' → CDu w' bu (ou + i * 3) (dl.getD i du0)) := fun w' g => (hcu i (by rw [hdl']; exact hil)).keep g hbu
                rw [hdu] at HKU
                have hws := wonL_succ r (noIn (r.2.1.getD k in0)) hjl
                have hcs := costL_succ (r.2.1.getD k in0).1.2.2.1 (noIn (r.2.1.getD k in0)) hjl
                have hll := lists_len r (r.2.1.getD k in0).1.2.2.1 (noIn (r.2.1.getD k in0)) pl i
                have hNX : noIn (r.2.1.getD k in0) = (r.2.1.getD k in0).1.1 := rfl
                have HWS := Lib.hid hws
                have HCS := Lib.hid hcs
                have HLW := Lib.hid hll.1
                have HLC := Lib.hid hll.2
                clear hc hci hcu hdl' hjl hws hcs hll hdu hb hbi hbu
                generalize noIn (r.2.1.getD k in0) = nk at *
                generalize wonL r nk (pl.take i) = lw at *
                generalize costL (r.2.1.getD k in0).1.2.2.1 nk (pl.take i) = lc at *
                generalize wonP r (pl.getD i po0) = wv at *
                generalize (instOf r (pl.getD i po0)).1.2.1 = cu at *
                generalize pl.getD i po0 = p at *
                generalize hxI : r.2.1.getD k in0 = x at *
                obtain ⟨q1, q2, q3, q4⟩ := p
                obtain ⟨⟨j1, j2, j3, j4, j5, j6⟩, ⟨j7, j8, j9, j10, j11, j12⟩⟩ := x
                dsimp only at hNX hmq hmu HWS HCS
                subst hNX
                have HXI := Lib.hid hxI
                clear hxI
                have q0 : (q1 != q1) = false := by simp
                have xw : wr.cell? ⟨bb, 2, none⟩ = some (.slice (some ⟨bo, oo, none⟩) m2 d2) := (HB4.out.keep HGq.out).at 2 _ rfl
                have x2 : ∀ p : GrewTo wr, p.to.cell? ⟨bb, 2, none⟩ = some (.slice (some ⟨bo, oo, none⟩) m2 d2) := grew_every (fun w' g => (HB4.out.keep (grew_trans HGq.out g)).at 2 _ rfl)
                have y1 : ∀ p : GrewTo wr, p.to.cell? ⟨w.heap.size, 1, none⟩ = some (.slice (some ⟨bi, oi, none⟩) n2 c2) := grew_every (fun w' g => (HR4.out.keep (grew_trans HGq.out g)).at 1 _ rfl)
                have z1 : ∀ p : GrewTo wr, p.to.cell? ⟨bo, oo + i * 4 + 1, none⟩ = some (.int .i64 q2) := grew_every (fun w' g => (HKP.out w' (grew_trans HGq.out g)).2.1)
                have v0 : ∀ p : GrewTo wr, p.to.cell? ⟨bi, oi + k * 12, none⟩ = some (.int .i64 nk) := grew_every (fun w' g => (HKI.out w' (grew_trans HGq.out g)).1)
                have HX2 : Hid (∀ w', Grew w4 w' → w'.cell? ⟨bb, 2, none⟩ = some (.slice (some ⟨bo, oo, none⟩) m2 d2)) := fun w' g => (HB4.out.keep g).at 2 _ rfl
                have HY1 : Hid (∀ w', Grew w4 w' → w'.cell? ⟨w.heap.size, 1, none⟩ = some (.slice (some ⟨bi, oi, none⟩) n2 c2)) := fun w' g => (HR4.out.keep g).at 1 _ rfl
                by_cases hq : q2 = nk
                · subst hq
                  rw [if_pos rfl] at HWS HCS
                  have COf := fun w' => of_any wv w' (by rw [isMoney_iff] at hmo; omega)
                  have CTm := fun w' => refTimes_any (-q4) j3 w' (by rw [isMoney_iff] at hmq; omega) (by omega)
                  generalize hT : -q4 * j3 = T at *
                  have HM2 : IntKind.i64.wrap (-q4) = -q4 := by rw [isMoney_iff] at hmq; rw [IntKind.wrap_i64]; omega
                  rw [← HM2] at CTm
                  clear HM2 hT
                  have e1 : (q2 == q2) = true := by simp
                  go_wp2_with fail
                  refine wp_region_grew (by kernel_rfl) (by kernel_rfl) ?_
                  repeat (go_big_quiet_step (fail))
                  refine wpQuiet_nil ?_
                  intro wy hw'
                  have HGy := Lib.hid (grew_of hw')
                  clear hw' x2 y1 z1 v0 xw e1
                  have u2 : wy.cell? ⟨bu, ou + i * 3 + 2, none⟩ = some (.int .i64 wv) := (HKU.out wy (grew_trans HGq.out HGy.out)).2.2
                  have HTy := Lib.hid (HT.out.keep HGy.out)
                  have HGz := Lib.hid (grew_trans HGq.out HGy.out)
                  have HSY : Hid (w4.heap.size ≤ wy.heap.size) := grew_size HGz.out
                  clear HT HGq HSZ HGy
                  go_upto_region 17 with (first
                    | (go_at_call 25; (with_reducible refine (COf _).mono ?_); rintro e wo ⟨rfl, hg⟩; have HGo := Lib.hid hg; clear hg)
                    | (at_builtin; refine (wpList_twoG (E := enWd) (F := enWd) (s := 64) (t := 64) (base := w4.heap.size) rfl _ _ 61 (.agg #[.int .i64 0, .int .u64 0]) 16 rfl Try.underlying61 info_wide rfl (HTy.out.keep (grew_trans HGo.out (grew_alloc _ _ _))) rfl _ wv rfl (RowE.one1 enWd _ _ _ _ _ rfl rfl) (by have := HLW.out; unfold maxLen; omega) (by have := HLW.out; omega) (Nat.le_trans HSY.out (Nat.le_trans (grew_size HGo.out) (by simp))) ?_); intro A6 c6 w6 hr hg hA; have HT6 := Lib.hid hr; have HG6 : Hid (Grew w4 w6) := Below.grown (grew_trans HGz.out (grew_trans HGo.out (grew_alloc _ _ _))) hg (Nat.le_trans HSY.out (Nat.le_trans (grew_size HGo.out) (by simp))) (fun k hk => (World.ownsRow.lt HTy.out.a k hk).1); clear hr hg hA))
                  have HSZ6 : Hid (w4.heap.size ≤ w6.heap.size) := grew_size HG6.out
                  refine wp_region_noPanic ?_
                  refine wp_region_held_drew (S := fun w' => Grew w4 w') (by kernel_rfl) (grew_drew HG6.out) (fun hHeld => ?_)
                  (refine wpAnyH_take (i := 0) (oi := { dst := some 85, op := Op.move (Operand.tmp 10), type := 61, pos := "law.go:88", after := #[], guard := none }) (v := ?_) rfl (by kernel_rfl) (by kernel_rfl) (by kernel_rfl) (fun _ _ _ h => h) (Or.inl ⟨by rfl, ?_⟩) (by assumption) ?_; rotate_left; · (intro w hSw; (try dsimp only at hSw); skip; go_simp; (first | done | with_reducible rfl)))
                  try simp only [Act.put, List.setIfInBounds_toArray, List.set_cons_zero, List.set_cons_succ]
                  (refine wpAnyH_take (i := 1) (oi := { dst := some 86, op := Op.fieldAddr 30 (Operand.tmp 3) 2, type := 0, pos := "law.go:88", after := #[], guard := none }) (v := ?_) rfl (by kernel_rfl) (by kernel_rfl) (by kernel_rfl) (fun _ _ _ h => h) (Or.inl ⟨by rfl, ?_⟩) (by assumption) ?_; rotate_left; · (intro w hSw; (try dsimp only at hSw); skip; go_simp; (first | done | with_reducible rfl)))
                  try simp only [Act.put, List.setIfInBounds_toArray, List.set_cons_zero, List.set_cons_succ]
                  (refine wpAnyH_take (i := 2) (oi := { dst := some 87, op := Op.load 28 (Operand.tmp 86), type := 28, pos := "law.go:88", after := #[{ on := 1, ground := Ground.data }], guard := none }) (v := ?_) rfl (by kernel_rfl) (by kernel_rfl) (by kernel_rfl) (fun _ _ _ h => h) (Or.inl ⟨by rfl, ?_⟩) (by assumption) ?_; rotate_left; · (intro w hSw; (try dsimp only at hSw); have h9 := HX2.out _ hSw; go_simp; (first | done | with_reducible rfl)))
                  try simp only [Act.put, List.setIfInBounds_toArray, List.set_cons_zero, List.set_cons_succ]
                  (refine wpAnyH_take (i := 3) (oi := { dst := some 88, op := Op.move (Operand.tmp 11), type := 3, pos := "law.go:88", after := #[], guard := none }) (v := ?_) rfl (by kernel_rfl) (by kernel_rfl) (by kernel_rfl) (fun _ _ _ h => h) (Or.inl ⟨by rfl, ?_⟩) (by assumption) ?_; rotate_left; · (intro w hSw; (try dsimp only at hSw); skip; go_simp; (first | done | with_reducible rfl)))
                  try simp only [Act.put, List.setIfInBounds_toArray, List.set_cons_zero, List.set_cons_succ]
                  (refine wpAnyH_take (i := 4) (oi := { dst := some 89, op := Op.indexAddr 28 (Operand.tmp 87) (Operand.tmp 88), type := 0, pos := "law.go:88", after := #[{ on := 2, ground := Ground.data }, { on := 3, ground := Ground.data }], guard := none }) (v := ?_) rfl (by kernel_rfl) (by kernel_rfl) (by kernel_rfl) (fun _ _ _ h => h) (Or.inl ⟨by rfl, ?_⟩) (by assumption) ?_; rotate_left; · (intro w hSw; (try dsimp only at hSw); skip; go_simp; (first | done | with_reducible rfl)))
                  try simp only [Act.put, List.setIfInBounds_toArray, List.set_cons_zero, List.set_cons_succ]
                  (refine wpAnyH_take (i := 5) (oi := { dst := some 90, op := Op.fieldAddr 34 (Operand.tmp 89) 2, type := 0, pos := "law.go:88", after := #[{ on := 4, ground := Ground.data }], guard := none }) (v := ?_) rfl (by kernel_rfl) (by kernel_rfl) (by kernel_rfl) (fun _ _ _ h => h) (Or.inl ⟨by rfl, ?_⟩) (by assumption) ?_; rotate_left; · (intro w hSw; (try dsimp only at hSw); skip; go_simp; (first | done | with_reducible rfl)))
                  try simp only [Act.put, List.setIfInBounds_toArray, List.set_cons_zero, List.set_cons_succ]
                  (refine wpAnyH_take (i := 6) (oi := { dst := some 91, op := Op.load 3 (Operand.tmp 90), type := 3, pos := "law.go:88", after := #[{ on := 5, ground := Ground.data }], guard := none }) (v := ?_) rfl (by kernel_rfl) (by kernel_rfl) (by kernel_rfl) (fun _ _ _ h => h) (Or.inl ⟨by rfl, ?_⟩) (by assumption) ?_; rotate_left; · (intro w hSw; (try dsimp only at hSw); have h9 := (HKP.out _ hSw).2.2.2; go_simp; (first | done | with_reducible rfl)))
                  try simp only [Act.put, List.setIfInBounds_toArray, List.set_cons_zero, List.set_cons_succ]
                  (refine wpAnyH_take (i := 7) (oi := { dst := some 92, op := Op.unOp UnOp.neg 3 (Operand.tmp 91), type := 3, pos := "law.go:88", after := #[{ on := 6, ground := Ground.data }], guard := none }) (v := ?_) rfl (by kernel_rfl) (by kernel_rfl) (by kernel_rfl) (fun _ _ _ h => h) (Or.inl ⟨by rfl, ?_⟩) (by assumption) ?_; rotate_left; · (intro w hSw; (try dsimp only at hSw); skip; go_simp; (first | done | with_reducible rfl)))
                  try simp only [Act.put, List.setIfInBounds_toArray, List.set_cons_zero, List.set_cons_succ]
                  (refine wpAnyH_take (i := 8) (oi := { dst := some 93, op := Op.fieldAddr 26 (Operand.tmp 2) 1, type := 0, pos := "law.go:88", after := #[], guard := none }) (v := ?_) rfl (by kernel_rfl) (by kernel_rfl) (by kernel_rfl) (fun _ _ _ h => h) (Or.inl ⟨by rfl, ?_⟩) (by assumption) ?_; rotate_left; · (intro w hSw; (try dsimp only at hSw); skip; go_simp; (first | done | with_reducible rfl)))
                  try simp only [Act.put, List.setIfInBounds_toArray, List.set_cons_zero, List.set_cons_succ]
                  (refine wpAnyH_take (i := 9) (oi := { dst := some 94, op := Op.load 23 (Operand.tmp 93), type := 23, pos := "law.go:88", after := #[{ on := 8, ground := Ground.data }], guard := none }) (v := ?_) rfl (by kernel_rfl) (by kernel_rfl) (by kernel_rfl) (fun _ _ _ h => h) (Or.inl ⟨by rfl, ?_⟩) (by assumption) ?_; rotate_left; · (intro w hSw; (try dsimp only at hSw); have h9 := HY1.out _ hSw; go_simp; (first | done | with_reducible rfl)))
                  try simp only [Act.put, List.setIfInBounds_toArray, List.set_cons_zero, List.set_cons_succ]
                  (refine wpAnyH_take (i := 10) (oi := { dst := some 95, op := Op.move (Operand.tmp 8), type := 3, pos := "law.go:88", after := #[], guard := none }) (v := ?_) rfl (by kernel_rfl) (by kernel_rfl) (by kernel_rfl) (fun _ _ _ h => h) (Or.inl ⟨by rfl, ?_⟩) (by assumption) ?_; rotate_left; · (intro w hSw; (try dsimp only at hSw); skip; go_simp; (first | done | with_reducible rfl)))
                  try simp only [Act.put, List.setIfInBounds_toArray, List.set_cons_zero, List.set_cons_succ]
                  (refine wpAnyH_take (i := 11) (oi := { dst := some 96, op := Op.indexAddr 23 (Operand.tmp 94) (Operand.tmp 95), type := 0, pos := "law.go:88", after := #[{ on := 9, ground := Ground.data }, { on := 10, ground := Ground.data }], guard := none }) (v := ?_) rfl (by kernel_rfl) (by kernel_rfl) (by kernel_rfl) (fun _ _ _ h => h) (Or.inl ⟨by rfl, ?_⟩) (by assumption) ?_; rotate_left; · (intro w hSw; (try dsimp only at hSw); skip; go_simp; (first | done | with_reducible rfl)))
                  try simp only [Act.put, List.setIfInBounds_toArray, List.set_cons_zero, List.set_cons_succ]
                  (refine wpAnyH_take (i := 12) (oi := { dst := some 97, op := Op.fieldAddr 37 (Operand.tmp 96) 2, type := 0, pos := "law.go:88", after := #[{ on := 11, ground := Ground.data }], guard := none }) (v := ?_) rfl (by kernel_rfl) (by kernel_rfl) (by kernel_rfl) (fun _ _ _ h => h) (Or.inl ⟨by rfl, ?_⟩) (by assumption) ?_; rotate_left; · (intro w hSw; (try dsimp only at hSw); skip; go_simp; (first | done | with_reducible rfl)))
                  try simp only [Act.put, List.setIfInBounds_toArray, List.set_cons_zero, List.set_cons_succ]
                  (refine wpAnyH_take (i := 13) (oi := { dst := some 98, op := Op.load 3 (Operand.tmp 97), type := 3, pos := "law.go:88", after := #[{ on := 12, ground := Ground.data }], guard := none }) (v := ?_) rfl (by kernel_rfl) (by kernel_rfl) (by kernel_rfl) (fun _ _ _ h => h) (Or.inl ⟨by rfl, ?_⟩) (by assumption) ?_; rotate_left; · (intro w hSw; (try dsimp only at hSw); have h9 := (HKI.out _ hSw).2.2.1; go_simp; (first | done | with_reducible rfl)))
                  try simp only [Act.put, List.setIfInBounds_toArray, List.set_cons_zero, List.set_cons_succ]
                  refine wpAnyH_ready (rs := [14]) (by kernel_rfl) (by simp) ?_
                  refine (AllReadyH.cons (o := { dst := some 99, op := Op.call { callee := Callee.value (Operand.func 26), args := #[Operand.tmp 92, Operand.tmp 98], argTypes := #[3, 3] }, type := 64, pos := "law.go:88", after := #[{ on := 7, ground := Ground.data }, { on := 13, ground := Ground.data }], guard := none }) rfl (fun K hK => ?_) AllReadyH.nil)
                  go_simp
                  (go_at_call 26; (with_reducible refine (CTm _).mono ?_); rintro e w7 ⟨rfl, hg⟩; have HG7 : Hid (Grew w6 w7) := grew_trans (grew_drew (grew_refl _)) hg; clear hg)
                  refine hK.out _ _ ?_ (fun hHeld => ?_)
                  · first
                    | exact grew_trans HG6.out HG7.out
                  clear hK K
                  try simp only [Act.put, List.setIfInBounds_toArray, List.set_cons_zero, List.set_cons_succ]
                  refine wpAnyH_ready (rs := [15]) (by kernel_rfl) (by simp) ?_
                  refine (AllReadyH.cons (o := { dst := some 100, op := Op.buildSlice 61 1 #[(0, Operand.tmp 99)], type := 61, pos := "law.go:88", after := #[{ on := 14, ground := Ground.data }], guard := none }) rfl (fun K hK => ?_) AllReadyH.nil)
                  go_simp
                  refine hK.out _ _ ?_ (fun hHeld => ?_)
                  · first
                    | exact grew_trans HG6.out (grew_trans HG7.out (grew_alloc _ _ _))
                  clear hK K
                  try simp only [Act.put, List.setIfInBounds_toArray, List.set_cons_zero, List.set_cons_succ]
                  refine wpAnyH_ready (rs := [16]) (by kernel_rfl) (by simp) ?_
                  refine (AllReadyH.cons (o := { dst := some 101, op := Op.call { callee := Callee.builtin Builtin.append, args := #[Operand.tmp 85, Operand.tmp 100], argTypes := #[61, 61] }, type := 61, pos := "law.go:88", after := #[{ on := 0, ground := Ground.data }, { on := 15, ground := Ground.data }, { on := 14, ground := Ground.chain }], guard := none }) rfl (fun K hK => ?_) AllReadyH.nil)
                  refine step_two (E := enWd) (F := enWd) (s := 64) (t := 64) (base := w4.heap.size) (by rfl) _ _ 61 (.agg #[.int .i64 0, .int .u64 0]) 16 (by rfl) Try.underlying61 info_wide (by rfl) (HT6.out.swap.keep (grew_trans HG7.out (grew_alloc _ _ _))) (by rfl) _ T (by rfl) (RowE.one1 enWd _ _ _ _ _ rfl rfl) (by have := HLC.out; unfold maxLen; omega) (by have := HLC.out; omega) (Nat.le_trans HSZ6.out (Nat.le_trans (grew_size HG7.out) (by simp))) ?_; intro v8 w8 ht hb hgw; obtain ⟨A8, c8, rfl, -⟩ := ht.a.form; have HG8 : Hid (Grew w4 w8) := Below.trans (grew_trans HG6.out (grew_trans HG7.out (grew_alloc _ _ _))) hb; have ht2 := ht.swap; rw [List.length_append, List.length_singleton] at ht2 ⊢; have HT8 := Lib.hid ht2; clear ht hb hgw ht2
                  refine hK.out _ _ ?_ (fun hHeld => ?_)
                  · first
                    | exact HG8.out
                  clear hK K
                  try simp only [Act.put, List.setIfInBounds_toArray, List.set_cons_zero, List.set_cons_succ]
                  (refine wpAnyH_take (i := 17) (oi := { dst := some 10, op := Op.assign (Operand.tmp 101), type := 61, pos := "law.go:88", after := #[{ on := 16, ground := Ground.data }, { on := 16, ground := Ground.chain }, { on := 0, ground := Ground.phase }, { on := 1, ground := Ground.phase }, { on := 2, ground := Ground.phase }, { on := 3, ground := Ground.phase }, { on := 4, ground := Ground.phase }, { on := 5, ground := Ground.phase }, { on := 6, ground := Ground.phase }, { on := 7, ground := Ground.phase }, { on := 8, ground := Ground.phase }, { on := 9, ground := Ground.phase }, { on := 10, ground := Ground.phase }, { on := 11, ground := Ground.phase }, { on := 12, ground := Ground.phase }, { on := 13, ground := Ground.phase }, { on := 14, ground := Ground.phase }, { on := 15, ground := Ground.phase }, { on := 16, ground := Ground.phase }], guard := none }) (v := ?_) rfl (by kernel_rfl) (by kernel_rfl) (by kernel_rfl) (fun _ _ _ h => h) (Or.inl ⟨by rfl, ?_⟩) (by assumption) ?_; rotate_left; · (intro w hSw; (try dsimp only at hSw); skip; go_simp; (first | done | with_reducible rfl)))
                  try simp only [Act.put, List.setIfInBounds_toArray, List.set_cons_zero, List.set_cons_succ]
                  refine wpAnyH_done (by kernel_rfl) ?_ _
                  clear hHeld
                  apply_assumption
                  have u0 : ∀ p : GrewTo w8, p.to.cell? ⟨bu, ou + i * 3, none⟩ = some (.int .i64 q1) := grew_every (fun w' g => (HKU.out w' (grew_trans HG8.out g)).1)
                  have x2 : ∀ p : GrewTo w8, p.to.cell? ⟨bb, 2, none⟩ = some (.slice (some ⟨bo, oo, none⟩) m2 d2) := grew_every (fun w' g => HX2.out w' (grew_trans HG8.out g))
                  have z0 : ∀ p : GrewTo w8, p.to.cell? ⟨bo, oo + i * 4, none⟩ = some (.int .i64 q1) := grew_every (fun w' g => (HKP.out w' (grew_trans HG8.out g)).1)
                  go_wp2_with fail
                  refine wp_region_grew (by kernel_rfl) (by kernel_rfl) ?_
                  repeat (go_big_quiet_step (fail))
                  refine wpQuiet_nil ?_
                  intro wz hw'
                  have HGv := Lib.hid (grew_of hw')
                  clear hw' x2 u0 z0
                  have HTv := Lib.hid (HT8.out.keep HGv.out)
                  have HGw := Lib.hid (grew_trans HG8.out HGv.out)
                  clear HT8 HG8 HGv
                  go_wp2
                  go_roundw
                  case rel =>
                    refine ⟨i + 1, A6, A8, c6, c8, by go_num, by rw [HWS.out, List.length_append, List.length_singleton], by rw [HCS.out, List.length_append, List.length_singleton], by omega, ?_, HGw.out⟩
                    show Two _ _ _ _ _ _ _ _ _ _
                    rw [HWS.out, HCS.out, List.length_append, List.length_append, List.length_singleton, List.length_singleton]
                    exact HTv.out
                  case measure => simp only [intOf]; omega
                · have g1 : (q2 == nk) = false := beq_false_of_ne hq
                  rw [if_neg hq, List.append_nil] at HWS HCS
                  go_wp2_with fail
                  refine wp_region_grew (by kernel_rfl) (by kernel_rfl) ?_
                  repeat (go_big_quiet_step (fail))
                  refine wpQuiet_nil ?_
                  intro wy hw'
                  have HGy := Lib.hid (grew_of hw')
                  clear hw' x2 y1 z1 v0 xw g1
                  have HGz := Lib.hid (grew_trans HGq.out HGy.out)
                  have HTz := Lib.hid (HT.out.keep HGy.out)
                  clear HT HGq HGy
                  have u0 : ∀ p : GrewTo wy, p.to.cell? ⟨bu, ou + i * 3, none⟩ = some (.int .i64 q1) := grew_every (fun w' g => (HKU.out w' (grew_trans HGz.out g)).1)
                  have x2 : ∀ p : GrewTo wy, p.to.cell? ⟨bb, 2, none⟩ = some (.slice (some ⟨bo, oo, none⟩) m2 d2) := grew_every (fun w' g => HX2.out w' (grew_trans HGz.out g))
                  have z0 : ∀ p : GrewTo wy, p.to.cell? ⟨bo, oo + i * 4, none⟩ = some (.int .i64 q1) := grew_every (fun w' g => (HKP.out w' (grew_trans HGz.out g)).1)
                  go_wp2_with fail
                  refine wp_region_grew (by kernel_rfl) (by kernel_rfl) ?_
                  repeat (go_big_quiet_step (fail))
                  refine wpQuiet_nil ?_
                  intro wz hw'
                  have HGv := Lib.hid (grew_of hw')
                  clear hw' x2 u0 z0
                  have HTv := Lib.hid (HTz.out.keep HGv.out)
                  have HGw := Lib.hid (grew_trans HGz.out HGv.out)
                  clear HTz HGz HGv
                  go_wp2
                  go_roundw
                  case rel =>
                    refine ⟨i + 1, A, B, ca, cb', by go_num, by rw [HWS.out], by rw [HCS.out], by omega, ?_, HGw.out⟩
                    show Two _ _ _ _ _ _ _ _ _ _
                    rw [HWS.out, HCS.out]
                    exact HTv.out
                  case measure => simp only [intOf]; omega
              · obtain rfl : i = m2 := by omega
                have htk : pl.take i = pl := List.take_of_length_le (by rw [HL2.out]; exact Nat.le_refl _)
                rw [htk] at HT ⊢
                obtain ⟨hs, hw0, hw1, hw2⟩ := HWC.out k hkl
                have hll := lists_len r (r.2.1.getD k in0).1.2.2.1 (noIn (r.2.1.getD k in0)) pl i
                rw [htk] at hll
                have hA := (own_form HT.out.a).1
                have hB := (own_form HT.out.b).1
                have CS1 := fun w' (g : Grew wr w') => refSum_any A _ ca _ w' (wides_of_E (hA.keep g)) hw1 (by omega)
                have CS2 := fun w' (g : Grew wr w') => refSum_any B _ cb' _ w' (wides_of_E (hB.keep g)) hw2 (by omega)
                rw [hw0] at CS1
                rw [← hs, hw0] at CS2
                clear hs hw0 hw1 hw2 hll hA hB HT
                generalize (wonL r (noIn (r.2.1.getD k in0)) pl).sum = S at *
                generalize hi64 (wsV S) = s1 at *
                generalize lo64 (wsV S) = s2 at *
                generalize (wonL r (noIn (r.2.1.getD k in0)) pl).length = la at *
                generalize (costL (r.2.1.getD k in0).1.2.2.1 (noIn (r.2.1.getD k in0)) pl).length = lb at *
                go_wp2_with (first
                  | (go_at_call 27; (with_reducible refine (CS1 _ (grew_refl _)).mono ?_); rintro e w5 ⟨rfl, hg⟩; have HR5 := Lib.hid hg; clear hg CS1)
                  | (go_at_call 27; (with_reducible refine (CS2 _ (grew_trans HR5.out (grew_alloc _ _ _))).mono ?_); rintro e w6 ⟨rfl, hg⟩; have HX6 : Hid (OwnC w6 w5.heap.size [.int .i64 s1, .int .u64 s2]) := (OwnC.new w5 [.int .i64 s1, .int .u64 s2] _ _ rfl).keep hg; have HG6 : Hid (Grew w4 w6) := grew_trans HGq.out (grew_trans HR5.out (grew_trans (grew_alloc _ _ _) hg)); have hl6 := HX6.out.lt; have x0 := HX6.out.at 0 (.int .i64 s1) rfl; have x1 := HX6.out.at 1 (.int .u64 s2) rfl; clear hg))
                go_roundw
                case rel => exact ⟨k + 1, by go_num, by omega, grew_trans HG6.out (grew_alloc _ _ _)⟩
                case measure => simp only [intOf]; omega
          · go_wp2_with (go_at_call 24; (with_reducible refine (CV _).mono ?_); rintro e w9 ⟨rfl, hg⟩; have HG9 := Lib.hid (grew_trans (grew_trans HG4.out HGr.out) hg); clear hg)
            go_ret
            exact ⟨rfl, HG9.out⟩
      · obtain ⟨g4, g5⟩ := run_no he
        have d0 : (runE r b != 0) = true := bne_iff_ne.2 he
        clear he
        rw [g4, g5] at CR
        generalize runE r b = E at *
        dsimp only [vBk, bk0] at CR
        generalize b.1 = nx at *
        have HR0 : Hid (OwnC ((w.alloc (.cells #[.slice A1 n1 c1, .slice A2 n2 c2, .slice A3 n3 c3] 26)).alloc (.cells #[.int .i64 nx, .slice B1 m1 d1, .slice B2 m2 d2] 30)) w.heap.size [.slice A1 n1 c1, .slice A2 n2 c2, .slice A3 n3 c3]) := (OwnC.new w [.slice A1 n1 c1, .slice A2 n2 c2, .slice A3 n3 c3] _ _ rfl).keep (grew_alloc _ _ _)
        have HB0 : Hid (OwnC ((w.alloc (.cells #[.slice A1 n1 c1, .slice A2 n2 c2, .slice A3 n3 c3] 26)).alloc (.cells #[.int .i64 nx, .slice B1 m1 d1, .slice B2 m2 d2] 30)) (w.heap.size + 1) [.int .i64 nx, .slice B1 m1 d1, .slice B2 m2 d2]) := OwnC.new (w.alloc (.cells #[.slice A1 n1 c1, .slice A2 n2 c2, .slice A3 n3 c3] 26)) [.int .i64 nx, .slice B1 m1 d1, .slice B2 m2 d2] _ _ (by simp)
        have HG0 : Hid (Grew w ((w.alloc (.cells #[.slice A1 n1 c1, .slice A2 n2 c2, .slice A3 n3 c3] 26)).alloc (.cells #[.int .i64 nx, .slice B1 m1 d1, .slice B2 m2 d2] 30))) := grew_trans (grew_alloc _ _ _) (grew_alloc _ _ _)
        go_enter Try.func5, Try.ntmps5
        go_upto_region 1 with (fail)
        generalize ((w.alloc (.cells #[.slice A1 n1 c1, .slice A2 n2 c2, .slice A3 n3 c3] 26)).alloc (.cells #[.int .i64 nx, .slice B1 m1 d1, .slice B2 m2 d2] 30)) = w0 at *
        have hbb : w.heap.size + 1 < w0.heap.size := HB0.out.lt
        generalize w.heap.size + 1 = bb at *
        have r0 := HR0.out.at 0 (.slice A1 n1 c1) rfl; have r1 := HR0.out.at 1 (.slice A2 n2 c2) rfl; have r2 := HR0.out.at 2 (.slice A3 n3 c3) rfl
        go_wp2_with (first
          | (go_at_call 8; (with_reducible refine (CH _).mono ?_); rintro e w1 ⟨rfl, hg⟩; have HG1 := Lib.hid (grew_trans HG0.out hg); have HR1 := Lib.hid (HR0.out.keep hg); have HB1 := Lib.hid (HB0.out.keep hg); clear hg r0 r1 r2 HG0 HR0 HB0; have b0 := HB1.out.at 0 (.int .i64 nx) rfl; have b1 := HB1.out.at 1 (.slice B1 m1 d1) rfl; have b2 := HB1.out.at 2 (.slice B2 m2 d2) rfl)
          | (go_at_call 9; (with_reducible refine (CK _).mono ?_); rintro e w2 ⟨rfl, hg⟩; have HG2 := Lib.hid (grew_trans HG1.out hg); have HR2 := Lib.hid (HR1.out.keep hg); have HB2 := Lib.hid (HB1.out.keep hg); clear hg b0 b1 b2 HG1 HR1 HB1; have r0 := HR2.out.at 0 (.slice A1 n1 c1) rfl; have r1 := HR2.out.at 1 (.slice A2 n2 c2) rfl; have r2 := HR2.out.at 2 (.slice A3 n3 c3) rfl; have b0 := HB2.out.at 0 (.int .i64 nx) rfl; have b1 := HB2.out.at 1 (.slice B1 m1 d1) rfl; have b2 := HB2.out.at 2 (.slice B2 m2 d2) rfl)
          | (go_at_call 17; (with_reducible refine (CR _ HG2.out).mono ?_); rintro e w3 ⟨C1, C2, C9, e1, e2, e9, rfl, hob, hod, ha1, ha2, hg⟩; have HG3 := Lib.hid (grew_trans HG2.out hg); have HR3 := Lib.hid (HR2.out.keep hg); have HB3 := Lib.hid (HB2.out.keep hg); clear hg r0 r1 r2 b0 b1 b2 HG2 HR2 HB2; clear hob hod ha1 ha2)
          | (go_at_call 24; (with_reducible refine (CV _).mono ?_); rintro e w9 ⟨rfl, hg⟩; have HG9 : Hid (Grew w w9) := grew_trans (grew_trans HG3.out (grew_alloc _ _ _)) hg; clear hg))
        go_ret
        exact ⟨rfl, HG9.out⟩
    · generalize b.1 = nx at *
      have HR0 : Hid (OwnC ((w.alloc (.cells #[.slice A1 n1 c1, .slice A2 n2 c2, .slice A3 n3 c3] 26)).alloc (.cells #[.int .i64 nx, .slice B1 m1 d1, .slice B2 m2 d2] 30)) w.heap.size [.slice A1 n1 c1, .slice A2 n2 c2, .slice A3 n3 c3]) := (OwnC.new w [.slice A1 n1 c1, .slice A2 n2 c2, .slice A3 n3 c3] _ _ rfl).keep (grew_alloc _ _ _)
      have HB0 : Hid (OwnC ((w.alloc (.cells #[.slice A1 n1 c1, .slice A2 n2 c2, .slice A3 n3 c3] 26)).alloc (.cells #[.int .i64 nx, .slice B1 m1 d1, .slice B2 m2 d2] 30)) (w.heap.size + 1) [.int .i64 nx, .slice B1 m1 d1, .slice B2 m2 d2]) := OwnC.new (w.alloc (.cells #[.slice A1 n1 c1, .slice A2 n2 c2, .slice A3 n3 c3] 26)) [.int .i64 nx, .slice B1 m1 d1, .slice B2 m2 d2] _ _ (by simp)
      have HG0 : Hid (Grew w ((w.alloc (.cells #[.slice A1 n1 c1, .slice A2 n2 c2, .slice A3 n3 c3] 26)).alloc (.cells #[.int .i64 nx, .slice B1 m1 d1, .slice B2 m2 d2] 30))) := grew_trans (grew_alloc _ _ _) (grew_alloc _ _ _)
      go_enter Try.func5, Try.ntmps5
      go_upto_region 1 with (fail)
      generalize ((w.alloc (.cells #[.slice A1 n1 c1, .slice A2 n2 c2, .slice A3 n3 c3] 26)).alloc (.cells #[.int .i64 nx, .slice B1 m1 d1, .slice B2 m2 d2] 30)) = w0 at *
      have hbb : w.heap.size + 1 < w0.heap.size := HB0.out.lt
      generalize w.heap.size + 1 = bb at *
      have r0 := HR0.out.at 0 (.slice A1 n1 c1) rfl; have r1 := HR0.out.at 1 (.slice A2 n2 c2) rfl; have r2 := HR0.out.at 2 (.slice A3 n3 c3) rfl
      go_wp2_with (first
        | (go_at_call 8; (with_reducible refine (CH _).mono ?_); rintro e w1 ⟨rfl, hg⟩; have HG1 := Lib.hid (grew_trans HG0.out hg); have HR1 := Lib.hid (HR0.out.keep hg); have HB1 := Lib.hid (HB0.out.keep hg); clear hg r0 r1 r2 HG0 HR0 HB0; have b0 := HB1.out.at 0 (.int .i64 nx) rfl; have b1 := HB1.out.at 1 (.slice B1 m1 d1) rfl; have b2 := HB1.out.at 2 (.slice B2 m2 d2) rfl)
        | (go_at_call 9; (with_reducible refine (CK _).mono ?_); rintro e w2 ⟨rfl, hg⟩; have HG2 := Lib.hid (grew_trans HG1.out hg); have HR2 := Lib.hid (HR1.out.keep hg); have HB2 := Lib.hid (HB1.out.keep hg); clear hg b0 b1 b2 HG1 HR1 HB1; have r0 := HR2.out.at 0 (.slice A1 n1 c1) rfl; have r1 := HR2.out.at 1 (.slice A2 n2 c2) rfl; have r2 := HR2.out.at 2 (.slice A3 n3 c3) rfl; have b0 := HB2.out.at 0 (.int .i64 nx) rfl; have b1 := HB2.out.at 1 (.slice B1 m1 d1) rfl; have b2 := HB2.out.at 2 (.slice B2 m2 d2) rfl))
      go_ret
      exact ⟨rfl, HG2.out⟩
  · generalize b.1 = nx at *
    have HR0 : Hid (OwnC ((w.alloc (.cells #[.slice A1 n1 c1, .slice A2 n2 c2, .slice A3 n3 c3] 26)).alloc (.cells #[.int .i64 nx, .slice B1 m1 d1, .slice B2 m2 d2] 30)) w.heap.size [.slice A1 n1 c1, .slice A2 n2 c2, .slice A3 n3 c3]) := (OwnC.new w [.slice A1 n1 c1, .slice A2 n2 c2, .slice A3 n3 c3] _ _ rfl).keep (grew_alloc _ _ _)
    have HB0 : Hid (OwnC ((w.alloc (.cells #[.slice A1 n1 c1, .slice A2 n2 c2, .slice A3 n3 c3] 26)).alloc (.cells #[.int .i64 nx, .slice B1 m1 d1, .slice B2 m2 d2] 30)) (w.heap.size + 1) [.int .i64 nx, .slice B1 m1 d1, .slice B2 m2 d2]) := OwnC.new (w.alloc (.cells #[.slice A1 n1 c1, .slice A2 n2 c2, .slice A3 n3 c3] 26)) [.int .i64 nx, .slice B1 m1 d1, .slice B2 m2 d2] _ _ (by simp)
    have HG0 : Hid (Grew w ((w.alloc (.cells #[.slice A1 n1 c1, .slice A2 n2 c2, .slice A3 n3 c3] 26)).alloc (.cells #[.int .i64 nx, .slice B1 m1 d1, .slice B2 m2 d2] 30))) := grew_trans (grew_alloc _ _ _) (grew_alloc _ _ _)
    go_enter Try.func5, Try.ntmps5
    go_upto_region 1 with (fail)
    generalize ((w.alloc (.cells #[.slice A1 n1 c1, .slice A2 n2 c2, .slice A3 n3 c3] 26)).alloc (.cells #[.int .i64 nx, .slice B1 m1 d1, .slice B2 m2 d2] 30)) = w0 at *
    have hbb : w.heap.size + 1 < w0.heap.size := HB0.out.lt
    generalize w.heap.size + 1 = bb at *
    have r0 := HR0.out.at 0 (.slice A1 n1 c1) rfl; have r1 := HR0.out.at 1 (.slice A2 n2 c2) rfl; have r2 := HR0.out.at 2 (.slice A3 n3 c3) rfl
    go_wp2_with (go_at_call 8; (with_reducible refine (CH _).mono ?_); rintro e w1 ⟨rfl, hg⟩; have HG1 := Lib.hid (grew_trans HG0.out hg); have HR1 := Lib.hid (HR0.out.keep hg); have HB1 := Lib.hid (HB0.out.keep hg); clear hg r0 r1 r2 HG0 HR0 HB0; have b0 := HB1.out.at 0 (.int .i64 nx) rfl; have b1 := HB1.out.at 1 (.slice B1 m1 d1) rfl; have b2 := HB1.out.at 2 (.slice B2 m2 d2) rfl)
    go_ret
    exact ⟨rfl, HG1.out⟩
end Go.Proofs.Ytlbfljkhlkjcbaa.NumK
namespace Go.Proofs.Ytlbfljkhlkjcbaa.NumK
open Go.RowKit
set_option linter.unusedVariables false

theorem markZero_row (w : World) {cs0 cs1 : Array Value} {r : Rl} {b : Bk} (h0 : spRl.rd w cs0.toList r) (h1 : spBk.rd w cs1.toList b) :
    Calls Try.prog 5 #[.agg cs0, .agg cs1] w fun e w' => e = .returned (.bool true) ∧ Grew w w' := by
  obtain ⟨A1, A2, A3, n1, n2, n3, c1, c2, c3, e, h⟩ := roll_of h0
  obtain ⟨B1, B2, m1, m2, d1, d2, e', h'⟩ := book_of h1
  rw [e, e']
  exact markZero_walk r b A1 A2 A3 B1 B2 n1 n2 n3 c1 c2 c3 m1 m2 d1 d2 w h.rows h'
end Go.Proofs.Ytlbfljkhlkjcbaa.NumK
namespace Go.Proofs.Ytlbfljkhlkjcbaa.markZero
open Go.ChangeShapes Go.WideShapes Go.ChangeAt Go.RowKit
set_option linter.unusedVariables false

theorem own : ownKnob Try.prog.godebug = none := by kernel_rfl
theorem laidOut : laidOutB Try.prog = true := by kernel_rfl

set_option maxRecDepth 100000 in
theorem lifted (os : Os) (started : os.Started) (H : Type) (enc : TypeId × Value → H) :
    ReturnsInHanded {} Try.checked os 5 .any (Rows.markZeroSpec.pre6 enc Try.prog Try.f5 Rows.markZeroRow.domain false) (Rows.markZeroSpec.post enc Try.prog Try.f5 false true false false) := by
  refine returnsInHanded_of_change (C := Try.checked) own started (by kernel_rfl) Try.func5
    (ChangeSpec.witness6 (enc := enc) (C := Try.checked) false ⟨#[], #[.agg #[.slice none 0 0, .slice none 0 0, .slice none 0 0], .agg #[.int .i64 0, .slice none 0 0, .slice none 0 0]], []⟩ 8 (by kernel_rfl) (by kernel_rfl) (by kernel_rfl) (by kernel_rfl)) ?_
  intro W base args ds gs before hval0 hW hcnd _
  have hval : ∀ (j : Nat) t v, Try.f5.params[j]? = some t → args[j]? = some v → Value.okWide Try.prog W .any base t v := hval0
  have hW' := hW
  obtain ⟨p, q, hA0, hV, rfl, hfz, hnd⟩ := hW
  have hA : DataW.TrodAll enc Try.prog W 0 (fun _ => true) true Try.f5.params.toList args.toList ds p := hA0
  skip
  rw [Try.params5] at hA hval
  obtain ⟨v0, vs0, d0, ds0, p0, q0, hargs, rfl, rfl, h0, r0⟩ := trodAll_cons hA
  obtain ⟨v1, vs1, d1, ds1, p1, q1, rfl, rfl, rfl, h1, r1⟩ := trodAll_cons r0
  obtain ⟨rfl, rfl, rfl⟩ := trodAll_nil r1
  obtain rfl : args = #[v0, v1] := by cases args; simp_all
  obtain ⟨rfl, rfl⟩ := trodVars_none hV
  have k0 := h0
  have lt0 : ∀ x ∈ p0, x.block < W.heap.size := by obtain ⟨m, hm⟩ := k0; exact DataW.trod_lt m _ _ _ hm
  obtain ⟨cs0, x0, rfl, e0⟩ := NumK.arg_struct Try.underlying26 NumK.opens_roll (hval 0 26 v0 rfl rfl) h0
  have k1 := h1
  have lt1 : ∀ x ∈ p1, x.block < W.heap.size := by obtain ⟨m, hm⟩ := k1; exact DataW.trod_lt m _ _ _ hm
  obtain ⟨cs1, x1, rfl, e1⟩ := NumK.arg_struct Try.underlying30 NumK.opens_book (hval 1 30 v1 rfl rfl) h1
  clear hA0 hval0
  refine (NumK.markZero_row W e0 e1).mono fun e W' ⟨he, bel⟩ => ?_
  subst he
  exact ⟨_, rfl, _, _, _, [], _, [], hW', trodAll_mk1 (shut_bool Try.underlying4 _), (trodAll_cons_mk (Below.trod laidOut (by kernel_rfl) (of_decide_eq_true (by kernel_rfl)) k0 bel lt0) (trodAll_cons_mk (Below.trod laidOut (by kernel_rfl) (of_decide_eq_true (by kernel_rfl)) k1 bel lt1) trodAll_mk0)), rfl, bel.frame _, fun h => by cases h⟩

theorem over : Rows.markZeroRow.holds Try.pinned (OpenSpec.ofChange Rows.markZeroSpec) :=
  OpenClaim.holds_of_wide 5 Try.f5 rfl rfl rfl rfl rfl rfl rfl ⟨rfl, rfl, rfl, rfl, rfl⟩ rfl rfl rfl rfl rfl (by kernel_rfl) Try.func5 (by kernel_rfl)
    (of_decide_eq_true (by kernel_rfl)) (by unfold Func.isWrapper; first | (rw [if_pos (by decide +kernel)]; kernel_rfl) | (rw [if_neg (by decide +kernel)]; exact ⟨rfl, rfl⟩))
    (fun os started H enc _ => lifted os started H enc)

/-! ### the statement -/
theorem proved : Rows.MarkZeroSaid := over
end Go.Proofs.Ytlbfljkhlkjcbaa.markZero
