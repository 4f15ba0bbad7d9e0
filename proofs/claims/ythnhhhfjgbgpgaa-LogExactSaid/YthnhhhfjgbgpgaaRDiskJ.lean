/- disk: Crash. -/
import Derived.Test.YthnhhhfjgbgpgaaRDisk
import Derived.Test.YthnhhhfjgbgpgaaRGrd
namespace Go.Proofs.Ythnhhhfjgbgpgaa.NumK
open Go.RowKit

theorem size44 : (Try.prog.info? 5).map (·.size) = some 1 := by kernel_rfl
/-- 'copy' between two rows of bytes, as a step of a region that draws its order. -/
theorem step_copy_mid {ops : Array Oper} {o : Oper} {a : Act} {w : World} {K : Act → World → Prop} {Q : Exit → Act → World → Prop} {E : Prop} (hgd : o.guard = none) (x y : Operand)
    (ho : o.op = .call { callee := .builtin .copy, args := #[x, y], argTypes := #[37, 37] }) (b p dcap V r scap m : Nat) (hd : a.eval x = .slice (some ⟨b, p, none⟩) 64 dcap) (hs : a.eval y = .slice (some ⟨V, r, none⟩) m scap)
    (cs : List Value) (hl : cs.length = 64) (hm : m ≤ 64) (hsrc : w.rangeAt V r cs) (hth : w.there b p 64) (h1 : ∀ v ∈ cs, v.oneCell' = true)
    (h : K (a.put o.dst (goInt (m : Int))) (w.setCells b p (cs.take m))) : if Region.wanted o (yielded ops a.tmps) = true then Oper.wp Try.prog o a w K Q else E := by
  have hw : Region.wanted o (yielded ops a.tmps) = true := by simp [Region.wanted, hgd]
  rw [if_pos hw]
  have hcl : (cs.take m).length = m := by rw [List.length_take]; omega
  have hr := run_copy_cells (P := Try.prog) w 37 37 o.type 5 b p 64 dcap ⟨V, r, none⟩ m scap (cs.take m) Try.underlying37 size44 (by rw [hcl]; show m = Nat.min m 64; exact (Nat.min_eq_left hm).symm)
    (fun j v hv => by
      rw [Addr.add_mid]
      have hj : j < m := by have := (List.getElem?_eq_some_iff.1 hv).1; omega
      exact hsrc j v (by rw [List.getElem?_take] at hv; simpa [hj] using hv))
    (fun j hj => (hth j (by omega)).1) (fun j hj => (hth j (by omega)).2) (fun v hv => h1 v (List.mem_of_mem_take hv))
  rw [hcl] at hr
  unfold Oper.wp execOp
  simp only [ho, resolve, invoke, builtin, Sem.run_bind, Sem.run_pure, Result.andThen_ok, List.map_toArray, List.map_cons, List.map_nil, hd, hs, hr]
  exact h
theorem drew_setCells (Y : Nat) : ∀ (vs : List Value) (o : Nat) (w : World), w.drew.setCells Y o vs = (w.setCells Y o vs).drew
  | [], _, _ => rfl
  | v :: r, o, w => by rw [World.setCells, World.setCells]; exact drew_setCells Y r (o + 1) (w.setCell ⟨Y, o, none⟩ v)

set_option maxRecDepth 100000 in
set_option maxHeartbeats 2000000 in
theorem crash_any (F : Nat → Prop) (q : Nat) (s : DS) (A : Option Addr) (pn pc : Nat) (zs : List Int) (w : World) (h : DK w F q s) (hp : Ints w A pn zs) (hpF : ∀ a, A = some a → 0 < pn → ¬ F a.block) (hpn : pn ≤ 9223372036854775807) (hn : s.opn.length ≤ 1000000) :
    Calls Try.prog 9 #[.pointer (some ⟨q, 0, none⟩), .slice A pn pc] w (DPost F q w (.tuple #[]) (dCrash s zs)) := by
  have CRm := Lib.hid (fun p w' => remaining_any p w')
  have HP := Lib.hid hp
  have HPF := Lib.hid hpF
  have HD := Lib.hid h
  obtain ⟨C, Y, v, L, H, h1, h2, h3⟩ := h.ex
  obtain ⟨A0, cap, rfl⟩ := own_form h3
  have c2 := H.c2
  have HL := Lib.hid L
  have HH := Lib.hid H
  have H1 := Lib.hid h1
  have H2 := Lib.hid h2
  have H3 := Lib.hid h3
  clear h L H h1 h2 h3 hp hpF
  obtain ⟨Z, hZ⟩ : ∃ Z, Z = (wrC (0, blk0)).toArray := ⟨_, rfl⟩
  have hz := fun w => zero66 w
  rw [← hZ] at hz
  have hZ2 : Hid (Z.size = 65) := by show _ = _; rw [hZ]; simp [wrC, bytesV_len, blk0]
  clear hZ
  obtain ⟨d66, hd66, hr66⟩ := under66
  obtain ⟨m, hm⟩ : ∃ m, s.opn.length = m := ⟨_, rfl⟩
  have hm2 := Lib.hid hm
  rw [hm] at c2 hn
  clear hm
  go_enter Try.func9, Try.ntmps9
  go_wp2
  go_loopw [14] (fun v14 wr => ∃ k : Nat, v14 = .int .i64 k ∧ k ≤ m ∧ Hid (Chg (fun i => i = Y) w wr) ∧ Hid (BlkRow wr Y (crashL zs 0 s.safe (s.opn.take k)))) (fun v14 _ => m - (intOf v14).toNat)
  case atStart => exact ⟨0, rfl, Nat.zero_le _, Chg.refl _ _, H2.out⟩
  case round =>
    obtain ⟨k, rfl, hk, HC, HB⟩ := hrel
    by_cases hlt : k < m
    · have hk2 : k < s.opn.length := by rw [hm2.out]; exact hlt
      have hall := HD.out.ok.all
      obtain ⟨O, cap', hA, hcap, hO, hrng⟩ := opn_at H3.out (fun x hx => (hall.2 x hx).2) hk2
      obtain ⟨rfl, rfl⟩ : A0 = some ⟨O, 0, none⟩ ∧ cap = cap' := by simpa [hm2.out] using hA
      have hOY : O ≠ Y := (HL.out.fv O rfl).2.2.2
      have hrng2 := rangeAt_of hrng (HC.out.block O hO hOY)
      have HS := Lib.hid (take_snocW s.opn k hk2)
      have HSL : Hid ((s.opn.take k).length = k) := by show _ = _; rw [List.length_take]; omega
      have hx := hall.2 s.opn[k] (List.getElem_mem hk2)
      generalize s.opn[k] = x at *
      obtain ⟨at', b⟩ := x
      obtain ⟨hx1, hx2⟩ := hx
      have hwl := wrC_len (at', b) hx2
      have hone := bytesV_one b
      have hone66 := Lib.hid (all_oneCell_toArray (wrC_one (at', b)))
      obtain ⟨-, hvr, hvt, hvg⟩ := set_var wr Z 66 (wrC (at', b)) (by rw [hZ2.out, hwl])
      have hbl := bytesV_len b
      rw [hx2] at hbl
      rw [show wrC (at', b) = .int .i64 (at' : Int) :: bytesV b from rfl] at hvr hrng2 hvt hwl hone66 hvg
      obtain ⟨t0, t1⟩ := range_tail hvr
      rw [Nat.zero_add] at t1
      have HVT := Lib.hid hvt
      have HVG := Lib.hid hvg
      have HR2 := Lib.hid hrng2
      have hC2 := (HC.out.trans (HVG.out.chg (F := fun i => i = Y)))
      have d1 := (hC2.cell (p := ⟨q, 1, none⟩) HH.out.lt (by show ¬ q = Y; exact HL.out.qY)).trans HH.out.c1
      have hYB := HB.out.of (HVG.out.block Y HB.out.lt) HVG.out.size
      have hLen : Hid ((crashL zs 0 s.safe (s.opn.take k)).length = s.safe.length) := crashL_len _ _ _ _
      have d2 := (hYB.at' at' (by rw [hLen.out]; exact hx1)).2
      have hst := stN_le (zs.getD k 0)
      have HNB := Lib.hid (hYB.mix (k := at') (by rw [hLen.out]; exact hx1) b hx2 _ hst)
      have HC2 := Lib.hid hC2
      have j1 : (k : Int) < (m : Int) := by omega
      have j2 : (at' : Int) < (s.safe.length : Int) := by omega
      have j3 : (0 : Int) ≤ (at' : Int) := Int.natCast_nonneg _
      have hVY : wr.heap.size ≠ Y := by have := HB.out.lt; omega
      have hqY := HL.out.qY
      have HFY := Lib.hid HL.out.fY
      clear hvr hrng2 hvt hvg hrng hC2 hYB hall hA hk2 hO hOY hx1 hx2
      generalize hcs : bytesV b = cs at *
      have HCS := Lib.hid hcs
      clear hcs
      generalize s.safe.length = n at *
      obtain ⟨wv, hwv⟩ : ∃ wv, wv = (wr.alloc (.cells Z 66)).setCells wr.heap.size 0 (.int .i64 (at' : Int) :: cs) := ⟨_, rfl⟩
      have HWV := Lib.hid hwv
      rw [← hwv] at HNB HC2 HVG d1 d2 t0 t1
      clear hwv
      have HPK : Hid (k < pn → ∃ b0 o0, A = some ⟨b0, o0, none⟩ ∧ wv.cell? ⟨b0, o0 + k, none⟩ = some (.int .i64 (zs.getD k 0))) := fun hkp => by
        obtain ⟨b0, o0, e0, hb0, hc0⟩ := HP.out.2 (by omega)
        refine ⟨b0, o0, e0, ((HC2.out.cell (p := ⟨b0, o0 + k, none⟩) hb0 (fun e => ?_)).trans (hc0 k hkp))⟩
        have := HPF.out _ e0 (by omega)
        exact this (by rw [show (⟨b0, o0, none⟩ : Addr).block = Y from e]; exact HFY.out)
      have HPZ : Hid (¬ k < pn → zs.getD k 0 = 0) := fun hkp => by
        have := HP.out.1
        rw [List.getD_eq_getElem?_getD, List.getElem?_eq_none (by omega)]; rfl
      have HST := Lib.hid (stay_stN zs k)
      generalize zs.getD k 0 = p at *
      have HSI := Lib.hid (stN_I p)
      have CRp := Lib.hid (CRm.out p wv.drew)
      rw [HSI.out] at CRp
      by_cases hkp : k < pn
      · obtain ⟨b0, o0, rfl, hpc⟩ := HPK.out hkp
        have k1 : (k : Int) < (pn : Int) := by omega
        clear HPK HPZ HSI CRm
        generalize stN p = mm at *
        go_upto_region 6 with (first
          | (refine wpList_load_mid (by rfl) 66 _ (by rfl) O (k * 65) (by rfl) (.int .i64 (at' : Int) :: cs) _ HR2.out hd66 hr66 (size66 hwl.symm) ?_)
          | (refine wpList_store_mid (by rfl) 66 _ _ (by rfl) wr.heap.size 0 (.int .i64 (at' : Int) :: cs).toArray (by rfl) (by rfl) (by simpa using HVT.out) (size66 (by simpa using hwl.symm)) hone66.out ?_; rw [← HWV.out]))
        have d0 : (wv.drew.setCells Y (at' * 64) (cs.take mm)).cell? ⟨q, 1, none⟩ = some (.slice (some ⟨Y, 0, none⟩) n n) := by
          rw [World.cell?_setCells_out _ _ _ _ _ (fun h => absurd h hqY)]; exact d1
        have t2 : (wv.drew.setCells Y (at' * 64) (cs.take mm)).cell? ⟨wr.heap.size, 0, none⟩ = some (.int .i64 (at' : Int)) := by
          rw [World.cell?_setCells_out _ _ _ _ _ (fun h => absurd h hVY)]; exact t0
        have i1 : (0 : Int) ≤ (mm : Int) := Int.natCast_nonneg _
        have i2 : (mm : Int) ≤ 64 := by omega
        go_region_held3 (fun w' => w'.cell? ⟨q, 1, none⟩ = some (.slice (some ⟨Y, 0, none⟩) n n) ∧ w'.cell? ⟨wr.heap.size, 0, none⟩ = some (.int .i64 (at' : Int))) (first | exact ⟨d1, t0⟩ | exact ⟨d0, t2⟩)
          (first
            | (refine step_copy_mid (by rfl) _ _ (by rfl) Y (at' * 64) 64 wr.heap.size 1 64 mm (by rfl) (by rfl) cs hbl hst ((World.rangeAt_drew _ _ _ _).2 t1) ((World.there_drew _ _ _ _).2 d2) hone ?_)
            | (go_at_call 30; (with_reducible refine CRp.out.mono ?_; rintro e w8 ⟨rfl, rfl⟩)))
        have HCE : Hid (Chg (fun i => i = Y) w (wv.drew.setCells Y (at' * 64) (cs.take mm))) := (HC2.out.drew).setCells _ _ _ (fun _ => rfl)
        have HBE : Hid (BlkRow (wv.drew.setCells Y (at' * 64) (cs.take mm)) Y (crashL zs 0 s.safe (s.opn.take (k + 1)))) := by
          rw [drew_setCells, HS.out, crashL_snoc, HSL.out, Nat.zero_add, HST.out]
          exact HNB.out.of rfl (Nat.le_refl _)
        generalize wv.drew.setCells Y (at' * 64) (cs.take mm) = we at *
        go_wp2
        go_roundw
        case rel => exact ⟨k + 1, by go_num, by omega, HCE, HBE⟩
        case measure => simp only [intOf]; omega
      · have hp0 := HPZ.out hkp
        have k1 : ¬ (k : Int) < (pn : Int) := by omega
        subst hp0
        clear HPK HPZ HSI CRm
        generalize stN 0 = mm at *
        go_upto_region 6 with (first
          | (refine wpList_load_mid (by rfl) 66 _ (by rfl) O (k * 65) (by rfl) (.int .i64 (at' : Int) :: cs) _ HR2.out hd66 hr66 (size66 hwl.symm) ?_)
          | (refine wpList_store_mid (by rfl) 66 _ _ (by rfl) wr.heap.size 0 (.int .i64 (at' : Int) :: cs).toArray (by rfl) (by rfl) (by simpa using HVT.out) (size66 (by simpa using hwl.symm)) hone66.out ?_; rw [← HWV.out]))
        have d0 : (wv.drew.setCells Y (at' * 64) (cs.take mm)).cell? ⟨q, 1, none⟩ = some (.slice (some ⟨Y, 0, none⟩) n n) := by
          rw [World.cell?_setCells_out _ _ _ _ _ (fun h => absurd h hqY)]; exact d1
        have t2 : (wv.drew.setCells Y (at' * 64) (cs.take mm)).cell? ⟨wr.heap.size, 0, none⟩ = some (.int .i64 (at' : Int)) := by
          rw [World.cell?_setCells_out _ _ _ _ _ (fun h => absurd h hVY)]; exact t0
        have i1 : (0 : Int) ≤ (mm : Int) := Int.natCast_nonneg _
        have i2 : (mm : Int) ≤ 64 := by omega
        go_region_held3 (fun w' => w'.cell? ⟨q, 1, none⟩ = some (.slice (some ⟨Y, 0, none⟩) n n) ∧ w'.cell? ⟨wr.heap.size, 0, none⟩ = some (.int .i64 (at' : Int))) (first | exact ⟨d1, t0⟩ | exact ⟨d0, t2⟩)
          (first
            | (refine step_copy_mid (by rfl) _ _ (by rfl) Y (at' * 64) 64 wr.heap.size 1 64 mm (by rfl) (by rfl) cs hbl hst ((World.rangeAt_drew _ _ _ _).2 t1) ((World.there_drew _ _ _ _).2 d2) hone ?_)
            | (go_at_call 30; (with_reducible refine CRp.out.mono ?_; rintro e w8 ⟨rfl, rfl⟩)))
        have HCE : Hid (Chg (fun i => i = Y) w (wv.drew.setCells Y (at' * 64) (cs.take mm))) := (HC2.out.drew).setCells _ _ _ (fun _ => rfl)
        have HBE : Hid (BlkRow (wv.drew.setCells Y (at' * 64) (cs.take mm)) Y (crashL zs 0 s.safe (s.opn.take (k + 1)))) := by
          rw [drew_setCells, HS.out, crashL_snoc, HSL.out, Nat.zero_add, HST.out]
          exact HNB.out.of rfl (Nat.le_refl _)
        generalize wv.drew.setCells Y (at' * 64) (cs.take mm) = we at *
        go_wp2
        go_roundw
        case rel => exact ⟨k + 1, by go_num, by omega, HCE, HBE⟩
        case measure => simp only [intOf]; omega
    · obtain rfl : m = k := by omega
      obtain ⟨w9, rfl⟩ : ∃ w9, w9 = wr := ⟨_, rfl⟩
      rw [List.take_of_length_le (by rw [hm2.out]; exact Nat.le_refl _)] at HB
      have d2 := (HC.out.cell (p := ⟨q, 2, none⟩) HH.out.lt (by show ¬ q = Y; exact HL.out.qY)).trans HH.out.c2
      rw [hm2.out] at d2
      have HC1 := HC
      have HB1 := HB
      have HCB := Lib.hid (H1.out.chg HC1.out (fun h => HL.out.CY h))
      obtain ⟨FI, hFI⟩ : ∃ FI, crashL zs 0 s.safe s.opn = FI := ⟨_, rfl⟩
      have HFI := Lib.hid hFI
      rw [hFI] at HB1
      clear HC HB CRm HP HPF hpn H2 hFI
      go_wp2
      go_loopw [46] (fun v46 wx => ∃ k : Nat, v46 = .int .i64 k ∧ k ≤ m ∧ Hid (Chg (fun i => i = C) w9 wx) ∧ Hid (BlkRow wx C (copyL (cont s) FI (s.opn.take k)))) (fun v46 _ => m - (intOf v46).toNat)
      case atStart => exact ⟨0, rfl, Nat.zero_le _, Chg.refl _ _, HCB.out⟩
      case round =>
        obtain ⟨wx, rfl⟩ : ∃ wx, wx = wr := ⟨_, rfl⟩
        obtain ⟨k, rfl, hk, HC, HB⟩ := hrel
        by_cases hlt : k < m
        · have hk2 : k < s.opn.length := by rw [hm2.out]; exact hlt
          have hall := HD.out.ok.all
          obtain ⟨O, cap', hA, hcap, hO, hrng⟩ := opn_at H3.out (fun x hx => (hall.2 x hx).2) hk2
          obtain ⟨rfl, rfl⟩ : A0 = some ⟨O, 0, none⟩ ∧ cap = cap' := by simpa [hm2.out] using hA
          have hOY : O ≠ Y := (HL.out.fv O rfl).2.2.2
          have hOC : O ≠ C := (HL.out.fv O rfl).2.2.1
          have hrng2 := rangeAt_of (rangeAt_of hrng (HC1.out.block O hO hOY)) (HC.out.block O (Nat.lt_of_lt_of_le hO HC1.out.size) hOC)
          have HS := Lib.hid (take_snocW s.opn k hk2)
          have hx := hall.2 s.opn[k] (List.getElem_mem hk2)
          generalize s.opn[k] = x at *
          obtain ⟨at', b⟩ := x
          obtain ⟨hx1, hx2⟩ := hx
          have hwl := wrC_len (at', b) hx2
          have hone66 := Lib.hid (all_oneCell_toArray (wrC_one (at', b)))
          obtain ⟨-, hvr, hvt, hvg⟩ := set_var wx Z 66 (wrC (at', b)) (by rw [hZ2.out, hwl])
          rw [show wrC (at', b) = .int .i64 (at' : Int) :: bytesV b from rfl] at hvr hrng2 hvt hwl hone66 hvg
          have t0 := (range_tail hvr).1
          have HVT := Lib.hid hvt
          have HVG := Lib.hid hvg
          have HR2 := Lib.hid hrng2
          have hC2 := (HC.out.trans (HVG.out.chg (F := fun i => i = C)))
          have hw0 := HH.out.chg HC1.out (by show ¬ q = Y; exact HL.out.qY)
          have d1 := (hC2.cell (p := ⟨q, 1, none⟩) hw0.lt (by show ¬ q = C; exact HL.out.qC)).trans hw0.c1
          have e1 := (hC2.cell (p := ⟨q, 0, none⟩) hw0.lt (by show ¬ q = C; exact HL.out.qC)).trans hw0.c0
          have hYB := HB.out.of (HVG.out.block C HB.out.lt) HVG.out.size
          have hLen : Hid ((copyL (cont s) FI (s.opn.take k)).length = s.safe.length) := by show _ = _; rw [copyL_len, cont_len]
          have hFL : Hid (FI.length = s.safe.length) := by show _ = _; rw [← HFI.out, crashL_len]
          have hF := HB1.out.chg hC2 (fun h => HL.out.CY h.symm)
          have hb1 := hF.one (k := at') (by rw [hFL.out]; exact hx1)
          have t1 := (hF.at' at' (by rw [hFL.out]; exact hx1)).1
          have d2' := (hYB.at' at' (by rw [hLen.out]; exact hx1)).2
          have HNB := Lib.hid (hYB.set (k := at') (by rw [hLen.out]; exact hx1) (FI.getD at' blk0) hb1)
          have HC2 := Lib.hid hC2
          have j1 : (k : Int) < (m : Int) := by omega
          have j2 : (at' : Int) < (s.safe.length : Int) := by omega
          have j3 : (0 : Int) ≤ (at' : Int) := Int.natCast_nonneg _
          have hVC : wx.heap.size ≠ C := by have := HB.out.lt; omega
          have hqC := HL.out.qC
          have hCY := HL.out.CY
          have hbl := bytesV_len (FI.getD at' blk0)
          rw [hb1] at hbl
          have hone := bytesV_one (FI.getD at' blk0)
          have hu := Try.underlying61
          have hi : (Try.prog.info? 61).map (·.size) = some (bytesV (FI.getD at' blk0)).length := size40 hbl.symm
          clear hvr hrng2 hvt hvg hrng hC2 hYB hall hA hk2 hO hOY hOC hx1 hx2 hw0 hF hb1
          generalize bytesV b = cb at *
          generalize hcs : bytesV (FI.getD at' blk0) = cs at *
          have HCS := Lib.hid hcs
          clear hcs
          generalize s.safe.length = n at *
          obtain ⟨wv, hwv⟩ : ∃ wv, wv = (wx.alloc (.cells Z 66)).setCells wx.heap.size 0 (.int .i64 (at' : Int) :: cb) := ⟨_, rfl⟩
          have HWV := Lib.hid hwv
          rw [← hwv] at HNB HC2 HVG d1 d2' t0 t1 e1
          clear hwv
          go_upto_region 11 with (first
            | (refine wpList_load_mid (by rfl) 66 _ (by rfl) O (k * 65) (by rfl) (.int .i64 (at' : Int) :: cb) _ HR2.out hd66 hr66 (size66 hwl.symm) ?_)
            | (refine wpList_store_mid (by rfl) 66 _ _ (by rfl) wx.heap.size 0 (.int .i64 (at' : Int) :: cb).toArray (by rfl) (by rfl) (by simpa using HVT.out) (size66 (by simpa using hwl.symm)) hone66.out ?_; rw [← HWV.out]))
          have d0 : (wv.drew.setCells C (at' * 64) cs).cell? ⟨q, 1, none⟩ = some (.slice (some ⟨Y, 0, none⟩) n n) := by
            rw [World.cell?_setCells_out _ _ _ _ _ (fun h => absurd h hqC)]; exact d1
          have e0 : (wv.drew.setCells C (at' * 64) cs).cell? ⟨q, 0, none⟩ = some (.slice (some ⟨C, 0, none⟩) n n) := by
            rw [World.cell?_setCells_out _ _ _ _ _ (fun h => absurd h hqC)]; exact e1
          have t2 : (wv.drew.setCells C (at' * 64) cs).cell? ⟨wx.heap.size, 0, none⟩ = some (.int .i64 (at' : Int)) := by
            rw [World.cell?_setCells_out _ _ _ _ _ (fun h => absurd h hVC)]; exact t0
          have t3 : (wv.drew.setCells C (at' * 64) cs).rangeAt Y (at' * 64) cs := World.rangeAt_setCells_apart ((World.rangeAt_drew _ _ _ _).2 t1) _ _ _ (Or.inl (Ne.symm hCY))
          have d3 : (wv.drew.setCells C (at' * 64) cs).there C (at' * 64) 64 := World.there_setCells ((World.there_drew _ _ _ _).2 d2') _ _ _
          go_region_held3 (fun w' => w'.cell? ⟨q, 0, none⟩ = some (.slice (some ⟨C, 0, none⟩) n n) ∧ w'.cell? ⟨q, 1, none⟩ = some (.slice (some ⟨Y, 0, none⟩) n n) ∧ w'.cell? ⟨wx.heap.size, 0, none⟩ = some (.int .i64 (at' : Int)) ∧ w'.rangeAt Y (at' * 64) cs ∧ w'.there C (at' * 64) 64)
            (first | exact ⟨e1, d1, t0, (World.rangeAt_drew _ _ _ _).2 t1, (World.there_drew _ _ _ _).2 d2'⟩ | exact ⟨e0, d0, t2, t3, d3⟩) (fail)
          have HCE : Hid (Chg (fun i => i = C) w9 (wv.drew.setCells C (at' * 64) cs)) := (HC2.out.drew).setCells _ _ _ (fun _ => rfl)
          have HBE : Hid (BlkRow (wv.drew.setCells C (at' * 64) cs) C (copyL (cont s) FI (s.opn.take (k + 1)))) := by
            rw [drew_setCells, HS.out, copyL_snoc]
            exact HNB.out.of rfl (Nat.le_refl _)
          generalize wv.drew.setCells C (at' * 64) cs = we at *
          go_wp2
          go_roundw
          case rel => exact ⟨k + 1, by go_num, by omega, HCE, HBE⟩
          case measure => simp only [intOf]; omega
        · obtain rfl : m = k := by omega
          rw [List.take_of_length_le (by rw [hm2.out]; exact Nat.le_refl _)] at HB
          have HB3 : Hid (BlkRow wx C FI) := by
            have := HB.out
            rw [← HFI.out, show cont s = applyL s.safe s.opn from rfl, copyL_all, HFI.out] at this
            exact this
          have hw0 := (HH.out.chg HC1.out (by show ¬ q = Y; exact HL.out.qY)).chg HC.out (by show ¬ q = C; exact HL.out.qC)
          have k2 := hw0.c2
          have k3 := hw0.c3
          have k4 := hw0.c4
          have f2 := hw0.f2
          have f3 := hw0.f3
          have f4 := hw0.f4
          have HPP := Lib.hid (dk_crash (picks := zs) HD.out.fit HD.out.ok HL.out HH.out HC1.out (by rw [HFI.out]; exact HB1.out) HC.out (by rw [HFI.out]; exact HB3.out))
          clear hw0
          go_wp2
          go_end0
          exact ⟨rfl, HPP.out⟩
end Go.Proofs.Ythnhhhfjgbgpgaa.NumK
namespace Go.Proofs.Ythnhhhfjgbgpgaa.NumK
open Go.RowKit

theorem dok_start {s : DS} (h : DOK s) : DOK (dStart s) := by
  have hc := crashL_none 0 s.safe s.opn (fun w hw => (h.all.2 w hw).1)
  unfold dStart
  split
  · have hb : ∀ b ∈ crashL [] 0 s.safe s.opn, b.length = 64 := by rw [hc]; exact h.all.1
    have := dok_crash (picks := []) h hb
    exact ⟨this.all, this.pos, this.few, this.arm, (fun e => by cases e), (fun e => by cases e), (fun e => by cases e)⟩
  · exact ⟨h.all, h.pos, h.few, h.arm, (fun e => by simp_all), (fun e => by cases e), (fun e => by cases e)⟩
theorem dStart_off {s : DS} (h : DOK s) (ho : s.off = true) : dStart s = { dCrash s [] with off := false } := by
  unfold dStart
  cases hc : s.cut with
  | true => rfl
  | false =>
    have hi := h.idle ho hc
    have ha := h.off0 ho
    simp only [Bool.false_eq_true, if_false, dCrash, hi]
    cases s
    simp_all [crashL]
theorem dStart_on {s : DS} (h : DOK s) (ho : s.off = false) : dStart s = s := by
  unfold dStart
  cases hc : s.cut with
  | true => have := h.cut hc; rw [ho] at this; cases this
  | false =>
    cases s
    simp_all
theorem start_any (F : Nat → Prop) (q : Nat) (s : DS) (w : World) (h : DK w F q s) (hn : s.opn.length ≤ 1000000) : Calls Try.prog 11 #[.pointer (some ⟨q, 0, none⟩)] w (DPost F q w (.tuple #[]) (dStart s)) := by
  have hD := Lib.hid h
  obtain ⟨C, Y, v, L, H, h1⟩ := h.ex
  have c4 := H.c4
  clear H h1 L
  cases ho : s.off with
  | false =>
    rw [ho] at c4
    rw [dStart_on h.ok ho]
    clear h
    go_enter Try.func11, Try.ntmps11
    go_wp2
    go_end0
    exact ⟨rfl, dk_same hD.out⟩
  | true =>
    rw [ho] at c4
    have CC := Lib.hid (crash_any F q s none 0 0 [] w h (ints0 _ _) (fun a e => by cases e) (by omega) hn)
    have HS := Lib.hid (dStart_off h.ok ho)
    have HOK := Lib.hid (dok_start h.ok)
    have HF := Lib.hid h.fit
    clear h
    go_enter Try.func11, Try.ntmps11
    go_wp2_with (go_at_call 9; ((with_reducible refine CC.out.mono ?_); rintro e w6 ⟨rfl, hc, hd⟩; obtain ⟨C', Y', v', L', H', h1', h2', h3'⟩ := hd.ex; have k4 := H'.c4; have f4 := H'.f4; have HC := Lib.hid hc; have HX := Lib.hid hd.fit; have HL' := Lib.hid L'; have HH' := Lib.hid H'; have H1' := Lib.hid h1'; have H2' := Lib.hid h2'; have H3' := Lib.hid h3'; clear hc hd L' H' h1' h2' h3'))
    go_end0
    rw [HS.out]
    refine dpost_then HF.out HC.out ⟨rfl, dk_head (s := dCrash s []) HX.out HL'.out ((Chg.refl (fun k => k = q) _).setCell ⟨q, 4, none⟩ _ (fun _ => rfl)) ?_ rfl rfl (HH'.out.set4 false) H1'.out H2'.out H3'.out⟩
    rw [← HS.out]; exact HOK.out
end Go.Proofs.Ythnhhhfjgbgpgaa.NumK
namespace Go.Proofs.Ythnhhhfjgbgpgaa.NumK
open Go.RowKit

theorem dok_new (n : Nat) (h1 : 1 ≤ n) (h2 : n ≤ 65536) : DOK (dNew n) := by
  refine ⟨⟨fun b hb => ?_, fun x hx => by cases hx⟩, by simpa [dNew] using h1, by simpa [dNew] using h2, by show 0 ≤ _; omega, (fun h => by cases h), (fun h => by cases h), (fun h => by cases h)⟩
  have := List.eq_of_mem_replicate hb
  subst this; rfl
theorem info40b : (Try.prog.info? 61).map (fun i => (i.zero, i.size, i.bytes)) = some (some (.agg (bytesV blk0).toArray), 64, 64) := by kernel_rfl
theorem run_blks (w : World) (n : Nat) (hn : n ≤ 65536) : (Instr.makeSlice 42 (.int .i64 n) (.int .i64 n)).run Try.prog w = .ok (.slice (some ⟨w.heap.size, 0, none⟩) n n) (w.alloc (.cells (madeCells (bytesV blk0).toArray (n * 64)) 61)) := by
  obtain ⟨i, hi, hz0, hz1, hz2⟩ := info_parts info40b
  have := run_make (P := Try.prog) w 42 61 i (.agg (bytesV blk0).toArray) Try.underlying42 hi hz0 .i64 .i64 n n (by omega) (by omega) (by rw [hz2]; omega) (by omega)
  simpa [hz1, Value.cells] using this
theorem bytesV_zero : bytesV blk0 = List.replicate 64 (byv 0) := List.map_replicate
theorem blkRow_new (w : World) (n : Nat) : BlkRow (w.alloc (.cells (madeCells (bytesV blk0).toArray (n * 64)) 61)) w.heap.size (List.replicate n blk0) := by
  refine ⟨by simp, fun b hb => by rw [List.eq_of_mem_replicate hb]; rfl, fun k hk => ?_⟩
  have hk2 : k < n := by simpa using hk
  have hb : ∀ j, j < 64 → k * 64 + j < n * 64 := fun j hj => by
    have : (k + 1) * 64 ≤ n * 64 := Nat.mul_le_mul_right 64 hk2
    omega
  have hcell : ∀ j, j < 64 → (w.alloc (.cells (madeCells (bytesV blk0).toArray (n * 64)) 61)).cell? ⟨w.heap.size, k * 64 + j, none⟩ = some (byv 0) := fun j hj => by
    rw [World.cell?_alloc_at _ _ _ _ rfl]
    have hs := size_madeCells (bytesV blk0).toArray (n * 64)
    rw [Array.getElem?_eq_getElem (by rw [hs]; exact hb j hj)]
    have hm : (k * 64 + j) % 64 = j := by omega
    simp only [madeCells, Array.getElem_map, Array.getElem_range]
    have h64 : (bytesV blk0).toArray.size = 64 := by simp [bytesV_len, blk0]
    rw [h64, hm, getElem!_pos _ _ (by rw [h64]; exact hj)]
    simp only [bytesV_zero, List.getElem_toArray, List.getElem_replicate]
  refine ⟨fun j v hv => ?_, fun j hj => ⟨by rw [hcell j hj]; rfl, by simp⟩⟩
  have hg : (List.replicate n blk0).getD k blk0 = blk0 := by simp [List.getD, hk2]
  rw [hg] at hv
  have hj : j < 64 := by have := (List.getElem?_eq_some_iff.1 hv).1; simpa [bytesV_len, blk0] using this
  rw [hcell j hj, ← hv, bytesV_zero, List.getElem?_replicate, if_pos hj]

/-- What New leaves. -/
def NewPost (n : Nat) (w : World) (e : Ending) (w' : World) : Prop :=
  Grew w w' ∧ ∃ q, w.heap.size ≤ q ∧ e = .returned (.tuple #[.pointer (some ⟨q, 0, none⟩), .int .i64 0]) ∧ DK w' (fun k => w.heap.size ≤ k ∧ k < w'.heap.size) q (dNew n)
theorem head_new (w : World) (n C Y : Nat) (t : TypeId) : Head (w.alloc (.cells #[.slice (some ⟨C, 0, none⟩) n n, .slice (some ⟨Y, 0, none⟩) n n, .slice none 0 0, .int .i64 0, .bool false] t)) w.heap.size n C Y (.slice none 0 0) 0 false :=
  ⟨by simp, by simp, by simp, by simp, by simp, by simp, by simp, by simp, by simp⟩
theorem dk_new (w0 w : World) (n C Y : Nat) (h1 : 1 ≤ n) (h2 : n ≤ 65536) (g : Grew w0 w) (hC : BlkRow w C (List.replicate n blk0)) (hY : BlkRow w Y (List.replicate n blk0)) (c1 : w0.heap.size ≤ C) (c2 : w0.heap.size ≤ Y) (hCY : C ≠ Y) (t : TypeId) :
    NewPost n w0 (.returned (.tuple #[.pointer (some ⟨w.heap.size, 0, none⟩), .int .i64 0])) (w.alloc (.cells #[.slice (some ⟨C, 0, none⟩) n n, .slice (some ⟨Y, 0, none⟩) n n, .slice none 0 0, .int .i64 0, .bool false] t)) := by
  have ga := grew_alloc w #[.slice (some ⟨C, 0, none⟩) n n, .slice (some ⟨Y, 0, none⟩) n n, .slice none 0 0, .int .i64 0, .bool false] t
  have hC' := hC.lt
  have hY' := hY.lt
  have hs := g.size
  have hs2 : (w.alloc (.cells #[.slice (some ⟨C, 0, none⟩) n n, .slice (some ⟨Y, 0, none⟩) n n, .slice none 0 0, .int .i64 0, .bool false] t)).heap.size = w.heap.size + 1 := by simp
  refine ⟨grew_trans g ga, w.heap.size, hs, rfl, fun k hk => hk.2, dok_new n h1 h2, C, Y, .slice none 0 0, ⟨⟨hs, by omega⟩, ⟨c1, by omega⟩, ⟨c2, by omega⟩, (fun k hk => by cases hk), by omega, by omega, hCY⟩, ?_, ?_, ?_, World.ownsRow_nil _ _ _ _⟩
  · have : (dNew n).safe.length = n := by simp [dNew]
    rw [this]; exact head_new w n C Y t
  · exact hC.of (ga.block C hC') ga.size
  · exact hY.of (ga.block Y hY') ga.size

set_option maxHeartbeats 1000000 in
theorem new_any (n : Nat) (w : World) (h1 : 1 ≤ n) (h2 : n ≤ 65536) : Calls Try.prog 5 #[.int .i64 (n : Int)] w (NewPost n w) := by
  have hmk := fun w => run_blks w n h2
  obtain ⟨Z, hZ⟩ : ∃ Z, madeCells (bytesV blk0).toArray (n * 64) = Z := ⟨_, rfl⟩
  have hb := Lib.hid (fun w => blkRow_new w n)
  rw [hZ] at hb
  rw [hZ] at hmk
  clear hZ
  have hsz : ∀ w : World, (w.alloc (.cells Z 61)).heap.size = w.heap.size + 1 := fun w => by simp
  have HA : Hid (NewPost n w (.returned (.tuple #[.pointer (some ⟨w.heap.size + 1 + 1, 0, none⟩), .int .i64 0])) (((w.drew.alloc (.cells Z 61)).alloc (.cells Z 61)).alloc (.cells #[.slice (some ⟨w.heap.size, 0, none⟩) n n, .slice (some ⟨w.heap.size + 1, 0, none⟩) n n, .slice none 0 0, .int .i64 0, .bool false] 50))) := by
    have ga := grew_alloc (w.drew.alloc (.cells Z 61)) Z 61
    have hb1 := hb.out w.drew
    have := dk_new w ((w.drew.alloc (.cells Z 61)).alloc (.cells Z 61)) n w.heap.size (w.heap.size + 1) h1 h2 (grew_trans (grew_drew (grew_refl w)) (grew_trans (grew_alloc _ _ _) (grew_alloc _ _ _))) (hb1.of (ga.block _ hb1.lt) ga.size) (by have := hb.out (w.drew.alloc (.cells Z 61)); rw [hsz] at this; exact this) (Nat.le_refl _) (by omega) (by omega) 50
    rw [hsz, hsz] at this
    exact this
  have HB : Hid (NewPost n w (.returned (.tuple #[.pointer (some ⟨w.heap.size + 1 + 1, 0, none⟩), .int .i64 0])) (((w.drew.alloc (.cells Z 61)).alloc (.cells Z 61)).alloc (.cells #[.slice (some ⟨w.heap.size + 1, 0, none⟩) n n, .slice (some ⟨w.heap.size, 0, none⟩) n n, .slice none 0 0, .int .i64 0, .bool false] 50))) := by
    have ga := grew_alloc (w.drew.alloc (.cells Z 61)) Z 61
    have hb1 := hb.out w.drew
    have := dk_new w ((w.drew.alloc (.cells Z 61)).alloc (.cells Z 61)) n (w.heap.size + 1) w.heap.size h1 h2 (grew_trans (grew_drew (grew_refl w)) (grew_trans (grew_alloc _ _ _) (grew_alloc _ _ _))) (by have := hb.out (w.drew.alloc (.cells Z 61)); rw [hsz] at this; exact this) (hb1.of (ga.block _ hb1.lt) ga.size) (by omega) (Nat.le_refl _) (by omega) 50
    rw [hsz, hsz] at this
    exact this
  have k1 : ¬ (n : Int) < 1 := by omega
  have k2 : ¬ (65536 : Int) < (n : Int) := by omega
  clear h1 h2 hsz
  go_enter Try.func5, Try.ntmps5
  go_wp2
  go_region
  all_goals
    go_wp2
    go_ret2
    first | exact HA.out | exact HB.out
theorem new_not (n : Int) (w : World) (h : n < 1 ∨ 65536 < n) : Calls Try.prog 5 #[.int .i64 n] w fun e w' => e = .returned (.tuple #[.pointer none, .int .i64 3]) ∧ w = w' := by
  by_cases h1 : n < 1
  · clear h
    go_enter Try.func5, Try.ntmps5
    go_wp2
    go_ret2
    exact ⟨rfl, rfl⟩
  · have h2 : 65536 < n := by omega
    clear h
    go_enter Try.func5, Try.ntmps5
    go_wp2
    go_ret2
    exact ⟨rfl, rfl⟩
end Go.Proofs.Ythnhhhfjgbgpgaa.NumK
namespace Go.Proofs.Ythnhhhfjgbgpgaa.NumK
open Go.RowKit

/-- A disk that is new since w0 and lies in none of the blocks N. -/
structure DI (N : Nat → Prop) (w0 w : World) (q : Nat) (s : DS) : Prop where
  ex : ∃ F, DK w F q s ∧ ∀ k, F k → w0.heap.size ≤ k ∧ ¬ N k
  grew : Grew w0 w
  nlt : ∀ k, N k → k < w.heap.size
def Mine (N : Nat → Prop) (w0 : World) : Nat → Prop := fun k => w0.heap.size ≤ k ∧ ¬ N k
def DStep (N : Nat → Prop) (w0 w : World) (q : Nat) (r : Value) (s : DS) (e : Ending) (w' : World) : Prop := e = .returned r ∧ DI N w0 w' q s ∧ Chg (Mine N w0) w w'
theorem DI.step {N : Nat → Prop} {w0 w : World} {q : Nat} {s s' : DS} {r : Value} {F : Nat → Prop} (h : DI N w0 w q s) (hF : ∀ k, F k → w0.heap.size ≤ k ∧ ¬ N k) {e : Ending} {w' : World} (p : DPost F q w r s' e w') : DStep N w0 w q r s' e w' := by
  obtain ⟨he, hc, hd⟩ := p
  refine ⟨he, ⟨⟨_, hd, fun k hk => ?_⟩, Chg.grew h.grew hc (fun k hk => (hF k hk).1), fun k hk => Nat.lt_of_lt_of_le (h.nlt k hk) hc.size⟩, hc.mono fun k hk => hF k hk⟩
  rcases hk with hk | hk
  · exact hF k hk
  · exact ⟨Nat.le_trans h.grew.size hk.1, fun hn => by have := h.nlt k hn; omega⟩
/-- Steps of the law's own. -/
theorem DI.keep {N : Nat → Prop} {w0 w w' : World} {q : Nat} {s : DS} (h : DI N w0 w q s) (g : Chg (fun k => N k ∧ w0.heap.size ≤ k) w w') : DI N w0 w' q s := by
  obtain ⟨F, hd, hF⟩ := h.ex
  exact ⟨⟨F, hd.chg g (fun k hk hg => (hF k hk).2 hg.1), hF⟩, Chg.grew h.grew g (fun k hk => hk.2), fun k hk => Nat.lt_of_lt_of_le (h.nlt k hk) g.size⟩
theorem DI.grows {N : Nat → Prop} {w0 w w' : World} {q : Nat} {s : DS} (h : DI N w0 w q s) (g : Grew w w') : DI N w0 w' q s := h.keep g.chg
/-- A block more that is not the disk's. -/
theorem DI.beside {N : Nat → Prop} {w0 w : World} {q : Nat} {s : DS} (h : DI N w0 w q s) (B : Nat) (t : Obj) (hB : B = w.heap.size) : DI (fun k => N k ∨ k = B) w0 (w.alloc t) q s := by
  obtain ⟨F, hd, hF⟩ := h.ex
  have ga : Chg (fun _ => False) w (w.alloc t) := (Chg.refl _ _).alloc t
  refine ⟨⟨F, hd.chg ga (fun _ _ h => h), fun k hk => ⟨(hF k hk).1, fun hn => ?_⟩⟩, Chg.grew h.grew ga (fun k hk => hk.elim), fun k hk => ?_⟩
  · rcases hn with hn | rfl
    · exact (hF k hk).2 hn
    · have := hd.fit k hk; omega
  · rcases hk with hk | rfl
    · have := h.nlt k hk; simp; omega
    · simp; omega
theorem di_new {N : Nat → Prop} {w0 w : World} (g : Grew w0 w) (hN : ∀ k, N k → k < w.heap.size) {n : Nat} {e : Ending} {w' : World} (p : NewPost n w e w') : ∃ q, e = .returned (.tuple #[.pointer (some ⟨q, 0, none⟩), .int .i64 0]) ∧ DI N w0 w' q (dNew n) ∧ Grew w w' := by
  obtain ⟨hg, q, hq, he, hd⟩ := p
  exact ⟨q, he, ⟨⟨_, hd, fun k hk => ⟨Nat.le_trans g.size hk.1, fun hn => by have := hN k hn; omega⟩⟩, grew_trans g hg, fun k hk => Nat.lt_of_lt_of_le (hN k hk) hg.size⟩, hg⟩

section
variable {N : Nat → Prop} {w0 w : World} {q : Nat} {s : DS}
theorem DI.write (h : DI N w0 w q s) (at' : Int) (b : Blk) (hb : b.length = 64) (hn : s.opn.length ≤ 1000000) :
    Calls Try.prog 25 #[.pointer (some ⟨q, 0, none⟩), .int .i64 at', blkV' b] w (DStep N w0 w q (.int .i64 (dWrite s at' b).1) (dWrite s at' b).2) := by
  obtain ⟨F, hd, hF⟩ := h.ex
  exact (write_any F q s at' b w hd hb hn).mono fun e w' p => h.step hF p
theorem DI.sync (h : DI N w0 w q s) (hn : s.opn.length ≤ 1000000) : Calls Try.prog 27 #[.pointer (some ⟨q, 0, none⟩)] w (DStep N w0 w q (.int .i64 (dSync s).1) (dSync s).2) := by
  obtain ⟨F, hd, hF⟩ := h.ex
  exact (sync_any F q s w hd hn).mono fun e w' p => h.step hF p
theorem DI.arm (h : DI N w0 w q s) (n : Int) (hn : n ≤ 9223372036854775807) : Calls Try.prog 23 #[.pointer (some ⟨q, 0, none⟩), .int .i64 n] w (DStep N w0 w q (.tuple #[]) (dArm s n)) := by
  obtain ⟨F, hd, hF⟩ := h.ex
  exact (arm_any F q s n hn w hd).mono fun e w' p => h.step hF p
theorem DI.start (h : DI N w0 w q s) (hn : s.opn.length ≤ 1000000) : Calls Try.prog 11 #[.pointer (some ⟨q, 0, none⟩)] w (DStep N w0 w q (.tuple #[]) (dStart s)) := by
  obtain ⟨F, hd, hF⟩ := h.ex
  exact (start_any F q s w hd hn).mono fun e w' p => h.step hF p
/-- The picks are the law's own, or came in. -/
theorem DI.crash (h : DI N w0 w q s) (A : Option Addr) (pn pc : Nat) (zs : List Int) (hp : Ints w A pn zs) (hA : ∀ a, A = some a → 0 < pn → a.block < w0.heap.size ∨ N a.block) (hpn : pn ≤ 9223372036854775807) (hn : s.opn.length ≤ 1000000) :
    Calls Try.prog 9 #[.pointer (some ⟨q, 0, none⟩), .slice A pn pc] w (DStep N w0 w q (.tuple #[]) (dCrash s zs)) := by
  obtain ⟨F, hd, hF⟩ := h.ex
  refine (crash_any F q s A pn pc zs w hd hp (fun a e h0 hf => ?_) hpn hn).mono fun e w' p => h.step hF p
  have := hF _ hf
  rcases hA a e h0 with h1 | h1
  · omega
  · exact this.2 h1
theorem DI.read (h : DI N w0 w q s) (at' : Int) : Calls Try.prog 36 #[.pointer (some ⟨q, 0, none⟩), .int .i64 at'] w fun e w' => e = .returned (readV (dRead s at')) ∧ Grew w w' := by
  obtain ⟨F, hd, hF⟩ := h.ex
  exact read_any F q s at' w hd
theorem DI.off (h : DI N w0 w q s) : Calls Try.prog 39 #[.pointer (some ⟨q, 0, none⟩)] w fun e w' => e = .returned (.bool s.off) ∧ w = w' := by
  obtain ⟨F, hd, hF⟩ := h.ex
  exact off_any F q s w hd
theorem DI.blocks (h : DI N w0 w q s) : Calls Try.prog 40 #[.pointer (some ⟨q, 0, none⟩)] w fun e w' => e = .returned (.int .i64 (s.safe.length : Int)) ∧ w = w' := by
  obtain ⟨F, hd, hF⟩ := h.ex
  exact blocks_any F q s w hd
theorem DI.opens (h : DI N w0 w q s) : Calls Try.prog 38 #[.pointer (some ⟨q, 0, none⟩)] w fun e w' => e = .returned (.int .i64 (s.opn.length : Int)) ∧ w = w' := by
  obtain ⟨F, hd, hF⟩ := h.ex
  exact open_any F q s w hd
end
theorem DI.ok {N : Nat → Prop} {w0 w : World} {q : Nat} {s : DS} (h : DI N w0 w q s) : DOK s := by
  obtain ⟨F, hd, _⟩ := h.ex
  exact hd.ok
theorem there_new (w : World) (Z : Array Value) (t : TypeId) (hZ : Z = (bytesV blk0).toArray) : (w.alloc (.cells Z t)).there w.heap.size 0 64 := by
  intro j hj
  refine ⟨?_, by simp⟩
  rw [World.cell?_alloc_at _ _ _ _ rfl, hZ, bytesV_zero]
  rw [List.getElem?_toArray, List.getElem?_replicate, if_pos (by omega)]
  rfl
/-- A value of 64 bytes, stored into a variable of its own. -/
theorem put_new (w : World) (Z : Array Value) (hZ : Z = (bytesV blk0).toArray) (t : TypeId) (cs : List Value) (hl : cs.length = 64) : ((w.alloc (.cells Z t)).setCells w.heap.size 0 cs).rangeAt w.heap.size 0 cs ∧ (w.alloc (.cells Z t)).there w.heap.size 0 64 ∧ Grew w ((w.alloc (.cells Z t)).setCells w.heap.size 0 cs) ∧ ((w.alloc (.cells Z t)).setCells w.heap.size 0 cs).there w.heap.size 0 64 ∧ w.heap.size < ((w.alloc (.cells Z t)).setCells w.heap.size 0 cs).heap.size := by
  have ht := there_new w Z t hZ
  exact ⟨World.rangeAt_setCells_same _ _ _ _ (by rw [hl]; exact ht), ht, ((Grew.chg (grew_alloc w Z _)).setCells (F := fun k => k = w.heap.size) _ _ _ (fun _ => rfl)).grew (grew_refl _) (fun k hk => by subst hk; exact Nat.le_refl _), World.there_setCells ht _ _ _, by rw [setCells_size]; simp⟩
end Go.Proofs.Ythnhhhfjgbgpgaa.NumK
namespace Go.Proofs.Ythnhhhfjgbgpgaa.NumK
open Go.RowKit

theorem equal40 (a b : Blk) (ha : a.length = 64) (hb : b.length = 64) (w : World) : (Op.equalIn 10000 61 (.agg (bytesV a).toArray) (.agg (bytesV b).toArray)).run Try.prog w = .ok (decide (a = b)) w := by
  obtain ⟨i, hi, _⟩ := info_parts info_u8
  exact run_equal_blk w 9998 Try.underlying61 hi Try.underlying5 (by kernel_rfl) a b ha hb
theorem guard40 : Try.prog.eqGuardType Try.prog.depth 61 = false := by kernel_rfl

/-- Two disks, new since w0, that lie apart. -/
structure D2 (w0 w : World) (qa : Nat) (sa : DS) (qb : Nat) (sb : DS) : Prop where
  ex : ∃ Fa Fb, DK w Fa qa sa ∧ DK w Fb qb sb ∧ (∀ k, Fa k → w0.heap.size ≤ k ∧ ¬ Fb k) ∧ ∀ k, Fb k → w0.heap.size ≤ k
  grew : Grew w0 w
theorem D2.swap {w0 w : World} {qa qb : Nat} {sa sb : DS} (h : D2 w0 w qa sa qb sb) : D2 w0 w qb sb qa sa := by
  obtain ⟨Fa, Fb, h1, h2, h3, h4⟩ := h.ex
  exact ⟨⟨Fb, Fa, h2, h1, fun k hk => ⟨h4 k hk, fun ha => (h3 k ha).2 hk⟩, fun k hk => (h3 k hk).1⟩, h.grew⟩
theorem D2.grows {w0 w w' : World} {qa qb : Nat} {sa sb : DS} (h : D2 w0 w qa sa qb sb) (g : Grew w w') : D2 w0 w' qa sa qb sb := by
  obtain ⟨Fa, Fb, h1, h2, h3, h4⟩ := h.ex
  exact ⟨⟨Fa, Fb, h1.grew g, h2.grew g, h3, h4⟩, grew_trans h.grew g⟩
def D2Step (w0 : World) (qa : Nat) (r : Value) (sa : DS) (qb : Nat) (sb : DS) (e : Ending) (w' : World) : Prop := e = .returned r ∧ D2 w0 w' qa sa qb sb
theorem D2.step {w0 w w' : World} {qa qb : Nat} {sb sa' : DS} {Fa Fb : Nat → Prop} (g0 : Grew w0 w) (h2 : DK w Fb qb sb) (h3 : ∀ k, Fa k → w0.heap.size ≤ k ∧ ¬ Fb k) (h4 : ∀ k, Fb k → w0.heap.size ≤ k) {e : Ending} {r : Value} (p : DPost Fa qa w r sa' e w') : D2Step w0 qa r sa' qb sb e w' := by
  obtain ⟨he, hc, hd⟩ := p
  refine ⟨he, ⟨_, Fb, hd, h2.chg hc (fun k hk ha => (h3 k ha).2 hk), fun k hk => ?_, h4⟩, Chg.grew g0 hc (fun k hk => (h3 k hk).1)⟩
  rcases hk with hk | hk
  · exact h3 k hk
  · exact ⟨Nat.le_trans g0.size hk.1, fun hb => by have := h2.fit k hb; omega⟩
theorem d2_new {w0 w w' : World} {qa : Nat} {sa : DS} {N : Nat → Prop} (h : DI N w0 w qa sa) {n : Nat} {e : Ending} (p : NewPost n w e w') : ∃ qb, e = .returned (.tuple #[.pointer (some ⟨qb, 0, none⟩), .int .i64 0]) ∧ D2 w0 w' qa sa qb (dNew n) := by
  obtain ⟨hg, q, hq, he, hd⟩ := p
  obtain ⟨F, h1, h2⟩ := h.ex
  exact ⟨q, he, ⟨F, _, h1.grew hg, hd, fun k hk => ⟨(h2 k hk).1, fun hb => by have := h1.fit k hk; omega⟩, fun k hk => Nat.le_trans h.grew.size hk.1⟩, grew_trans h.grew hg⟩
section
variable {w0 w : World} {qa qb : Nat} {sa sb : DS}
theorem D2.write (h : D2 w0 w qa sa qb sb) (at' : Int) (b : Blk) (hb : b.length = 64) (hn : sa.opn.length ≤ 1000000) :
    Calls Try.prog 25 #[.pointer (some ⟨qa, 0, none⟩), .int .i64 at', blkV' b] w (D2Step w0 qa (.int .i64 (dWrite sa at' b).1) (dWrite sa at' b).2 qb sb) := by
  obtain ⟨Fa, Fb, h1, h2, h3, h4⟩ := h.ex
  exact (write_any Fa qa sa at' b w h1 hb hn).mono fun e w' p => D2.step h.grew h2 h3 h4 p
theorem D2.sync (h : D2 w0 w qa sa qb sb) (hn : sa.opn.length ≤ 1000000) : Calls Try.prog 27 #[.pointer (some ⟨qa, 0, none⟩)] w (D2Step w0 qa (.int .i64 (dSync sa).1) (dSync sa).2 qb sb) := by
  obtain ⟨Fa, Fb, h1, h2, h3, h4⟩ := h.ex
  exact (sync_any Fa qa sa w h1 hn).mono fun e w' p => D2.step h.grew h2 h3 h4 p
theorem D2.arm (h : D2 w0 w qa sa qb sb) (n : Int) (hn : n ≤ 9223372036854775807) : Calls Try.prog 23 #[.pointer (some ⟨qa, 0, none⟩), .int .i64 n] w (D2Step w0 qa (.tuple #[]) (dArm sa n) qb sb) := by
  obtain ⟨Fa, Fb, h1, h2, h3, h4⟩ := h.ex
  exact (arm_any Fa qa sa n hn w h1).mono fun e w' p => D2.step h.grew h2 h3 h4 p
theorem D2.start (h : D2 w0 w qa sa qb sb) (hn : sa.opn.length ≤ 1000000) : Calls Try.prog 11 #[.pointer (some ⟨qa, 0, none⟩)] w (D2Step w0 qa (.tuple #[]) (dStart sa) qb sb) := by
  obtain ⟨Fa, Fb, h1, h2, h3, h4⟩ := h.ex
  exact (start_any Fa qa sa w h1 hn).mono fun e w' p => D2.step h.grew h2 h3 h4 p
theorem D2.crash (h : D2 w0 w qa sa qb sb) (A : Option Addr) (pn pc : Nat) (zs : List Int) (hp : Ints w0 A pn zs) (hpn : pn ≤ 9223372036854775807) (hn : sa.opn.length ≤ 1000000) :
    Calls Try.prog 9 #[.pointer (some ⟨qa, 0, none⟩), .slice A pn pc] w (D2Step w0 qa (.tuple #[]) (dCrash sa zs) qb sb) := by
  obtain ⟨Fa, Fb, h1, h2, h3, h4⟩ := h.ex
  refine (crash_any Fa qa sa A pn pc zs w h1 (hp.keep h.grew) (fun a e h0 hf => ?_) hpn hn).mono fun e w' p => D2.step h.grew h2 h3 h4 p
  obtain ⟨b, o, e2, hb, _⟩ := hp.2 h0
  rw [e] at e2
  cases e2
  have := h3 _ hf
  have : b < w0.heap.size := hb
  have : w0.heap.size ≤ b := (h3 _ hf).1
  omega
theorem D2.read (h : D2 w0 w qa sa qb sb) (at' : Int) : Calls Try.prog 36 #[.pointer (some ⟨qa, 0, none⟩), .int .i64 at'] w fun e w' => e = .returned (readV (dRead sa at')) ∧ Grew w w' := by
  obtain ⟨Fa, Fb, h1, h2, h3, h4⟩ := h.ex
  exact read_any Fa qa sa at' w h1
theorem D2.opens (h : D2 w0 w qa sa qb sb) : Calls Try.prog 38 #[.pointer (some ⟨qa, 0, none⟩)] w fun e w' => e = .returned (.int .i64 (sa.opn.length : Int)) ∧ w = w' := by
  obtain ⟨Fa, Fb, h1, h2, h3, h4⟩ := h.ex
  exact open_any Fa qa sa w h1
theorem D2.off (h : D2 w0 w qa sa qb sb) : Calls Try.prog 39 #[.pointer (some ⟨qa, 0, none⟩)] w fun e w' => e = .returned (.bool sa.off) ∧ w = w' := by
  obtain ⟨Fa, Fb, h1, h2, h3, h4⟩ := h.ex
  exact off_any Fa qa sa w h1
theorem D2.blocks (h : D2 w0 w qa sa qb sb) : Calls Try.prog 40 #[.pointer (some ⟨qa, 0, none⟩)] w fun e w' => e = .returned (.int .i64 (sa.safe.length : Int)) ∧ w = w' := by
  obtain ⟨Fa, Fb, h1, h2, h3, h4⟩ := h.ex
  exact blocks_any Fa qa sa w h1
theorem D2.okA (h : D2 w0 w qa sa qb sb) : DOK sa := by
  obtain ⟨Fa, Fb, h1, _⟩ := h.ex
  exact h1.ok
end
/-- A block that is read is a block. -/
theorem dRead_len {s : DS} (h : DOK s) (at' : Int) : (dRead s at').1.length = 64 := by
  by_cases hr : refI s at' = 0
  · obtain ⟨ho, k, rfl, hk⟩ := has_of hr
    rw [dRead_of ho hk]
    have hl : k < (cont s).length := by rw [cont_len]; exact hk
    have hall : ∀ (l : List (Nat × Blk)) (safe : List Blk), (∀ b ∈ safe, b.length = 64) → (∀ w ∈ l, w.2.length = 64) → ∀ b ∈ applyL safe l, b.length = 64 := by
      intro l
      induction l with
      | nil => intro safe h _ b hb; exact h b hb
      | cons x r ih =>
        intro safe h hl b hb
        refine ih (safe.set x.1 x.2) (fun y hy => ?_) (fun y hy => hl y (by simp [hy])) b hb
        rcases List.mem_or_eq_of_mem_set hy with hy | rfl
        · exact h y hy
        · exact hl x (by simp)
    refine hall s.opn s.safe h.all.1 (fun w hw => (h.all.2 w hw).2) _ ?_
    show (cont s).getD k blk0 ∈ cont s
    simp only [List.getD, List.getElem?_eq_getElem hl, Option.getD_some]
    exact List.getElem_mem hl
  · rw [dRead_not hr]; rfl
theorem dSync_on {s : DS} (ho : s.off = false) (ha : s.armed = 0) : dSync s = (0, syncS s) := by
  have : dLast s = (false, s) := by unfold dLast; rw [if_pos ha]
  have h2 := dSync_of (s := s) ho (by rw [this])
  rw [h2, this]
theorem dWrite_on {s : DS} {k : Nat} {b : Blk} (ho : s.off = false) (ha : s.armed = 0) (hk : k < s.safe.length) : dWrite s (k : Int) b = (0, wrS s k b) := by
  have : dLast (wrS s k b) = (false, wrS s k b) := by unfold dLast; rw [if_pos (show (wrS s k b).armed = 0 from ha)]
  rw [dWrite_of ho hk, this]; rfl
end Go.Proofs.Ythnhhhfjgbgpgaa.NumK
