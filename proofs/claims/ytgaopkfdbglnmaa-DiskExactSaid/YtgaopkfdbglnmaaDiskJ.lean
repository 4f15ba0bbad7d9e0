/- disk: Crash. -/
import Derived.Test.YtgaopkfdbglnmaaDiskI
import Derived.Test.YtgaopkfdbglnmaaMem
namespace Go.Proofs.Ytgaopkfdbglnmaa.NumK
open Go.RowKit

theorem size44 : (Try.prog.info? 5).map (·.size) = some 1 := by kernel_rfl
/-- 'copy' between two rows of bytes, as a step of a region that draws its order. -/
theorem step_copy_mid {ops : Array Oper} {o : Oper} {a : Act} {w : World} {K : Act → World → Prop} {Q : Exit → Act → World → Prop} {E : Prop} (hgd : o.guard = none) (x y : Operand)
    (ho : o.op = .call { callee := .builtin .copy, args := #[x, y], argTypes := #[44, 44] }) (b p dcap V r scap m : Nat) (hd : a.eval x = .slice (some ⟨b, p, none⟩) 64 dcap) (hs : a.eval y = .slice (some ⟨V, r, none⟩) m scap)
    (cs : List Value) (hl : cs.length = 64) (hm : m ≤ 64) (hsrc : w.rangeAt V r cs) (hth : w.there b p 64) (h1 : ∀ v ∈ cs, v.oneCell' = true)
    (h : K (a.put o.dst (goInt (m : Int))) (w.setCells b p (cs.take m))) : if Region.wanted o (yielded ops a.tmps) = true then Oper.wp Try.prog o a w K Q else E := by
  have hw : Region.wanted o (yielded ops a.tmps) = true := by simp [Region.wanted, hgd]
  rw [if_pos hw]
  have hcl : (cs.take m).length = m := by rw [List.length_take]; omega
  have hr := run_copy_cells (P := Try.prog) w 44 44 o.type 5 b p 64 dcap ⟨V, r, none⟩ m scap (cs.take m) Try.underlying44 size44 (by rw [hcl]; show m = Nat.min m 64; exact (Nat.min_eq_left hm).symm)
    (fun j v hv => by
      rw [Addr.add_mid]
      have hj : j < m := by have := (List.getElem?_eq_some_iff.1 hv).1; omega
      exact hsrc j v (by rw [List.getElem?_take] at hv; simpa [hj] using hv))
    (fun j hj => (hth j (by omega)).1) (fun j hj => (hth j (by omega)).2) (fun v hv => h1 v (List.mem_of_mem_take hv))
  rw [hcl] at hr
  unfold Oper.wp execOp
  simp only [ho, resolve, invoke, builtin, Sem.run_bind, Sem.run_pure, Result.andThen_ok, List.map_toArray, List.map_cons, List.map_nil, hd, hs, hr]
  exact h
theorem drew_setCells (Y : Nat) : ∀ (vs : List Value) (o : Nat) (w : World), w.drew.setCells Y o vs = (w.setCells Y o vs).drew
  | [], _, _ => rfl
  | v :: r, o, w => by rw [World.setCells, World.setCells]; exact drew_setCells Y r (o + 1) (w.setCell ⟨Y, o, none⟩ v)

set_option maxRecDepth 100000 in
set_option maxHeartbeats 2000000 in
theorem crash_any (F : Nat → Prop) (q : Nat) (s : DS) (A : Option Addr) (pn pc : Nat) (zs : List Int) (w : World) (h : DK w F q s) (hp : Ints w A pn zs) (hpF : ∀ a, A = some a → 0 < pn → ¬ F a.block) (hpn : pn ≤ 9223372036854775807) (hn : s.opn.length ≤ 1000000) :
    Calls Try.prog 22 #[.pointer (some ⟨q, 0, none⟩), .slice A pn pc] w (DPost F q w (.tuple #[]) (dCrash s zs)) := by
  have CRm := Lib.hid (fun p w' => remaining_any p w')
  have HP := Lib.hid hp
  have HPF := Lib.hid hpF
  have HD := Lib.hid h
  obtain ⟨C, Y, v, L, H, h1, h2, h3⟩ := h.ex
  obtain ⟨A0, cap, rfl⟩ := own_form h3
  have c2 := H.c2
  have HL := Lib.hid L
  have HH := Lib.hid H
  have H1 := Lib.hid h1
  have H2 := Lib.hid h2
  have H3 := Lib.hid h3
  clear h L H h1 h2 h3 hp hpF
  obtain ⟨Z, hZ⟩ : ∃ Z, Z = (wrC (0, blk0)).toArray := ⟨_, rfl⟩
  have hz := fun w => zero66 w
  rw [← hZ] at hz
  have hZ2 : Hid (Z.size = 65) := by show _ = _; rw [hZ]; simp [wrC, bytesV_len, blk0]
  clear hZ
  obtain ⟨d66, hd66, hr66⟩ := under66
  obtain ⟨m, hm⟩ : ∃ m, s.opn.length = m := ⟨_, rfl⟩
  have hm2 := Lib.hid hm
  rw [hm] at c2 hn
  clear hm
  go_enter Try.func22, Try.ntmps22
  go_wp2
  go_loopw [14] (fun v14 wr => ∃ k : Nat, v14 = .int .i64 k ∧ k ≤ m ∧ Hid (Chg (fun i => i = Y) w wr) ∧ Hid (BlkRow wr Y (crashL zs 0 s.safe (s.opn.take k)))) (fun v14 _ => m - (intOf v14).toNat)
  case atStart => exact ⟨0, rfl, Nat.zero_le _, Chg.refl _ _, H2.out⟩
  case round =>
    obtain ⟨k, rfl, hk, HC, HB⟩ := hrel
    by_cases hlt : k < m
    · have hk2 : k < s.opn.length := by rw [hm2.out]; exact hlt
      have hall := HD.out.ok.all
      obtain ⟨O, cap', hA, hcap, hO, hrng⟩ := opn_at H3.out (fun x hx => (hall.2 x hx).2) hk2
      obtain ⟨rfl, rfl⟩ : A0 = some ⟨O, 0, none⟩ ∧ cap = cap' := by simpa [hm2.out] using hA
      have hOY : O ≠ Y := (HL.out.fv O rfl).2.2.2
      have hrng2 := rangeAt_of hrng (HC.out.block O hO hOY)
      have HS := Lib.hid (take_snocW s.opn k hk2)
      have HSL : Hid ((s.opn.take k).length = k) := by show _ = _; rw [List.length_take]; omega
      have hx := hall.2 s.opn[k] (List.getElem_mem hk2)
      generalize s.opn[k] = x at *
      obtain ⟨at', b⟩ := x
      obtain ⟨hx1, hx2⟩ := hx
      have hwl := wrC_len (at', b) hx2
      have hone := bytesV_one b
      have hone66 := Lib.hid (all_oneCell_toArray (wrC_one (at', b)))
      obtain ⟨-, hvr, hvt, hvg⟩ := set_var wr Z 66 (wrC (at', b)) (by rw [hZ2.out, hwl])
      have hbl := bytesV_len b
      rw [hx2] at hbl
      rw [show wrC (at', b) = .int .i64 (at' : Int) :: bytesV b from rfl] at hvr hrng2 hvt hwl hone66 hvg
      obtain ⟨t0, t1⟩ := range_tail hvr
      rw [Nat.zero_add] at t1
      have HVT := Lib.hid hvt
      have HVG := Lib.hid hvg
      have HR2 := Lib.hid hrng2
      have hC2 := (HC.out.trans (HVG.out.chg (F := fun i => i = Y)))
      have d1 := (hC2.cell (p := ⟨q, 1, none⟩) HH.out.lt (by show ¬ q = Y; exact HL.out.qY)).trans HH.out.c1
      have hYB := HB.out.of (HVG.out.block Y HB.out.lt) HVG.out.size
      have hLen : Hid ((crashL zs 0 s.safe (s.opn.take k)).length = s.safe.length) := crashL_len _ _ _ _
      have d2 := (hYB.at' at' (by rw [hLen.out]; exact hx1)).2
      have hst := stN_le (zs.getD k 0)
      have HNB := Lib.hid (hYB.mix (k := at') (by rw [hLen.out]; exact hx1) b hx2 _ hst)
      have HC2 := Lib.hid hC2
      have j1 : (k : Int) < (m : Int) := by omega
      have j2 : (at' : Int) < (s.safe.length : Int) := by omega
      have j3 : (0 : Int) ≤ (at' : Int) := Int.natCast_nonneg _
      have hVY : wr.heap.size ≠ Y := by have := HB.out.lt; omega
      have hqY := HL.out.qY
      have HFY := Lib.hid HL.out.fY
      clear hvr hrng2 hvt hvg hrng hC2 hYB hall hA hk2 hO hOY hx1 hx2
      generalize hcs : bytesV b = cs at *
      have HCS := Lib.hid hcs
      clear hcs
      generalize s.safe.length = n at *
      obtain ⟨wv, hwv⟩ : ∃ wv, wv = (wr.alloc (.cells Z 66)).setCells wr.heap.size 0 (.int .i64 (at' : Int) :: cs) := ⟨_, rfl⟩
      have HWV := Lib.hid hwv
      rw [← hwv] at HNB HC2 HVG d1 d2 t0 t1
      clear hwv
      have HPK : Hid (k < pn → ∃ b0 o0, A = some ⟨b0, o0, none⟩ ∧ wv.cell? ⟨b0, o0 + k, none⟩ = some (.int .i64 (zs.getD k 0))) := fun hkp => by
        obtain ⟨b0, o0, e0, hb0, hc0⟩ := HP.out.2 (by omega)
        refine ⟨b0, o0, e0, ((HC2.out.cell (p := ⟨b0, o0 + k, none⟩) hb0 (fun e => ?_)).trans (hc0 k hkp))⟩
        have := HPF.out _ e0 (by omega)
        exact this (by rw [show (⟨b0, o0, none⟩ : Addr).block = Y from e]; exact HFY.out)
      have HPZ : Hid (¬ k < pn → zs.getD k 0 = 0) := fun hkp => by
        have := HP.out.1
        rw [List.getD_eq_getElem?_getD, List.getElem?_eq_none (by omega)]; rfl
      have HST := Lib.hid (stay_stN zs k)
      generalize zs.getD k 0 = p at *
      have HSI := Lib.hid (stN_I p)
      have CRp := Lib.hid (CRm.out p wv.drew)
      rw [HSI.out] at CRp
      by_cases hkp : k < pn
      · obtain ⟨b0, o0, rfl, hpc⟩ := HPK.out hkp
        have k1 : (k : Int) < (pn : Int) := by omega
        clear HPK HPZ HSI CRm
        generalize stN p = mm at *
        go_upto_region 6 with (first
          | (refine wpList_load_mid (by rfl) 66 _ (by rfl) O (k * 65) (by rfl) (.int .i64 (at' : Int) :: cs) _ HR2.out hd66 hr66 (size66 hwl.symm) ?_)
          | (refine wpList_store_mid (by rfl) 66 _ _ (by rfl) wr.heap.size 0 (.int .i64 (at' : Int) :: cs).toArray (by rfl) (by rfl) (by simpa using HVT.out) (size66 (by simpa using hwl.symm)) hone66.out ?_; rw [← HWV.out]))
        have d0 : (wv.drew.setCells Y (at' * 64) (cs.take mm)).cell? ⟨q, 1, none⟩ = some (.slice (some ⟨Y, 0, none⟩) n n) := by
          rw [World.cell?_setCells_out _ _ _ _ _ (fun h => absurd h hqY)]; exact d1
        have t2 : (wv.drew.setCells Y (at' * 64) (cs.take mm)).cell? ⟨wr.heap.size, 0, none⟩ = some (.int .i64 (at' : Int)) := by
          rw [World.cell?_setCells_out _ _ _ _ _ (fun h => absurd h hVY)]; exact t0
        have i1 : (0 : Int) ≤ (mm : Int) := Int.natCast_nonneg _
        have i2 : (mm : Int) ≤ 64 := by omega
        go_region_held3 (fun w' => w'.cell? ⟨q, 1, none⟩ = some (.slice (some ⟨Y, 0, none⟩) n n) ∧ w'.cell? ⟨wr.heap.size, 0, none⟩ = some (.int .i64 (at' : Int))) (first | exact ⟨d1, t0⟩ | exact ⟨d0, t2⟩)
          (first
            | (refine step_copy_mid (by rfl) _ _ (by rfl) Y (at' * 64) 64 wr.heap.size 1 64 mm (by rfl) (by rfl) cs hbl hst ((World.rangeAt_drew _ _ _ _).2 t1) ((World.there_drew _ _ _ _).2 d2) hone ?_)
            | (go_at_call 36; (with_reducible refine CRp.out.mono ?_; rintro e w8 ⟨rfl, rfl⟩)))
        have HCE : Hid (Chg (fun i => i = Y) w (wv.drew.setCells Y (at' * 64) (cs.take mm))) := (HC2.out.drew).setCells _ _ _ (fun _ => rfl)
        have HBE : Hid (BlkRow (wv.drew.setCells Y (at' * 64) (cs.take mm)) Y (crashL zs 0 s.safe (s.opn.take (k + 1)))) := by
          rw [drew_setCells, HS.out, crashL_snoc, HSL.out, Nat.zero_add, HST.out]
          exact HNB.out.of rfl (Nat.le_refl _)
        generalize wv.drew.setCells Y (at' * 64) (cs.take mm) = we at *
        go_wp2
        go_roundw
        case rel => exact ⟨k + 1, by go_num, by omega, HCE, HBE⟩
        case measure => simp only [intOf]; omega
      · have hp0 := HPZ.out hkp
        have k1 : ¬ (k : Int) < (pn : Int) := by omega
        subst hp0
        clear HPK HPZ HSI CRm
        generalize stN 0 = mm at *
        go_upto_region 6 with (first
          | (refine wpList_load_mid (by rfl) 66 _ (by rfl) O (k * 65) (by rfl) (.int .i64 (at' : Int) :: cs) _ HR2.out hd66 hr66 (size66 hwl.symm) ?_)
          | (refine wpList_store_mid (by rfl) 66 _ _ (by rfl) wr.heap.size 0 (.int .i64 (at' : Int) :: cs).toArray (by rfl) (by rfl) (by simpa using HVT.out) (size66 (by simpa using hwl.symm)) hone66.out ?_; rw [← HWV.out]))
        have d0 : (wv.drew.setCells Y (at' * 64) (cs.take mm)).cell? ⟨q, 1, none⟩ = some (.slice (some ⟨Y, 0, none⟩) n n) := by
          rw [World.cell?_setCells_out _ _ _ _ _ (fun h => absurd h hqY)]; exact d1
        have t2 : (wv.drew.setCells Y (at' * 64) (cs.take mm)).cell? ⟨wr.heap.size, 0, none⟩ = some (.int .i64 (at' : Int)) := by
          rw [World.cell?_setCells_out _ _ _ _ _ (fun h => absurd h hVY)]; exact t0
        have i1 : (0 : Int) ≤ (mm : Int) := Int.natCast_nonneg _
        have i2 : (mm : Int) ≤ 64 := by omega
        go_region_held3 (fun w' => w'.cell? ⟨q, 1, none⟩ = some (.slice (some ⟨Y, 0, none⟩) n n) ∧ w'.cell? ⟨wr.heap.size, 0, none⟩ = some (.int .i64 (at' : Int))) (first | exact ⟨d1, t0⟩ | exact ⟨d0, t2⟩)
          (first
            | (refine step_copy_mid (by rfl) _ _ (by rfl) Y (at' * 64) 64 wr.heap.size 1 64 mm (by rfl) (by rfl) cs hbl hst ((World.rangeAt_drew _ _ _ _).2 t1) ((World.there_drew _ _ _ _).2 d2) hone ?_)
            | (go_at_call 36; (with_reducible refine CRp.out.mono ?_; rintro e w8 ⟨rfl, rfl⟩)))
        have HCE : Hid (Chg (fun i => i = Y) w (wv.drew.setCells Y (at' * 64) (cs.take mm))) := (HC2.out.drew).setCells _ _ _ (fun _ => rfl)
        have HBE : Hid (BlkRow (wv.drew.setCells Y (at' * 64) (cs.take mm)) Y (crashL zs 0 s.safe (s.opn.take (k + 1)))) := by
          rw [drew_setCells, HS.out, crashL_snoc, HSL.out, Nat.zero_add, HST.out]
          exact HNB.out.of rfl (Nat.le_refl _)
        generalize wv.drew.setCells Y (at' * 64) (cs.take mm) = we at *
        go_wp2
        go_roundw
        case rel => exact ⟨k + 1, by go_num, by omega, HCE, HBE⟩
        case measure => simp only [intOf]; omega
    · obtain rfl : m = k := by omega
      obtain ⟨w9, rfl⟩ : ∃ w9, w9 = wr := ⟨_, rfl⟩
      rw [List.take_of_length_le (by rw [hm2.out]; exact Nat.le_refl _)] at HB
      have d2 := (HC.out.cell (p := ⟨q, 2, none⟩) HH.out.lt (by show ¬ q = Y; exact HL.out.qY)).trans HH.out.c2
      rw [hm2.out] at d2
      have HC1 := HC
      have HB1 := HB
      have HCB := Lib.hid (H1.out.chg HC1.out (fun h => HL.out.CY h))
      obtain ⟨FI, hFI⟩ : ∃ FI, crashL zs 0 s.safe s.opn = FI := ⟨_, rfl⟩
      have HFI := Lib.hid hFI
      rw [hFI] at HB1
      clear HC HB CRm HP HPF hpn H2 hFI
      go_wp2
      go_loopw [46] (fun v46 wx => ∃ k : Nat, v46 = .int .i64 k ∧ k ≤ m ∧ Hid (Chg (fun i => i = C) w9 wx) ∧ Hid (BlkRow wx C (copyL (cont s) FI (s.opn.take k)))) (fun v46 _ => m - (intOf v46).toNat)
      case atStart => exact ⟨0, rfl, Nat.zero_le _, Chg.refl _ _, HCB.out⟩
      case round =>
        obtain ⟨wx, rfl⟩ : ∃ wx, wx = wr := ⟨_, rfl⟩
        obtain ⟨k, rfl, hk, HC, HB⟩ := hrel
        by_cases hlt : k < m
        · have hk2 : k < s.opn.length := by rw [hm2.out]; exact hlt
          have hall := HD.out.ok.all
          obtain ⟨O, cap', hA, hcap, hO, hrng⟩ := opn_at H3.out (fun x hx => (hall.2 x hx).2) hk2
          obtain ⟨rfl, rfl⟩ : A0 = some ⟨O, 0, none⟩ ∧ cap = cap' := by simpa [hm2.out] using hA
          have hOY : O ≠ Y := (HL.out.fv O rfl).2.2.2
          have hOC : O ≠ C := (HL.out.fv O rfl).2.2.1
          have hrng2 := rangeAt_of (rangeAt_of hrng (HC1.out.block O hO hOY)) (HC.out.block O (Nat.lt_of_lt_of_le hO HC1.out.size) hOC)
          have HS := Lib.hid (take_snocW s.opn k hk2)
          have hx := hall.2 s.opn[k] (List.getElem_mem hk2)
          generalize s.opn[k] = x at *
          obtain ⟨at', b⟩ := x
          obtain ⟨hx1, hx2⟩ := hx
          have hwl := wrC_len (at', b) hx2
          have hone66 := Lib.hid (all_oneCell_toArray (wrC_one (at', b)))
          obtain ⟨-, hvr, hvt, hvg⟩ := set_var wx Z 66 (wrC (at', b)) (by rw [hZ2.out, hwl])
          rw [show wrC (at', b) = .int .i64 (at' : Int) :: bytesV b from rfl] at hvr hrng2 hvt hwl hone66 hvg
          have t0 := (range_tail hvr).1
          have HVT := Lib.hid hvt
          have HVG := Lib.hid hvg
          have HR2 := Lib.hid hrng2
          have hC2 := (HC.out.trans (HVG.out.chg (F := fun i => i = C)))
          have hw0 := HH.out.chg HC1.out (by show ¬ q = Y; exact HL.out.qY)
          have d1 := (hC2.cell (p := ⟨q, 1, none⟩) hw0.lt (by show ¬ q = C; exact HL.out.qC)).trans hw0.c1
          have e1 := (hC2.cell (p := ⟨q, 0, none⟩) hw0.lt (by show ¬ q = C; exact HL.out.qC)).trans hw0.c0
          have hYB := HB.out.of (HVG.out.block C HB.out.lt) HVG.out.size
          have hLen : Hid ((copyL (cont s) FI (s.opn.take k)).length = s.safe.length) := by show _ = _; rw [copyL_len, cont_len]
          have hFL : Hid (FI.length = s.safe.length) := by show _ = _; rw [← HFI.out, crashL_len]
          have hF := HB1.out.chg hC2 (fun h => HL.out.CY h.symm)
          have hb1 := hF.one (k := at') (by rw [hFL.out]; exact hx1)
          have t1 := (hF.at' at' (by rw [hFL.out]; exact hx1)).1
          have d2' := (hYB.at' at' (by rw [hLen.out]; exact hx1)).2
          have HNB := Lib.hid (hYB.set (k := at') (by rw [hLen.out]; exact hx1) (FI.getD at' blk0) hb1)
          have HC2 := Lib.hid hC2
          have j1 : (k : Int) < (m : Int) := by omega
          have j2 : (at' : Int) < (s.safe.length : Int) := by omega
          have j3 : (0 : Int) ≤ (at' : Int) := Int.natCast_nonneg _
          have hVC : wx.heap.size ≠ C := by have := HB.out.lt; omega
          have hqC := HL.out.qC
          have hCY := HL.out.CY
          have hbl := bytesV_len (FI.getD at' blk0)
          rw [hb1] at hbl
          have hone := bytesV_one (FI.getD at' blk0)
          have hu := Try.underlying40
          have hi : (Try.prog.info? 40).map (·.size) = some (bytesV (FI.getD at' blk0)).length := size40 hbl.symm
          clear hvr hrng2 hvt hvg hrng hC2 hYB hall hA hk2 hO hOY hOC hx1 hx2 hw0 hF hb1
          generalize bytesV b = cb at *
          generalize hcs : bytesV (FI.getD at' blk0) = cs at *
          have HCS := Lib.hid hcs
          clear hcs
          generalize s.safe.length = n at *
          obtain ⟨wv, hwv⟩ : ∃ wv, wv = (wx.alloc (.cells Z 66)).setCells wx.heap.size 0 (.int .i64 (at' : Int) :: cb) := ⟨_, rfl⟩
          have HWV := Lib.hid hwv
          rw [← hwv] at HNB HC2 HVG d1 d2' t0 t1 e1
          clear hwv
          go_upto_region 11 with (first
            | (refine wpList_load_mid (by rfl) 66 _ (by rfl) O (k * 65) (by rfl) (.int .i64 (at' : Int) :: cb) _ HR2.out hd66 hr66 (size66 hwl.symm) ?_)
            | (refine wpList_store_mid (by rfl) 66 _ _ (by rfl) wx.heap.size 0 (.int .i64 (at' : Int) :: cb).toArray (by rfl) (by rfl) (by simpa using HVT.out) (size66 (by simpa using hwl.symm)) hone66.out ?_; rw [← HWV.out]))
          have d0 : (wv.drew.setCells C (at' * 64) cs).cell? ⟨q, 1, none⟩ = some (.slice (some ⟨Y, 0, none⟩) n n) := by
            rw [World.cell?_setCells_out _ _ _ _ _ (fun h => absurd h hqC)]; exact d1
          have e0 : (wv.drew.setCells C (at' * 64) cs).cell? ⟨q, 0, none⟩ = some (.slice (some ⟨C, 0, none⟩) n n) := by
            rw [World.cell?_setCells_out _ _ _ _ _ (fun h => absurd h hqC)]; exact e1
          have t2 : (wv.drew.setCells C (at' * 64) cs).cell? ⟨wx.heap.size, 0, none⟩ = some (.int .i64 (at' : Int)) := by
            rw [World.cell?_setCells_out _ _ _ _ _ (fun h => absurd h hVC)]; exact t0
          have t3 : (wv.drew.setCells C (at' * 64) cs).rangeAt Y (at' * 64) cs := World.rangeAt_setCells_apart ((World.rangeAt_drew _ _ _ _).2 t1) _ _ _ (Or.inl (Ne.symm hCY))
          have d3 : (wv.drew.setCells C (at' * 64) cs).there C (at' * 64) 64 := World.there_setCells ((World.there_drew _ _ _ _).2 d2') _ _ _
          go_region_held3 (fun w' => w'.cell? ⟨q, 0, none⟩ = some (.slice (some ⟨C, 0, none⟩) n n) ∧ w'.cell? ⟨q, 1, none⟩ = some (.slice (some ⟨Y, 0, none⟩) n n) ∧ w'.cell? ⟨wx.heap.size, 0, none⟩ = some (.int .i64 (at' : Int)) ∧ w'.rangeAt Y (at' * 64) cs ∧ w'.there C (at' * 64) 64)
            (first | exact ⟨e1, d1, t0, (World.rangeAt_drew _ _ _ _).2 t1, (World.there_drew _ _ _ _).2 d2'⟩ | exact ⟨e0, d0, t2, t3, d3⟩) (fail)
          have HCE : Hid (Chg (fun i => i = C) w9 (wv.drew.setCells C (at' * 64) cs)) := (HC2.out.drew).setCells _ _ _ (fun _ => rfl)
          have HBE : Hid (BlkRow (wv.drew.setCells C (at' * 64) cs) C (copyL (cont s) FI (s.opn.take (k + 1)))) := by
            rw [drew_setCells, HS.out, copyL_snoc]
            exact HNB.out.of rfl (Nat.le_refl _)
          generalize wv.drew.setCells C (at' * 64) cs = we at *
          go_wp2
          go_roundw
          case rel => exact ⟨k + 1, by go_num, by omega, HCE, HBE⟩
          case measure => simp only [intOf]; omega
        · obtain rfl : m = k := by omega
          rw [List.take_of_length_le (by rw [hm2.out]; exact Nat.le_refl _)] at HB
          have HB3 : Hid (BlkRow wx C FI) := by
            have := HB.out
            rw [← HFI.out, show cont s = applyL s.safe s.opn from rfl, copyL_all, HFI.out] at this
            exact this
          have hw0 := (HH.out.chg HC1.out (by show ¬ q = Y; exact HL.out.qY)).chg HC.out (by show ¬ q = C; exact HL.out.qC)
          have k2 := hw0.c2
          have k3 := hw0.c3
          have k4 := hw0.c4
          have f2 := hw0.f2
          have f3 := hw0.f3
          have f4 := hw0.f4
          have HPP := Lib.hid (dk_crash (picks := zs) HD.out.fit HD.out.ok HL.out HH.out HC1.out (by rw [HFI.out]; exact HB1.out) HC.out (by rw [HFI.out]; exact HB3.out))
          clear hw0
          go_wp2
          go_end0
          exact ⟨rfl, HPP.out⟩
end Go.Proofs.Ytgaopkfdbglnmaa.NumK
