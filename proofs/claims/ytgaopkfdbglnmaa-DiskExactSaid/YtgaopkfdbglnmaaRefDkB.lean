/- The document's own disk: See, Read. -/
import Derived.Test.YtgaopkfdbglnmaaRefDk
namespace Go.Proofs.Ytgaopkfdbglnmaa.NumK
open Go.RowKit

theorem see_of {s : DS} {k : Nat} (hk : k < s.safe.length) : (cont s).getD k blk0 = seeL (s.safe.getD k blk0) s.opn k := applyL_see _ _ _ hk
set_option maxRecDepth 100000 in
set_option maxHeartbeats 2000000 in
theorem rsee_any (F : Nat → Prop) (q : Nat) (s : DS) (k : Nat) (hk : k < s.safe.length) (hn : s.opn.length ≤ 1000000) (w : World) (h : RK w F q s) : Calls Try.prog 34 #[.pointer (some ⟨q, 0, none⟩), .int .i64 (k : Int)] w fun e w' => e = .returned (blkV' ((cont s).getD k blk0)) ∧ Grew w w' := by
  have HE := Lib.hid (see_of (s := s) hk)
  have HD := Lib.hid h
  obtain ⟨Y, v, L, H, h2, h3⟩ := h.ex
  obtain ⟨A0, cap, rfl⟩ := own_form h3
  have HH := Lib.hid H
  have H3 := Lib.hid h3
  have HR := Lib.hid (h2.at' k hk).1
  have hb0 := h2.one hk
  obtain ⟨Z, hZ⟩ : ∃ Z, Z = (bytesV blk0).toArray := ⟨_, rfl⟩
  have hz := fun w => zero40 w
  rw [← hZ] at hz
  have HZ := Lib.hid hZ
  clear hZ
  have g1 := grew_alloc w Z 40
  have RT := Lib.hid (there_new w Z 40 HZ.out)
  have c1 := (grew_cell g1 (p := ⟨q, 1, none⟩) HH.out.lt).trans HH.out.c1
  have HR1 := Lib.hid (rangeAt_of HR.out (g1.block Y h2.lt))
  obtain ⟨m, hm⟩ : ∃ m, s.opn.length = m := ⟨_, rfl⟩
  have hm2 := Lib.hid hm
  rw [hm] at hn
  have i1 : (k : Int) < (s.safe.length : Int) := by omega
  have i0 : (0 : Int) ≤ (k : Int) := Int.natCast_nonneg _
  have hone := Lib.hid (bytesV_one' (b := s.safe.getD k blk0))
  have hl0 := bytesV_len (s.safe.getD k blk0)
  rw [hb0] at hl0
  obtain ⟨cs0, hcs0⟩ : ∃ cs, bytesV (s.safe.getD k blk0) = cs := ⟨_, rfl⟩
  have HCS0 := Lib.hid hcs0
  rw [hcs0] at hone hl0 HR HR1
  have P := put_new (w.alloc (.cells Z 40)) Z HZ.out 40 cs0 hl0
  have HP := Lib.hid P
  have hsz1 : (w.alloc (.cells Z 40)).heap.size = w.heap.size + 1 := by simp
  have HB0 := Lib.hid hb0
  clear h L H h2 h3 hm hcs0 hb0 P
  rw [hsz1] at HP
  obtain ⟨n, hnn⟩ : ∃ n, s.safe.length = n := ⟨_, rfl⟩
  rw [hnn] at i1 c1
  go_enter Try.func34, Try.ntmps34
  go_upto_region 3 with (first
    | (refine wpList_load_mid (by rfl) 40 _ (by rfl) Y (k * 64) (by rfl) cs0 _ HR1.out Try.underlying40 rfl (size40 hl0.symm) ?_)
    | (refine wpList_store_mid (by rfl) 40 _ _ (by rfl) (w.heap.size + 1) 0 cs0.toArray (by rfl) (by rfl) (by simpa [hl0] using HP.out.2.1) (size40 (by simpa using hl0.symm)) hone.out ?_))
  have HV1 : Hid ((((w.alloc (.cells Z 40)).alloc (.cells Z 40)).setCells (w.heap.size + 1) 0 cs0).rangeAt (w.heap.size + 1) 0 (bytesV (seeL (s.safe.getD k blk0) (s.opn.take 0) k))) := by
    have e : bytesV (seeL (s.safe.getD k blk0) (s.opn.take 0) k) = cs0 := HCS0.out
    show World.rangeAt _ _ _ _
    rw [e]; exact HP.out.1
  have HV2 : Hid ((((w.alloc (.cells Z 40)).alloc (.cells Z 40)).setCells (w.heap.size + 1) 0 cs0).there (w.heap.size + 1) 0 64) := HP.out.2.2.2.1
  have HV3 : Hid (Grew w (((w.alloc (.cells Z 40)).alloc (.cells Z 40)).setCells (w.heap.size + 1) 0 cs0)) := grew_trans (grew_alloc _ _ _) HP.out.2.2.1
  have HV4 : Hid (w.heap.size + 1 < (((w.alloc (.cells Z 40)).alloc (.cells Z 40)).setCells (w.heap.size + 1) 0 cs0).heap.size) := HP.out.2.2.2.2
  have HV5 : Hid ((((w.alloc (.cells Z 40)).alloc (.cells Z 40)).setCells (w.heap.size + 1) 0 cs0).there w.heap.size 0 64) := there_of RT.out (HP.out.2.2.1.block _ (by rw [hsz1]; omega))
  clear HP RT HR1 HR hsz1 hnn g1 c1 HCS0 hone
  generalize ((w.alloc (.cells Z 40)).alloc (.cells Z 40)).setCells (w.heap.size + 1) 0 cs0 = w3 at *
  go_loopw [6] (fun v6 wr => ∃ i : Nat, v6 = .int .i64 i ∧ i ≤ m ∧ Hid (wr.rangeAt (w.heap.size + 1) 0 (bytesV (seeL (s.safe.getD k blk0) (s.opn.take i) k))) ∧ Hid (wr.there (w.heap.size + 1) 0 64) ∧ Hid (Grew w wr) ∧ Hid (w.heap.size + 1 < wr.heap.size) ∧ Hid (wr.there w.heap.size 0 64) ∧ Hid ((seeL (s.safe.getD k blk0) (s.opn.take i) k).length = 64)) (fun v6 _ => m - (intOf v6).toNat)
  case atStart => exact ⟨0, rfl, Nat.zero_le _, HV1, HV2, HV3, HV4, HV5, HB0.out⟩
  case round =>
    obtain ⟨i, rfl, hi, HV1, HV2, HV3, HV4, HV5, HV6⟩ := hrel
    have e2 := (grew_cell HV3.out (p := ⟨q, 2, none⟩) HH.out.lt).trans HH.out.c2
    rw [hm2.out] at e2
    by_cases hlt : i < m
    · have j1 : (i : Int) < (m : Int) := by omega
      have hk2 : i < s.opn.length := by rw [hm2.out]; exact hlt
      have hall := HD.out.ok.all
      obtain ⟨O, cap', hA, hcap, hO, hrng⟩ := opn_at H3.out (fun x hx => (hall.2 x hx).2) hk2
      obtain ⟨rfl, rfl⟩ : A0 = some ⟨O, 0, none⟩ ∧ cap = cap' := by simpa [hm2.out] using hA
      have hrng2 := rangeAt_of hrng (HV3.out.block O hO)
      have HS := Lib.hid (take_snocW s.opn i hk2)
      have hx := hall.2 s.opn[i] (List.getElem_mem hk2)
      generalize s.opn[i] = x at *
      obtain ⟨at', b⟩ := x
      obtain ⟨hx1, hx2⟩ := hx
      have hbl := bytesV_len b
      rw [hx2] at hbl
      rw [show wrC (at', b) = .int .i64 (at' : Int) :: bytesV b from rfl] at hrng2
      obtain ⟨t0, t1⟩ := range_tail hrng2
      have HT1 := Lib.hid t1
      have hone := Lib.hid (bytesV_one' (b := b))
      clear hall hA hcap hO hrng hrng2 t1 hx1 hk2
      by_cases hat : at' = k
      · subst hat
        have HN : Hid (seeL (s.safe.getD at' blk0) (s.opn.take (i + 1)) at' = b) := by show _ = _; rw [HS.out, seeL_snoc]; exact if_pos rfl
        have HR2 : Hid ((wr.setCells (w.heap.size + 1) 0 (bytesV b)).rangeAt (w.heap.size + 1) 0 (bytesV (seeL (s.safe.getD at' blk0) (s.opn.take (i + 1)) at'))) := by
          show World.rangeAt _ _ _ _
          rw [HN.out]; exact World.rangeAt_setCells_same _ _ _ _ (by rw [hbl]; exact HV2.out)
        have HT2 : Hid ((wr.setCells (w.heap.size + 1) 0 (bytesV b)).there (w.heap.size + 1) 0 64) := World.there_setCells HV2.out _ _ _
        have HG2 : Hid (Grew w (wr.setCells (w.heap.size + 1) 0 (bytesV b))) := ((Chg.refl (fun k => k = w.heap.size + 1) wr).setCells _ _ _ (fun _ => rfl)).grew HV3.out (fun k hk => by subst hk; omega)
        have HL2 : Hid (w.heap.size + 1 < (wr.setCells (w.heap.size + 1) 0 (bytesV b)).heap.size) := by show _ < _; rw [setCells_size]; exact HV4.out
        have HT3 : Hid ((wr.setCells (w.heap.size + 1) 0 (bytesV b)).there w.heap.size 0 64) := World.there_setCells HV5.out _ _ _
        have HLb : Hid ((seeL (s.safe.getD at' blk0) (s.opn.take (i + 1)) at').length = 64) := by show _ = _; rw [HN.out]; exact hx2
        generalize bytesV b = cs at *
        go_wp2_with (first
          | (refine wpList_load_mid (by rfl) 40 _ (by rfl) O (i * 65 + 1) (by rfl) cs _ HT1.out Try.underlying40 rfl (size40 hbl.symm) ?_)
          | (refine wpList_store_mid (by rfl) 40 _ _ (by rfl) (w.heap.size + 1) 0 cs.toArray (by rfl) (by rfl) (by simpa [hbl] using HV2.out) (size40 (by simpa using hbl.symm)) hone.out ?_))
        generalize wr.setCells (w.heap.size + 1) 0 cs = we at *
        go_roundw
        case rel => exact ⟨i + 1, by go_num, by omega, HR2, HT2, HG2, HL2, HT3, HLb⟩
        case measure => simp only [intOf]; omega
      · have HN : Hid (seeL (s.safe.getD k blk0) (s.opn.take (i + 1)) k = seeL (s.safe.getD k blk0) (s.opn.take i) k) := by show _ = _; rw [HS.out, seeL_snoc]; exact if_neg hat
        have hne : ((at' : Int) == (k : Int)) = false := by simp; omega
        rw [← HN.out] at HV1 HV6
        go_wp2
        go_roundw
        case rel => exact ⟨i + 1, by go_num, by omega, HV1, HV2, HV3, HV4, HV5, HV6⟩
        case measure => simp only [intOf]; omega
    · obtain rfl : m = i := by omega
      rw [List.take_of_length_le (by rw [hm2.out]; exact Nat.le_refl _), ← HE.out] at HV1 HV6
      have hlB := bytesV_len ((cont s).getD k blk0)
      rw [HV6.out] at hlB
      have hone := Lib.hid (bytesV_one' (b := (cont s).getD k blk0))
      have HEQ : Hid (blkV' ((cont s).getD k blk0) = .agg (bytesV ((cont s).getD k blk0)).toArray) := rfl
      clear HV6
      generalize bytesV ((cont s).getD k blk0) = cs at *
      have hout := Lib.hid (World.rangeAt_setCells_same wr w.heap.size 0 cs (by rw [hlB]; exact HV5.out))
      have HGE : Hid (Grew w (wr.setCells w.heap.size 0 cs)) := ((Chg.refl (fun k => k = w.heap.size) wr).setCells _ _ _ (fun _ => rfl)).grew HV3.out (fun k hk => by subst hk; exact Nat.le_refl _)
      go_wp2_with (first
        | (refine wpList_load_mid (by rfl) 40 _ (by rfl) (w.heap.size + 1) 0 (by rfl) cs _ HV1.out Try.underlying40 rfl (size40 hlB.symm) ?_)
        | (refine wpList_store_mid (by rfl) 40 _ _ (by rfl) w.heap.size 0 cs.toArray (by rfl) (by rfl) (by simpa [hlB] using HV5.out) (size40 (by simpa using hlB.symm)) hone.out ?_))
      (try simp only [Exit.inBlock, Exit.then]); refine bodyPost_ret (results_cell_mid rfl _ _ w.heap.size cs _ rfl hout.out Try.underlying40 rfl (size40 hlB.symm)) rfl ?_
      exact ⟨by rw [HEQ.out], HGE.out⟩

set_option maxRecDepth 100000 in
set_option maxHeartbeats 1000000 in
theorem rread_any (F : Nat → Prop) (q : Nat) (s : DS) (at' : Int) (hn : s.opn.length ≤ 1000000) (w : World) (h : RK w F q s) : Calls Try.prog 18 #[.pointer (some ⟨q, 0, none⟩), .int .i64 at'] w fun e w' => e = .returned (readV (dRead s at')) ∧ Grew w w' := by
  obtain ⟨Z, hZ⟩ : ∃ Z, Z = (bytesV blk0).toArray := ⟨_, rfl⟩
  have hz := fun w => zero40 w
  rw [← hZ] at hz
  have g1 := grew_alloc w Z 40
  have h1 := h.grew g1
  have KB := Lib.hid (rblock_any F q s at' _ h1)
  obtain ⟨Y, v, L, H, h2, h3⟩ := h1.ex
  have c3 := H.c3
  have hth := there_new w Z 40 hZ
  have HTH := Lib.hid hth
  have hl0 : (bytesV blk0).length = 64 := rfl
  have HG1 := Lib.hid g1
  by_cases hr : refI s at' = 0
  · obtain ⟨ho, k, rfl, hk⟩ := has_of hr
    have SE := Lib.hid (rsee_any F q s k hk hn _ h1)
    have HE := Lib.hid (dRead_of (s := s) ho hk)
    have hb : ((cont s).getD k blk0).length = 64 := by have := dRead_len h.ok (k : Int); rw [HE.out] at this; exact this
    have hhas : decide (s.has (k : Int)) = true := decide_eq_true (by unfold DS.has; omega)
    rw [hhas] at KB
    rw [ho] at c3
    rw [HE.out]
    show Calls _ _ _ _ fun e w' => e = .returned (.tuple #[.agg (bytesV ((cont s).getD k blk0)).toArray, .int .i64 0]) ∧ Grew w w'
    have SE2 : Hid (Calls Try.prog 34 #[.pointer (some ⟨q, 0, none⟩), .int .i64 (k : Int)] (w.alloc (.cells Z 40)) fun e w' => e = .returned (.agg (bytesV ((cont s).getD k blk0)).toArray) ∧ Grew (w.alloc (.cells Z 40)) w') := SE.out
    have hone := Lib.hid (bytesV_one' (b := (cont s).getD k blk0))
    have hl := bytesV_len ((cont s).getD k blk0)
    rw [hb] at hl
    have hlt : Hid (w.heap.size < (w.alloc (.cells Z 40)).heap.size) := by show _ < _; simp
    clear SE HE hb hhas ho hr L H h2 h3 h1 h hth hZ
    generalize bytesV ((cont s).getD k blk0) = cs at *
    go_enter Try.func18, Try.ntmps18
    go_wp2_with (first
      | (go_at_call 33; ((with_reducible refine KB.out.mono ?_); rintro e w1 ⟨rfl, rfl⟩))
      | (go_at_call 34; ((with_reducible refine SE2.out.mono ?_); rintro e w2 ⟨rfl, hg⟩; have HT2 := Lib.hid (there_of HTH.out (hg.block _ hlt.out)); have HG2 := Lib.hid (grew_trans HG1.out hg); clear hg))
      | (refine wpList_store_mid (by rfl) 40 _ _ (by rfl) w.heap.size 0 cs.toArray (by rfl) (by rfl) (by simpa [hl] using HT2.out) (size40 (by simpa using hl.symm)) hone.out ?_))
    have hout := Lib.hid (World.rangeAt_setCells_same w2 w.heap.size 0 cs (by rw [hl]; exact HT2.out))
    have HGE : Hid (Grew w (w2.setCells w.heap.size 0 cs)) := ((Chg.refl (fun k => k = w.heap.size) w2).setCells _ _ _ (fun _ => rfl)).grew HG2.out (fun k hk => by subst hk; exact Nat.le_refl _)
    (try simp only [Exit.inBlock, Exit.then]); refine bodyPost_ret (results_cell_tmp_mid rfl _ _ w.heap.size cs _ rfl hout.out Try.underlying40 rfl (size40 hl.symm)) rfl ?_
    exact ⟨rfl, HGE.out⟩
  · have hE := dRead_not hr
    have hout := Lib.hid (World.rangeAt_setCells_same (w.alloc (.cells Z 40)) w.heap.size 0 (bytesV blk0) (by rw [hl0]; exact hth))
    have HGE : Hid (Grew w ((w.alloc (.cells Z 40)).setCells w.heap.size 0 (bytesV blk0))) := ((Chg.refl (fun k => k = w.heap.size) _).setCells _ _ _ (fun _ => rfl)).grew g1 (fun k hk => by subst hk; exact Nat.le_refl _)
    have hone := Lib.hid (bytesV_one' (b := blk0))
    rw [hE]
    show Calls _ _ _ _ fun e w' => e = .returned (.tuple #[.agg (bytesV blk0).toArray, .int .i64 (refI s at')]) ∧ Grew w w'
    have HRI : Hid ((s.off = true ∧ refI s at' = 7) ∨ (s.off = false ∧ decide (s.has at') = false ∧ refI s at' = 3)) := by
      unfold refI at hr ⊢
      cases ho : s.off with
      | true => exact Or.inl ⟨rfl, by simp⟩
      | false =>
        rw [ho] at hr
        by_cases hh : s.has at'
        · simp [hh] at hr
        · exact Or.inr ⟨rfl, decide_eq_false hh, by simp [hh]⟩
    clear hE h L H h2 h3 h1 hth
    generalize refI s at' = r at *
    generalize bytesV blk0 = cs at *
    subst hZ
    rcases HRI.out with ⟨ho, rfl⟩ | ⟨ho, hh, rfl⟩
    · rw [ho] at c3
      go_enter Try.func18, Try.ntmps18
      go_wp2_with (first
        | (refine wpList_store_mid (by rfl) 40 _ _ (by rfl) w.heap.size 0 cs.toArray (by rfl) (by rfl) (by simpa [hl0] using HTH.out) (size40 (by simpa using hl0.symm)) hone.out ?_))
      (try simp only [Exit.inBlock, Exit.then]); refine bodyPost_ret (results_cell_tmp_mid rfl _ _ w.heap.size cs _ rfl hout.out Try.underlying40 rfl (size40 hl0.symm)) rfl ?_
      exact ⟨rfl, HGE.out⟩
    · rw [ho] at c3
      rw [hh] at KB
      go_enter Try.func18, Try.ntmps18
      go_wp2_with (first
        | (go_at_call 33; ((with_reducible refine KB.out.mono ?_); rintro e w1 ⟨rfl, rfl⟩))
        | (refine wpList_store_mid (by rfl) 40 _ _ (by rfl) w.heap.size 0 cs.toArray (by rfl) (by rfl) (by simpa [hl0] using HTH.out) (size40 (by simpa using hl0.symm)) hone.out ?_))
      (try simp only [Exit.inBlock, Exit.then]); refine bodyPost_ret (results_cell_tmp_mid rfl _ _ w.heap.size cs _ rfl hout.out Try.underlying40 rfl (size40 hl0.symm)) rfl ?_
      exact ⟨rfl, HGE.out⟩
end Go.Proofs.Ytgaopkfdbglnmaa.NumK
