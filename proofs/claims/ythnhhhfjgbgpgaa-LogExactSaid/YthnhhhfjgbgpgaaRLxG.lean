/- A pair of logs: Append on both. -/
import Derived.Test.YthnhhhfjgbgpgaaRLxD
namespace Go.Proofs.Ythnhhhfjgbgpgaa.NumK
open Go.RowKit

theorem lAppend_keeps (s : DS) (l : LS) (ls : List (List UInt8)) : (lAppend s l ls).2.1.safe.length = s.safe.length ∧ (lAppend s l ls).2.1.opn.length ≤ s.opn.length + roomD s := by
  unfold lAppend
  split
  · exact ⟨rfl, Nat.le_add_right _ _⟩
  · split
    · exact ⟨rfl, Nat.le_add_right _ _⟩
    · split
      · exact ⟨rfl, Nat.le_add_right _ _⟩
      · rename_i h3
        split
        · exact ⟨rfl, Nat.le_add_right _ _⟩
        · have a1 := wrL_opn s (l.half * roomD s + l.fin) (rowsL l.gen (l.recs.length + 1) ls)
          rw [rowsL_len] at a1
          have a2 := wrL_keeps s (l.half * roomD s + l.fin) (rowsL l.gen (l.recs.length + 1) ls)
          dsimp only
          split
          · exact ⟨by show (wrL s _ _).2.safe.length = _; rw [a2], by show (wrL s _ _).2.opn.length ≤ _; omega⟩
          · exact ⟨by show (wrL s _ _).2.safe.length = _; rw [a2], by show (wrL s _ _).2.opn.length ≤ _; omega⟩
set_option maxRecDepth 100000 in
set_option maxHeartbeats 4000000 in
theorem pstep_0 {N : Nat → Prop} {w0 w : World} {pb d q lb lr : Nat} {s : DS} {l : LS} (x : At7) (A2 : Option Addr) (n2 c2 : Nat) (A3 : Option Addr) (n3 c3 : Nat) (A4 : Option Addr) (n4 c4 : Nat) (hI : At7In w0 x A2 A3 A4 n2 c2 n3 c3 n4) (hLt : Light x) (hN : N pb) (hpb : w0.heap.size ≤ pb)
    (hC : PairC w pb (some ⟨lb, 0, none⟩) d (some ⟨lr, 0, none⟩) q) (h : SX N w0 w (PJ lb d s l) (RJ lr q s l)) (ho : s.off = false) (hn : s.opn.length ≤ 400000) (hsl : s.safe.length ≤ 300) (hk : ∃ kd : Nat, (IntKind.u64.wrap x.K).tmod 10 = (kd : Int) ∧ kd < 4) :
    Calls Try.prog 8 #[.pointer (some ⟨pb, 0, none⟩), .agg #[.int .i64 x.K, .int .i64 x.N, .slice A2 n2 c2, .slice A3 n3 c3, .slice A4 n4 c4]] w (StepPost N w0 pb d q s) := by
  have HI := Lib.hid hI
  have HLT := Lib.hid hLt
  obtain ⟨M, hle, hmp, hmv, hme, hx1, hbx⟩ := box_mk x A2 n2 c2 A3 n3 c3 A4 n4 c4 hN hC h (stb_PJ _ _ _ _) (stb_RJ _ _ _ _)
  have HX1 := Lib.hid hx1
  have HMP := Lib.hid hmp
  have HBX := Lib.hid hbx
  have HO := Lib.hid ho
  have HN := Lib.hid hn
  have HSL := Lib.hid hsl
  have HLE := Lib.hid hle
  have HMV := Lib.hid hmv
  have HME := Lib.hid hme
  have HPB := Lib.hid hpb
  have hb0 := HBX.out _ (Chg.refl _ _)
  obtain ⟨-, a0, -, -, -, -⟩ := hb0
  have HVW : Hid (w0.heap.size ≤ w.heap.size) := h.grew.size
  have HPV : Hid (pb ≠ w.heap.size) := fun e => by have := hC.2.2; omega
  have HPV2 : Hid (pb < (w.alloc (.cells #[.int .i64 x.K, .int .i64 x.N, .slice A2 n2 c2, .slice A3 n3 c3, .slice A4 n4 c4] 41)).heap.size) := by show pb < _; simp; have := hC.2.2; omega
  have HVV : Hid (w.heap.size < (w.alloc (.cells #[.int .i64 x.K, .int .i64 x.N, .slice A2 n2 c2, .slice A3 n3 c3, .slice A4 n4 c4] 41)).heap.size) := by show _ < _; simp
  clear hLt hN hC h ho hn hsl hpb hI hx1 hmp hbx hle hmv hme
  obtain ⟨kd, hk, hkd⟩ := hk
  have q4 : ((kd : Int) == 4) = false := by simp; omega
  have q5 : ((kd : Int) == 5) = false := by simp; omega
  have q6 : ((kd : Int) == 6) = false := by simp; omega
  have q7 : ((kd : Int) == 7) = false := by simp; omega
  have q8 : ((kd : Int) == 8) = false := by simp; omega
  have q9 : ((kd : Int) == 9) = false := by simp; omega
  have q10 : IntKind.u64.wrap (kd : Int) = (kd : Int) := by rw [IntKind.wrap_u64]; omega
  go_enter Try.func8, Try.ntmps8
  go_upto_region 2 with fail
  generalize w.alloc (.cells #[.int .i64 x.K, .int .i64 x.N, .slice A2 n2 c2, .slice A3 n3 c3, .slice A4 n4 c4] 41) = WB at *
  generalize hV : w.heap.size = V at *
  have hlR : n3 ≤ 20 := by have := HI.out.b3.1; have := HLT.out.2.1; omega
  have HG0 := Lib.hid HX1.out.grew
  have HRL : Hid (∀ j, j < n3 → (x.R.getD j []).length ≤ 2000) := fun j hj => HLT.out.2.2 j (by rw [HI.out.b3.1]; exact hj)
  go_upto_region 30 with fail
  go_wp2
  go_loopw [10, 11] (fun v10 v11 wr => ∃ i : Nat, v11 = .int .i64 i ∧ i ≤ n3 ∧ Hid (RowsO wr WB.heap.size v10 (x.R.take i)) ∧ Hid (Grew WB wr)) (fun _ v11 _ => n3 - (intOf v11).toNat)
  case atStart => exact ⟨0, rfl, Nat.zero_le _, RowsO.nil _ _, grew_refl _⟩
  case round =>
    obtain ⟨i, rfl, hi, HRO, HG⟩ := hrel
    have a3 : wr.cell? ⟨V, 3, none⟩ = some (.slice A3 n3 c3) := (HBX.out wr HG.out.chg).2.2.2.2.1
    by_cases hlt : i < n3
    · have i1 : (i : Int) < (n3 : Int) := by omega
      have i0 : (0 : Int) ≤ (i : Int) := by omega
      have hil : i < x.R.length := by rw [HI.out.b3.1]; exact hlt
      obtain ⟨b3, o3, rfl, hb3, hc3⟩ := HI.out.b3.2 (by omega)
      obtain ⟨A5, n5, c5, g5, hb5, ha5, _⟩ := hc3 i hlt
      have gw := grew_trans HG0.out HG.out
      have g5 := (grew_cell gw (p := ⟨b3, o3 + i, none⟩) hb3).trans g5
      have hb5 := hb5.keep gw
      obtain ⟨p, hp⟩ : ∃ p, p = x.R.getD i [] := ⟨_, rfl⟩
      rw [← hp] at hb5
      have hn5 : n5 ≤ 2000 := by have h1 := HRL.out i hlt; have h2 := hb5.1; rw [← hp] at h1; omega
      have KT := Lib.hid (twinB_any A5 n5 c5 p wr hb5 ha5 (by omega))
      have hpl : p.length = n5 := hb5.1
      obtain ⟨xs, hx1, hx2⟩ := HRO.out
      have hln : (x.R.take i).length = i := by rw [List.length_take]; omega
      rw [hln] at hx1
      obtain ⟨Ar, cr, rfl⟩ := own_form hx1
      have HNX : Hid (∀ (w1 w2 : World) (At : Option Addr) (ct : Nat) v', Grew wr w1 → w1.ownsRow wr.heap.size 5 1 (.slice At n5 ct) n5 (p.map byv) → (w1.alloc (.cells #[.slice At n5 ct] 37)).grownBy w2 (Value.slice Ar i cr).ownBlock → w2.ownsRow WB.heap.size 37 1 v' (i + 1) (xs ++ [.slice At n5 ct]) → RowsO w2 WB.heap.size v' (x.R.take (i + 1)) ∧ Grew WB w2) := fun w1 w2 At ct v' g1 ho hg2 ho2 => by
        have hx1' : (w1.alloc (.cells #[.slice At n5 ct] 37)).ownsRow WB.heap.size 37 1 (.slice Ar i cr) i xs := ownR_grew hx1 (grew_trans g1 (grew_alloc _ _ _))
        have ga := grew_alloc w1 #[.slice At n5 ct] 37
        refine ⟨?_, ?_⟩
        · rw [take_snocR x.R i hil, ← hp]
          refine RowsO.app (w := w1.alloc (.cells #[.slice At n5 ct] 37)) (v := .slice Ar i cr) (xs := xs) (x := .slice At n5 ct) (by rw [hln]; exact hx1') (fun j hj => by obtain ⟨y, hy, hs⟩ := hx2 j hj; exact ⟨y, hy, (hs.keep g1).keep ga⟩) ?_ (by rw [hln]; exact ho2) hg2
          have hs : SlB w1 wr.heap.size (.slice At n5 ct) p := by show World.ownsRow _ _ _ _ _ _ _; rw [hpl]; exact ho
          exact (hs.mono HG.out.size).keep ga
        · have hbl := below_app (ownR_grew hx1 g1) hg2 (Nat.le_refl _)
          have gh := grew_trans HG.out g1
          have gg := grew_trans gh ga
          exact ⟨hg2.os.trans gg.os, hg2.tape.trans gg.tape, hg2.output.trans gg.output, Nat.le_trans gg.size hg2.size, fun k hk => (hbl k hk (Nat.lt_of_lt_of_le hk gh.size)).trans (gh.block k hk)⟩
      have HXO : Hid (wr.ownsRow WB.heap.size 37 1 (.slice Ar i cr) i xs) := hx1
      clear hc3 hb5 hp hpl hx1 hx2 gw
      go_upto_region 32 with (first
        | (go_at_call 19; ((with_reducible refine KT.out.mono ?_); rintro e w1 ⟨hg1, At, ct, rfl, hot, -⟩; have HG1 := Lib.hid hg1; have HOT := Lib.hid hot; clear hg1 hot))
        | (at_builtin; refine (wpList_append_one rfl _ _ rfl WB.heap.size _ i xs rfl (ownR_grew HXO.out (grew_trans HG1.out (grew_alloc _ _ _))) w1.heap.size 1 (.slice At n5 ct) rfl (by simp) rfl (by omega) (Nat.le_trans HG.out.size (Nat.le_trans HG1.out.size (grew_alloc _ _ _).size)) ?_); intro v' w2 ho2 hg2; have HN2 := Lib.hid (HNX.out w1 w2 At ct v' HG1.out HOT.out hg2 ho2); clear ho2 hg2))
      go_wp2
      go_roundw
      case rel => exact ⟨i + 1, by go_num, by omega, HN2.out.1, HN2.out.2⟩
      case measure => simp only [intOf]; omega
    · obtain rfl : n3 = i := by omega
      have htk : x.R.take n3 = x.R := List.take_of_length_le (by rw [HI.out.b3.1]; exact Nat.le_refl _)
      have hro := HRO.out
      rw [htk] at hro
      have hln := HI.out.b3.1
      obtain ⟨Ar, cr, rfl, har, hrc, how⟩ := hro.own
      rw [hln] at how
      have HOW := Lib.hid how
      obtain ⟨M2, hm2, hm2n, hx2⟩ : ∃ M2 : Nat → Prop, (∀ k, M k → M2 k) ∧ (∀ k, WB.heap.size ≤ k → k < wr.heap.size → M2 k) ∧ SX M2 w0 wr (PJ lb d s l) (RJ lr q s l) := ⟨fun k => M k ∨ (WB.heap.size ≤ k ∧ k < wr.heap.size), fun k h => Or.inl h, fun k a b => Or.inr ⟨a, b⟩, HX1.out.besides (stb_PJ _ _ _ _) (stb_RJ _ _ _ _) HG.out (fun k hk => hk)⟩
      have HX2 : Hid (SX M2 w0 wr.drew (PJ lb d s l) (RJ lr q s l)) := hx2.grows (stb_PJ _ _ _ _) (stb_RJ _ _ _ _) (grew_drew (grew_refl _))
      have HM2 := Lib.hid hm2
      have HM2N := Lib.hid hm2n
      have HMM : Hid (∀ wa wb, Chg (Mine M2 w0) wa wb → Chg (Mine M w0) wa wb) := fun wa wb g => g.mono fun k hk => ⟨hk.1, fun h => hk.2 (HM2.out k h)⟩
      have HC0 : Hid (Chg (Mine M w0) WB wr.drew) := (HG.out.chg).drew
      have HD0 : Hid (Chg (Mine M2 w0) wr wr.drew) := (Chg.refl _ _).drew
      have hbig : ∀ r ∈ x.R, r.length ≤ 9223372036854775807 := fun r hr => by
        obtain ⟨j, hj, rfl⟩ := List.getElem_of_mem hr
        have := HRL.out j (by rw [← hln]; exact hj)
        rw [List.getD_eq_getElem?_getD, List.getElem?_eq_getElem hj] at this
        simp at this; omega
      have hst0 := how.stays (w0 := w0) (N := M2) (fun k hk => hm2n k hk.1 hk.2) hbig
      have hst : RowsS (Mine M2 w0) wr.drew Ar n3 x.R := ⟨hst0.1, fun h0 => by
        obtain ⟨b, o, e, hb, hc⟩ := hst0.2 h0
        refine ⟨b, o, e, hb, fun j hj => ?_⟩
        obtain ⟨A1, n1, c1, h1, h2⟩ := hc j hj
        exact ⟨A1, n1, c1, fun w' g => h1 w' ((Chg.refl _ _).drew.trans g), h2⟩⟩
      have K1 := Lib.hid (sx_append (stb_RJ lr q s l) HX2 HO.out x.R Ar n3 cr hst (by omega) (by have := HN.out; omega))
      have hb3 := HI.out.b3
      have K2 := Lib.hid (fun P (hP : Stb P) w2 (h : Hid (SX M2 w0 w2 P (RJ lr q s l))) => sx_appendR hP h x.R A3 n3 c3 (hb3.stays h.out.grew) (by omega) (by have := HN.out; omega))
      have HLL : Hid ((lAppend s l x.R).2.1.safe.length = s.safe.length ∧ (lAppend s l x.R).2.1.opn.length ≤ s.opn.length + 400) := ⟨(lAppend_keeps s l x.R).1, by have h1 := (lAppend_keeps s l x.R).2; have h2 := HSL.out; have h3 : roomD s ≤ 150 := by { unfold roomD; omega }; omega⟩
      obtain ⟨r1, s1, l1, hr1⟩ : ∃ r1 s1 l1, lAppend s l x.R = (r1, s1, l1) := ⟨_, _, _, rfl⟩
      rw [hr1] at K1 K2 HLL
      obtain ⟨hp0, -, -, -, a3d, -⟩ := HBX.out wr.drew HC0.out
      obtain ⟨b0, -, b2, -⟩ := hp0.cells
      clear hp0 hr1 hb3 hst hst0 hbig hm2 hm2n hx2 how hro htk HRO
      rw [hln] at *
      go_upto_region 34 with fail
      go_region_held3 (fun w' => w'.cell? ⟨pb, 0, none⟩ = some (.pointer (some ⟨lb, 0, none⟩)) ∧ w'.cell? ⟨pb, 2, none⟩ = some (.pointer (some ⟨lr, 0, none⟩)) ∧ w'.cell? ⟨V, 3, none⟩ = some (.slice A3 n3 c3))
        (first | exact ⟨b0, b2, a3d⟩ | exact ⟨z0, z2, z3⟩ | exact ⟨y0, y2, y3⟩)
        (first
          | (go_at_call 28; ((with_reducible refine K1.out.mono ?_); rintro e w2 ⟨rfl, hs1, hc1⟩; have HS1 := hs1; have HD1 : Hid (Chg (Mine M2 w0) wr w2) := HD0.out.trans hc1; have HC1 : Hid (Chg (Mine M w0) WB w2) := HC0.out.trans (HMM.out _ _ hc1); obtain ⟨hp1, -, -, -, z3, -⟩ := HBX.out w2 HC1.out; obtain ⟨z0, -, z2, -⟩ := hp1.cells; clear hs1 hc1 hp1))
          | (go_at_call 29; ((with_reducible refine (K2.out _ (stb_PJ _ _ _ _) _ HS1).mono ?_); rintro e w3 ⟨rfl, hs1, hc1⟩; have HS2 := hs1; have HD2 : Hid (Chg (Mine M2 w0) wr w3) := HD1.out.trans hc1; have HC2 : Hid (Chg (Mine M w0) WB w3) := HC1.out.trans (HMM.out _ _ hc1); obtain ⟨hp1, -, -, -, y3, -⟩ := HBX.out w3 HC2.out; have HP2 := Lib.hid hp1; obtain ⟨y0, -, y2, -⟩ := hp1.cells; clear hs1 hc1 hp1)))
      clear b0 b2 a3d z0 z2 z3 y0 y2 y3 K1 K2 HS1
      have HOW3 : Hid (OwnR w3 (fun k => WB.heap.size ≤ k ∧ k < wr.heap.size) Ar n3 x.R) := HOW.out.keepM HD2.out (fun k hk => HM2N.out k hk.1 hk.2)
      have HPW : Hid (pb < WB.heap.size) := HPV2.out
      go_wp2
      go_loopw [13] (fun v13 wz => ∃ i : Nat, v13 = .int .i64 i ∧ i ≤ n3 ∧ Hid (SpI (fun k => (WB.heap.size ≤ k ∧ k < wr.heap.size) ∧ Ar ≠ some ⟨k, 0, none⟩) w3 wz)) (fun v13 _ => n3 - (intOf v13).toNat)
      case atStart => exact ⟨0, rfl, Nat.zero_le _, SpI.refl _ _⟩
      case round =>
        obtain ⟨i, rfl, hi, HSI⟩ := hrel
        by_cases hlt : i < n3
        · have i1 : (i : Int) < (n3 : Int) := by omega
          have i0 : (0 : Int) ≤ (i : Int) := by omega
          obtain ⟨g, A1, n1, c1', rfl, g5, hn1, hsp⟩ := HOW3.out.spoil HSI.out i hlt
          have KS := Lib.hid (hsp (by have := HRL.out i hlt; omega))
          clear hsp hn1
          go_wp2_with (go_at_call 22; ((with_reducible refine KS.out.mono ?_); rintro e wy ⟨rfl, hsi⟩; have HSI2 := Lib.hid hsi; clear hsi))
          go_roundw
          case rel => exact ⟨i + 1, by go_num, by omega, HSI2⟩
          case measure => simp only [intOf]; omega
        · obtain rfl : n3 = i := by omega
          have HFN : Hid (StepPost N w0 pb d q s (.returned (.bool true)) wr) := by
            have hc4 := HSI.out.chg
            have hsz := HG.out.size
            refine stepFin (s' := s1) (o := some (lb, lr, l1)) (fun k hk => HM2.out k (HLE.out k hk)) ⟨HP2.out.of (hc4.block pb HP2.out.2.2 (fun h => by have := h.1.1; have := HPW.out; omega)) hc4.size, HS2.out.keep (stb_PJ _ _ _ _) (stb_RJ _ _ _ _) (hc4.mono fun k hk => ⟨HM2N.out k hk.1.1 hk.1.2, Nat.le_trans HX1.out.grew.size hk.1.1⟩)⟩ HLL.out.1 HLL.out.2
          clear hlt
          go_wp2
          go_ret
          exact HFN.out
end Go.Proofs.Ythnhhhfjgbgpgaa.NumK
