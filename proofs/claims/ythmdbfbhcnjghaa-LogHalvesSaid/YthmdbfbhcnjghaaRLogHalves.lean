/-
  For every snapshots and record: each Begin takes the other half, and leaves the one in which the last snapshot and its records stand as it is (P7.2); inputs beyond the sizes that the statement names it lets by.
-/
import Derived.Test.YthmdbfbhcnjghaaRJnN
import Derived.Test.YthmdbfbhcnjghaaRDiskJ
import Derived.Test.YthmdbfbhcnjghaaRGrd
import Derived.Test.YthmdbfbhcnjghaaRFrame
import Derived.Test.YthmdbfbhcnjghaaRows
import Derived.WalkKit
import Derived.ProofKit
import Derived.OpenShut
import Derived.ShutString
import Derived.ChangeOld
import Derived.Below
import Derived.Carry
import Derived.SizedLaws
namespace Go.Proofs.Ythmdbfbhcnjghaa.NumK
open Go.RowKit

/-! ### in the model -/
structure HV (s : DS) (l : LS) (k : Nat) : Prop where
  on : s.off = false
  arm : s.armed = 0
  opn : s.opn = []
  len : s.safe.length = 64
  half : l.half = (k + 1) % 2
  gen : l.gen = k
  old : (partOf s l.half).gen ≤ l.gen
theorem hv_new : HV (dNew 64) (lPick (dNew 64)) 0 :=
  ⟨rfl, rfl, rfl, dNew_len 64, by rw [lPick_new], by rw [lPick_new], by rw [lPick_part]; exact Nat.le_refl _⟩
theorem hv_step {s : DS} {l : LS} {k : Nat} (h : HV s l k) (hk : k ≤ 20) (p rec : List UInt8) (hp : p.length ≤ 300) (hr : rec.length ≤ 300) :
    ∃ s1 l1 s2 l2 s3, lBegin s l p = (0, s1, l1) ∧ lAppend s1 l1 [rec] = (0, s2, l2) ∧ dSync s2 = (0, s3) ∧ HV s3 l2 (k + 1) ∧ (s1.off = false ∧ s1.opn = [] ∧ s2.off = false ∧ s2.opn.length ≤ 32768) ∧ ∀ i, i < 32 → dRead s3 ((l.half * 32 + i : Nat) : Int) = dRead s ((l.half * 32 + i : Nat) : Int) := by
  have hrm : roomD s = 32 := by unfold roomD; rw [h.len]
  have h2 : l.half < 2 := by rw [h.half]; omega
  obtain ⟨s1, e1, L1, o1, k1, f1⟩ := LL.begin (snap := p) h.on h.arm h.opn (by rw [h.len]; omega) h2 h.old (by rw [h.gen]; omega) (by omega) (by rw [hrm]; unfold nbk; omega)
  have hr1 : roomD s1 = 32 := by unfold roomD; rw [k1, h.len]
  obtain ⟨s2, e2, L2, f2⟩ := L1.append [rec] (by simp; omega) (by rw [hr1]; simp [spanL]; unfold nbk; omega)
  obtain ⟨s3, e3, L3, o3, k3, f3⟩ := L2.sync
  have hlen3 : s3.safe.length = 64 := by rw [k3, f2, k1, h.len]
  have hr2 : roomD s2 = 32 := by unfold roomD; rw [f2, k1, h.len]
  refine ⟨s1, _, s2, _, s3, e1, e2, e3, ⟨L3.on, L3.arm, o3, hlen3, ?_, by show l.gen + 1 = _; rw [h.gen], ?_⟩, ⟨L1.on, o1, L2.on, L2.opn⟩, fun i hi => ?_⟩
  · show 1 - l.half = _; rw [h.half]; omega
  · have hpk := L3.pick
    have := lPick_part s3
    rw [hpk] at this
    show (partOf s3 (1 - l.half)).gen ≤ l.gen + 1
    have e : (lgL (1 - l.half) (l.gen + 1) p ([] ++ ([] ++ [rec]) ++ []) false).half = 1 - l.half := rfl
    rw [e] at this
    rw [this]
    exact Nat.le_refl _
  · have hx : l.half * 32 + i < 64 := by omega
    rw [dRead_of L3.on (by rw [hlen3]; exact hx), dRead_of h.on (by rw [h.len]; exact hx)]
    unfold cont
    rw [o3, h.opn]
    show (s3.safe.getD _ blk0, (0 : Int)) = (s.safe.getD _ blk0, 0)
    have a1 := f1 i (by rw [hrm]; exact hi)
    rw [hrm] at a1
    have a2 := L2.lg.see_other L2.all i (by rw [hr2]; exact hi)
    rw [hr2, show 1 - (1 - l.half) = l.half by omega] at a2
    rw [f3, applyL_see _ _ _ (by rw [f2, k1, h.len]; exact hx)]
    have a3 : seeL (s2.safe.getD (l.half * 32 + i) blk0) s2.opn (l.half * 32 + i) = s2.see (l.half * 32 + i) := rfl
    rw [a3, a2, f2, a1]
theorem info79 : (Try.prog.info? 79).map (fun i => (i.zero, i.size)) = some (some (.agg (bytesV (List.replicate 2048 0)).toArray), 2048) := by kernel_rfl
theorem zero79 (w : World) : (zeroValue 79).run Try.prog w = .ok (.agg (bytesV (List.replicate 2048 0)).toArray) w := (zero_of_info info79).1 w
theorem was_new (w : World) (Z : Array Value) (t : TypeId) (hZ : Z = (bytesV (List.replicate 2048 0)).toArray) : BlkRow (w.alloc (.cells Z t)) w.heap.size (List.replicate 32 blk0) := by
  have e2 : bytesV (List.replicate 2048 0) = List.replicate 2048 (byv 0) := by unfold bytesV; rw [List.map_replicate]
  have e3 : bytesV blk0 = List.replicate 64 (byv 0) := by unfold bytesV blk0; rw [List.map_replicate]
  have hc : ∀ j, j < 2048 → (w.alloc (.cells Z t)).cell? ⟨w.heap.size, j, none⟩ = some (byv 0) := fun j hj => by
    rw [World.cell?_alloc_at _ _ _ _ rfl, hZ, e2, List.getElem?_toArray, List.getElem?_replicate, if_pos hj]
  refine ⟨by simp, fun b hb => by rw [List.eq_of_mem_replicate hb]; rfl, fun k hk => ?_⟩
  rw [List.length_replicate] at hk
  have e : (List.replicate 32 blk0).getD k blk0 = blk0 := by rw [List.getD_eq_getElem?_getD, List.getElem?_replicate, if_pos hk]; rfl
  rw [e, e3]
  refine ⟨fun j v hv => ?_, fun j hj => ⟨?_, by simp⟩⟩
  · rw [List.getElem?_replicate] at hv
    split at hv
    · rw [hc _ (by omega), ← hv]
    · cases hv
  · rw [hc _ (by omega)]; rfl
theorem setB_of {w : World} {B : Nat} {bs : List Blk} (h : BlkRow w B bs) {i : Nat} (hi : i < bs.length) : w.there B (i * 64) 64 := (h.at' i hi).2
def NB (B : Nat) : Nat → Prop := fun k => k = B
set_option maxRecDepth 100000 in
set_option maxHeartbeats 8000000 in
theorem logHalves_walk (A0 A1 : Option Addr) (n0 n1 c0 c1 : Nat) (ls : List (List UInt8)) (rec : List UInt8) (W : World) (b0 : RowsB W A0 n0 ls) (b1 : Bys W A1 n1 rec) (a1 : A1 = none → c1 = 0) (m1 : n1 ≤ c1) :
    Calls Try.prog 10 #[.slice A0 n0 c0, .slice A1 n1 c1] W fun e w' => e = .returned (.bool true) ∧ Grew W w' := by
  have CF := Lib.hid (few_any A0 n0 c0 ls W b0)
  cases hf : fewB ls with
  | false =>
    rw [hf] at CF
    clear b0 b1
    go_enter Try.func10, Try.ntmps10
    go_wp2_with (go_at_call 22; ((with_reducible refine CF.out.mono ?_); rintro e w1 ⟨rfl, hg⟩; have G1 := Lib.hid hg; clear hg))
    go_ret
    exact ⟨rfl, G1.out⟩
  | true =>
  rw [hf] at CF
  have hfew : ls.length ≤ 20 ∧ ∀ l ∈ ls, l.length ≤ 300 := of_decide_eq_true hf
  by_cases h1 : 300 < n1
  · have d1 : (300 : Int) < (n1 : Int) := by omega
    clear b0 b1 hf hfew
    go_enter Try.func10, Try.ntmps10
    go_wp2_with (go_at_call 22; ((with_reducible refine CF.out.mono ?_); rintro e w1 ⟨rfl, hg⟩; have G1 := Lib.hid hg; clear hg))
    go_ret
    exact ⟨rfl, G1.out⟩
  have d1 : ¬ (300 : Int) < (n1 : Int) := by omega
  have hrl : rec.length = n1 := b1.1
  have hln : ls.length = n0 := b0.1
  have CN : Hid (∀ w, Grew W w → Calls Try.prog 12 #[.int .i64 64] w fun e w' => ∃ q, e = .returned (.tuple #[.pointer (some ⟨q, 0, none⟩), .int .i64 0]) ∧ DI N0 W w' q (dNew 64)) := fun w g => (newD 64 w (by omega) (by omega)).mono fun e w' ⟨q, h1, h2⟩ => ⟨q, h1, h2.from g⟩
  have CO := Lib.hid (fun w1 q (h : DI N0 W w1 q (dNew 64)) => h.openJ (lOpen_ok rfl (by rw [dNew_len]; omega)))
  have CW := Lib.hid (fun w => wakes07_any w)
  have B0 := Lib.hid b0
  have B1 := Lib.hid b1
  have HFEW := Lib.hid hfew
  have HRL := Lib.hid hrl
  have HLN := Lib.hid hln
  have hn0 : n0 ≤ 20 := by omega
  clear b0 b1 hf hfew hrl hln
  obtain ⟨ZB, hZB⟩ : ∃ ZB, ZB = (bytesV (List.replicate 2048 0)).toArray := ⟨_, rfl⟩
  have hzb := fun w => zero79 w
  rw [← hZB] at hzb
  have HZB := Lib.hid hZB
  clear hZB
  obtain ⟨ZZ, hZZ⟩ : ∃ ZZ, ZZ = (bytesV blk0).toArray := ⟨_, rfl⟩
  have hz := fun w => zero40 w
  rw [← hZZ] at hz
  have HZZ := Lib.hid hZZ
  clear hZZ
  go_enter Try.func10, Try.ntmps10
  go_upto_region 10 with (first
    | (go_at_call 22; ((with_reducible refine CF.out.mono ?_); rintro e w0 ⟨rfl, hg⟩; have G1 := Lib.hid hg; clear hg))
    | (go_at_call 12; ((with_reducible refine (CN.out _ G1.out).mono ?_); rintro e w1 ⟨q, rfl, hd⟩; have D0 := Lib.hid hd; clear hd))
    | (go_at_call 23; ((with_reducible refine (CO.out _ _ D0.out).mono ?_); rintro e w2 ⟨hg, lb, rfl, hj⟩; have J0 := Lib.hid hj; clear hj hg)))
  clear CF CN CO D0 G1
  go_loopw [8] (fun v8 wr => ∃ (k : Nat) (s : DS) (l : LS), v8 = .int .i64 k ∧ k ≤ n0 ∧ Hid (JI N0 W wr lb q s l) ∧ Hid (HV s l k)) (fun v8 _ => n0 - (intOf v8).toNat)
  case atStart => exact ⟨0, dNew 64, lPick (dNew 64), rfl, by omega, J0, hv_new⟩
  case round =>
    obtain ⟨k, s, l, rfl, hk, HJ, HI⟩ := hrel
    clear J0
    by_cases hlt : k < n0
    · have a3 : (k : Int) < (n0 : Int) := by omega
      obtain ⟨hf, hhf⟩ : ∃ h, h = l.half := ⟨_, rfl⟩
      have h2 : hf < 2 := by have := HI.out.half; omega
      have t1 : IntKind.i64.wrap ((k : Int) + 1) = (k : Int) + 1 := by rw [IntKind.wrap_i64]; omega
      have t2 : ((k : Int) + 1).tmod 2 = (hf : Int) := by rw [Int.tmod_eq_emod_of_nonneg (by omega), hhf, HI.out.half]; omega
      have t2b : IntKind.i64.wrap (hf : Int) = (hf : Int) := by rw [IntKind.wrap_i64]; omega
      have t3 : IntKind.i64.wrap ((hf : Int) * 32) = (hf : Int) * 32 := by rw [IntKind.wrap_i64]; omega
      have hmem : ls.getD k [] ∈ ls := by
        have hl : k < ls.length := by rw [HLN.out]; exact hlt
        rw [List.getD_eq_getElem?_getD, List.getElem?_eq_getElem hl]
        exact List.getElem_mem _
      obtain ⟨s1, l1, s2, l2, s3, e1, e2, e3, HV3, ⟨q1, q2, q3, q4⟩, hrd⟩ := hv_step HI.out (by omega) (ls.getD k []) rec (HFEW.out.2 _ hmem) (by rw [HRL.out]; omega)
      obtain ⟨b, o, A2, n2, cp2, rfl, g0, hb2, hA2, hn2, hm2⟩ := (B0.out.at hlt)
      rw [← hhf] at hrd
      have hs0 := HI.out
      have hdok := HJ.out.di.ok
      obtain ⟨f, hfd⟩ : ∃ f : Nat → Blk, f = fun i => (dRead s ((hf * 32 + i : Nat) : Int)).1 := ⟨_, rfl⟩
      have HR : Hid (∀ i : Nat, i < 32 → dRead s ((hf : Int) * 32 + (i : Int)) = (f i, 0) ∧ dRead s3 ((hf : Int) * 32 + (i : Int)) = (f i, 0) ∧ (f i).length = 64) := by
        intro i hi
        have ec : (hf : Int) * 32 + (i : Int) = ((hf * 32 + i : Nat) : Int) := by omega
        have e0 : dRead s ((hf * 32 + i : Nat) : Int) = (f i, 0) := by
          rw [hfd]; dsimp only
          rw [dRead_of hs0.on (by rw [hs0.len]; omega)]
        rw [ec]
        exact ⟨e0, (hrd i hi).trans e0, by rw [hfd]; exact dRead_len hdok _⟩
      have HV3h := Lib.hid HV3
      have hBk : ∀ (w' : World), Grew W w' → w'.cell? ⟨b, o + k, none⟩ = some (.slice A2 n2 cp2) ∧ Bys w' A2 n2 (ls.getD k []) := fun w' g => ⟨(grew_cell g (p := ⟨b, o + k, none⟩) (by have := B0.out.2 (by omega); obtain ⟨b', o', e', hb', _⟩ := this; cases e'; exact hb')).trans g0, hb2.keep g⟩
      have HBK := Lib.hid hBk
      have HB2 := Lib.hid hb2
      have hlp : (ls.getD k []).length = n2 := hb2.1
      have hl300 := HFEW.out.2 _ hmem
      have CB : Hid (∀ B w1, JI (NB B) W w1 lb q s l → Calls Try.prog 29 #[.pointer (some ⟨lb, 0, none⟩), .slice A2 n2 cp2] w1 (JOutK (NB B) W w1 lb q 0 s1 l1)) := fun B w1 h =>
        h.beginK (grew_refl _) (ls.getD k []) A2 n2 cp2 (hb2.keep h.grew) hA2 hn2 (fun a ha h0 => Or.inl (hb2.old a ha h0)) (by omega) (by rw [hs0.opn]; simp) e1 q1
      have CA : Hid (∀ B w1, JI (NB B) W w1 lb q s1 l1 → Calls Try.prog 30 #[.pointer (some ⟨lb, 0, none⟩), .slice (some ⟨w1.heap.size, 0, none⟩) 1 1] (w1.alloc (.cells #[.slice A1 n1 c1] 37)) (JOutK (NB B) W w1 lb q 0 s2 l2)) := fun B w1 h =>
        h.appendK (grew_alloc _ _ _) [rec] _ 1 1 (rows1S _ (B1.out.keep h.grew) a1 m1 (by omega) (fun a ha h0 hm => by have := B1.out.old a ha h0; have := hm.1; omega) (fun hm => hm.2 (Or.inr ⟨Nat.le_refl _, by simp⟩))) (by omega) (by rw [q2]; simp) e2 q3
      have CY := Lib.hid (fun B w1 (h : JI (NB B) W w1 lb q s2 l2) => h.syncK (by omega) e3 HV3.on)
      have CG : Hid (∀ B w1, JI (NB B) W w1 lb q s3 l2 → Calls Try.prog 33 #[.pointer (some ⟨lb, 0, none⟩)] w1 fun e w' => e = .returned (.int .i64 ((k : Int) + 1)) ∧ w1 = w') := fun B w1 h => by
        have := h.gen
        rw [HV3.gen, Int.natCast_add] at this
        exact this
      have HWN := Lib.hid (was_new wr ZB 79 HZB.out)
      have HJ1 : Hid (JI (NB wr.heap.size) W (wr.alloc (.cells ZB 79)) lb q s l) := HJ.out.beside (grew_alloc _ _ _) (fun i hi => Or.inr (by rw [hi]; simp))
      have HBW : Hid (W.heap.size ≤ wr.heap.size) := HJ.out.grew.size
      clear HI HV3 hrd hs0 hdok e1 e2 e3 q1 q2 q3 q4 hfd hb2 hA2 hn2 hm2 g0 hmem hBk hlp hl300 hhf
      go_upto_region 14 with fail
      generalize wr.alloc (.cells ZB 79) = w3 at *
      obtain ⟨B, hB⟩ : ∃ B, B = wr.heap.size := ⟨_, rfl⟩
      rw [← hB] at HWN HJ1 HBW ⊢
      clear hB HJ
      go_upto_region 15 with fail
      go_loopw [11] (fun v11 wx => ∃ (i : Nat) (bs : List Blk), v11 = .int .i64 i ∧ i ≤ 32 ∧ Hid (JI (NB B) W wx lb q s l) ∧ Hid (BlkRow wx B bs) ∧ Hid (bs.length = 32) ∧ Hid (∀ j, j < i → bs.getD j blk0 = f j)) (fun v11 _ => 32 - (intOf v11).toNat)
      case atStart => exact ⟨0, List.replicate 32 blk0, rfl, by omega, HJ1, HWN, by show _ = _; simp, fun j hj => absurd hj (by omega)⟩
      case round =>
        obtain ⟨i, bs, rfl, hi, HJ2, HW2, HBL, HF⟩ := hrel
        clear HJ1 HWN
        by_cases hli : i < 32
        · have a4 : (i : Int) < 32 := by omega
          have a5 : (0 : Int) ≤ (i : Int) := by omega
          have t4 : IntKind.i64.wrap ((hf : Int) * 32 + (i : Int)) = (hf : Int) * 32 + (i : Int) := by rw [IntKind.wrap_i64]; omega
          have R1 := Lib.hid (HJ2.out.di.read ((hf : Int) * 32 + (i : Int)))
          obtain ⟨r1, r2, r3⟩ := HR.out i hli
          rw [r1] at R1
          have hone := Lib.hid (bytesV_one' (b := f i))
          have hl : (bytesV (f i)).length = 64 := by rw [bytesV_len, r3]
          have HV : Hid (readV (f i, 0) = .tuple #[.agg (bytesV (f i)).toArray, .int .i64 0]) := rfl
          rw [HV.out] at R1
          have HST : Hid (∀ w', Grew wr w' → BlkRow (w'.setCells B (i * 64) (bytesV (f i))) B (bs.set i (f i)) ∧ w'.there B (i * 64) 64) := fun w' g => by
            have hw := HW2.out.of (g.block _ HW2.out.lt) g.size
            exact ⟨hw.set (by rw [HBL.out]; exact hli) (f i) r3, (hw.at' i (by rw [HBL.out]; exact hli)).2⟩
          have HF2 : Hid (∀ j, j < i + 1 → (bs.set i (f i)).getD j blk0 = f j) := fun j hj => by
            by_cases e : i = j
            · subst e; rw [getD_set_eq (by rw [HBL.out]; exact hli)]
            · rw [getD_set_ne e]; exact HF.out j (by omega)
          clear HV r1 r2 r3
          generalize bytesV (f i) = cs at *
          go_wp2_with (first
            | (go_at_call 37; ((with_reducible refine R1.out.mono ?_); rintro e w8 ⟨rfl, hg⟩; have HS8 := Lib.hid (HST.out w8 hg); have J8 := Lib.hid (HJ2.out.grows hg); clear hg))
            | (refine wpList_store_mid (by rfl) 75 _ _ (by rfl) B (i * 64) cs.toArray (by rfl) (by rfl) (by simpa [hl] using HS8.out.2) (size40 (by simpa using hl.symm)) hone.out ?_))
          have J9 : Hid (JI (NB B) W (w8.setCells B (i * 64) cs) lb q s l) := J8.out.keep ((Chg.refl _ w8).setCells B (i * 64) cs (fun _ => ⟨rfl, HBW.out⟩))
          have HW9 := Lib.hid HS8.out.1
          go_roundw
          case rel => exact ⟨i + 1, bs.set i (f i), by go_num, by omega, J9, HW9, by show _ = _; rw [List.length_set, HBL.out], HF2⟩
          case measure => simp only [intOf]; omega
        · obtain rfl : i = 32 := by omega
          have g0 := (HBK.out wr HJ2.out.grew).1
          go_upto_region 21 with (first
            | (go_at_call 29; ((with_reducible refine (CB.out _ _ HJ2.out).mono ?_); rintro e w10 ⟨rfl, hj, hk1, hk2⟩; have J3 := Lib.hid hj; have HW3 := Lib.hid (HW2.out.of (hk1 B rfl) hk2); clear hj hk1 hk2))
            | (go_at_call 30; ((with_reducible refine (CA.out _ _ J3.out).mono ?_); rintro e w11 ⟨rfl, hj, hk1, hk2⟩; have J4 := Lib.hid hj; have HW4 := Lib.hid (HW3.out.of (hk1 B rfl) hk2); clear hj hk1 hk2))
            | (go_at_call 31; ((with_reducible refine (CY.out _ _ J4.out).mono ?_); rintro e w12 ⟨rfl, hj, hk1, hk2⟩; have J5 := Lib.hid hj; have HW5 := Lib.hid (HW4.out.of (hk1 B rfl) hk2); clear hj hk1 hk2))
            | (go_at_call 33; ((with_reducible refine (CG.out _ _ J5.out).mono ?_); rintro e w13 ⟨rfl, rfl⟩)))
          clear HJ2 HW2 J3 HW3 J4 HW4 g0 CB CA CY CG HBK
          go_loopw [12] (fun v12 wx => ∃ i : Nat, v12 = .int .i64 i ∧ i ≤ 32 ∧ Hid (JI (NB B) W wx lb q s3 l2) ∧ Hid (BlkRow wx B bs)) (fun v12 _ => 32 - (intOf v12).toNat)
          case atStart => exact ⟨0, rfl, by omega, J5, HW5⟩
          case round =>
            obtain ⟨j, rfl, hj, HJ6, HW6⟩ := hrel
            clear J5 HW5
            by_cases hlj : j < 32
            · have a4 : (j : Int) < 32 := by omega
              have a5 : (0 : Int) ≤ (j : Int) := by omega
              have t4 : IntKind.i64.wrap ((hf : Int) * 32 + (j : Int)) = (hf : Int) * 32 + (j : Int) := by rw [IntKind.wrap_i64]; omega
              have R1 := Lib.hid (HJ6.out.di.read ((hf : Int) * 32 + (j : Int)))
              obtain ⟨r1, r2, r3⟩ := HR.out j hlj
              rw [r2] at R1
              have hone := Lib.hid (bytesV_one' (b := f j))
              have hl : (bytesV (f j)).length = 64 := by rw [bytesV_len, r3]
              have HV : Hid (readV (f j, 0) = .tuple #[.agg (bytesV (f j)).toArray, .int .i64 0]) := rfl
              rw [HV.out] at R1
              have hEq := fun w => equal40 (f j) (f j) r3 r3 w
              simp only [decide_true] at hEq
              have hG := guard40
              have hWj := (HW6.out.at' j (by rw [HBL.out]; exact hlj)).1
              rw [HF.out j hlj] at hWj
              have HWJ := Lib.hid hWj
              clear HV r1 r2 r3 hWj
              generalize bytesV (f j) = cs at *
              go_upto_region 24 with (first
                | (go_at_call 37; ((with_reducible refine R1.out.mono ?_); rintro e w14 ⟨rfl, hg⟩; have P1 := Lib.hid (put_new w14 ZZ HZZ.out 75 cs hl); have G1 := Lib.hid (grew_trans hg P1.out.2.2.1); clear hg))
                | (refine wpList_store_mid (by rfl) 75 _ _ (by rfl) w14.heap.size 0 cs.toArray (by rfl) (by rfl) (by simpa [hl] using P1.out.2.1) (size40 (by simpa using hl.symm)) hone.out ?_))
              have hrg := P1.out.1
              have hrB := rangeAt_of HWJ.out (G1.out.block _ HW6.out.lt)
              have J7 := Lib.hid (HJ6.out.grows G1.out)
              have HW7 := Lib.hid (HW6.out.of (G1.out.block _ HW6.out.lt) G1.out.size)
              generalize (w14.alloc (.cells ZZ 75)).setCells w14.heap.size 0 cs = w15 at *
              have hu := Try.underlying75
              have hi : (Try.prog.info? 75).map (·.size) = some cs.length := size40 hl.symm
              refine wp_region_held_drew (S := fun w' => w'.rangeAt w14.heap.size 0 cs ∧ w'.rangeAt B (j * 64) cs) (by kernel_rfl) ⟨(World.rangeAt_drew _ _ _ _).2 hrg, (World.rangeAt_drew _ _ _ _).2 hrB⟩ (fun hHeld => ?_)
              (refine wpAnyH_take (i := 0) (oi := { dst := some 102, op := Op.move (Operand.tmp 14), type := 25, pos := "more.go:64", after := #[], guard := none }) (v := ?_) rfl (by kernel_rfl) (by kernel_rfl) (by kernel_rfl) (fun _ _ _ h => h) (Or.inl ⟨by rfl, ?_⟩) (by assumption) ?_; rotate_left; · (intro w hSw; (try dsimp only at hSw); go_simp; (first | done | with_reducible rfl)))
              try simp only [Act.put, List.setIfInBounds_toArray, List.set_cons_zero, List.set_cons_succ]
              (refine wpAnyH_take (i := 1) (oi := { dst := some 103, op := Op.binOp BinOp.neq 25 (Operand.tmp 102) (Operand.const (Value.int IntKind.i64 0)) 25, type := 4, pos := "more.go:64", after := #[{ on := 0, ground := Ground.data }], guard := none }) (v := ?_) rfl (by kernel_rfl) (by kernel_rfl) (by kernel_rfl) (fun _ _ _ h => h) (Or.inl ⟨by rfl, ?_⟩) (by assumption) ?_; rotate_left; · (intro w hSw; (try dsimp only at hSw); go_simp; (first | done | with_reducible rfl)))
              try simp only [Act.put, List.setIfInBounds_toArray, List.set_cons_zero, List.set_cons_succ]
              (refine wpAnyH_take (i := 2) (oi := { dst := some 104, op := Op.move (Operand.tmp 103), type := 4, pos := "more.go:64", after := #[{ on := 1, ground := Ground.data }], guard := none }) (v := ?_) rfl (by kernel_rfl) (by kernel_rfl) (by kernel_rfl) (fun _ _ _ h => h) (Or.inl ⟨by rfl, ?_⟩) (by assumption) ?_; rotate_left; · (intro w hSw; (try dsimp only at hSw); go_simp; (first | done | with_reducible rfl)))
              try simp only [Act.put, List.setIfInBounds_toArray, List.set_cons_zero, List.set_cons_succ]
              (refine wpAnyH_take (i := 3) (oi := { dst := some 105, op := Op.load 75 (Operand.tmp 13), type := 75, pos := "more.go:64", after := #[{ on := 2, ground := Ground.guard }], guard := some (2, false) }) (v := _) rfl (by kernel_rfl) (by kernel_rfl) (by kernel_rfl) (fun _ _ _ h => h) (yieldsIf_load_mid (by rfl) _ _ rfl _ _ rfl _ _ (fun w h => h.1) hu rfl hi) (by assumption) ?_)
              try simp only [Act.put, List.setIfInBounds_toArray, List.set_cons_zero, List.set_cons_succ]
              (refine wpAnyH_take (i := 4) (oi := { dst := some 106, op := Op.move (Operand.tmp 12), type := 3, pos := "more.go:64", after := #[{ on := 2, ground := Ground.guard }], guard := some (2, false) }) (v := ?_) rfl (by kernel_rfl) (by kernel_rfl) (by kernel_rfl) (fun _ _ _ h => h) (Or.inl ⟨by rfl, ?_⟩) (by assumption) ?_; rotate_left; · (intro w hSw; (try dsimp only at hSw); go_simp; (first | done | with_reducible rfl)))
              try simp only [Act.put, List.setIfInBounds_toArray, List.set_cons_zero, List.set_cons_succ]
              (refine wpAnyH_take (i := 5) (oi := { dst := some 107, op := Op.indexAddr 79 (Operand.tmp 10) (Operand.tmp 106), type := 0, pos := "more.go:64", after := #[{ on := 4, ground := Ground.data }, { on := 2, ground := Ground.guard }], guard := some (2, false) }) (v := ?_) rfl (by kernel_rfl) (by kernel_rfl) (by kernel_rfl) (fun _ _ _ h => h) (Or.inl ⟨by rfl, ?_⟩) (by assumption) ?_; rotate_left; · (intro w hSw; (try dsimp only at hSw); go_simp; (first | done | with_reducible rfl)))
              try simp only [Act.put, List.setIfInBounds_toArray, List.set_cons_zero, List.set_cons_succ]
              (refine wpAnyH_take (i := 6) (oi := { dst := some 108, op := Op.load 75 (Operand.tmp 107), type := 75, pos := "more.go:64", after := #[{ on := 5, ground := Ground.data }, { on := 2, ground := Ground.guard }], guard := some (2, false) }) (v := _) rfl (by kernel_rfl) (by kernel_rfl) (by kernel_rfl) (fun _ _ _ h => h) (yieldsIf_load_mid (by rfl) _ _ rfl B (j * 64) (by rfl) _ _ (fun w h => h.2) hu rfl hi) (by assumption) ?_)
              try simp only [Act.put, List.setIfInBounds_toArray, List.set_cons_zero, List.set_cons_succ]
              (refine wpAnyH_take (i := 7) (oi := { dst := some 109, op := Op.binOp BinOp.neq 75 (Operand.tmp 105) (Operand.tmp 108) 75, type := 4, pos := "more.go:64", after := #[{ on := 3, ground := Ground.data }, { on := 6, ground := Ground.data }, { on := 2, ground := Ground.guard }], guard := some (2, false) }) (v := ?_) rfl (by kernel_rfl) (by kernel_rfl) (by kernel_rfl) (fun _ _ _ h => h) (Or.inl ⟨by rfl, ?_⟩) (by assumption) ?_; rotate_left; · (intro w hSw; (try dsimp only at hSw); go_simp; (first | done | with_reducible rfl)))
              try simp only [Act.put, List.setIfInBounds_toArray, List.set_cons_zero, List.set_cons_succ]
              (refine wpAnyH_take (i := 8) (oi := { dst := some 110, op := Op.pick (Operand.tmp 104) (Operand.const (Value.bool true)) (Operand.tmp 109), type := 4, pos := "more.go:64", after := #[{ on := 2, ground := Ground.data }, { on := 7, ground := Ground.data }], guard := none }) (v := ?_) rfl (by kernel_rfl) (by kernel_rfl) (by kernel_rfl) (fun _ _ _ h => h) (Or.inl ⟨by rfl, ?_⟩) (by assumption) ?_; rotate_left; · (intro w hSw; (try dsimp only at hSw); go_simp; (first | done | with_reducible rfl)))
              try simp only [Act.put, List.setIfInBounds_toArray, List.set_cons_zero, List.set_cons_succ]
              refine wpAnyH_done (by kernel_rfl) ?_ _
              have J8 := Lib.hid (J7.out.grows (grew_drew (grew_refl w15)))
              have HW8 := Lib.hid (HW7.out.of (w' := w15.drew) rfl (Nat.le_refl _))
              clear hrg hrB hu hi J7 HW7 P1 G1 HJ6 HW6 R1
              go_wp2
              go_roundw
              case rel => exact ⟨j + 1, by go_num, by omega, J8, HW8⟩
              case measure => simp only [intOf]; omega
            · obtain rfl : j = 32 := by omega
              have HJ7 := Lib.hid (HJ6.out.less (N' := N0) (fun _ h => h.elim))
              clear HJ6 HW6
              go_wp2
              go_roundw
              case rel => exact ⟨k + 1, s3, l2, by go_num, by omega, HJ7, HV3h⟩
              case measure => simp only [intOf]; omega
    · obtain rfl : k = n0 := by omega
      go_wp2_with (go_at_call 21; ((with_reducible refine (CW.out _).mono ?_); rintro e w15 ⟨rfl, hg⟩; have GE := Lib.hid (grew_trans HJ.out.grew hg); clear hg))
      go_ret
      exact ⟨rfl, GE.out⟩
theorem logHalves_row (A0 A1 : Option Addr) (n0 n1 c0 c1 : Nat) (l0 : List (List Int)) (l1 : List Int) (W : World) (r0 : Row (spSliceZ 1 (spInt .u8)) W A0 n0 l0) (r1 : Row (spInt .u8) W A1 n1 l1) (a1 : A1 = none → c1 = 0) (m1 : n1 ≤ c1) :
    Calls Try.prog 10 #[.slice A0 n0 c0, .slice A1 n1 c1] W fun e w' => e = .returned (.bool true) ∧ Grew W w' := by
  obtain ⟨xs, hx, _⟩ := rowsB_of_row r0
  obtain ⟨bs, hb⟩ := bys_of_row r1
  exact logHalves_walk A0 A1 n0 n1 c0 c1 xs bs W hx hb a1 m1
end Go.Proofs.Ythmdbfbhcnjghaa.NumK
namespace Go.Proofs.Ythmdbfbhcnjghaa.logHalves
open Go.ChangeShapes Go.WideShapes Go.ChangeAt Go.RowKit
set_option linter.unusedVariables false

theorem own : ownKnob Try.prog.godebug = none := by kernel_rfl
theorem laidOut : laidOutB Try.prog = true := by kernel_rfl

set_option maxRecDepth 100000 in
theorem lifted (os : Os) (started : os.Started) (H : Type) (enc : TypeId × Value → H) :
    ReturnsInHanded {} Try.checked os 10 .any (Rows.logHalvesSpec.pre6 enc Try.prog Try.f10 Rows.logHalvesRow.domain false) (Rows.logHalvesSpec.post enc Try.prog Try.f10 false true false false) := by
  refine returnsInHanded_of_change_sized (C := Try.checked) own started (by kernel_rfl) Try.func10
    (ChangeSpec.witness6 (enc := enc) (C := Try.checked) false ⟨#[], #[.slice none 0 0, .slice none 0 0], []⟩ 8 (by kernel_rfl) (by kernel_rfl) (by kernel_rfl) (by kernel_rfl)) ?_
  intro W base args ds gs before hval0 hW hcnd hsz0 _
  have hval : ∀ (j : Nat) t v, Try.f10.params[j]? = some t → args[j]? = some v → Value.okWide Try.prog W .any base t v := hval0
  have hW' := hW
  obtain ⟨p, q, hA0, hV, rfl, hfz, hnd⟩ := hW
  have hA : DataW.TrodAll enc Try.prog W 0 (fun _ => true) true Try.f10.params.toList args.toList ds p := hA0
  have hsz : (DataW.weightsEach Try.prog (Try.f10.params.toList ++ Rows.logHalvesSpec.plain.varTypes Try.prog) (ds ++ gs)).all (· ≤ reachBytes) = true := hsz0
  rw [Try.params10] at hA hval hsz
  obtain ⟨v0, vs0, d0, ds0, p0, q0, hargs, rfl, rfl, h0, r0⟩ := trodAll_cons hA
  obtain ⟨v1, vs1, d1, ds1, p1, q1, rfl, rfl, rfl, h1, r1⟩ := trodAll_cons r0
  obtain ⟨rfl, rfl, rfl⟩ := trodAll_nil r1
  obtain rfl : args = #[v0, v1] := by cases args; simp_all
  obtain ⟨rfl, rfl⟩ := trodVars_none hV
  have k0 := h0
  have lt0 : ∀ x ∈ p0, x.block < W.heap.size := by obtain ⟨m, hm⟩ := k0; exact DataW.trod_lt m _ _ _ hm
  obtain ⟨A0, len0, cap0, l0, rfl, ro0, n0, c0, m0⟩ := NumK.arg_sliceZ Try.underlying38 NumK.opens_rows (hval 0 38 v0 rfl rfl) h0 (j := 0) hsz rfl rfl
  have k1 := h1
  have lt1 : ∀ x ∈ p1, x.block < W.heap.size := by obtain ⟨m, hm⟩ := k1; exact DataW.trod_lt m _ _ _ hm
  obtain ⟨A1, len1, cap1, l1, rfl, ro1, n1, c1, m1⟩ := NumK.arg_slice Try.underlying37 NumK.opens_bytes (hval 1 37 v1 rfl rfl) h1
  clear hA0 hval0 hsz hsz0
  refine (NumK.logHalves_row A0 A1 len0 len1 cap0 cap1 l0 l1 W ro0 ro1 n1 c1).mono fun e W' ⟨he, bel⟩ => ?_
  subst he
  exact ⟨_, rfl, _, _, _, [], _, [], hW', trodAll_mk1 (shut_bool Try.underlying4 _), (trodAll_cons_mk (Below.trod laidOut (by kernel_rfl) (of_decide_eq_true (by kernel_rfl)) k0 bel lt0) (trodAll_cons_mk (Below.trod laidOut (by kernel_rfl) (of_decide_eq_true (by kernel_rfl)) k1 bel lt1) trodAll_mk0)), rfl, bel.frame _, fun h => by cases h⟩

theorem over : Rows.logHalvesRow.holds Try.pinned (OpenSpec.ofChange Rows.logHalvesSpec) :=
  OpenClaim.holds_of_wide 10 Try.f10 rfl rfl rfl rfl rfl rfl rfl ⟨rfl, rfl, rfl, rfl, rfl⟩ rfl rfl rfl rfl rfl (by kernel_rfl) Try.func10 (by kernel_rfl)
    (of_decide_eq_true (by kernel_rfl)) (by unfold Func.isWrapper; first | (rw [if_pos (by decide +kernel)]; kernel_rfl) | (rw [if_neg (by decide +kernel)]; exact ⟨rfl, rfl⟩))
    (fun os started H enc _ => lifted os started H enc)

/-! ### the statement -/
theorem proved : Rows.LogHalvesSaid := over
end Go.Proofs.Ythmdbfbhcnjghaa.logHalves
