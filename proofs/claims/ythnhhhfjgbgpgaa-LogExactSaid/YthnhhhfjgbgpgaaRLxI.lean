/- A pair of logs: a block laid by hand on both disks. -/
import Derived.Test.YthnhhhfjgbgpgaaRLxD
namespace Go.Proofs.Ythnhhhfjgbgpgaa.NumK
open Go.RowKit

theorem lx_cells {N : Nat → Prop} {w0 w : World} {pb d q : Nat} {s : DS} {o : Option (Nat × Nat × LS)} (h : LX N w0 w pb d q s o) : w.cell? ⟨pb, 1, none⟩ = some (.pointer (some ⟨d, 0, none⟩)) ∧ w.cell? ⟨pb, 3, none⟩ = some (.pointer (some ⟨q, 0, none⟩)) := by
  cases o with
  | none => exact ⟨h.1.cells.2.1, h.1.cells.2.2.2⟩
  | some x => obtain ⟨lb, lr, l⟩ := x; exact ⟨h.1.cells.2.1, h.1.cells.2.2.2⟩
def blkX (l : List UInt8) : Blk := (List.range 64).map fun j => l.getD j 0
theorem blkX_len (l : List UInt8) : (blkX l).length = 64 := by simp [blkX]
def fillX (l : List UInt8) (i j : Nat) : UInt8 := if j < i then l.getD j 0 else 0
theorem fillX_done (l : List UInt8) (i : Nat) (h : i = 64 ∨ l.length ≤ i) (j : Nat) (hj : j < 64) : (blkX l).getD j 0 = fillX l i j := by
  unfold blkX fillX
  rw [List.getD_eq_getElem?_getD, List.getElem?_map, List.getElem?_range hj]
  by_cases e : j < i
  · rw [if_pos e]; rfl
  · rw [if_neg e]
    show l.getD j 0 = 0
    rw [List.getD_eq_getElem?_getD, List.getElem?_eq_none (by omega)]; rfl
theorem fillX_succ (l : List UInt8) (i j : Nat) : (if j = i then l.getD i 0 else fillX l i j) = fillX l (i + 1) j := by
  unfold fillX
  by_cases e : j = i
  · subst e; rw [if_pos rfl, if_pos (by omega)]
  · rw [if_neg e]
    by_cases e2 : j < i
    · rw [if_pos e2, if_pos (by omega)]
    · rw [if_neg e2, if_neg (by omega)]
set_option linter.unusedSimpArgs false in
set_option maxRecDepth 100000 in
set_option maxHeartbeats 4000000 in
theorem pstep_9 {N : Nat → Prop} {w0 w : World} {pb d q lb lr : Nat} {s : DS} {l : LS} (x : At7) (A2 : Option Addr) (n2 c2 : Nat) (A3 : Option Addr) (n3 c3 : Nat) (A4 : Option Addr) (n4 c4 : Nat) (hI : At7In w0 x A2 A3 A4 n2 c2 n3 c3 n4) (hLt : Light x) (hN : N pb) (hpb : w0.heap.size ≤ pb)
    (hC : PairC w pb (some ⟨lb, 0, none⟩) d (some ⟨lr, 0, none⟩) q) (h : SX N w0 w (PJ lb d s l) (RJ lr q s l)) (ho : s.off = false) (hn : s.opn.length ≤ 400000) (hsl : s.safe.length ≤ 300) (hk : (IntKind.u64.wrap x.K).tmod 10 = 9) (hs1 : 1 ≤ s.safe.length) :
    Calls Try.prog 8 #[.pointer (some ⟨pb, 0, none⟩), .agg #[.int .i64 x.K, .int .i64 x.N, .slice A2 n2 c2, .slice A3 n3 c3, .slice A4 n4 c4]] w (StepPost N w0 pb d q s) := by
  have HI := Lib.hid hI
  have HLT := Lib.hid hLt
  obtain ⟨M, hle, hmp, hmv, hme, hx1, hbx⟩ := box_mk x A2 n2 c2 A3 n3 c3 A4 n4 c4 hN hC h (stb_PJ _ _ _ _) (stb_RJ _ _ _ _)
  have HX1 := Lib.hid hx1
  have HMP := Lib.hid hmp
  have HBX := Lib.hid hbx
  have HO := Lib.hid ho
  have HN := Lib.hid hn
  have HSL := Lib.hid hsl
  have HLE := Lib.hid hle
  have HMV := Lib.hid hmv
  have HME := Lib.hid hme
  have HPB := Lib.hid hpb
  have hb0 := HBX.out _ (Chg.refl _ _)
  obtain ⟨-, a0, -, -, -, -⟩ := hb0
  have HVW : Hid (w0.heap.size ≤ w.heap.size) := h.grew.size
  have HPV : Hid (pb ≠ w.heap.size) := fun e => by have := hC.2.2; omega
  have HPV2 : Hid (pb < (w.alloc (.cells #[.int .i64 x.K, .int .i64 x.N, .slice A2 n2 c2, .slice A3 n3 c3, .slice A4 n4 c4] 41)).heap.size) := by show pb < _; simp; have := hC.2.2; omega
  have HVV : Hid (w.heap.size < (w.alloc (.cells #[.int .i64 x.K, .int .i64 x.N, .slice A2 n2 c2, .slice A3 n3 c3, .slice A4 n4 c4] 41)).heap.size) := by show _ < _; simp
  clear hLt hN hC h ho hn hsl hpb hI hx1 hmp hbx hle hmv hme
  go_enter Try.func8, Try.ntmps8
  go_upto_region 2 with fail
  generalize w.alloc (.cells #[.int .i64 x.K, .int .i64 x.N, .slice A2 n2 c2, .slice A3 n3 c3, .slice A4 n4 c4] 41) = WB at *
  generalize hV : w.heap.size = V at *
  have hlB : n2 ≤ 2000 := by have := HI.out.b2.1; have := HLT.out.1; omega
  have hsl := HSL.out
  obtain ⟨L, hL⟩ : ∃ L, L = s.safe.length := ⟨_, rfl⟩
  rw [← hL] at hs1 hsl
  obtain ⟨kk, hkk⟩ : ∃ kk : Nat, (IntKind.u64.wrap x.N).tmod (L : Int) = (kk : Int) := ⟨((IntKind.u64.wrap x.N).tmod (L : Int)).toNat, by
    have : 0 ≤ IntKind.u64.wrap x.N := by rw [IntKind.wrap_u64]; omega
    have := Int.tmod_nonneg (L : Int) this
    omega⟩
  have hkk2 : kk < L := by
    have : 0 ≤ IntKind.u64.wrap x.N := by rw [IntKind.wrap_u64]; omega
    have := Int.tmod_lt_of_pos (IntKind.u64.wrap x.N) (show (0 : Int) < (L : Int) by omega)
    omega
  have w1 : IntKind.u64.wrap (L : Int) = (L : Int) := by rw [IntKind.wrap_u64]; omega
  have w2 : IntKind.u64.wrap (kk : Int) = (kk : Int) := by rw [IntKind.wrap_u64]; omega
  have w3 : IntKind.i64.wrap (kk : Int) = (kk : Int) := by rw [IntKind.wrap_i64]; omega
  have hL0 : ((L : Int) == 0) = false := by simp; omega
  have hL1 : ((L : Int) ≠ 0) := by omega
  have hL2 : ¬ (L = 0) := by omega
  have hL3 : (0 : Int) < (L : Int) := by omega
  have hL4 : decide (L = 0) = false := by simpa using hL2
  have hL5 : decide ((L : Int) = 0) = false := by simpa using hL2
  obtain ⟨hp0, -, a1, -, -, -⟩ := HBX.out WB (Chg.refl _ _)
  obtain ⟨-, -, -, b3⟩ := hp0.cells
  have e0 : WB.cell? ⟨q, 0, none⟩ = some (.int .i64 (L : Int)) := by
    obtain ⟨Fp, Fr, _, h2, _⟩ := HX1.out.toD.ex
    rw [hL]; exact (rk_off h2).2.1
  clear hp0
  go_upto_region 22 with fail
  have HLs := Lib.hid hL
  have HPW : Hid (pb < WB.heap.size) := HPV2.out
  clear hL hL0 hL1 hL2 hL3 hL4 hL5
  have hL2 : ¬ (L = 0) := by omega
  go_quiet (fail)
  obtain ⟨Wq, hWq⟩ : ∃ Wq, Wq = WB.drewN nq := ⟨_, rfl⟩
  have HGq : Hid (Grew WB Wq) := by rw [hWq]; exact grew_drewN (grew_refl _) _
  have HTE : Hid (Wq.heap.size = WB.heap.size) := by rw [hWq]; rfl
  rw [← hWq]
  clear hWq a0 a1 b3 e0
  obtain ⟨ZZ, hZZ⟩ : ∃ Z, Z = (bytesV blk0).toArray := ⟨_, rfl⟩
  have hz := fun w => zero40 w
  rw [← hZZ] at hz
  have HRU0 := Lib.hid (RU.new Wq ZZ 61 hZZ)
  have HZZ := Lib.hid hZZ
  clear hZZ
  have HGA : Hid (Grew WB (Wq.alloc (.cells ZZ 61))) := grew_trans HGq.out (grew_alloc _ _ _)
  obtain ⟨T, hT⟩ : ∃ T, T = Wq.heap.size := ⟨_, rfl⟩
  have HTS : Hid (T = Wq.heap.size) := hT
  obtain ⟨M2, hm2, hm2t, hx2⟩ : ∃ M2 : Nat → Prop, (∀ k, M k → M2 k) ∧ M2 T ∧ SX M2 w0 (Wq.alloc (.cells ZZ 61)) (PD d s) (RD q s) := ⟨fun k => M k ∨ k = T, fun k h => Or.inl h, Or.inr rfl, HX1.out.toD.besides (stb_PD _ _) (stb_RD _ _) HGA.out (fun k hk => hk.imp id fun e => by have h1 := HGq.out.size; rw [e, hT]; simp; omega)⟩
  have HXA := Lib.hid hx2
  have HM2 := Lib.hid hm2
  have HTM : Hid (∀ k, k = T → M2 k ∧ w0.heap.size ≤ k) := fun k e => by rw [e]; exact ⟨hm2t, by rw [hT]; exact Nat.le_trans HX1.out.grew.size HGq.out.size⟩
  have HCA : Hid (∀ w', Chg (fun k => k = T) (Wq.alloc (.cells ZZ 61)) w' → Chg (Mine M w0) WB w'.drew) := fun w' g => by
    have hts : T = WB.heap.size := by rw [hT]; exact HTE.out
    have h1 : Chg (Mine M w0) WB (Wq.alloc (.cells ZZ 61)) := HGA.out.chg
    exact (h1.then g (fun i hi e => by omega)).drew
  have HTE : Hid (T = WB.heap.size) := by rw [hT]; exact HTE.out
  clear hm2 hm2t hx2
  go_upto_region 24 with fail
  generalize Wq.alloc (.cells ZZ 61) = WA at *
  rw [← hT] at HRU0 ⊢
  clear hT
  go_wp2
  go_loopw [9] (fun v9 wr => ∃ i : Nat, v9 = .int .i64 i ∧ i ≤ 64 ∧ i ≤ n2 ∧ Hid (RU wr T (fillX x.B i)) ∧ Hid (Chg (fun k => k = T) WA wr)) (fun v9 _ => 64 - (intOf v9).toNat)
  case atStart => exact ⟨0, rfl, Nat.zero_le _, Nat.zero_le _, HRU0.out.congr (fun j _ => by unfold fillX; rw [if_neg (by omega)]), Chg.refl _ _⟩
  case round =>
    obtain ⟨i, rfl, hi, hi2, HU, HC⟩ := hrel
    clear HRU0
    have a2 : wr.cell? ⟨V, 2, none⟩ = some (.slice A2 n2 c2) := (HBX.out wr.drew (HCA.out _ HC.out)).2.2.2.1
    have i0 : (0 : Int) ≤ (i : Int) := by omega
    by_cases h64 : i < 64
    · have j1 : (i : Int) < 64 := by omega
      by_cases hlt : i < n2
      · have j2 : (i : Int) < (n2 : Int) := by omega
        have gw : Grew w0 wr := (HXA.out.keep (stb_PD _ _) (stb_RD _ _) (HC.out.mono fun k hk => HTM.out k hk)).grew
        obtain ⟨b2, o2, rfl, hb2, hc2⟩ := (HI.out.b2.keep gw).2 (by omega)
        have g1 := hc2 i hlt
        have g2 := (HU.out.2 i (by omega)).1
        have g3 := (HU.out.2 i (by omega)).2
        have HN1 : Hid (RU (wr.setCell ⟨T, i, none⟩ (.int .u8 ((x.B.getD i 0).toNat : Int))) T (fillX x.B (i + 1))) := (HU.out.set i (x.B.getD i 0)).congr fun j _ => fillX_succ x.B i j
        have HN2 := Lib.hid (HC.out.setCell (F := fun k => k = T) ⟨T, i, none⟩ (.int .u8 ((x.B.getD i 0).toNat : Int)) (fun _ => rfl))
        clear hc2 hb2 HU HC
        generalize (x.B.getD i 0).toNat = xv at *
        generalize fillX x.B i i = yv at *
        go_wp2
        go_roundw
        case rel => exact ⟨i + 1, by go_num, by omega, by omega, HN1, HN2⟩
        case measure => simp only [intOf]; omega
      · have j2 : ¬ (i : Int) < (n2 : Int) := by omega
        have hrg := HU.out.range (blkX x.B) (blkX_len _) (fillX_done x.B i (Or.inr (by rw [HI.out.b2.1]; omega)))
        have hl64 : (bytesV (blkX x.B)).length = 64 := by rw [bytesV_len, blkX_len]
        have hxk : SX M2 w0 wr (PD d s) (RD q s) := HXA.out.keep (stb_PD _ _) (stb_RD _ _) (HC.out.mono fun k hk => HTM.out k hk)
        have HS0 : Hid (SX M2 w0 wr.drew (PD d s) (RD q s)) := hxk.grows (stb_PD _ _) (stb_RD _ _) (grew_drew (grew_refl _))
        have HCW : Hid (Chg (Mine M w0) WB wr.drew) := HCA.out _ HC.out
        have hp1 := (HBX.out wr.drew HCW.out).1
        obtain ⟨-, b1, -, b3⟩ := hp1.cells
        have HKP : Hid (∀ w', Chg (Mine M2 w0) wr.drew w' → w'.cell? ⟨pb, 1, none⟩ = some (.pointer (some ⟨d, 0, none⟩)) ∧ w'.cell? ⟨pb, 3, none⟩ = some (.pointer (some ⟨q, 0, none⟩)) ∧ w'.rangeAt T 0 (bytesV (blkX x.B)) ∧ PairC w' pb (some ⟨lb, 0, none⟩) d (some ⟨lr, 0, none⟩) q) := fun w' g => by
          have h1 := hp1.of (g.block pb hp1.2.2 (fun hm => hm.2 (HM2.out pb HMP.out))) g.size
          exact ⟨h1.cells.2.1, h1.cells.2.2.2, rangeAt_of (w := wr.drew) hrg (g.block T HU.out.1 (fun hm => hm.2 (HTM.out T rfl).1)), h1⟩
        have HPT : Hid (pb ≠ T) := fun e => by have h1 := hp1.2.2; have h2 := HPW.out; have h3 := HTE.out; omega
        have HTL : Hid (T < wr.heap.size) := HU.out.1
        have K1 := Lib.hid (sx_writeD (stb_RD q s) HS0 ((kk : Nat) : Int) (blkX x.B) (blkX_len _) (by have := HN.out; omega))
        have K2 := Lib.hid (fun P (hP : Stb P) w2 (h : Hid (SX M2 w0 w2 P (RD q s))) => sx_writeR hP h ((kk : Nat) : Int) (blkX x.B) (blkX_len _) (by have := HN.out; omega))
        have ho1 := dWrite_opn s ((kk : Nat) : Int) (blkX x.B)
        have hl1 := dWrite_safe s ((kk : Nat) : Int) (blkX x.B)
        obtain ⟨r1, s1, hr1⟩ : ∃ r1 s1, dWrite s ((kk : Nat) : Int) (blkX x.B) = (r1, s1) := ⟨_, _, rfl⟩
        rw [hr1] at K1 K2 ho1 hl1
        have hV9 : blkV' (blkX x.B) = .agg (bytesV (blkX x.B)).toArray := rfl
        rw [hV9] at K1 K2
        have ho1 : s1.opn.length ≤ s.opn.length + 1 := ho1
        have hl1 : s1.safe = s.safe := hl1
        have K3 := Lib.hid (fun R (hR : Stb R) w2 (h : Hid (SX M2 w0 w2 (PD d s1) R)) => sx_syncD hR h (by have := HN.out; omega))
        have K4 := Lib.hid (fun P (hP : Stb P) w2 (h : Hid (SX M2 w0 w2 P (RD q s1))) => sx_syncR hP h (by have := HN.out; omega))
        have ho2 := dSync_opn s1
        have hl2 := dSync_len s1
        obtain ⟨r2, s2, hr2⟩ : ∃ r2 s2, dSync s1 = (r2, s2) := ⟨_, _, rfl⟩
        rw [hr2] at K3 K4 ho2 hl2
        have ho2 : s2.opn.length ≤ s1.opn.length := ho2
        have hl2 : s2.safe.length = s1.safe.length := hl2
        have HLL2 : Hid (s2.safe.length = s.safe.length ∧ s2.opn.length ≤ s.opn.length + 400) := ⟨by rw [hl2, hl1], by omega⟩
        have K5 := Lib.hid (fun w4 (hp : PairC w4 pb (some ⟨lb, 0, none⟩) d (some ⟨lr, 0, none⟩) q) (h : Hid (SX M2 w0 w4 (PD d s2) (RD q s2))) => popen_any (N := M2) (HM2.out pb HMP.out) HPB.out hp h.out (by have := HN.out; omega))
        have hone := bytesV_one (blkX x.B)
        have HD0 : Hid (Chg (Mine M2 w0) wr.drew wr.drew) := Chg.refl _ _
        have hrgd : wr.drew.rangeAt T 0 (bytesV (blkX x.B)) := hrg
        clear hr1 hr2 ho1 ho2 hl1 hl2 hV9 hxk hp1 hrg
        generalize bytesV (blkX x.B) = cs at *
        have hu := Try.underlying61
        have hi9 : (Try.prog.info? 61).map (·.size) = some cs.length := size40 hl64.symm
        go_upto_region 28 with fail
        refine wp_region_held_drew (S := fun w' => w'.cell? ⟨pb, 1, none⟩ = some (.pointer (some ⟨d, 0, none⟩)) ∧ w'.cell? ⟨pb, 3, none⟩ = some (.pointer (some ⟨q, 0, none⟩)) ∧ w'.rangeAt T 0 cs) (by kernel_rfl) ⟨b1, b3, hrgd⟩ (fun hHeld => ?_)
        (refine wpAnyH_take (i := 0) (oi := { dst := some 134, op := Op.move (Operand.tmp 0), type := 28, pos := "law.go:116", after := #[], guard := none }) (v := ?_) rfl (by kernel_rfl) (by kernel_rfl) (by kernel_rfl) (fun _ _ _ h => h) (Or.inl ⟨by rfl, ?_⟩) (by assumption) ?_; rotate_left; · (intro w hSw; (try dsimp only at hSw); go_simp; (first | done | with_reducible rfl)))
        try simp only [Act.put, List.setIfInBounds_toArray, List.set_cons_zero, List.set_cons_succ]
        (refine wpAnyH_take (i := 1) (oi := { dst := some 135, op := Op.nilCheck (Operand.tmp 134), type := 0, pos := "law.go:116", after := #[{ on := 0, ground := Ground.data }], guard := none }) (v := ?_) rfl (by kernel_rfl) (by kernel_rfl) (by kernel_rfl) (fun _ _ _ h => h) (Or.inl ⟨by rfl, ?_⟩) (by assumption) ?_; rotate_left; · (intro w hSw; (try dsimp only at hSw); go_simp; (first | done | with_reducible rfl)))
        try simp only [Act.put, List.setIfInBounds_toArray, List.set_cons_zero, List.set_cons_succ]
        (refine wpAnyH_take (i := 2) (oi := { dst := some 136, op := Op.fieldAddr 34 (Operand.tmp 135) 1, type := 0, pos := "law.go:116", after := #[{ on := 1, ground := Ground.data }], guard := none }) (v := ?_) rfl (by kernel_rfl) (by kernel_rfl) (by kernel_rfl) (fun _ _ _ h => h) (Or.inl ⟨by rfl, ?_⟩) (by assumption) ?_; rotate_left; · (intro w hSw; (try dsimp only at hSw); go_simp; (first | done | with_reducible rfl)))
        try simp only [Act.put, List.setIfInBounds_toArray, List.set_cons_zero, List.set_cons_succ]
        (refine wpAnyH_take (i := 3) (oi := { dst := some 137, op := Op.load 24 (Operand.tmp 136), type := 24, pos := "law.go:116", after := #[{ on := 2, ground := Ground.data }], guard := none }) (v := ?_) rfl (by kernel_rfl) (by kernel_rfl) (by kernel_rfl) (fun _ _ _ h => h) (Or.inl ⟨by rfl, ?_⟩) (by assumption) ?_; rotate_left; · (intro w hSw; (try dsimp only at hSw); go_simp; (first | done | with_reducible rfl)))
        try simp only [Act.put, List.setIfInBounds_toArray, List.set_cons_zero, List.set_cons_succ]
        (refine wpAnyH_take (i := 4) (oi := { dst := some 138, op := Op.move (Operand.tmp 7), type := 3, pos := "law.go:116", after := #[], guard := none }) (v := ?_) rfl (by kernel_rfl) (by kernel_rfl) (by kernel_rfl) (fun _ _ _ h => h) (Or.inl ⟨by rfl, ?_⟩) (by assumption) ?_; rotate_left; · (intro w hSw; (try dsimp only at hSw); go_simp; (first | done | with_reducible rfl)))
        try simp only [Act.put, List.setIfInBounds_toArray, List.set_cons_zero, List.set_cons_succ]
        (refine wpAnyH_take (i := 5) (oi := { dst := some 139, op := Op.load 61 (Operand.tmp 8), type := 61, pos := "law.go:116", after := #[], guard := none }) (v := _) rfl (by kernel_rfl) (by kernel_rfl) (by kernel_rfl) (fun _ _ _ h => h) (yieldsIf_load_mid (by rfl) _ _ rfl _ _ rfl _ _ (fun w h => h.2.2) hu rfl hi9) (by assumption) ?_)
        try simp only [Act.put, List.setIfInBounds_toArray, List.set_cons_zero, List.set_cons_succ]
        (refine wpAnyH_take (i := 7) (oi := { dst := some 141, op := Op.move (Operand.tmp 0), type := 28, pos := "law.go:116", after := #[], guard := none }) (v := ?_) rfl (by kernel_rfl) (by kernel_rfl) (by kernel_rfl) (fun _ _ _ h => h) (Or.inl ⟨by rfl, ?_⟩) (by assumption) ?_; rotate_left; · (intro w hSw; (try dsimp only at hSw); go_simp; (first | done | with_reducible rfl)))
        try simp only [Act.put, List.setIfInBounds_toArray, List.set_cons_zero, List.set_cons_succ]
        (refine wpAnyH_take (i := 8) (oi := { dst := some 142, op := Op.nilCheck (Operand.tmp 141), type := 0, pos := "law.go:116", after := #[{ on := 7, ground := Ground.data }], guard := none }) (v := ?_) rfl (by kernel_rfl) (by kernel_rfl) (by kernel_rfl) (fun _ _ _ h => h) (Or.inl ⟨by rfl, ?_⟩) (by assumption) ?_; rotate_left; · (intro w hSw; (try dsimp only at hSw); go_simp; (first | done | with_reducible rfl)))
        try simp only [Act.put, List.setIfInBounds_toArray, List.set_cons_zero, List.set_cons_succ]
        (refine wpAnyH_take (i := 9) (oi := { dst := some 143, op := Op.fieldAddr 34 (Operand.tmp 142) 3, type := 0, pos := "law.go:116", after := #[{ on := 8, ground := Ground.data }], guard := none }) (v := ?_) rfl (by kernel_rfl) (by kernel_rfl) (by kernel_rfl) (fun _ _ _ h => h) (Or.inl ⟨by rfl, ?_⟩) (by assumption) ?_; rotate_left; · (intro w hSw; (try dsimp only at hSw); go_simp; (first | done | with_reducible rfl)))
        try simp only [Act.put, List.setIfInBounds_toArray, List.set_cons_zero, List.set_cons_succ]
        (refine wpAnyH_take (i := 10) (oi := { dst := some 144, op := Op.load 29 (Operand.tmp 143), type := 29, pos := "law.go:116", after := #[{ on := 9, ground := Ground.data }], guard := none }) (v := ?_) rfl (by kernel_rfl) (by kernel_rfl) (by kernel_rfl) (fun _ _ _ h => h) (Or.inl ⟨by rfl, ?_⟩) (by assumption) ?_; rotate_left; · (intro w hSw; (try dsimp only at hSw); go_simp; (first | done | with_reducible rfl)))
        try simp only [Act.put, List.setIfInBounds_toArray, List.set_cons_zero, List.set_cons_succ]
        (refine wpAnyH_take (i := 11) (oi := { dst := some 145, op := Op.move (Operand.tmp 7), type := 3, pos := "law.go:116", after := #[], guard := none }) (v := ?_) rfl (by kernel_rfl) (by kernel_rfl) (by kernel_rfl) (fun _ _ _ h => h) (Or.inl ⟨by rfl, ?_⟩) (by assumption) ?_; rotate_left; · (intro w hSw; (try dsimp only at hSw); go_simp; (first | done | with_reducible rfl)))
        try simp only [Act.put, List.setIfInBounds_toArray, List.set_cons_zero, List.set_cons_succ]
        (refine wpAnyH_take (i := 12) (oi := { dst := some 146, op := Op.load 61 (Operand.tmp 8), type := 61, pos := "law.go:116", after := #[], guard := none }) (v := _) rfl (by kernel_rfl) (by kernel_rfl) (by kernel_rfl) (fun _ _ _ h => h) (yieldsIf_load_mid (by rfl) _ _ rfl _ _ rfl _ _ (fun w h => h.2.2) hu rfl hi9) (by assumption) ?_)
        try simp only [Act.put, List.setIfInBounds_toArray, List.set_cons_zero, List.set_cons_succ]
        refine wpAnyH_ready (rs := [6]) (by kernel_rfl) (by simp) ?_
        refine (AllReadyH.cons (o := { dst := some 140, op := Op.call { callee := Callee.value (Operand.func 25), args := #[Operand.tmp 137, Operand.tmp 138, Operand.tmp 139], argTypes := #[24, 3, 61] }, type := 25, pos := "law.go:116", after := #[{ on := 3, ground := Ground.data }, { on := 4, ground := Ground.data }, { on := 5, ground := Ground.data }], guard := none }) rfl (fun K hK => ?_) AllReadyH.nil)
        go_simp
        (go_at_call 25; ((with_reducible refine K1.out.mono ?_); rintro e w1 ⟨rfl, hs1, hc1⟩; have HS1 := hs1; have HD1 : Hid (Chg (Mine M2 w0) wr.drew w1) := HD0.out.trans hc1; have hk1 := HKP.out w1 HD1.out; have z1 := And.intro hk1.1 (And.intro hk1.2.1 hk1.2.2.1); clear hs1 hc1 hk1))
        refine hK.out _ _ ?_ (fun hHeld => ?_)
        · first
          | exact z1
        clear hK K
        try simp only [Act.put, List.setIfInBounds_toArray, List.set_cons_zero, List.set_cons_succ]
        refine wpAnyH_ready (rs := [13]) (by kernel_rfl) (by simp) ?_
        refine (AllReadyH.cons (o := { dst := some 147, op := Op.call { callee := Callee.value (Operand.func 26), args := #[Operand.tmp 144, Operand.tmp 145, Operand.tmp 146], argTypes := #[29, 3, 61] }, type := 25, pos := "law.go:116", after := #[{ on := 10, ground := Ground.data }, { on := 11, ground := Ground.data }, { on := 12, ground := Ground.data }, { on := 6, ground := Ground.chain }], guard := none }) rfl (fun K hK => ?_) AllReadyH.nil)
        go_simp
        (go_at_call 26; ((with_reducible refine (K2.out _ (stb_PD _ _) _ HS1).mono ?_); rintro e w2 ⟨rfl, hs1, hc1⟩; have HS2 := hs1; have HD2 : Hid (Chg (Mine M2 w0) wr.drew w2) := HD1.out.trans hc1; have hk1 := HKP.out w2 HD2.out; have z2 := And.intro hk1.1 (And.intro hk1.2.1 hk1.2.2.1); clear hs1 hc1 hk1))
        refine hK.out _ _ ?_ (fun hHeld => ?_)
        · first
          | exact z2
        clear hK K
        try simp only [Act.put, List.setIfInBounds_toArray, List.set_cons_zero, List.set_cons_succ]
        (refine wpAnyH_take (i := 14) (oi := { dst := some 148, op := Op.binOp BinOp.eql 25 (Operand.tmp 140) (Operand.tmp 147) 25, type := 4, pos := "law.go:116", after := #[{ on := 6, ground := Ground.data }, { on := 13, ground := Ground.data }], guard := none }) (v := ?_) rfl (by kernel_rfl) (by kernel_rfl) (by kernel_rfl) (fun _ _ _ h => h) (Or.inl ⟨by rfl, ?_⟩) (by assumption) ?_; rotate_left; · (intro w hSw; (try dsimp only at hSw); go_simp; (first | done | with_reducible rfl)))
        try simp only [Act.put, List.setIfInBounds_toArray, List.set_cons_zero, List.set_cons_succ]
        (refine wpAnyH_take (i := 15) (oi := { dst := some 149, op := Op.move (Operand.tmp 148), type := 4, pos := "law.go:116", after := #[{ on := 14, ground := Ground.data }, { on := 13, ground := Ground.chain }], guard := none }) (v := ?_) rfl (by kernel_rfl) (by kernel_rfl) (by kernel_rfl) (fun _ _ _ h => h) (Or.inl ⟨by rfl, ?_⟩) (by assumption) ?_; rotate_left; · (intro w hSw; (try dsimp only at hSw); go_simp; (first | done | with_reducible rfl)))
        try simp only [Act.put, List.setIfInBounds_toArray, List.set_cons_zero, List.set_cons_succ]
        (refine wpAnyH_take (i := 16) (oi := { dst := some 150, op := Op.move (Operand.tmp 0), type := 28, pos := "law.go:116", after := #[{ on := 15, ground := Ground.guard }], guard := some (15, true) }) (v := ?_) rfl (by kernel_rfl) (by kernel_rfl) (by kernel_rfl) (fun _ _ _ h => h) (Or.inl ⟨by rfl, ?_⟩) (by assumption) ?_; rotate_left; · (intro w hSw; (try dsimp only at hSw); go_simp; (first | done | with_reducible rfl)))
        try simp only [Act.put, List.setIfInBounds_toArray, List.set_cons_zero, List.set_cons_succ]
        (refine wpAnyH_take (i := 17) (oi := { dst := some 151, op := Op.nilCheck (Operand.tmp 150), type := 0, pos := "law.go:116", after := #[{ on := 16, ground := Ground.data }, { on := 15, ground := Ground.guard }], guard := some (15, true) }) (v := ?_) rfl (by kernel_rfl) (by kernel_rfl) (by kernel_rfl) (fun _ _ _ h => h) (Or.inl ⟨by rfl, ?_⟩) (by assumption) ?_; rotate_left; · (intro w hSw; (try dsimp only at hSw); go_simp; (first | done | with_reducible rfl)))
        try simp only [Act.put, List.setIfInBounds_toArray, List.set_cons_zero, List.set_cons_succ]
        (refine wpAnyH_take (i := 18) (oi := { dst := some 152, op := Op.fieldAddr 34 (Operand.tmp 151) 1, type := 0, pos := "law.go:116", after := #[{ on := 17, ground := Ground.data }, { on := 15, ground := Ground.guard }], guard := some (15, true) }) (v := ?_) rfl (by kernel_rfl) (by kernel_rfl) (by kernel_rfl) (fun _ _ _ h => h) (Or.inl ⟨by rfl, ?_⟩) (by assumption) ?_; rotate_left; · (intro w hSw; (try dsimp only at hSw); go_simp; (first | done | with_reducible rfl)))
        try simp only [Act.put, List.setIfInBounds_toArray, List.set_cons_zero, List.set_cons_succ]
        (refine wpAnyH_take (i := 19) (oi := { dst := some 153, op := Op.load 24 (Operand.tmp 152), type := 24, pos := "law.go:116", after := #[{ on := 18, ground := Ground.data }, { on := 15, ground := Ground.guard }], guard := some (15, true) }) (v := ?_) rfl (by kernel_rfl) (by kernel_rfl) (by kernel_rfl) (fun _ _ _ h => h) (Or.inl ⟨by rfl, ?_⟩) (by assumption) ?_; rotate_left; · (intro w hSw; (try dsimp only at hSw); go_simp; (first | done | with_reducible rfl)))
        try simp only [Act.put, List.setIfInBounds_toArray, List.set_cons_zero, List.set_cons_succ]
        (refine wpAnyH_take (i := 21) (oi := { dst := some 155, op := Op.move (Operand.tmp 0), type := 28, pos := "law.go:116", after := #[{ on := 15, ground := Ground.guard }], guard := some (15, true) }) (v := ?_) rfl (by kernel_rfl) (by kernel_rfl) (by kernel_rfl) (fun _ _ _ h => h) (Or.inl ⟨by rfl, ?_⟩) (by assumption) ?_; rotate_left; · (intro w hSw; (try dsimp only at hSw); go_simp; (first | done | with_reducible rfl)))
        try simp only [Act.put, List.setIfInBounds_toArray, List.set_cons_zero, List.set_cons_succ]
        (refine wpAnyH_take (i := 22) (oi := { dst := some 156, op := Op.nilCheck (Operand.tmp 155), type := 0, pos := "law.go:116", after := #[{ on := 21, ground := Ground.data }, { on := 15, ground := Ground.guard }], guard := some (15, true) }) (v := ?_) rfl (by kernel_rfl) (by kernel_rfl) (by kernel_rfl) (fun _ _ _ h => h) (Or.inl ⟨by rfl, ?_⟩) (by assumption) ?_; rotate_left; · (intro w hSw; (try dsimp only at hSw); go_simp; (first | done | with_reducible rfl)))
        try simp only [Act.put, List.setIfInBounds_toArray, List.set_cons_zero, List.set_cons_succ]
        (refine wpAnyH_take (i := 23) (oi := { dst := some 157, op := Op.fieldAddr 34 (Operand.tmp 156) 3, type := 0, pos := "law.go:116", after := #[{ on := 22, ground := Ground.data }, { on := 15, ground := Ground.guard }], guard := some (15, true) }) (v := ?_) rfl (by kernel_rfl) (by kernel_rfl) (by kernel_rfl) (fun _ _ _ h => h) (Or.inl ⟨by rfl, ?_⟩) (by assumption) ?_; rotate_left; · (intro w hSw; (try dsimp only at hSw); go_simp; (first | done | with_reducible rfl)))
        try simp only [Act.put, List.setIfInBounds_toArray, List.set_cons_zero, List.set_cons_succ]
        (refine wpAnyH_take (i := 24) (oi := { dst := some 158, op := Op.load 29 (Operand.tmp 157), type := 29, pos := "law.go:116", after := #[{ on := 23, ground := Ground.data }, { on := 15, ground := Ground.guard }], guard := some (15, true) }) (v := ?_) rfl (by kernel_rfl) (by kernel_rfl) (by kernel_rfl) (fun _ _ _ h => h) (Or.inl ⟨by rfl, ?_⟩) (by assumption) ?_; rotate_left; · (intro w hSw; (try dsimp only at hSw); go_simp; (first | done | with_reducible rfl)))
        try simp only [Act.put, List.setIfInBounds_toArray, List.set_cons_zero, List.set_cons_succ]
        refine wpAnyH_ready (rs := [20]) (by kernel_rfl) (by simp) ?_
        refine (AllReadyH.cons (o := { dst := some 154, op := Op.call { callee := Callee.value (Operand.func 27), args := #[Operand.tmp 153], argTypes := #[24] }, type := 25, pos := "law.go:116", after := #[{ on := 19, ground := Ground.data }, { on := 15, ground := Ground.chain }, { on := 15, ground := Ground.guard }], guard := some (15, true) }) rfl (fun K hK => ?_) AllReadyH.nil)
        go_simp
        (go_at_call 27; ((with_reducible refine (K3.out _ (stb_RD _ _) _ HS2).mono ?_); rintro e w3 ⟨rfl, hs1, hc1⟩; have HS3 := hs1; have HD3 : Hid (Chg (Mine M2 w0) wr.drew w3) := HD2.out.trans hc1; have hk1 := HKP.out w3 HD3.out; have z3 := And.intro hk1.1 (And.intro hk1.2.1 hk1.2.2.1); clear hs1 hc1 hk1))
        refine hK.out _ _ ?_ (fun hHeld => ?_)
        · first
          | exact z3
        clear hK K
        try simp only [Act.put, List.setIfInBounds_toArray, List.set_cons_zero, List.set_cons_succ]
        refine wpAnyH_ready (rs := [25]) (by kernel_rfl) (by simp) ?_
        refine (AllReadyH.cons (o := { dst := some 159, op := Op.call { callee := Callee.value (Operand.func 18), args := #[Operand.tmp 158], argTypes := #[29] }, type := 25, pos := "law.go:116", after := #[{ on := 24, ground := Ground.data }, { on := 20, ground := Ground.chain }, { on := 15, ground := Ground.guard }], guard := some (15, true) }) rfl (fun K hK => ?_) AllReadyH.nil)
        go_simp
        (go_at_call 18; ((with_reducible refine (K4.out _ (stb_PD _ _) _ HS3).mono ?_); rintro e w4 ⟨rfl, hs1, hc1⟩; have HS4 := hs1; have HD4 : Hid (Chg (Mine M2 w0) wr.drew w4) := HD3.out.trans hc1; have hk1 := HKP.out w4 HD4.out; have HP4 := Lib.hid hk1.2.2.2; have z4 := And.intro hk1.1 (And.intro hk1.2.1 hk1.2.2.1); clear hs1 hc1 hk1))
        refine hK.out _ _ ?_ (fun hHeld => ?_)
        · first
          | exact z4
        clear hK K
        try simp only [Act.put, List.setIfInBounds_toArray, List.set_cons_zero, List.set_cons_succ]
        (refine wpAnyH_take (i := 26) (oi := { dst := some 160, op := Op.binOp BinOp.eql 25 (Operand.tmp 154) (Operand.tmp 159) 25, type := 4, pos := "law.go:116", after := #[{ on := 20, ground := Ground.data }, { on := 25, ground := Ground.data }, { on := 15, ground := Ground.guard }], guard := some (15, true) }) (v := ?_) rfl (by kernel_rfl) (by kernel_rfl) (by kernel_rfl) (fun _ _ _ h => h) (Or.inl ⟨by rfl, ?_⟩) (by assumption) ?_; rotate_left; · (intro w hSw; (try dsimp only at hSw); go_simp; (first | done | with_reducible rfl)))
        try simp only [Act.put, List.setIfInBounds_toArray, List.set_cons_zero, List.set_cons_succ]
        (refine wpAnyH_take (i := 27) (oi := { dst := some 161, op := Op.pick (Operand.tmp 149) (Operand.tmp 160) (Operand.const (Value.bool false)), type := 4, pos := "law.go:116", after := #[{ on := 15, ground := Ground.data }, { on := 26, ground := Ground.data }], guard := none }) (v := ?_) rfl (by kernel_rfl) (by kernel_rfl) (by kernel_rfl) (fun _ _ _ h => h) (Or.inl ⟨by rfl, ?_⟩) (by assumption) ?_; rotate_left; · (intro w hSw; (try dsimp only at hSw); go_simp; (first | done | with_reducible rfl)))
        try simp only [Act.put, List.setIfInBounds_toArray, List.set_cons_zero, List.set_cons_succ]
        (refine wpAnyH_take (i := 28) (oi := { dst := some 162, op := Op.move (Operand.tmp 161), type := 4, pos := "law.go:116", after := #[{ on := 27, ground := Ground.data }, { on := 25, ground := Ground.chain }], guard := none }) (v := ?_) rfl (by kernel_rfl) (by kernel_rfl) (by kernel_rfl) (fun _ _ _ h => h) (Or.inl ⟨by rfl, ?_⟩) (by assumption) ?_; rotate_left; · (intro w hSw; (try dsimp only at hSw); go_simp; (first | done | with_reducible rfl)))
        try simp only [Act.put, List.setIfInBounds_toArray, List.set_cons_zero, List.set_cons_succ]
        (refine wpAnyH_take (i := 29) (oi := { dst := some 163, op := Op.move (Operand.tmp 0), type := 28, pos := "law.go:116", after := #[{ on := 28, ground := Ground.guard }], guard := some (28, true) }) (v := ?_) rfl (by kernel_rfl) (by kernel_rfl) (by kernel_rfl) (fun _ _ _ h => h) (Or.inl ⟨by rfl, ?_⟩) (by assumption) ?_; rotate_left; · (intro w hSw; (try dsimp only at hSw); go_simp; (first | done | with_reducible rfl)))
        try simp only [Act.put, List.setIfInBounds_toArray, List.set_cons_zero, List.set_cons_succ]
        refine wpAnyH_ready (rs := [30]) (by kernel_rfl) (by simp) ?_
        refine (AllReadyH.cons (o := { dst := some 164, op := Op.call { callee := Callee.value (Operand.func 7), args := #[Operand.tmp 163], argTypes := #[28] }, type := 4, pos := "law.go:116", after := #[{ on := 29, ground := Ground.data }, { on := 28, ground := Ground.chain }, { on := 28, ground := Ground.guard }], guard := some (28, true) }) rfl (fun K hK => ?_) AllReadyH.nil)
        go_simp
        (go_at_call 7; ((with_reducible refine (K5.out _ HP4.out HS4).mono ?_); rintro e w5 ⟨rfl, hx, hc5⟩; have HX5 := hx; obtain ⟨o, hlx, -⟩ := hx.out; have hpc := lx_cells hlx; have z5 := And.intro hpc.1 (And.intro hpc.2 (rangeAt_of z4.2.2 (hc5.block T (Nat.lt_of_lt_of_le HTL.out HD4.out.size) (fun e => HPT.out e.symm)))); clear hx hlx hpc hc5))
        refine hK.out _ _ ?_ (fun hHeld => ?_)
        · first
          | exact z5
        clear hK K
        try simp only [Act.put, List.setIfInBounds_toArray, List.set_cons_zero, List.set_cons_succ]
        (refine wpAnyH_take (i := 31) (oi := { dst := some 165, op := Op.pick (Operand.tmp 162) (Operand.tmp 164) (Operand.const (Value.bool false)), type := 4, pos := "law.go:116", after := #[{ on := 28, ground := Ground.data }, { on := 30, ground := Ground.data }], guard := none }) (v := ?_) rfl (by kernel_rfl) (by kernel_rfl) (by kernel_rfl) (fun _ _ _ h => h) (Or.inl ⟨by rfl, ?_⟩) (by assumption) ?_; rotate_left; · (intro w hSw; (try dsimp only at hSw); go_simp; (first | done | with_reducible rfl)))
        try simp only [Act.put, List.setIfInBounds_toArray, List.set_cons_zero, List.set_cons_succ]
        (refine wpAnyH_take (i := 32) (oi := { dst := some 4, op := Op.assign (Operand.tmp 165), type := 4, pos := "law.go:116", after := #[{ on := 31, ground := Ground.data }, { on := 30, ground := Ground.chain }, { on := 0, ground := Ground.phase }, { on := 1, ground := Ground.phase }, { on := 2, ground := Ground.phase }, { on := 3, ground := Ground.phase }, { on := 4, ground := Ground.phase }, { on := 5, ground := Ground.phase }, { on := 6, ground := Ground.phase }, { on := 7, ground := Ground.phase }, { on := 8, ground := Ground.phase }, { on := 9, ground := Ground.phase }, { on := 10, ground := Ground.phase }, { on := 11, ground := Ground.phase }, { on := 12, ground := Ground.phase }, { on := 13, ground := Ground.phase }, { on := 14, ground := Ground.phase }, { on := 15, ground := Ground.phase }, { on := 16, ground := Ground.phase }, { on := 17, ground := Ground.phase }, { on := 18, ground := Ground.phase }, { on := 19, ground := Ground.phase }, { on := 20, ground := Ground.phase }, { on := 21, ground := Ground.phase }, { on := 22, ground := Ground.phase }, { on := 23, ground := Ground.phase }, { on := 24, ground := Ground.phase }, { on := 25, ground := Ground.phase }, { on := 26, ground := Ground.phase }, { on := 27, ground := Ground.phase }, { on := 28, ground := Ground.phase }, { on := 29, ground := Ground.phase }, { on := 30, ground := Ground.phase }, { on := 31, ground := Ground.phase }], guard := none }) (v := ?_) rfl (by kernel_rfl) (by kernel_rfl) (by kernel_rfl) (fun _ _ _ h => h) (Or.inl ⟨by rfl, ?_⟩) (by assumption) ?_; rotate_left; · (intro w hSw; (try dsimp only at hSw); go_simp; (first | done | with_reducible rfl)))
        try simp only [Act.put, List.setIfInBounds_toArray, List.set_cons_zero, List.set_cons_succ]
        refine wpAnyH_done (by kernel_rfl) ?_ _
        clear z1 z2 z3 z4 z5
        go_wp2
        go_ret
        obtain ⟨o, h1, -⟩ := HX5.out
        exact stepFin (fun k hk => HM2.out k (HLE.out k hk)) h1 HLL2.out.1 HLL2.out.2
    · have j1 : ¬ (i : Int) < 64 := by omega
      have hrg := HU.out.range (blkX x.B) (blkX_len _) (fillX_done x.B i (Or.inl (by omega)))
      have hl64 : (bytesV (blkX x.B)).length = 64 := by rw [bytesV_len, blkX_len]
      have hxk : SX M2 w0 wr (PD d s) (RD q s) := HXA.out.keep (stb_PD _ _) (stb_RD _ _) (HC.out.mono fun k hk => HTM.out k hk)
      have HS0 : Hid (SX M2 w0 wr.drew (PD d s) (RD q s)) := hxk.grows (stb_PD _ _) (stb_RD _ _) (grew_drew (grew_refl _))
      have HCW : Hid (Chg (Mine M w0) WB wr.drew) := HCA.out _ HC.out
      have hp1 := (HBX.out wr.drew HCW.out).1
      obtain ⟨-, b1, -, b3⟩ := hp1.cells
      have HKP : Hid (∀ w', Chg (Mine M2 w0) wr.drew w' → w'.cell? ⟨pb, 1, none⟩ = some (.pointer (some ⟨d, 0, none⟩)) ∧ w'.cell? ⟨pb, 3, none⟩ = some (.pointer (some ⟨q, 0, none⟩)) ∧ w'.rangeAt T 0 (bytesV (blkX x.B)) ∧ PairC w' pb (some ⟨lb, 0, none⟩) d (some ⟨lr, 0, none⟩) q) := fun w' g => by
        have h1 := hp1.of (g.block pb hp1.2.2 (fun hm => hm.2 (HM2.out pb HMP.out))) g.size
        exact ⟨h1.cells.2.1, h1.cells.2.2.2, rangeAt_of (w := wr.drew) hrg (g.block T HU.out.1 (fun hm => hm.2 (HTM.out T rfl).1)), h1⟩
      have HPT : Hid (pb ≠ T) := fun e => by have h1 := hp1.2.2; have h2 := HPW.out; have h3 := HTE.out; omega
      have HTL : Hid (T < wr.heap.size) := HU.out.1
      have K1 := Lib.hid (sx_writeD (stb_RD q s) HS0 ((kk : Nat) : Int) (blkX x.B) (blkX_len _) (by have := HN.out; omega))
      have K2 := Lib.hid (fun P (hP : Stb P) w2 (h : Hid (SX M2 w0 w2 P (RD q s))) => sx_writeR hP h ((kk : Nat) : Int) (blkX x.B) (blkX_len _) (by have := HN.out; omega))
      have ho1 := dWrite_opn s ((kk : Nat) : Int) (blkX x.B)
      have hl1 := dWrite_safe s ((kk : Nat) : Int) (blkX x.B)
      obtain ⟨r1, s1, hr1⟩ : ∃ r1 s1, dWrite s ((kk : Nat) : Int) (blkX x.B) = (r1, s1) := ⟨_, _, rfl⟩
      rw [hr1] at K1 K2 ho1 hl1
      have hV9 : blkV' (blkX x.B) = .agg (bytesV (blkX x.B)).toArray := rfl
      rw [hV9] at K1 K2
      have ho1 : s1.opn.length ≤ s.opn.length + 1 := ho1
      have hl1 : s1.safe = s.safe := hl1
      have K3 := Lib.hid (fun R (hR : Stb R) w2 (h : Hid (SX M2 w0 w2 (PD d s1) R)) => sx_syncD hR h (by have := HN.out; omega))
      have K4 := Lib.hid (fun P (hP : Stb P) w2 (h : Hid (SX M2 w0 w2 P (RD q s1))) => sx_syncR hP h (by have := HN.out; omega))
      have ho2 := dSync_opn s1
      have hl2 := dSync_len s1
      obtain ⟨r2, s2, hr2⟩ : ∃ r2 s2, dSync s1 = (r2, s2) := ⟨_, _, rfl⟩
      rw [hr2] at K3 K4 ho2 hl2
      have ho2 : s2.opn.length ≤ s1.opn.length := ho2
      have hl2 : s2.safe.length = s1.safe.length := hl2
      have HLL2 : Hid (s2.safe.length = s.safe.length ∧ s2.opn.length ≤ s.opn.length + 400) := ⟨by rw [hl2, hl1], by omega⟩
      have K5 := Lib.hid (fun w4 (hp : PairC w4 pb (some ⟨lb, 0, none⟩) d (some ⟨lr, 0, none⟩) q) (h : Hid (SX M2 w0 w4 (PD d s2) (RD q s2))) => popen_any (N := M2) (HM2.out pb HMP.out) HPB.out hp h.out (by have := HN.out; omega))
      have hone := bytesV_one (blkX x.B)
      have HD0 : Hid (Chg (Mine M2 w0) wr.drew wr.drew) := Chg.refl _ _
      have hrgd : wr.drew.rangeAt T 0 (bytesV (blkX x.B)) := hrg
      clear hr1 hr2 ho1 ho2 hl1 hl2 hV9 hxk hp1 hrg
      generalize bytesV (blkX x.B) = cs at *
      have hu := Try.underlying61
      have hi9 : (Try.prog.info? 61).map (·.size) = some cs.length := size40 hl64.symm
      go_upto_region 28 with fail
      refine wp_region_held_drew (S := fun w' => w'.cell? ⟨pb, 1, none⟩ = some (.pointer (some ⟨d, 0, none⟩)) ∧ w'.cell? ⟨pb, 3, none⟩ = some (.pointer (some ⟨q, 0, none⟩)) ∧ w'.rangeAt T 0 cs) (by kernel_rfl) ⟨b1, b3, hrgd⟩ (fun hHeld => ?_)
      (refine wpAnyH_take (i := 0) (oi := { dst := some 134, op := Op.move (Operand.tmp 0), type := 28, pos := "law.go:116", after := #[], guard := none }) (v := ?_) rfl (by kernel_rfl) (by kernel_rfl) (by kernel_rfl) (fun _ _ _ h => h) (Or.inl ⟨by rfl, ?_⟩) (by assumption) ?_; rotate_left; · (intro w hSw; (try dsimp only at hSw); go_simp; (first | done | with_reducible rfl)))
      try simp only [Act.put, List.setIfInBounds_toArray, List.set_cons_zero, List.set_cons_succ]
      (refine wpAnyH_take (i := 1) (oi := { dst := some 135, op := Op.nilCheck (Operand.tmp 134), type := 0, pos := "law.go:116", after := #[{ on := 0, ground := Ground.data }], guard := none }) (v := ?_) rfl (by kernel_rfl) (by kernel_rfl) (by kernel_rfl) (fun _ _ _ h => h) (Or.inl ⟨by rfl, ?_⟩) (by assumption) ?_; rotate_left; · (intro w hSw; (try dsimp only at hSw); go_simp; (first | done | with_reducible rfl)))
      try simp only [Act.put, List.setIfInBounds_toArray, List.set_cons_zero, List.set_cons_succ]
      (refine wpAnyH_take (i := 2) (oi := { dst := some 136, op := Op.fieldAddr 34 (Operand.tmp 135) 1, type := 0, pos := "law.go:116", after := #[{ on := 1, ground := Ground.data }], guard := none }) (v := ?_) rfl (by kernel_rfl) (by kernel_rfl) (by kernel_rfl) (fun _ _ _ h => h) (Or.inl ⟨by rfl, ?_⟩) (by assumption) ?_; rotate_left; · (intro w hSw; (try dsimp only at hSw); go_simp; (first | done | with_reducible rfl)))
      try simp only [Act.put, List.setIfInBounds_toArray, List.set_cons_zero, List.set_cons_succ]
      (refine wpAnyH_take (i := 3) (oi := { dst := some 137, op := Op.load 24 (Operand.tmp 136), type := 24, pos := "law.go:116", after := #[{ on := 2, ground := Ground.data }], guard := none }) (v := ?_) rfl (by kernel_rfl) (by kernel_rfl) (by kernel_rfl) (fun _ _ _ h => h) (Or.inl ⟨by rfl, ?_⟩) (by assumption) ?_; rotate_left; · (intro w hSw; (try dsimp only at hSw); go_simp; (first | done | with_reducible rfl)))
      try simp only [Act.put, List.setIfInBounds_toArray, List.set_cons_zero, List.set_cons_succ]
      (refine wpAnyH_take (i := 4) (oi := { dst := some 138, op := Op.move (Operand.tmp 7), type := 3, pos := "law.go:116", after := #[], guard := none }) (v := ?_) rfl (by kernel_rfl) (by kernel_rfl) (by kernel_rfl) (fun _ _ _ h => h) (Or.inl ⟨by rfl, ?_⟩) (by assumption) ?_; rotate_left; · (intro w hSw; (try dsimp only at hSw); go_simp; (first | done | with_reducible rfl)))
      try simp only [Act.put, List.setIfInBounds_toArray, List.set_cons_zero, List.set_cons_succ]
      (refine wpAnyH_take (i := 5) (oi := { dst := some 139, op := Op.load 61 (Operand.tmp 8), type := 61, pos := "law.go:116", after := #[], guard := none }) (v := _) rfl (by kernel_rfl) (by kernel_rfl) (by kernel_rfl) (fun _ _ _ h => h) (yieldsIf_load_mid (by rfl) _ _ rfl _ _ rfl _ _ (fun w h => h.2.2) hu rfl hi9) (by assumption) ?_)
      try simp only [Act.put, List.setIfInBounds_toArray, List.set_cons_zero, List.set_cons_succ]
      (refine wpAnyH_take (i := 7) (oi := { dst := some 141, op := Op.move (Operand.tmp 0), type := 28, pos := "law.go:116", after := #[], guard := none }) (v := ?_) rfl (by kernel_rfl) (by kernel_rfl) (by kernel_rfl) (fun _ _ _ h => h) (Or.inl ⟨by rfl, ?_⟩) (by assumption) ?_; rotate_left; · (intro w hSw; (try dsimp only at hSw); go_simp; (first | done | with_reducible rfl)))
      try simp only [Act.put, List.setIfInBounds_toArray, List.set_cons_zero, List.set_cons_succ]
      (refine wpAnyH_take (i := 8) (oi := { dst := some 142, op := Op.nilCheck (Operand.tmp 141), type := 0, pos := "law.go:116", after := #[{ on := 7, ground := Ground.data }], guard := none }) (v := ?_) rfl (by kernel_rfl) (by kernel_rfl) (by kernel_rfl) (fun _ _ _ h => h) (Or.inl ⟨by rfl, ?_⟩) (by assumption) ?_; rotate_left; · (intro w hSw; (try dsimp only at hSw); go_simp; (first | done | with_reducible rfl)))
      try simp only [Act.put, List.setIfInBounds_toArray, List.set_cons_zero, List.set_cons_succ]
      (refine wpAnyH_take (i := 9) (oi := { dst := some 143, op := Op.fieldAddr 34 (Operand.tmp 142) 3, type := 0, pos := "law.go:116", after := #[{ on := 8, ground := Ground.data }], guard := none }) (v := ?_) rfl (by kernel_rfl) (by kernel_rfl) (by kernel_rfl) (fun _ _ _ h => h) (Or.inl ⟨by rfl, ?_⟩) (by assumption) ?_; rotate_left; · (intro w hSw; (try dsimp only at hSw); go_simp; (first | done | with_reducible rfl)))
      try simp only [Act.put, List.setIfInBounds_toArray, List.set_cons_zero, List.set_cons_succ]
      (refine wpAnyH_take (i := 10) (oi := { dst := some 144, op := Op.load 29 (Operand.tmp 143), type := 29, pos := "law.go:116", after := #[{ on := 9, ground := Ground.data }], guard := none }) (v := ?_) rfl (by kernel_rfl) (by kernel_rfl) (by kernel_rfl) (fun _ _ _ h => h) (Or.inl ⟨by rfl, ?_⟩) (by assumption) ?_; rotate_left; · (intro w hSw; (try dsimp only at hSw); go_simp; (first | done | with_reducible rfl)))
      try simp only [Act.put, List.setIfInBounds_toArray, List.set_cons_zero, List.set_cons_succ]
      (refine wpAnyH_take (i := 11) (oi := { dst := some 145, op := Op.move (Operand.tmp 7), type := 3, pos := "law.go:116", after := #[], guard := none }) (v := ?_) rfl (by kernel_rfl) (by kernel_rfl) (by kernel_rfl) (fun _ _ _ h => h) (Or.inl ⟨by rfl, ?_⟩) (by assumption) ?_; rotate_left; · (intro w hSw; (try dsimp only at hSw); go_simp; (first | done | with_reducible rfl)))
      try simp only [Act.put, List.setIfInBounds_toArray, List.set_cons_zero, List.set_cons_succ]
      (refine wpAnyH_take (i := 12) (oi := { dst := some 146, op := Op.load 61 (Operand.tmp 8), type := 61, pos := "law.go:116", after := #[], guard := none }) (v := _) rfl (by kernel_rfl) (by kernel_rfl) (by kernel_rfl) (fun _ _ _ h => h) (yieldsIf_load_mid (by rfl) _ _ rfl _ _ rfl _ _ (fun w h => h.2.2) hu rfl hi9) (by assumption) ?_)
      try simp only [Act.put, List.setIfInBounds_toArray, List.set_cons_zero, List.set_cons_succ]
      refine wpAnyH_ready (rs := [6]) (by kernel_rfl) (by simp) ?_
      refine (AllReadyH.cons (o := { dst := some 140, op := Op.call { callee := Callee.value (Operand.func 25), args := #[Operand.tmp 137, Operand.tmp 138, Operand.tmp 139], argTypes := #[24, 3, 61] }, type := 25, pos := "law.go:116", after := #[{ on := 3, ground := Ground.data }, { on := 4, ground := Ground.data }, { on := 5, ground := Ground.data }], guard := none }) rfl (fun K hK => ?_) AllReadyH.nil)
      go_simp
      (go_at_call 25; ((with_reducible refine K1.out.mono ?_); rintro e w1 ⟨rfl, hs1, hc1⟩; have HS1 := hs1; have HD1 : Hid (Chg (Mine M2 w0) wr.drew w1) := HD0.out.trans hc1; have hk1 := HKP.out w1 HD1.out; have z1 := And.intro hk1.1 (And.intro hk1.2.1 hk1.2.2.1); clear hs1 hc1 hk1))
      refine hK.out _ _ ?_ (fun hHeld => ?_)
      · first
        | exact z1
      clear hK K
      try simp only [Act.put, List.setIfInBounds_toArray, List.set_cons_zero, List.set_cons_succ]
      refine wpAnyH_ready (rs := [13]) (by kernel_rfl) (by simp) ?_
      refine (AllReadyH.cons (o := { dst := some 147, op := Op.call { callee := Callee.value (Operand.func 26), args := #[Operand.tmp 144, Operand.tmp 145, Operand.tmp 146], argTypes := #[29, 3, 61] }, type := 25, pos := "law.go:116", after := #[{ on := 10, ground := Ground.data }, { on := 11, ground := Ground.data }, { on := 12, ground := Ground.data }, { on := 6, ground := Ground.chain }], guard := none }) rfl (fun K hK => ?_) AllReadyH.nil)
      go_simp
      (go_at_call 26; ((with_reducible refine (K2.out _ (stb_PD _ _) _ HS1).mono ?_); rintro e w2 ⟨rfl, hs1, hc1⟩; have HS2 := hs1; have HD2 : Hid (Chg (Mine M2 w0) wr.drew w2) := HD1.out.trans hc1; have hk1 := HKP.out w2 HD2.out; have z2 := And.intro hk1.1 (And.intro hk1.2.1 hk1.2.2.1); clear hs1 hc1 hk1))
      refine hK.out _ _ ?_ (fun hHeld => ?_)
      · first
        | exact z2
      clear hK K
      try simp only [Act.put, List.setIfInBounds_toArray, List.set_cons_zero, List.set_cons_succ]
      (refine wpAnyH_take (i := 14) (oi := { dst := some 148, op := Op.binOp BinOp.eql 25 (Operand.tmp 140) (Operand.tmp 147) 25, type := 4, pos := "law.go:116", after := #[{ on := 6, ground := Ground.data }, { on := 13, ground := Ground.data }], guard := none }) (v := ?_) rfl (by kernel_rfl) (by kernel_rfl) (by kernel_rfl) (fun _ _ _ h => h) (Or.inl ⟨by rfl, ?_⟩) (by assumption) ?_; rotate_left; · (intro w hSw; (try dsimp only at hSw); go_simp; (first | done | with_reducible rfl)))
      try simp only [Act.put, List.setIfInBounds_toArray, List.set_cons_zero, List.set_cons_succ]
      (refine wpAnyH_take (i := 15) (oi := { dst := some 149, op := Op.move (Operand.tmp 148), type := 4, pos := "law.go:116", after := #[{ on := 14, ground := Ground.data }, { on := 13, ground := Ground.chain }], guard := none }) (v := ?_) rfl (by kernel_rfl) (by kernel_rfl) (by kernel_rfl) (fun _ _ _ h => h) (Or.inl ⟨by rfl, ?_⟩) (by assumption) ?_; rotate_left; · (intro w hSw; (try dsimp only at hSw); go_simp; (first | done | with_reducible rfl)))
      try simp only [Act.put, List.setIfInBounds_toArray, List.set_cons_zero, List.set_cons_succ]
      (refine wpAnyH_take (i := 16) (oi := { dst := some 150, op := Op.move (Operand.tmp 0), type := 28, pos := "law.go:116", after := #[{ on := 15, ground := Ground.guard }], guard := some (15, true) }) (v := ?_) rfl (by kernel_rfl) (by kernel_rfl) (by kernel_rfl) (fun _ _ _ h => h) (Or.inl ⟨by rfl, ?_⟩) (by assumption) ?_; rotate_left; · (intro w hSw; (try dsimp only at hSw); go_simp; (first | done | with_reducible rfl)))
      try simp only [Act.put, List.setIfInBounds_toArray, List.set_cons_zero, List.set_cons_succ]
      (refine wpAnyH_take (i := 17) (oi := { dst := some 151, op := Op.nilCheck (Operand.tmp 150), type := 0, pos := "law.go:116", after := #[{ on := 16, ground := Ground.data }, { on := 15, ground := Ground.guard }], guard := some (15, true) }) (v := ?_) rfl (by kernel_rfl) (by kernel_rfl) (by kernel_rfl) (fun _ _ _ h => h) (Or.inl ⟨by rfl, ?_⟩) (by assumption) ?_; rotate_left; · (intro w hSw; (try dsimp only at hSw); go_simp; (first | done | with_reducible rfl)))
      try simp only [Act.put, List.setIfInBounds_toArray, List.set_cons_zero, List.set_cons_succ]
      (refine wpAnyH_take (i := 18) (oi := { dst := some 152, op := Op.fieldAddr 34 (Operand.tmp 151) 1, type := 0, pos := "law.go:116", after := #[{ on := 17, ground := Ground.data }, { on := 15, ground := Ground.guard }], guard := some (15, true) }) (v := ?_) rfl (by kernel_rfl) (by kernel_rfl) (by kernel_rfl) (fun _ _ _ h => h) (Or.inl ⟨by rfl, ?_⟩) (by assumption) ?_; rotate_left; · (intro w hSw; (try dsimp only at hSw); go_simp; (first | done | with_reducible rfl)))
      try simp only [Act.put, List.setIfInBounds_toArray, List.set_cons_zero, List.set_cons_succ]
      (refine wpAnyH_take (i := 19) (oi := { dst := some 153, op := Op.load 24 (Operand.tmp 152), type := 24, pos := "law.go:116", after := #[{ on := 18, ground := Ground.data }, { on := 15, ground := Ground.guard }], guard := some (15, true) }) (v := ?_) rfl (by kernel_rfl) (by kernel_rfl) (by kernel_rfl) (fun _ _ _ h => h) (Or.inl ⟨by rfl, ?_⟩) (by assumption) ?_; rotate_left; · (intro w hSw; (try dsimp only at hSw); go_simp; (first | done | with_reducible rfl)))
      try simp only [Act.put, List.setIfInBounds_toArray, List.set_cons_zero, List.set_cons_succ]
      (refine wpAnyH_take (i := 21) (oi := { dst := some 155, op := Op.move (Operand.tmp 0), type := 28, pos := "law.go:116", after := #[{ on := 15, ground := Ground.guard }], guard := some (15, true) }) (v := ?_) rfl (by kernel_rfl) (by kernel_rfl) (by kernel_rfl) (fun _ _ _ h => h) (Or.inl ⟨by rfl, ?_⟩) (by assumption) ?_; rotate_left; · (intro w hSw; (try dsimp only at hSw); go_simp; (first | done | with_reducible rfl)))
      try simp only [Act.put, List.setIfInBounds_toArray, List.set_cons_zero, List.set_cons_succ]
      (refine wpAnyH_take (i := 22) (oi := { dst := some 156, op := Op.nilCheck (Operand.tmp 155), type := 0, pos := "law.go:116", after := #[{ on := 21, ground := Ground.data }, { on := 15, ground := Ground.guard }], guard := some (15, true) }) (v := ?_) rfl (by kernel_rfl) (by kernel_rfl) (by kernel_rfl) (fun _ _ _ h => h) (Or.inl ⟨by rfl, ?_⟩) (by assumption) ?_; rotate_left; · (intro w hSw; (try dsimp only at hSw); go_simp; (first | done | with_reducible rfl)))
      try simp only [Act.put, List.setIfInBounds_toArray, List.set_cons_zero, List.set_cons_succ]
      (refine wpAnyH_take (i := 23) (oi := { dst := some 157, op := Op.fieldAddr 34 (Operand.tmp 156) 3, type := 0, pos := "law.go:116", after := #[{ on := 22, ground := Ground.data }, { on := 15, ground := Ground.guard }], guard := some (15, true) }) (v := ?_) rfl (by kernel_rfl) (by kernel_rfl) (by kernel_rfl) (fun _ _ _ h => h) (Or.inl ⟨by rfl, ?_⟩) (by assumption) ?_; rotate_left; · (intro w hSw; (try dsimp only at hSw); go_simp; (first | done | with_reducible rfl)))
      try simp only [Act.put, List.setIfInBounds_toArray, List.set_cons_zero, List.set_cons_succ]
      (refine wpAnyH_take (i := 24) (oi := { dst := some 158, op := Op.load 29 (Operand.tmp 157), type := 29, pos := "law.go:116", after := #[{ on := 23, ground := Ground.data }, { on := 15, ground := Ground.guard }], guard := some (15, true) }) (v := ?_) rfl (by kernel_rfl) (by kernel_rfl) (by kernel_rfl) (fun _ _ _ h => h) (Or.inl ⟨by rfl, ?_⟩) (by assumption) ?_; rotate_left; · (intro w hSw; (try dsimp only at hSw); go_simp; (first | done | with_reducible rfl)))
      try simp only [Act.put, List.setIfInBounds_toArray, List.set_cons_zero, List.set_cons_succ]
      refine wpAnyH_ready (rs := [20]) (by kernel_rfl) (by simp) ?_
      refine (AllReadyH.cons (o := { dst := some 154, op := Op.call { callee := Callee.value (Operand.func 27), args := #[Operand.tmp 153], argTypes := #[24] }, type := 25, pos := "law.go:116", after := #[{ on := 19, ground := Ground.data }, { on := 15, ground := Ground.chain }, { on := 15, ground := Ground.guard }], guard := some (15, true) }) rfl (fun K hK => ?_) AllReadyH.nil)
      go_simp
      (go_at_call 27; ((with_reducible refine (K3.out _ (stb_RD _ _) _ HS2).mono ?_); rintro e w3 ⟨rfl, hs1, hc1⟩; have HS3 := hs1; have HD3 : Hid (Chg (Mine M2 w0) wr.drew w3) := HD2.out.trans hc1; have hk1 := HKP.out w3 HD3.out; have z3 := And.intro hk1.1 (And.intro hk1.2.1 hk1.2.2.1); clear hs1 hc1 hk1))
      refine hK.out _ _ ?_ (fun hHeld => ?_)
      · first
        | exact z3
      clear hK K
      try simp only [Act.put, List.setIfInBounds_toArray, List.set_cons_zero, List.set_cons_succ]
      refine wpAnyH_ready (rs := [25]) (by kernel_rfl) (by simp) ?_
      refine (AllReadyH.cons (o := { dst := some 159, op := Op.call { callee := Callee.value (Operand.func 18), args := #[Operand.tmp 158], argTypes := #[29] }, type := 25, pos := "law.go:116", after := #[{ on := 24, ground := Ground.data }, { on := 20, ground := Ground.chain }, { on := 15, ground := Ground.guard }], guard := some (15, true) }) rfl (fun K hK => ?_) AllReadyH.nil)
      go_simp
      (go_at_call 18; ((with_reducible refine (K4.out _ (stb_PD _ _) _ HS3).mono ?_); rintro e w4 ⟨rfl, hs1, hc1⟩; have HS4 := hs1; have HD4 : Hid (Chg (Mine M2 w0) wr.drew w4) := HD3.out.trans hc1; have hk1 := HKP.out w4 HD4.out; have HP4 := Lib.hid hk1.2.2.2; have z4 := And.intro hk1.1 (And.intro hk1.2.1 hk1.2.2.1); clear hs1 hc1 hk1))
      refine hK.out _ _ ?_ (fun hHeld => ?_)
      · first
        | exact z4
      clear hK K
      try simp only [Act.put, List.setIfInBounds_toArray, List.set_cons_zero, List.set_cons_succ]
      (refine wpAnyH_take (i := 26) (oi := { dst := some 160, op := Op.binOp BinOp.eql 25 (Operand.tmp 154) (Operand.tmp 159) 25, type := 4, pos := "law.go:116", after := #[{ on := 20, ground := Ground.data }, { on := 25, ground := Ground.data }, { on := 15, ground := Ground.guard }], guard := some (15, true) }) (v := ?_) rfl (by kernel_rfl) (by kernel_rfl) (by kernel_rfl) (fun _ _ _ h => h) (Or.inl ⟨by rfl, ?_⟩) (by assumption) ?_; rotate_left; · (intro w hSw; (try dsimp only at hSw); go_simp; (first | done | with_reducible rfl)))
      try simp only [Act.put, List.setIfInBounds_toArray, List.set_cons_zero, List.set_cons_succ]
      (refine wpAnyH_take (i := 27) (oi := { dst := some 161, op := Op.pick (Operand.tmp 149) (Operand.tmp 160) (Operand.const (Value.bool false)), type := 4, pos := "law.go:116", after := #[{ on := 15, ground := Ground.data }, { on := 26, ground := Ground.data }], guard := none }) (v := ?_) rfl (by kernel_rfl) (by kernel_rfl) (by kernel_rfl) (fun _ _ _ h => h) (Or.inl ⟨by rfl, ?_⟩) (by assumption) ?_; rotate_left; · (intro w hSw; (try dsimp only at hSw); go_simp; (first | done | with_reducible rfl)))
      try simp only [Act.put, List.setIfInBounds_toArray, List.set_cons_zero, List.set_cons_succ]
      (refine wpAnyH_take (i := 28) (oi := { dst := some 162, op := Op.move (Operand.tmp 161), type := 4, pos := "law.go:116", after := #[{ on := 27, ground := Ground.data }, { on := 25, ground := Ground.chain }], guard := none }) (v := ?_) rfl (by kernel_rfl) (by kernel_rfl) (by kernel_rfl) (fun _ _ _ h => h) (Or.inl ⟨by rfl, ?_⟩) (by assumption) ?_; rotate_left; · (intro w hSw; (try dsimp only at hSw); go_simp; (first | done | with_reducible rfl)))
      try simp only [Act.put, List.setIfInBounds_toArray, List.set_cons_zero, List.set_cons_succ]
      (refine wpAnyH_take (i := 29) (oi := { dst := some 163, op := Op.move (Operand.tmp 0), type := 28, pos := "law.go:116", after := #[{ on := 28, ground := Ground.guard }], guard := some (28, true) }) (v := ?_) rfl (by kernel_rfl) (by kernel_rfl) (by kernel_rfl) (fun _ _ _ h => h) (Or.inl ⟨by rfl, ?_⟩) (by assumption) ?_; rotate_left; · (intro w hSw; (try dsimp only at hSw); go_simp; (first | done | with_reducible rfl)))
      try simp only [Act.put, List.setIfInBounds_toArray, List.set_cons_zero, List.set_cons_succ]
      refine wpAnyH_ready (rs := [30]) (by kernel_rfl) (by simp) ?_
      refine (AllReadyH.cons (o := { dst := some 164, op := Op.call { callee := Callee.value (Operand.func 7), args := #[Operand.tmp 163], argTypes := #[28] }, type := 4, pos := "law.go:116", after := #[{ on := 29, ground := Ground.data }, { on := 28, ground := Ground.chain }, { on := 28, ground := Ground.guard }], guard := some (28, true) }) rfl (fun K hK => ?_) AllReadyH.nil)
      go_simp
      (go_at_call 7; ((with_reducible refine (K5.out _ HP4.out HS4).mono ?_); rintro e w5 ⟨rfl, hx, hc5⟩; have HX5 := hx; obtain ⟨o, hlx, -⟩ := hx.out; have hpc := lx_cells hlx; have z5 := And.intro hpc.1 (And.intro hpc.2 (rangeAt_of z4.2.2 (hc5.block T (Nat.lt_of_lt_of_le HTL.out HD4.out.size) (fun e => HPT.out e.symm)))); clear hx hlx hpc hc5))
      refine hK.out _ _ ?_ (fun hHeld => ?_)
      · first
        | exact z5
      clear hK K
      try simp only [Act.put, List.setIfInBounds_toArray, List.set_cons_zero, List.set_cons_succ]
      (refine wpAnyH_take (i := 31) (oi := { dst := some 165, op := Op.pick (Operand.tmp 162) (Operand.tmp 164) (Operand.const (Value.bool false)), type := 4, pos := "law.go:116", after := #[{ on := 28, ground := Ground.data }, { on := 30, ground := Ground.data }], guard := none }) (v := ?_) rfl (by kernel_rfl) (by kernel_rfl) (by kernel_rfl) (fun _ _ _ h => h) (Or.inl ⟨by rfl, ?_⟩) (by assumption) ?_; rotate_left; · (intro w hSw; (try dsimp only at hSw); go_simp; (first | done | with_reducible rfl)))
      try simp only [Act.put, List.setIfInBounds_toArray, List.set_cons_zero, List.set_cons_succ]
      (refine wpAnyH_take (i := 32) (oi := { dst := some 4, op := Op.assign (Operand.tmp 165), type := 4, pos := "law.go:116", after := #[{ on := 31, ground := Ground.data }, { on := 30, ground := Ground.chain }, { on := 0, ground := Ground.phase }, { on := 1, ground := Ground.phase }, { on := 2, ground := Ground.phase }, { on := 3, ground := Ground.phase }, { on := 4, ground := Ground.phase }, { on := 5, ground := Ground.phase }, { on := 6, ground := Ground.phase }, { on := 7, ground := Ground.phase }, { on := 8, ground := Ground.phase }, { on := 9, ground := Ground.phase }, { on := 10, ground := Ground.phase }, { on := 11, ground := Ground.phase }, { on := 12, ground := Ground.phase }, { on := 13, ground := Ground.phase }, { on := 14, ground := Ground.phase }, { on := 15, ground := Ground.phase }, { on := 16, ground := Ground.phase }, { on := 17, ground := Ground.phase }, { on := 18, ground := Ground.phase }, { on := 19, ground := Ground.phase }, { on := 20, ground := Ground.phase }, { on := 21, ground := Ground.phase }, { on := 22, ground := Ground.phase }, { on := 23, ground := Ground.phase }, { on := 24, ground := Ground.phase }, { on := 25, ground := Ground.phase }, { on := 26, ground := Ground.phase }, { on := 27, ground := Ground.phase }, { on := 28, ground := Ground.phase }, { on := 29, ground := Ground.phase }, { on := 30, ground := Ground.phase }, { on := 31, ground := Ground.phase }], guard := none }) (v := ?_) rfl (by kernel_rfl) (by kernel_rfl) (by kernel_rfl) (fun _ _ _ h => h) (Or.inl ⟨by rfl, ?_⟩) (by assumption) ?_; rotate_left; · (intro w hSw; (try dsimp only at hSw); go_simp; (first | done | with_reducible rfl)))
      try simp only [Act.put, List.setIfInBounds_toArray, List.set_cons_zero, List.set_cons_succ]
      refine wpAnyH_done (by kernel_rfl) ?_ _
      clear z1 z2 z3 z4 z5
      go_wp2
      go_ret
      obtain ⟨o, h1, -⟩ := HX5.out
      exact stepFin (fun k hk => HM2.out k (HLE.out k hk)) h1 HLL2.out.1 HLL2.out.2
end Go.Proofs.Ythnhhhfjgbgpgaa.NumK
