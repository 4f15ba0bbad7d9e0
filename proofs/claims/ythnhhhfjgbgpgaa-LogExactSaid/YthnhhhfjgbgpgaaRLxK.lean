/- A pair of logs: same. -/
import Derived.Test.YthnhhhfjgbgpgaaRLxD
import Derived.Test.YthnhhhfjgbgpgaaRJnK
namespace Go.Proofs.Ythnhhhfjgbgpgaa.NumK
open Go.RowKit

/-- What same reads of the document's side. -/
def RView (w : World) (lr q : Nat) (s : DS) (l : LS) (As : Option Addr) (cs : Nat) (Ar : Option Addr) (cr : Nat) (Ao : Option Addr) (co : Nat) : Prop :=
  w.cell? ⟨lr, 2, none⟩ = some (.int .i64 (l.gen : Int)) ∧ w.cell? ⟨lr, 3, none⟩ = some (.slice As l.snap.length cs) ∧ w.cell? ⟨lr, 4, none⟩ = some (.slice Ar l.recs.length cr) ∧
  w.cell? ⟨q, 0, none⟩ = some (.int .i64 (s.safe.length : Int)) ∧ w.cell? ⟨q, 2, none⟩ = some (.slice Ao s.opn.length co) ∧ w.cell? ⟨q, 3, none⟩ = some (.bool s.off) ∧ Bys w As l.snap.length l.snap ∧ RowsB w Ar l.recs.length l.recs
theorem sx_view {N : Nat → Prop} {w0 w : World} {lr q : Nat} {s : DS} {l : LS} {P : World → (Nat → Prop) → Prop} (h : SX N w0 w P (RJ lr q s l)) : ∃ As cs Ar cr Ao co, ∀ w', Grew w w' → RView w' lr q s l As cs Ar cr Ao co := by
  obtain ⟨Fp, Fr, _, h2, _⟩ := h.ex
  have hk : JR w Fr lr q s l := h2
  obtain ⟨FD, G, k1, k2, _⟩ := hk.ex
  obtain ⟨sv, rv, g1, _, g3, _, g5⟩ := k2.ex
  obtain ⟨As, cs, rfl, hb, _⟩ := bys_of_own g3
  obtain ⟨Ar, cr, rfl, hr, _⟩ := g5.toB
  obtain ⟨c0, c1, c2, c3, c4, c5, c6⟩ := range7 g1
  obtain ⟨Y, v, L, H, _, h5⟩ := k1.ex
  obtain ⟨Ao, co, rfl⟩ := own_form h5
  have hlr := k2.fit lr k2.here
  have hq := H.lt
  exact ⟨As, cs, Ar, cr, Ao, co, fun w' g => ⟨(grew_cell g (p := ⟨lr, 2, none⟩) hlr).trans c2, (grew_cell g (p := ⟨lr, 3, none⟩) hlr).trans c3, (grew_cell g (p := ⟨lr, 4, none⟩) hlr).trans c4, (grew_cell g (p := ⟨q, 0, none⟩) hq).trans H.c0, (grew_cell g (p := ⟨q, 2, none⟩) hq).trans H.c2, (grew_cell g (p := ⟨q, 3, none⟩) hq).trans H.c3, hb.keep g, hr.keep g⟩⟩
theorem sx_ok {N : Nat → Prop} {w0 w : World} {lr q : Nat} {s : DS} {l : LS} {P : World → (Nat → Prop) → Prop} (h : SX N w0 w P (RJ lr q s l)) : LOK s l ∧ s.ok := by
  obtain ⟨Fp, Fr, _, h2, _⟩ := h.ex
  have hk : JR w Fr lr q s l := h2
  obtain ⟨FD, G, k1, _⟩ := hk.ex
  exact ⟨hk.ok, k1.ok.all⟩
theorem sx_dok {N : Nat → Prop} {w0 w : World} {d : Nat} {s : DS} {R : World → (Nat → Prop) → Prop} (h : SX N w0 w (PD d s) R) : DOK s := by
  obtain ⟨Fp, Fr, h1, _⟩ := h.ex
  exact DK.ok h1
theorem rowsO_B {w : World} {base : Nat} {A : Option Addr} {c n : Nat} {ls : List (List UInt8)} (h : RowsO w base (.slice A n c) ls) : RowsB w A ls.length ls := by
  obtain ⟨A', c', e, hb, _⟩ := h.toB
  cases e
  exact hb
theorem sx_readD {N : Nat → Prop} {w0 w : World} {d : Nat} {s : DS} {R : World → (Nat → Prop) → Prop} (h : SX N w0 w (PD d s) R) (at' : Int) : Calls Try.prog 36 #[.pointer (some ⟨d, 0, none⟩), .int .i64 at'] w fun e w' => e = .returned (readV (dRead s at')) ∧ Grew w w' := by
  obtain ⟨Fp, Fr, h1, _⟩ := h.ex
  exact read_any Fp d s at' w h1
theorem sx_readR {N : Nat → Prop} {w0 w : World} {q : Nat} {s : DS} {P : World → (Nat → Prop) → Prop} (h : SX N w0 w P (RD q s)) (hn : s.opn.length ≤ 1000000) (at' : Int) : Calls Try.prog 37 #[.pointer (some ⟨q, 0, none⟩), .int .i64 at'] w fun e w' => e = .returned (readV (dRead s at')) ∧ Grew w w' := by
  obtain ⟨Fp, Fr, _, h2, _⟩ := h.ex
  exact rread_any Fr q s at' hn w h2
theorem sx_cnt {N : Nat → Prop} {w0 w : World} {d : Nat} {s : DS} {R : World → (Nat → Prop) → Prop} (h : SX N w0 w (PD d s) R) : Calls Try.prog 38 #[.pointer (some ⟨d, 0, none⟩)] w fun e w' => e = .returned (.int .i64 (s.opn.length : Int)) ∧ w = w' := by
  obtain ⟨Fp, Fr, h1, _⟩ := h.ex
  exact open_any Fp d s w h1
theorem sx_off {N : Nat → Prop} {w0 w : World} {d : Nat} {s : DS} {R : World → (Nat → Prop) → Prop} (h : SX N w0 w (PD d s) R) : Calls Try.prog 39 #[.pointer (some ⟨d, 0, none⟩)] w fun e w' => e = .returned (.bool s.off) ∧ w = w' := by
  obtain ⟨Fp, Fr, h1, _⟩ := h.ex
  exact off_any Fp d s w h1

set_option maxRecDepth 100000 in
set_option maxHeartbeats 4000000 in
theorem same_any {N : Nat → Prop} {w0 w : World} {pb d q lb lr : Nat} {s : DS} {l : LS} (hC : PairC w pb (some ⟨lb, 0, none⟩) d (some ⟨lr, 0, none⟩) q) (h : SX N w0 w (PJ lb d s l) (RJ lr q s l)) (ho : s.off = false) (hn : s.opn.length ≤ 400000) (hsl : s.safe.length ≤ 300) :
    Calls Try.prog 13 #[.pointer (some ⟨pb, 0, none⟩)] w fun e w' => e = .returned (.bool true) ∧ Grew w w' := by
  obtain ⟨As, cs, Ar, cr, Ao, co, hv⟩ := sx_view h
  obtain ⟨hok, hds⟩ := sx_ok h
  have hdok := sx_dok h.toD
  have HV := Lib.hid hv
  have HO := Lib.hid ho
  have HX := Lib.hid (fun w' (g : Grew w w') => Lib.hid (h.grows (stb_PJ _ _ _ _) (stb_RJ _ _ _ _) g))
  have HXD := Lib.hid (fun w' (g : Grew w w') => (h.toD).grows (stb_PD _ _) (stb_RD _ _) g)
  have HPC : Hid (∀ w', Grew w w' → w'.cell? ⟨pb, 0, none⟩ = some (.pointer (some ⟨lb, 0, none⟩)) ∧ w'.cell? ⟨pb, 1, none⟩ = some (.pointer (some ⟨d, 0, none⟩)) ∧ w'.cell? ⟨pb, 2, none⟩ = some (.pointer (some ⟨lr, 0, none⟩)) ∧ w'.cell? ⟨pb, 3, none⟩ = some (.pointer (some ⟨q, 0, none⟩))) := fun w' g => (hC.grew g).cells
  have hs1 := hok.snapS
  have hroom : roomD s ≤ 150 := by unfold roomD; omega
  have hr1 : l.recs.length ≤ 150 := by have := hok.few; have := hok.fin; omega
  have HRS := Lib.hid hok.recS
  have KS := Lib.hid (sx_snap (HX.out w.drew (grew_drew (grew_refl _))) ho)
  have KR := Lib.hid (fun w' (g : Grew w w') => sx_recs (HX.out w' g) ho)
  have KG := Lib.hid (fun w' (g : Grew w w') => sx_gen (HX.out w' g) ho)
  have KB := Lib.hid (fun w' A c (g : Grew w w') (hb : Bys w' A l.snap.length l.snap) => keepBytes_any A As l.snap.length l.snap.length c cs l.snap l.snap w' hb (HV.out w' g).2.2.2.2.2.2.1 (by omega) (by omega))
  have KW := Lib.hid (fun w' A c (g : Grew w w') (hb : RowsB w' A l.recs.length l.recs) => keepRows_any A Ar l.recs.length l.recs.length c cr l.recs l.recs w' hb (HV.out w' g).2.2.2.2.2.2.2 (by omega) (by omega))
  have hd1 : decide (l.snap = l.snap) = true := decide_eq_true rfl
  have hd2 : decide (l.recs = l.recs) = true := decide_eq_true rfl
  rw [hd1] at KB
  rw [hd2] at KW
  have HDS := Lib.hid hds
  have b0 := (HPC.out w.drew (grew_drew (grew_refl _))).1
  clear hd1 hd2 h hC ho hv hok hds hroom
  go_enter Try.func13, Try.ntmps13
  go_upto_region 1 with fail
  go_region_held3 (fun w' => w'.cell? ⟨pb, 0, none⟩ = some (.pointer (some ⟨lb, 0, none⟩)))
    (first | exact b0 | exact z1 | exact z2)
    (first
      | (go_at_call 31; ((with_reducible refine KS.out.mono ?_); rintro e w1 ⟨hg1, A1, c1, rfl, -, hb1, hA1, hf1⟩; have HG1 : Hid (Grew w w1) := grew_trans (grew_drew (grew_refl _)) hg1; have HB1 := Lib.hid hb1; have HF1 : Hid (FreshB w w1 A1 l.snap.length c1) := hf1.mono (grew_drew (grew_refl _)); have z1 := (HPC.out w1 HG1.out).1; clear hg1 hb1 hA1 hf1))
      | (go_at_call 32; ((with_reducible refine (KR.out _ HG1.out).mono ?_); rintro e w2 ⟨hg2, v2, rfl, ho2⟩; have HG12 := Lib.hid hg2; have HG2 : Hid (Grew w w2) := grew_trans HG1.out hg2; obtain ⟨A4, c4, rfl, -, -, how⟩ := ho2.own; have HOW := Lib.hid how; have HRB := Lib.hid ho2; have z2 := (HPC.out w2 HG2.out).1; clear hg2 ho2 how)))
  have HRB2 : Hid (RowsB w2 A4 l.recs.length l.recs) := rowsO_B HRB.out
  have HB2 : Hid (Bys w2 A1 l.snap.length l.snap) := HB1.out.keep HG12.out
  have hg2d : Grew w w2.drew := grew_trans HG2.out (grew_drew (grew_refl _))
  obtain ⟨r2, r3, r4, -⟩ := HV.out w2.drew hg2d
  obtain ⟨b0', -, b2, -⟩ := HPC.out w2.drew hg2d
  have HGd := Lib.hid hg2d
  clear b0 z1 z2 KS hg2d
  have HVS : Hid (∀ w', Grew w w' → w'.cell? ⟨pb, 0, none⟩ = some (.pointer (some ⟨lb, 0, none⟩)) ∧ w'.cell? ⟨pb, 2, none⟩ = some (.pointer (some ⟨lr, 0, none⟩)) ∧ w'.cell? ⟨lr, 2, none⟩ = some (.int .i64 (l.gen : Int)) ∧ w'.cell? ⟨lr, 3, none⟩ = some (.slice As l.snap.length cs) ∧ w'.cell? ⟨lr, 4, none⟩ = some (.slice Ar l.recs.length cr)) := fun w' g => ⟨(HPC.out w' g).1, (HPC.out w' g).2.2.1, (HV.out w' g).1, (HV.out w' g).2.1, (HV.out w' g).2.2.1⟩
  go_upto_region 2 with fail
  go_region_held3 (fun w' => w'.cell? ⟨pb, 0, none⟩ = some (.pointer (some ⟨lb, 0, none⟩)) ∧ w'.cell? ⟨pb, 2, none⟩ = some (.pointer (some ⟨lr, 0, none⟩)) ∧ w'.cell? ⟨lr, 2, none⟩ = some (.int .i64 (l.gen : Int)) ∧ w'.cell? ⟨lr, 3, none⟩ = some (.slice As l.snap.length cs) ∧ w'.cell? ⟨lr, 4, none⟩ = some (.slice Ar l.recs.length cr))
    (first | exact ⟨b0', b2, r2, r3, r4⟩ | exact z3 | exact z4)
    (first
      | (go_at_call 33; ((with_reducible refine (KG.out _ HGd.out).mono ?_); rintro e w2' ⟨rfl, rfl⟩))
      | (go_at_call 34; ((with_reducible refine (KB.out _ _ _ HGd.out (HB2.out.keep (grew_drew (grew_refl _)))).mono ?_); rintro e w3 ⟨rfl, hg3⟩; have HG23 : Hid (Grew w2 w3) := grew_trans (grew_drew (grew_refl _)) hg3; have HG3 : Hid (Grew w w3) := grew_trans HG2.out HG23.out; have z3 := HVS.out w3 HG3.out; clear hg3))
      | (go_at_call 35; ((with_reducible refine (KW.out _ _ _ HG3.out (HRB2.out.keep HG23.out)).mono ?_); rintro e w4 ⟨rfl, hg4⟩; have HG24 : Hid (Grew w2 w4) := grew_trans HG23.out hg4; have HG4 : Hid (Grew w w4) := grew_trans HG2.out HG24.out; have z4 := HVS.out w4 HG4.out; clear hg4)))
  clear b0' b2 r2 r3 r4 z3 z4
  -- the slices are written over
  have HF4 : Hid (FreshB w w4 A1 l.snap.length c1) := (HF1.out.keep HG12.out).keep HG24.out
  have KSP := Lib.hid (spoilW_any A1 l.snap.length c1 w w4 HF4.out (by omega))
  have HA1w : Hid (∀ a, A1 = some a → w.heap.size ≤ a.block ∧ a.block < w1.heap.size) := fun a ha => ⟨HF1.out.ge a ha, HF1.out.lt a ha⟩
  have HOW4 : Hid (∀ w5, Chg (fun k => ∃ a, A1 = some a ∧ a.block = k) w4 w5 → Grew w w5 ∧ OwnR w5 (fun k => w1.heap.size ≤ k ∧ k < w2.heap.size) A4 l.recs.length l.recs) := fun w5 g => by
    have g1 : Chg (Mine (fun k => w1.heap.size ≤ k) w) w4 w5 := g.mono fun k hk => by
      obtain ⟨a, ha, rfl⟩ := hk
      have := HA1w.out a ha
      exact ⟨this.1, by omega⟩
    refine ⟨Chg.grew HG4.out g1 (fun k hk => hk.1), ?_⟩
    have h4 : OwnR w4 (fun k => w1.heap.size ≤ k ∧ k < w2.heap.size) A4 l.recs.length l.recs := HOW.out.keepM (N := fun k => w1.heap.size ≤ k) (w0 := w) HG24.out.chg (fun k hk => hk.1)
    exact h4.keepM g1 (fun k hk => hk.1)
  go_upto_region 4 with (first
    | (go_at_call 22; ((with_reducible refine KSP.out.mono ?_); rintro e w5 ⟨rfl, hc5, -⟩; obtain ⟨hg5, how5⟩ := HOW4.out w5 hc5; have HG5 := Lib.hid hg5; have HOW5 := Lib.hid how5; clear hc5 hg5 how5)))
  clear KSP HOW4
  go_wp2
  go_loopw [6] (fun v6 wz => ∃ i : Nat, v6 = .int .i64 i ∧ i ≤ l.recs.length ∧ Hid (SpI (fun k => (w1.heap.size ≤ k ∧ k < w2.heap.size) ∧ A4 ≠ some ⟨k, 0, none⟩) w5 wz)) (fun v6 _ => l.recs.length - (intOf v6).toNat)
  case atStart => exact ⟨0, rfl, Nat.zero_le _, SpI.refl _ _⟩
  case round =>
    obtain ⟨i, rfl, hi, HSI⟩ := hrel
    by_cases hlt : i < l.recs.length
    · have i1 : (i : Int) < (l.recs.length : Int) := by omega
      have i0 : (0 : Int) ≤ (i : Int) := by omega
      obtain ⟨g, A7, n7, c7, rfl, g5, hn7, hsp⟩ := HOW5.out.spoil HSI.out i hlt
      have KS7 := Lib.hid (hsp (by have h1 := HRS.out _ (getD_in l.recs i hlt); omega))
      clear hsp hn7
      go_wp2_with (go_at_call 22; ((with_reducible refine KS7.out.mono ?_); rintro e wy ⟨rfl, hsi⟩; have HSI2 := Lib.hid hsi; clear hsi))
      go_roundw
      case rel => exact ⟨i + 1, by go_num, by omega, HSI2⟩
      case measure => simp only [intOf]; omega
    · obtain rfl : l.recs.length = i := by omega
      have HGZ : Hid (Grew w wr) := Chg.grew HG5.out HSI.out.chg (fun k hk => Nat.le_trans HG1.out.size hk.1.1)
      clear hlt HSI
      obtain ⟨L, hL⟩ : ∃ L, L = s.safe.length := ⟨_, rfl⟩
      have HLs := Lib.hid hL
      have HQ : Hid (∀ w', Grew w w' → w'.cell? ⟨pb, 1, none⟩ = some (.pointer (some ⟨d, 0, none⟩)) ∧ w'.cell? ⟨pb, 3, none⟩ = some (.pointer (some ⟨q, 0, none⟩)) ∧ w'.cell? ⟨q, 0, none⟩ = some (.int .i64 (L : Int))) := fun w' g => ⟨(HPC.out w' g).2.1, (HPC.out w' g).2.2.2, by rw [hL]; exact (HV.out w' g).2.2.2.1⟩
      have hLb : L ≤ 300 := by omega
      clear hL
      obtain ⟨Z, hZ⟩ : ∃ Z, Z = (bytesV blk0).toArray := ⟨_, rfl⟩
      have hz := fun w => zero40 w
      rw [← hZ] at hz
      have HZ := Lib.hid hZ
      have HDOK := Lib.hid hdok
      have hG := guard40
      clear hZ hdok
      go_wp2
      go_loopw [5, 7] (fun v5 v7 wz => ∃ k : Nat, v7 = .int .i64 k ∧ v5 = .bool true ∧ k ≤ L ∧ Hid (Grew w wz)) (fun _ v7 _ => L - (intOf v7).toNat)
      case atStart => exact ⟨0, rfl, rfl, Nat.zero_le _, HGZ⟩
      case round =>
        obtain ⟨k, rfl, rfl, hk, HG⟩ := hrel
        obtain ⟨p1, p3, q0⟩ := HQ.out wr HG.out
        by_cases hlt : k < L
        · have j1 : (k : Int) < (L : Int) := by omega
          have K1 := Lib.hid (sx_readD (HXD.out wr HG.out) (k : Int))
          have K2 := Lib.hid (fun w' (g : Grew w w') => sx_readR (HXD.out w' g) (by omega) (k : Int))
          have hlen := dRead_len HDOK.out (k : Int)
          obtain ⟨pr, hpr⟩ : ∃ pr, dRead s (k : Int) = pr := ⟨_, rfl⟩
          rw [hpr] at K1 K2 hlen
          clear hpr
          obtain ⟨B, ev⟩ := pr
          have hlen : B.length = 64 := hlen
          have hEq : Hid (∀ w, (Op.equalIn 10000 61 (.agg (bytesV B).toArray) (.agg (bytesV B).toArray)).run Try.prog w = .ok true w) := fun w => by have := equal40 B B hlen hlen w; simpa using this
          have hone := Lib.hid (bytesV_one' (b := B))
          have hl : (bytesV B).length = 64 := by rw [bytesV_len]; exact hlen
          have HVB : Hid (readV (B, ev) = .tuple #[.agg (bytesV B).toArray, .int .i64 ev]) := rfl
          rw [HVB.out] at K1 K2
          clear HVB hlen
          generalize bytesV B = cs' at *
          have hEq2 := hEq.out
          go_wp2_with (first
            | (go_at_call 36; ((with_reducible refine K1.out.mono ?_); rintro e w21 ⟨rfl, hg⟩; have P1 := Lib.hid (put_new w21 Z HZ.out 61 cs' hl); have G1 : Hid (Grew w _) := grew_trans HG.out (grew_trans hg P1.out.2.2.1); have p3' := (HQ.out _ G1.out).2.1; clear hg))
            | (refine wpList_store_mid (by rfl) 61 _ _ (by rfl) w21.heap.size 0 cs'.toArray (by rfl) (by rfl) (by simpa [hl] using P1.out.2.1) (size40 (by simpa using hl.symm)) hone.out ?_)
            | (go_at_call 37; ((with_reducible refine (K2.out _ G1.out).mono ?_); rintro e w22 ⟨rfl, hg⟩; have P2 := Lib.hid (put_new w22 Z HZ.out 61 cs' hl); have G2 : Hid (Grew w _) := grew_trans G1.out (grew_trans hg P2.out.2.2.1); have Q1 := Lib.hid (rangeAt_of P1.out.1 ((grew_trans hg P2.out.2.2.1).block _ P1.out.2.2.2.2)); clear hg))
            | (refine wpList_store_mid (by rfl) 61 _ _ (by rfl) w22.heap.size 0 cs'.toArray (by rfl) (by rfl) (by simpa [hl] using P2.out.2.1) (size40 (by simpa using hl.symm)) hone.out ?_)
            | (refine wpList_load_mid (by rfl) 61 _ (by rfl) w21.heap.size 0 (by rfl) cs' _ Q1.out Try.underlying61 rfl (size40 hl.symm) ?_)
            | (refine wpList_load_mid (by rfl) 61 _ (by rfl) w22.heap.size 0 (by rfl) cs' _ P2.out.1 Try.underlying61 rfl (size40 hl.symm) ?_))
          go_roundw
          case rel => exact ⟨k + 1, by go_num, (by first | rfl | trivial), by omega, G2⟩
          case measure => simp only [intOf]; omega
        · obtain rfl : L = k := by omega
          have HGd : Hid (Grew w wr.drew) := grew_trans HG.out (grew_drew (grew_refl _))
          have HVS2 : Hid (∀ w', Grew w w' → w'.cell? ⟨pb, 0, none⟩ = some (.pointer (some ⟨lb, 0, none⟩)) ∧ w'.cell? ⟨pb, 1, none⟩ = some (.pointer (some ⟨d, 0, none⟩)) ∧ w'.cell? ⟨pb, 2, none⟩ = some (.pointer (some ⟨lr, 0, none⟩)) ∧ w'.cell? ⟨pb, 3, none⟩ = some (.pointer (some ⟨q, 0, none⟩)) ∧ w'.cell? ⟨lr, 4, none⟩ = some (.slice Ar l.recs.length cr) ∧ w'.cell? ⟨q, 2, none⟩ = some (.slice Ao s.opn.length co) ∧ w'.cell? ⟨q, 3, none⟩ = some (.bool s.off)) := fun w' g => ⟨(HPC.out w' g).1, (HPC.out w' g).2.1, (HPC.out w' g).2.2.1, (HPC.out w' g).2.2.2, (HV.out w' g).2.2.1, (HV.out w' g).2.2.2.2.1, (HV.out w' g).2.2.2.2.2.1⟩
          have x0 := HVS2.out wr.drew HGd.out
          have KC := Lib.hid (fun w' (g : Grew w w') => sx_cnt (HXD.out w' g))
          have KO := Lib.hid (fun w' (g : Grew w w') => sx_off (HXD.out w' g))
          have HOP : Hid (s.opn.length ≤ 400000) := hn
          have hoff := HO.out
          rw [hoff] at KO HVS2 x0
          clear hlt p1 hoff
          generalize hnn : s.opn.length = nn at *
          go_upto_region 14 with fail
          clear p3 q0
          go_region_held3 (fun w' => w'.cell? ⟨pb, 0, none⟩ = some (.pointer (some ⟨lb, 0, none⟩)) ∧ w'.cell? ⟨pb, 1, none⟩ = some (.pointer (some ⟨d, 0, none⟩)) ∧ w'.cell? ⟨pb, 2, none⟩ = some (.pointer (some ⟨lr, 0, none⟩)) ∧ w'.cell? ⟨pb, 3, none⟩ = some (.pointer (some ⟨q, 0, none⟩)) ∧ w'.cell? ⟨lr, 4, none⟩ = some (.slice Ar l.recs.length cr) ∧ w'.cell? ⟨q, 2, none⟩ = some (.slice Ao nn co) ∧ w'.cell? ⟨q, 3, none⟩ = some (.bool false))
            (first | exact x0 | exact x5 | exact x6)
            (first
              | (go_at_call 38; ((with_reducible refine (KC.out _ HGd.out).mono ?_); rintro e w3' ⟨rfl, rfl⟩))
              | (go_at_call 39; ((with_reducible refine (KO.out _ HGd.out).mono ?_); rintro e w3' ⟨rfl, rfl⟩))
              | (go_at_call 32; ((with_reducible refine (KR.out _ HGd.out).mono ?_); rintro e w6 ⟨hg6, v6, rfl, ho6⟩; have HG6 : Hid (Grew w w6) := grew_trans HGd.out hg6; obtain ⟨A6, c6, rfl, -, -, -⟩ := ho6.own; have HRB6 := Lib.hid (rowsO_B ho6); have x5 := HVS2.out w6 HG6.out; clear hg6 ho6))
              | (go_at_call 35; ((with_reducible refine (KW.out _ _ _ HG6.out HRB6.out).mono ?_); rintro e w7 ⟨rfl, hg7⟩; have HG7 : Hid (Grew w w7) := grew_trans HG6.out hg7; have x6 := HVS2.out w7 HG7.out; clear hg7)))
          clear x0 x5 x6
          go_wp2
          go_ret
          exact ⟨rfl, HG7.out⟩
end Go.Proofs.Ythnhhhfjgbgpgaa.NumK
