/- The document's own disk: Sync. -/
import Derived.Test.YtgaopkfdbglnmaaRefDkC
namespace Go.Proofs.Ytgaopkfdbglnmaa.NumK
open Go.RowKit

theorem rk_sync {F : Nat → Prop} {q : Nat} {s : DS} {w w2 : World} {Y : Nat} {v : Value} (hf : ∀ k, F k → k < w.heap.size) (ok : DOK s) (L : RLie F q Y v) (H : RHead w q s.safe.length Y v s.armed s.off s.cut)
    (g : Chg (fun i => i = Y) w w2) (h2 : BlkRow w2 Y (applyL s.safe s.opn)) : Chg F w (w2.setCell ⟨q, 2, none⟩ (.slice none 0 0)) ∧ RK (w2.setCell ⟨q, 2, none⟩ (.slice none 0 0)) (FX F w (w2.setCell ⟨q, 2, none⟩ (.slice none 0 0))) q (syncS s) := by
  have c5 : Chg (fun i => i = q) w2 (w2.setCell ⟨q, 2, none⟩ (.slice none 0 0)) := (Chg.refl (fun i => i = q) w2).setCell ⟨q, 2, none⟩ _ (fun _ => rfl)
  have hall : Chg F w (w2.setCell ⟨q, 2, none⟩ (.slice none 0 0)) := (g.mono (G := F) (fun i hi => hi ▸ L.fY)).trans (c5.mono (G := F) (fun i hi => hi ▸ L.fq))
  have hl : (syncS s).safe.length = s.safe.length := applyL_len _ _
  refine ⟨hall, fx_fit hf hall.size, dok_sync ok, Y, .slice none 0 0, ⟨Or.inl L.fq, Or.inl L.fY, (fun i hi => by cases hi), L.qY⟩, ?_, h2.chg c5 (fun h => L.qY h.symm), World.ownsRow_nil _ _ _ _⟩
  rw [hl]; exact (H.chg g (fun h => L.qY h)).set2 _

set_option maxRecDepth 100000 in
set_option maxHeartbeats 1000000 in
theorem rsync_off (F : Nat → Prop) (q : Nat) (s : DS) (w : World) (h : RK w F q s) (ho : s.off = true) : Calls Try.prog 26 #[.pointer (some ⟨q, 0, none⟩)] w (RPost F q w (.int .i64 (dSync s).1) (dSync s).2) := by
  have HP : Hid (RPost F q w (.int .i64 (dSync s).1) (dSync s).2 (.returned (.int .i64 7)) w) := by
    have : dSync s = (7, s) := by unfold dSync; rw [ho]; rfl
    rw [this]; exact ⟨rfl, rk_same h⟩
  obtain ⟨Y, v, L, H, h1⟩ := h.ex
  have c3 := H.c3
  rw [ho] at c3
  clear H h1 L h
  go_enter Try.func26, Try.ntmps26
  go_wp2
  go_ret
  exact HP.out
set_option maxRecDepth 100000 in
set_option maxHeartbeats 1000000 in
theorem rsync_last (F : Nat → Prop) (q : Nat) (s : DS) (w : World) (h : RK w F q s) (ho : s.off = false) (hl : (dLast s).1 = true) : Calls Try.prog 26 #[.pointer (some ⟨q, 0, none⟩)] w (RPost F q w (.int .i64 (dSync s).1) (dSync s).2) := by
  have CL := Lib.hid (rlast_any F q s w h)
  have HE : Hid (dSync s = (7, (dLast s).2)) := by show _ = _; unfold dSync; rw [ho, hl]; rfl
  rw [hl] at CL
  obtain ⟨Y, v, L, H, h1⟩ := h.ex
  have c3 := H.c3
  rw [ho] at c3
  clear H h1 L h
  go_enter Try.func26, Try.ntmps26
  go_wp2_with (go_at_call 37; ((with_reducible refine CL.out.mono ?_); rintro e w6 ⟨rfl, hd⟩; have HD6 := Lib.hid hd; clear hd))
  go_ret
  rw [HE.out]
  exact ⟨rfl, HD6.out⟩

set_option maxRecDepth 100000 in
set_option maxHeartbeats 2000000 in
theorem rsync_ok (F : Nat → Prop) (q : Nat) (s : DS) (w : World) (h : RK w F q s) (ho : s.off = false) (hl : (dLast s).1 = false) (hn : s.opn.length ≤ 1000000) : Calls Try.prog 26 #[.pointer (some ⟨q, 0, none⟩)] w (RPost F q w (.int .i64 (dSync s).1) (dSync s).2) := by
  have CL := Lib.hid (rlast_any F q s w h)
  rw [dSync_of ho hl]
  have hs := (last_keeps s).2
  rw [hl] at CL
  have hfit := Lib.hid h.fit
  obtain ⟨Y0, v0, L0, H0, h10⟩ := h.ex
  have c3 := H0.c3
  rw [ho] at c3
  rw [← hs] at hn
  generalize (dLast s).2 = s1 at *
  clear H0 h10 L0 h hs ho hl
  go_enter Try.func26, Try.ntmps26
  go_wp2_with (go_at_call 37; ((with_reducible refine CL.out.mono ?_); rintro e w6 ⟨rfl, hc, hd⟩; obtain ⟨Y, v, L, H, h2, h3⟩ := hd.ex; obtain ⟨A, cap, rfl⟩ := own_form h3; have HD6 := Lib.hid hd; have HC6 := Lib.hid hc; have HL := Lib.hid L; have HH := Lib.hid H; have H2 := Lib.hid h2; have H3 := Lib.hid h3; clear hd hc L H h2 h3))
  clear CL c3
  obtain ⟨m, hm⟩ : ∃ m, s1.opn.length = m := ⟨_, rfl⟩
  have hm2 := Lib.hid hm
  rw [hm] at hn
  clear hm
  go_loopw [3] (fun v3 wr => ∃ k : Nat, v3 = .int .i64 k ∧ k ≤ m ∧ Hid (Chg (fun i => i = Y) w6 wr) ∧ Hid (BlkRow wr Y (applyL s1.safe (s1.opn.take k)))) (fun v3 _ => m - (intOf v3).toNat)
  case atStart => exact ⟨0, rfl, Nat.zero_le _, Chg.refl _ _, H2.out⟩
  case round =>
    obtain ⟨k, rfl, hk, HC, HB⟩ := hrel
    have hqY := HL.out.qY
    have d1 := (HC.out.cell (p := ⟨q, 1, none⟩) HH.out.lt hqY).trans HH.out.c1
    have d2 := (HC.out.cell (p := ⟨q, 2, none⟩) HH.out.lt hqY).trans HH.out.c2
    have f2 := (HC.out.frozen (p := ⟨q, 2, none⟩) HH.out.lt hqY).trans HH.out.f2
    rw [hm2.out] at d2
    by_cases hlt : k < m
    · have hk2 : k < s1.opn.length := by rw [hm2.out]; exact hlt
      have hall := HD6.out.ok.all
      obtain ⟨O, cap', hA, hcap, hO, hrng⟩ := opn_at H3.out (fun x hx => (hall.2 x hx).2) hk2
      obtain ⟨rfl, rfl⟩ : A = some ⟨O, 0, none⟩ ∧ cap = cap' := by simpa [hm2.out] using hA
      have hOY : O ≠ Y := (HL.out.fv O rfl).2.2
      have hrng2 := rangeAt_of hrng (HC.out.block O hO hOY)
      have HS := Lib.hid (take_snocW s1.opn k hk2)
      have hx := hall.2 s1.opn[k] (List.getElem_mem hk2)
      generalize s1.opn[k] = x at *
      obtain ⟨at', b⟩ := x
      obtain ⟨hx1, hx2⟩ := hx
      have hone := bytesV_one b
      have hbl := bytesV_len b
      rw [hx2] at hbl
      have hu := Try.underlying40
      have hi : (Try.prog.info? 40).map (·.size) = some (bytesV b).length := size40 hbl.symm
      rw [show wrC (at', b) = .int .i64 (at' : Int) :: bytesV b from rfl] at hrng2
      obtain ⟨t0, t1⟩ := range_tail hrng2
      have hLen : Hid ((applyL s1.safe (s1.opn.take k)).length = s1.safe.length) := applyL_len _ _
      have d3 := (HB.out.at' at' (by rw [hLen.out]; exact hx1)).2
      have HNB := Lib.hid (HB.out.set (k := at') (by rw [hLen.out]; exact hx1) b hx2)
      have j1 : (k : Int) < (m : Int) := by omega
      have j0 : (0 : Int) ≤ (k : Int) := Int.natCast_nonneg _
      have j2 : (at' : Int) < (s1.safe.length : Int) := by omega
      have j3 : (0 : Int) ≤ (at' : Int) := Int.natCast_nonneg _
      clear hrng hrng2 hall hA hk2 hO hx1 hx2 f2 hcap
      generalize bytesV b = cs at *
      generalize s1.safe.length = n at *
      go_upto_region 6 with (fail)
      have e1 : (wr.drew.setCells Y (at' * 64) cs).cell? ⟨q, 1, none⟩ = some (.slice (some ⟨Y, 0, none⟩) n n) := by
        rw [World.cell?_setCells_out _ _ _ _ _ (fun h => absurd h hqY)]; exact d1
      have e2 : (wr.drew.setCells Y (at' * 64) cs).cell? ⟨q, 2, none⟩ = some (.slice (some ⟨O, 0, none⟩) m cap) := by
        rw [World.cell?_setCells_out _ _ _ _ _ (fun h => absurd h hqY)]; exact d2
      have e3 : (wr.drew.setCells Y (at' * 64) cs).cell? ⟨O, k * 65, none⟩ = some (.int .i64 (at' : Int)) := by
        rw [World.cell?_setCells_out _ _ _ _ _ (fun h => absurd h hOY)]; exact t0
      have e4 : (wr.drew.setCells Y (at' * 64) cs).rangeAt O (k * 65 + 1) cs := World.rangeAt_setCells_apart ((World.rangeAt_drew _ _ _ _).2 t1) _ _ _ (Or.inl hOY)
      have e5 : (wr.drew.setCells Y (at' * 64) cs).there Y (at' * 64) 64 := World.there_setCells ((World.there_drew _ _ _ _).2 d3) _ _ _
      go_region_held3 (fun w' => w'.cell? ⟨q, 1, none⟩ = some (.slice (some ⟨Y, 0, none⟩) n n) ∧ w'.cell? ⟨q, 2, none⟩ = some (.slice (some ⟨O, 0, none⟩) m cap) ∧ w'.cell? ⟨O, k * 65, none⟩ = some (.int .i64 (at' : Int)) ∧ w'.rangeAt O (k * 65 + 1) cs ∧ w'.there Y (at' * 64) 64)
        (first | exact ⟨d1, d2, t0, (World.rangeAt_drew _ _ _ _).2 t1, (World.there_drew _ _ _ _).2 d3⟩ | exact ⟨e1, e2, e3, e4, e5⟩) (fail)
      have HCE : Hid (Chg (fun i => i = Y) w6 (wr.drew.setCells Y (at' * 64) cs)) := (HC.out.drew).setCells _ _ _ (fun _ => rfl)
      have HBE : Hid (BlkRow (wr.drew.setCells Y (at' * 64) cs) Y (applyL s1.safe (s1.opn.take (k + 1)))) := by
        rw [drew_setCells, HS.out, applyL_snoc]
        exact HNB.out.of rfl (Nat.le_refl _)
      clear e1 e2 e3 e4 e5 d1 d2 d3 t0 t1
      generalize wr.drew.setCells Y (at' * 64) cs = we at *
      go_wp2
      go_roundw
      case rel => exact ⟨k + 1, by go_num, by omega, HCE, HBE⟩
      case measure => simp only [intOf]; omega
    · obtain rfl : m = k := by omega
      have HP := Lib.hid (rk_sync HD6.out.fit HD6.out.ok HL.out HH.out HC.out (by have := HB.out; rwa [List.take_of_length_le (by rw [hm2.out]; exact Nat.le_refl _)] at this))
      go_wp2
      go_ret
      exact rpost_then hfit.out HC6.out ⟨rfl, HP.out⟩
theorem rsync_any (F : Nat → Prop) (q : Nat) (s : DS) (w : World) (h : RK w F q s) (hn : s.opn.length ≤ 1000000) : Calls Try.prog 26 #[.pointer (some ⟨q, 0, none⟩)] w (RPost F q w (.int .i64 (dSync s).1) (dSync s).2) := by
  cases ho : s.off with
  | true => exact rsync_off F q s w h ho
  | false =>
    cases hl : (dLast s).1 with
    | true => exact rsync_last F q s w h ho hl
    | false => exact rsync_ok F q s w h ho hl hn
end Go.Proofs.Ytgaopkfdbglnmaa.NumK
