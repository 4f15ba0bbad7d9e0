/- disk: Sync. -/
import Derived.Test.YtgaopkfdbglnmaaDiskG
namespace Go.Proofs.Ytgaopkfdbglnmaa.NumK
open Go.RowKit

theorem take_snocW (l : List (Nat × Blk)) (k : Nat) (hk : k < l.length) : l.take (k + 1) = l.take k ++ [l[k]] := List.take_succ_eq_append_getElem hk
/-- A variable that holds an open write. -/
theorem load_var {w w' : World} {cs : List Value} {t : TypeId} (g : w' = (w.alloc (.cells cs.toArray t))) : w'.rangeAt w.heap.size 0 cs := by
  subst g
  intro j v hv
  rw [World.cell?_alloc_at _ _ _ _ rfl, Nat.zero_add]
  simpa using hv
theorem set_var (w : World) (Z : Array Value) (t : TypeId) (cs : List Value) (h : Z.size = cs.length) : (w.alloc (.cells Z t)).setCells w.heap.size 0 cs = (w.alloc (.cells Z t)).setCells w.heap.size 0 cs ∧ ((w.alloc (.cells Z t)).setCells w.heap.size 0 cs).rangeAt w.heap.size 0 cs ∧ (w.alloc (.cells Z t)).there w.heap.size 0 cs.length ∧ Grew w ((w.alloc (.cells Z t)).setCells w.heap.size 0 cs) := by
  have ht : (w.alloc (.cells Z t)).there w.heap.size 0 cs.length := by
    intro j hj
    refine ⟨?_, by simp⟩
    rw [World.cell?_alloc_at _ _ _ _ rfl]
    simp; omega
  exact ⟨rfl, World.rangeAt_setCells_same _ _ _ _ ht, ht, ((Grew.chg (grew_alloc w Z _)).setCells (F := fun k => k = w.heap.size) _ _ _ (fun _ => rfl)).grew (grew_refl _) (fun k hk => by subst hk; exact Nat.le_refl _)⟩
theorem range_tail {w : World} {b o : Nat} {v : Value} {cs : List Value} (h : w.rangeAt b o (v :: cs)) : w.cell? ⟨b, o, none⟩ = some v ∧ w.rangeAt b (o + 1) cs := by
  refine ⟨by have := h 0 v rfl; simpa using this, fun j u hu => ?_⟩
  have := h (j + 1) u (by simpa using hu)
  rwa [show o + (j + 1) = o + 1 + j by omega] at this

def syncS (s : DS) : DS := { s with safe := applyL s.safe s.opn, opn := [] }
theorem dok_sync {s : DS} (h : DOK s) : DOK (syncS s) := by
  obtain ⟨h1, h2, h3, h4, h5, h6, h7⟩ := h
  have hl : (syncS s).safe.length = s.safe.length := applyL_len _ _
  refine ⟨⟨?_, fun x hx => by cases hx⟩, by rw [hl]; exact h2, by rw [hl]; exact h3, h4, h5, fun _ _ => rfl, h7⟩
  intro b hb
  have : ∀ (l : List (Nat × Blk)) (safe : List Blk), (∀ b ∈ safe, b.length = 64) → (∀ w ∈ l, w.2.length = 64) → ∀ b ∈ applyL safe l, b.length = 64 := by
    intro l
    induction l with
    | nil => intro safe h _ b hb; exact h b hb
    | cons x r ih =>
      intro safe h hl b hb
      refine ih (safe.set x.1 x.2) (fun y hy => ?_) (fun y hy => hl y (by simp [hy])) b hb
      rcases List.mem_or_eq_of_mem_set hy with hy | rfl
      · exact h y hy
      · exact hl x (by simp)
  exact this s.opn s.safe h1.1 (fun w hw => (h1.2 w hw).2) b hb
theorem dSync_of {s : DS} (ho : s.off = false) (hl : (dLast s).1 = false) : dSync s = (0, syncS (dLast s).2) := by
  have : (dLast s).2.safe = s.safe ∧ (dLast s).2.opn = s.opn := by unfold dLast; split <;> (try split) <;> exact ⟨rfl, rfl⟩
  unfold dSync syncS
  rw [ho, hl, this.1, this.2]
  rfl

set_option maxRecDepth 100000 in
set_option maxHeartbeats 1000000 in
theorem sync_off (F : Nat → Prop) (q : Nat) (s : DS) (w : World) (h : DK w F q s) (ho : s.off = true) : Calls Try.prog 21 #[.pointer (some ⟨q, 0, none⟩)] w (DPost F q w (.int .i64 (dSync s).1) (dSync s).2) := by
  have HP : Hid (DPost F q w (.int .i64 (dSync s).1) (dSync s).2 (.returned (.int .i64 7)) w) := by
    have : dSync s = (7, s) := by unfold dSync; rw [ho]; rfl
    rw [this]; exact ⟨rfl, dk_same h⟩
  obtain ⟨C, Y, v, L, H, h1⟩ := h.ex
  have c4 := H.c4
  rw [ho] at c4
  clear H h1 L h
  go_enter Try.func21, Try.ntmps21
  go_wp2
  go_ret
  exact HP.out
set_option maxRecDepth 100000 in
set_option maxHeartbeats 1000000 in
theorem sync_last (F : Nat → Prop) (q : Nat) (s : DS) (w : World) (h : DK w F q s) (ho : s.off = false) (hl : (dLast s).1 = true) : Calls Try.prog 21 #[.pointer (some ⟨q, 0, none⟩)] w (DPost F q w (.int .i64 (dSync s).1) (dSync s).2) := by
  have CL := Lib.hid (isLast_any F q s w h)
  have HE : Hid (dSync s = (7, (dLast s).2)) := by show _ = _; unfold dSync; rw [ho, hl]; rfl
  rw [hl] at CL
  obtain ⟨C, Y, v, L, H, h1⟩ := h.ex
  have c4 := H.c4
  rw [ho] at c4
  clear H h1 L h
  go_enter Try.func21, Try.ntmps21
  go_wp2_with (go_at_call 35; ((with_reducible refine CL.out.mono ?_); rintro e w6 ⟨rfl, hd⟩; have HD6 := Lib.hid hd; clear hd))
  go_ret
  rw [HE.out]
  exact ⟨rfl, HD6.out⟩

/-- The world behind a Sync's loop. -/
theorem dk_sync {F : Nat → Prop} {q : Nat} {s : DS} {w w2 : World} {C Y : Nat} {v : Value} (hf : ∀ k, F k → k < w.heap.size) (ok : DOK s) (L : Lie F q C Y v) (H : Head w q s.safe.length C Y v s.armed s.off) (h1 : BlkRow w C (cont s))
    (g : Chg (fun i => i = Y) w w2) (h2 : BlkRow w2 Y (applyL s.safe s.opn)) : Chg F w (w2.setCell ⟨q, 2, none⟩ (.slice none 0 0)) ∧ DK (w2.setCell ⟨q, 2, none⟩ (.slice none 0 0)) (FX F w (w2.setCell ⟨q, 2, none⟩ (.slice none 0 0))) q (syncS s) := by
  have c5 : Chg (fun i => i = q) w2 (w2.setCell ⟨q, 2, none⟩ (.slice none 0 0)) := (Chg.refl (fun i => i = q) w2).setCell ⟨q, 2, none⟩ _ (fun _ => rfl)
  have hall : Chg F w (w2.setCell ⟨q, 2, none⟩ (.slice none 0 0)) := (g.mono (G := F) (fun i hi => hi ▸ L.fY)).trans (c5.mono (G := F) (fun i hi => hi ▸ L.fq))
  have hl : (syncS s).safe.length = s.safe.length := applyL_len _ _
  refine ⟨hall, fx_fit hf hall.size, dok_sync ok, C, Y, .slice none 0 0, ⟨Or.inl L.fq, Or.inl L.fC, Or.inl L.fY, (fun i hi => by cases hi), L.qC, L.qY, L.CY⟩, ?_, ?_, h2.chg c5 (fun h => L.qY h.symm), World.ownsRow_nil _ _ _ _⟩
  · rw [hl]; exact (H.chg g (fun h => L.qY h)).set2 _
  · have : cont (syncS s) = cont s := rfl
    rw [this]
    exact (h1.chg g (fun h => L.CY h)).chg c5 (fun h => L.qC h.symm)

set_option maxRecDepth 100000 in
set_option maxHeartbeats 2000000 in
theorem sync_ok (F : Nat → Prop) (q : Nat) (s : DS) (w : World) (h : DK w F q s) (ho : s.off = false) (hl : (dLast s).1 = false) (hn : s.opn.length ≤ 1000000) : Calls Try.prog 21 #[.pointer (some ⟨q, 0, none⟩)] w (DPost F q w (.int .i64 (dSync s).1) (dSync s).2) := by
  have CL := Lib.hid (isLast_any F q s w h)
  rw [dSync_of ho hl]
  have hs : (dLast s).2.opn = s.opn := by unfold dLast; split <;> (try split) <;> rfl
  rw [hl] at CL
  have hfit := Lib.hid h.fit
  obtain ⟨C0, Y0, v0, L0, H0, h10⟩ := h.ex
  have c4 := H0.c4
  rw [ho] at c4
  rw [← hs] at hn
  generalize (dLast s).2 = s1 at *
  clear H0 h10 L0 h hs ho hl
  obtain ⟨Z, hZ⟩ : ∃ Z, Z = (wrC (0, blk0)).toArray := ⟨_, rfl⟩
  have hz := fun w => zero66 w
  rw [← hZ] at hz
  have hZ2 : Hid (Z.size = 65) := by show _ = _; rw [hZ]; simp [wrC, bytesV_len, blk0]
  clear hZ
  obtain ⟨d66, hd66, hr66⟩ := under66
  go_enter Try.func21, Try.ntmps21
  go_wp2_with (go_at_call 35; ((with_reducible refine CL.out.mono ?_); rintro e w6 ⟨rfl, hc, hd⟩; obtain ⟨C, Y, v, L, H, h1, h2, h3⟩ := hd.ex; obtain ⟨A, cap, rfl⟩ := own_form h3; have c1 := H.c1; have c2 := H.c2; have f2 := H.f2; have HD6 := Lib.hid hd; have HC6 := Lib.hid hc; have HL := Lib.hid L; have HH := Lib.hid H; have H1 := Lib.hid h1; have H2 := Lib.hid h2; have H3 := Lib.hid h3; clear hd hc L H h1 h2 h3))
  clear CL c4
  obtain ⟨m, hm⟩ : ∃ m, s1.opn.length = m := ⟨_, rfl⟩
  have hm2 := Lib.hid hm
  rw [hm] at c2 hn ⊢
  clear hm
  go_loopw [18] (fun v18 wr => ∃ k : Nat, v18 = .int .i64 k ∧ k ≤ m ∧ Hid (Chg (fun i => i = Y) w6 wr) ∧ Hid (BlkRow wr Y (applyL s1.safe (s1.opn.take k)))) (fun v18 _ => m - (intOf v18).toNat)
  case atStart => exact ⟨0, rfl, Nat.zero_le _, Chg.refl _ _, H2.out⟩
  case round =>
    obtain ⟨k, rfl, hk, HC, HB⟩ := hrel
    by_cases hlt : k < m
    · have hk2 : k < s1.opn.length := by rw [hm2.out]; exact hlt
      have hall := HD6.out.ok.all
      obtain ⟨O, cap', hA, hcap, hO, hrng⟩ := opn_at H3.out (fun x hx => (hall.2 x hx).2) hk2
      obtain ⟨rfl, hcc⟩ : A = some ⟨O, 0, none⟩ ∧ cap = cap' := by simpa [hm2.out] using hA
      have hOY : O ≠ Y := (HL.out.fv O rfl).2.2.2
      have hrng2 := rangeAt_of hrng (HC.out.block O hO hOY)
      have HS := Lib.hid (take_snocW s1.opn k hk2)
      have hx := hall.2 s1.opn[k] (List.getElem_mem hk2)
      generalize s1.opn[k] = x at *
      obtain ⟨at', b⟩ := x
      obtain ⟨hx1, hx2⟩ := hx
      have hwl := wrC_len (at', b) hx2
      have hone := bytesV_one b
      have hone66 := Lib.hid (all_oneCell_toArray (wrC_one (at', b)))
      obtain ⟨_, hvr, hvt, hvg⟩ := set_var wr Z 66 (wrC (at', b)) (by rw [hZ2.out, hwl])
      have hbl := bytesV_len b
      rw [hx2] at hbl
      have hu := Try.underlying40
      have hi : (Try.prog.info? 40).map (·.size) = some (bytesV b).length := size40 hbl.symm
      rw [show wrC (at', b) = .int .i64 (at' : Int) :: bytesV b from rfl] at hvr hrng2 hvt hwl hone66 hvg
      obtain ⟨t0, t1⟩ := range_tail hvr
      rw [Nat.zero_add] at t1
      have HVT := Lib.hid hvt
      have HVG := Lib.hid hvg
      have HR2 := Lib.hid hrng2
      have hC2 := (HC.out.trans (HVG.out.chg (F := fun i => i = Y)))
      have d1 := (hC2.cell (p := ⟨q, 1, none⟩) HH.out.lt (by show ¬ q = Y; exact HL.out.qY)).trans HH.out.c1
      have hYB := HB.out.of (HVG.out.block Y HB.out.lt) HVG.out.size
      have hLen : Hid ((applyL s1.safe (s1.opn.take k)).length = s1.safe.length) := applyL_len _ _
      have d2 := (hYB.at' at' (by rw [hLen.out]; exact hx1)).2
      have HNB := Lib.hid (hYB.set (k := at') (by rw [hLen.out]; exact hx1) b hx2)
      have HYB := Lib.hid hYB
      have HC2 := Lib.hid hC2
      have j1 : (k : Int) < (m : Int) := by omega
      have j2 : (at' : Int) < (s1.safe.length : Int) := by omega
      have j3 : (0 : Int) ≤ (at' : Int) := Int.natCast_nonneg _
      have hVY : wr.heap.size ≠ Y := by have := HB.out.lt; omega
      have hqY := HL.out.qY
      clear hvr hrng2 hvt hvg hrng hC2 hYB hall hA hk2 hO hOY hx1 hx2
      have HCS : Hid (∀ c : List Value, c = bytesV b → bytesV b = c) := fun c h => h.symm
      generalize hcs : bytesV b = cs at *
      have HCS := Lib.hid hcs
      clear hcs
      generalize s1.safe.length = n at *
      obtain ⟨wv, hwv⟩ : ∃ wv, wv = (wr.alloc (.cells Z 66)).setCells wr.heap.size 0 (.int .i64 (at' : Int) :: cs) := ⟨_, rfl⟩
      have HWV := Lib.hid hwv
      rw [← hwv] at HNB HYB HC2 HVG d1 d2 t0 t1
      clear hwv
      go_upto_region 6 with (first
        | (refine wpList_load_mid (by rfl) 66 _ (by rfl) O (k * 65) (by rfl) (.int .i64 (at' : Int) :: cs) _ HR2.out hd66 hr66 (size66 hwl.symm) ?_)
        | (refine wpList_store_mid (by rfl) 66 _ _ (by rfl) wr.heap.size 0 (.int .i64 (at' : Int) :: cs).toArray (by rfl) (by rfl) (by simpa using HVT.out) (size66 (by simpa using hwl.symm)) hone66.out ?_))
      rw [← HWV.out]
      have d0 : (wv.drew.setCells Y (at' * 64) cs).cell? ⟨q, 1, none⟩ = some (.slice (some ⟨Y, 0, none⟩) n n) := by
        rw [World.cell?_setCells_out _ _ _ _ _ (fun h => absurd h hqY)]; exact d1
      have t2 : (wv.drew.setCells Y (at' * 64) cs).cell? ⟨wr.heap.size, 0, none⟩ = some (.int .i64 (at' : Int)) := by
        rw [World.cell?_setCells_out _ _ _ _ _ (fun h => absurd h hVY)]; exact t0
      have t3 : (wv.drew.setCells Y (at' * 64) cs).rangeAt wr.heap.size 1 cs := World.rangeAt_setCells_apart ((World.rangeAt_drew _ _ _ _).2 t1) _ _ _ (Or.inl hVY)
      have d3 : (wv.drew.setCells Y (at' * 64) cs).there Y (at' * 64) 64 := World.there_setCells ((World.there_drew _ _ _ _).2 d2) _ _ _
      go_region_held3 (fun w' => w'.cell? ⟨q, 1, none⟩ = some (.slice (some ⟨Y, 0, none⟩) n n) ∧ w'.cell? ⟨wr.heap.size, 0, none⟩ = some (.int .i64 (at' : Int)) ∧ w'.rangeAt wr.heap.size 1 cs ∧ w'.there Y (at' * 64) 64) (first | exact ⟨d1, t0, (World.rangeAt_drew _ _ _ _).2 t1, (World.there_drew _ _ _ _).2 d2⟩ | exact ⟨d0, t2, t3, d3⟩) (fail)
      have HCE : Hid (Chg (fun i => i = Y) w6 (wv.drew.setCells Y (at' * 64) cs)) := (HC2.out.drew).setCells _ _ _ (fun _ => rfl)
      have HBE : Hid (BlkRow (wv.drew.setCells Y (at' * 64) cs) Y (applyL s1.safe (s1.opn.take (k + 1)))) := by
        have e : wv.drew.setCells Y (at' * 64) cs = (wv.setCells Y (at' * 64) cs).drew := by
          have : ∀ (vs : List Value) (o : Nat) (w : World), w.drew.setCells Y o vs = (w.setCells Y o vs).drew := by
            intro vs
            induction vs with
            | nil => intro o w; rfl
            | cons v r ih => intro o w; rw [World.setCells, World.setCells]; exact ih (o + 1) (w.setCell ⟨Y, o, none⟩ v)
          exact this _ _ _
        rw [e, HS.out, applyL_snoc]
        exact HNB.out.of rfl (Nat.le_refl _)
      generalize wv.drew.setCells Y (at' * 64) cs = we at *
      go_wp2
      go_roundw
      case rel => exact ⟨k + 1, by go_num, by omega, HBE⟩
      case measure => simp only [intOf]; omega
    · obtain rfl : k = m := by omega
      have d2 := (HC.out.cell (p := ⟨q, 2, none⟩) HH.out.lt (by show ¬ q = Y; exact HL.out.qY)).trans HH.out.c2
      have d3 := (HC.out.frozen (p := ⟨q, 2, none⟩) HH.out.lt (by show ¬ q = Y; exact HL.out.qY)).trans HH.out.f2
      have HP := Lib.hid (dk_sync HD6.out.fit HD6.out.ok HL.out HH.out H1.out HC.out (by have := HB.out; rwa [List.take_of_length_le (by rw [hm2.out]; exact Nat.le_refl _)] at this))
      go_wp2
      go_ret
      exact dpost_then hfit.out HC6.out ⟨rfl, HP.out⟩
theorem sync_any (F : Nat → Prop) (q : Nat) (s : DS) (w : World) (h : DK w F q s) (hn : s.opn.length ≤ 1000000) : Calls Try.prog 21 #[.pointer (some ⟨q, 0, none⟩)] w (DPost F q w (.int .i64 (dSync s).1) (dSync s).2) := by
  cases ho : s.off with
  | true => exact sync_off F q s w h ho
  | false =>
    cases hl : (dLast s).1 with
    | true => exact sync_last F q s w h ho hl
    | false => exact sync_ok F q s w h ho hl hn
end Go.Proofs.Ytgaopkfdbglnmaa.NumK
