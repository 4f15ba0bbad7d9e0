/- journal: Begin. -/
import Derived.Test.YthnhhhfjgbgpgaaRJnH
import Derived.Deep.RegionLaw
namespace Go.Proofs.Ythnhhhfjgbgpgaa.NumK
open Go.RowKit

theorem jk_mk {F N FD' G' : Nat → Prop} {lb q : Nat} {w w' : World} {s' : DS} {l' : LS} {r : Value} (hf : ∀ k, F k → k < w.heap.size) (hc : Chg N w w') (hN : ∀ k, k < w.heap.size → N k → F k) (hd : DK w' FD' q s') (hD : ∀ k, FD' k → FX F w w' k ∧ ¬ G' k)
    (hok : LOK s' l') (hl : LogM w' G' lb q (roomD s') l') (hG : ∀ k, G' k → FX F w w' k) : JPost F lb q w r s' l' (.returned r) w' :=
  ⟨rfl, ⟨hc.os, hc.tape, hc.output, hc.size, fun k hk hn => hc.block k hk (fun h => hn (hN k hk h))⟩, ⟨FD', hd, fun k hk => (hD k hk).1⟩, fun _ => ⟨fx_lt hf hc.size, hok, FD', G', hd, hl, hD, hG⟩⟩
theorem dSync_opn (s : DS) : (dSync s).2.opn.length ≤ s.opn.length := by
  unfold dSync
  split
  · exact Nat.le_refl _
  · split
    · unfold dLast; split
      · exact Nat.le_refl _
      · split <;> exact Nat.le_refl _
    · exact Nat.zero_le _
theorem clrM_opn (s : DS) (first room : Nat) : (clrM s first room).2.opn.length ≤ s.opn.length + room := by
  have h1 := wrL_opn s first (List.replicate room blk0)
  rw [List.length_replicate] at h1
  unfold clrM
  split
  · exact h1
  · exact Nat.le_trans (dSync_opn _) h1
theorem clrM_room (s : DS) (first room : Nat) : roomD (clrM s first room).2 = roomD s := by
  unfold clrM
  split
  · unfold roomD; rw [wrL_keeps]
  · rw [roomD_sync]; unfold roomD; rw [wrL_keeps]
theorem putM_room (s : DS) (at' g no : Nat) (p : List UInt8) : roomD (putM s at' g no p).2 = roomD s := by unfold putM roomD; rw [wrL_keeps]
theorem putM_opn (s : DS) (at' g no : Nat) (p : List UInt8) : (putM s at' g no p).2.opn.length ≤ s.opn.length + nbk (p.length + 21) := by
  have := wrL_opn s at' (rowL g (frameB g no p))
  rw [rowL_len] at this
  exact this
theorem lBegin_eq (s : DS) (l : LS) (snap : List UInt8) : lBegin s l snap =
    if l.gen = 1099511627776 then (1, s, l) else if 65536 < snap.length then (5, s, l) else if roomD s < nbk (snap.length + 21) then (9, s, l) else
    if (clrM s ((1 - l.half) * roomD s) (roomD s)).1 ≠ 0 then ((clrM s ((1 - l.half) * roomD s) (roomD s)).1, (clrM s ((1 - l.half) * roomD s) (roomD s)).2, l) else
    if (putM (clrM s ((1 - l.half) * roomD s) (roomD s)).2 ((1 - l.half) * roomD s) (l.gen + 1) 0 snap).1 ≠ 0 then ((putM (clrM s ((1 - l.half) * roomD s) (roomD s)).2 ((1 - l.half) * roomD s) (l.gen + 1) 0 snap).1, (putM (clrM s ((1 - l.half) * roomD s) (roomD s)).2 ((1 - l.half) * roomD s) (l.gen + 1) 0 snap).2, l) else
    if (dSync (putM (clrM s ((1 - l.half) * roomD s) (roomD s)).2 ((1 - l.half) * roomD s) (l.gen + 1) 0 snap).2).1 ≠ 0 then ((dSync (putM (clrM s ((1 - l.half) * roomD s) (roomD s)).2 ((1 - l.half) * roomD s) (l.gen + 1) 0 snap).2).1, (dSync (putM (clrM s ((1 - l.half) * roomD s) (roomD s)).2 ((1 - l.half) * roomD s) (l.gen + 1) 0 snap).2).2, l) else
    (0, (dSync (putM (clrM s ((1 - l.half) * roomD s) (roomD s)).2 ((1 - l.half) * roomD s) (l.gen + 1) 0 snap).2).2, ⟨1 - l.half, l.gen + 1, snap, [], nbk (snap.length + 21), true⟩) := by
  unfold lBegin
  by_cases h1 : l.gen = 1099511627776
  · rw [if_pos h1, if_pos h1]
  · rw [if_neg h1, if_neg h1]
    by_cases h2 : 65536 < snap.length
    · rw [if_pos h2, if_pos h2]
    · rw [if_neg h2, if_neg h2]
      by_cases h3 : roomD s < nbk (snap.length + 21)
      · rw [if_pos h3, if_pos h3]
      · rw [if_neg h3, if_neg h3]
        dsimp only
        by_cases h4 : (wrL s ((1 - l.half) * roomD s) (List.replicate (roomD s) blk0)).1 ≠ 0
        · have hcl : clrM s ((1 - l.half) * roomD s) (roomD s) = wrL s ((1 - l.half) * roomD s) (List.replicate (roomD s) blk0) := by unfold clrM; rw [if_pos h4]
          rw [if_pos h4, hcl, if_pos h4]
        · have hcl : clrM s ((1 - l.half) * roomD s) (roomD s) = dSync (wrL s ((1 - l.half) * roomD s) (List.replicate (roomD s) blk0)).2 := by unfold clrM; rw [if_neg h4]
          rw [if_neg h4, hcl]
          rfl
theorem refV_one (room : Nat) (p : List UInt8) : refV room [p] = if 65536 < p.length then 5 else if room < nbk (p.length + 21) then 9 else 0 := by
  unfold refV spanL spanL
  simp
/-- What is told where nothing was done. -/
theorem jk_same {F : Nat → Prop} {lb q : Nat} {w w' : World} {s : DS} {l : LS} {r : Value} (h : JK w F lb q s l) (g : Grew w w') : JPost F lb q w r s l (.returned r) w' := by
  obtain ⟨FD, G, h1, h2, h3, h4⟩ := h.ex
  exact jk_mk (N := fun _ => False) h.fit g.chg (fun _ _ h => h.elim) (h1.grew g) (fun k hk => ⟨Or.inl (h3 k hk).1, (h3 k hk).2⟩) h.ok (h2.grew g) (fun k hk => Or.inl (h4 k hk))
/-- A Begin that is broken off: the log is as it was. -/
theorem jk_fail {F FD G FD' : Nat → Prop} {lb q : Nat} {w w' : World} {s s' : DS} {l : LS} {r : Value} (hf : ∀ k, F k → k < w.heap.size) (hok : LOK s l) (hm : LogM w G lb q (roomD s) l) (hDG : ∀ k, FD k → F k ∧ ¬ G k) (hGF : ∀ k, G k → F k)
    (hc : Chg (fun k => FD k ∨ w.heap.size ≤ k) w w') (hd : DK w' FD' q s') (hD : ∀ k, FD' k → FD k ∨ (w.heap.size ≤ k ∧ k < w'.heap.size)) (hr : roomD s' = roomD s) : JPost F lb q w r s' l (.returned r) w' := by
  have hm2 : LogM w' G lb q (roomD s') l := by
    rw [hr]
    refine hm.chg hc (fun k hg hN => ?_)
    rcases hN with hN | hN
    · exact (hDG k hN).2 hg
    · have := hm.fit k hg; omega
  refine jk_mk hf hc (fun k hk hN => ?_) hd (fun k hk => ?_) (hok.room hr) hm2 (fun k hk => Or.inl (hGF k hk))
  · rcases hN with hN | hN
    · exact (hDG k hN).1
    · omega
  · rcases hD k hk with h1 | h1
    · exact ⟨Or.inl (hDG k h1).1, (hDG k h1).2⟩
    · exact ⟨Or.inr h1, fun hg => by have := hm.fit k hg; omega⟩
/-- A new half in a variable of its own, with a copy of the snapshot. -/
structure NewHalf (w2 wx : World) (H ot : Nat) (g1 : Int) (A5 : Option Addr) (n c5 : Nat) (p : List UInt8) : Prop where
  grew : Grew w2 wx
  lo : w2.heap.size ≤ H
  hi : H < wx.heap.size
  rng : wx.rangeAt H 0 [.int .i64 (ot : Int), .int .i64 g1, .slice A5 n c5, .slice none 0 0, .int .i64 (ot : Int)]
  thr : wx.there H 0 5
  sl : SlB wx w2.heap.size (.slice A5 n c5) p
  ne : ∀ k, (Value.slice A5 n c5).ownBlock = some k → k ≠ H
theorem newHalf1 {w2 w5 : World} {ot : Nat} {g1 : Int} {A5 : Option Addr} {n c5 : Nat} {p : List UInt8} (hnp : p.length = n) (hg5 : Grew (w2.alloc (.cells #[.int .i64 0, .int .i64 0, .slice none 0 0, .slice none 0 0, .int .i64 0] 78)).drew w5)
    (ho5 : w5.ownsRow (w2.alloc (.cells #[.int .i64 0, .int .i64 0, .slice none 0 0, .slice none 0 0, .int .i64 0] 78)).drew.heap.size 5 1 (.slice A5 n c5) n (p.map byv)) :
    NewHalf w2 (((((w5.setCell ⟨w2.heap.size, 0, none⟩ (.int .i64 (ot : Int))).setCell ⟨w2.heap.size, 1, none⟩ (.int .i64 g1)).setCell ⟨w2.heap.size, 2, none⟩ (.slice A5 n c5)).setCell ⟨w2.heap.size, 3, none⟩ (.slice none 0 0)).setCell ⟨w2.heap.size, 4, none⟩ (.int .i64 (ot : Int))) w2.heap.size ot g1 A5 n c5 p := by
  obtain ⟨hra, hta⟩ := alloc_range w2 [.int .i64 0, .int .i64 0, .slice none 0 0, .slice none 0 0, .int .i64 0] 78
  have hsz : (w2.alloc (.cells #[.int .i64 0, .int .i64 0, .slice none 0 0, .slice none 0 0, .int .i64 0] 78)).drew.heap.size = w2.heap.size + 1 := by show (World.alloc _ _).heap.size = _; simp
  have hlt5 : w2.heap.size < w5.heap.size := by have := hg5.size; omega
  have hb : w5.heap[w2.heap.size]? = (w2.alloc (.cells #[.int .i64 0, .int .i64 0, .slice none 0 0, .slice none 0 0, .int .i64 0] 78)).heap[w2.heap.size]? := hg5.block _ (by rw [hsz]; omega)
  have r0 := rangeAt_of hra hb
  have t0 : w5.there w2.heap.size 0 5 := there_of hta hb
  have r5 := rangeAt_set (rangeAt_set (rangeAt_set (rangeAt_set (rangeAt_set r0 0 (by simp) (.int .i64 (ot : Int))) 1 (by simp) (.int .i64 g1)) 2 (by simp) (.slice A5 n c5)) 3 (by simp) (.slice none 0 0)) 4 (by simp) (.int .i64 (ot : Int))
  have hc : Chg (fun k => k = w2.heap.size) w5 (((((w5.setCell ⟨w2.heap.size, 0, none⟩ (.int .i64 (ot : Int))).setCell ⟨w2.heap.size, 1, none⟩ (.int .i64 g1)).setCell ⟨w2.heap.size, 2, none⟩ (.slice A5 n c5)).setCell ⟨w2.heap.size, 3, none⟩ (.slice none 0 0)).setCell ⟨w2.heap.size, 4, none⟩ (.int .i64 (ot : Int))) :=
    ((((((Chg.refl (fun k => k = w2.heap.size) w5).setCell ⟨_, 0, none⟩ _ (fun _ => rfl)).setCell ⟨_, 1, none⟩ _ (fun _ => rfl)).setCell ⟨_, 2, none⟩ _ (fun _ => rfl)).setCell ⟨_, 3, none⟩ _ (fun _ => rfl)).setCell ⟨_, 4, none⟩ _ (fun _ => rfl))
  have hgw : Grew w2 w5 := grew_trans (grew_drew (grew_alloc w2 _ _)) hg5
  have hs : SlB w5 (w2.heap.size + 1) (.slice A5 n c5) p := by
    show World.ownsRow _ _ _ _ _ _ _
    rw [hnp, ← hsz]; exact ho5
  refine ⟨Chg.grew hgw hc (fun k hk => by omega), Nat.le_refl _, Nat.lt_of_lt_of_le hlt5 hc.size, ?_, there_set (there_set (there_set (there_set (there_set t0 _ _) _ _) _ _) _ _) _ _, (hs.above fun k h1 h2 => hc.block k h2 (by omega)).mono (by omega), fun k hk => ?_⟩
  · simpa using r5
  · have := (World.ownsRow.lt hs k hk).1; omega
theorem newHalf2 {w2 w5 : World} {ot : Nat} {g1 : Int} {A5 : Option Addr} {n c5 : Nat} {p : List UInt8} (hnp : p.length = n) (hg5 : Grew w2.drew w5) (ho5 : w5.ownsRow w2.drew.heap.size 5 1 (.slice A5 n c5) n (p.map byv)) :
    NewHalf w2 (w5.alloc (.cells #[.int .i64 (ot : Int), .int .i64 g1, .slice A5 n c5, .slice none 0 0, .int .i64 (ot : Int)] 78)) w5.heap.size ot g1 A5 n c5 p := by
  obtain ⟨hra, hta⟩ := alloc_range w5 [.int .i64 (ot : Int), .int .i64 g1, .slice A5 n c5, .slice none 0 0, .int .i64 (ot : Int)] 78
  have hgw : Grew w2 w5 := grew_trans (grew_drew (grew_refl w2)) hg5
  have hs : SlB w5 w2.heap.size (.slice A5 n c5) p := by
    show World.ownsRow _ _ _ _ _ _ _
    rw [hnp]; exact ho5
  exact ⟨grew_trans hgw (grew_alloc _ _ _), hgw.size, by simp, hra, hta, hs.keep (grew_alloc _ _ _), fun k hk => by have := (World.ownsRow.lt hs k hk).2; omega⟩
/-- Bytes stay, where a block that holds some is not turned. -/
theorem Bys.chg0 {F : Nat → Prop} {w w' : World} {A : Option Addr} {n : Nat} {l : List UInt8} (h : Bys w A n l) (g : Chg F w w') (hA : ∀ a, A = some a → 0 < n → ¬ F a.block) : Bys w' A n l :=
  ⟨h.1, fun hn => by
    obtain ⟨b, o, e, hb, hc⟩ := h.2 hn
    exact ⟨b, o, e, Nat.lt_of_lt_of_le hb g.size, fun j hj => (g.cell (p := ⟨b, o + j, none⟩) hb (by simpa using hA _ e hn)).trans (hc j hj)⟩⟩
set_option maxRecDepth 100000 in
set_option maxHeartbeats 4000000 in
theorem beginJ_any (F : Nat → Prop) (lb q : Nat) (s : DS) (l : LS) (p : List UInt8) (A : Option Addr) (n c : Nat) (w : World) (h : JK w F lb q s l) (hp : Bys w A n p) (hA : A = none → c = 0) (hc : n ≤ c) (hAF : ∀ a, A = some a → 0 < n → ¬ F a.block) (hcn : n ≤ 140737488355328)
    (hn : s.opn.length ≤ 500000) :
    Calls Try.prog 20 #[.pointer (some ⟨lb, 0, none⟩), .slice A n c] w (JPost F lb q w (.int .i64 (lBegin s l p).1) (lBegin s l p).2.1 (lBegin s l p).2.2) := by
  have HJ := Lib.hid h
  obtain ⟨FD, G, hd, hm, hDG, hGF⟩ := h.ex
  obtain ⟨sv, rv, hr, ht, -⟩ := hm.ex
  obtain ⟨c0, c1, c2, c3, c4, c5, c6⟩ := range7 hr
  have hlb : lb < w.heap.size := hm.fit lb hm.here
  have hlbD : ¬ FD lb := fun h => (hDG lb h).2 hm.here
  have hnp := hp.1
  have hfew := hd.ok.few
  have hroom : roomD s ≤ 32768 := by unfold roomD; omega
  have hE := lBegin_eq s l p
  by_cases hbig : l.gen = 1099511627776
  · rw [if_pos hbig] at hE
    rw [hbig] at c3
    have HP : Hid (JPost F lb q w (.int .i64 (lBegin s l p).1) (lBegin s l p).2.1 (lBegin s l p).2.2 (.returned (.int .i64 1)) w) := by
      show JPost _ _ _ _ _ _ _ _ _
      rw [hE]; exact jk_same h (grew_refl _)
    clear hE hd hm hr h
    go_enter Try.func20, Try.ntmps20
    go_wp2
    go_ret
    exact HP.out
  · rw [if_neg hbig] at hE
    have d1 : ((l.gen : Int) == 1099511627776) = false := by simp; omega
    have SZ := Lib.hid (fun w' (g : Grew w w') => size_any FD lb q s w' (hd.grew g) ((grew_cell g (p := ⟨lb, 0, none⟩) hlb).trans c0))
    have RF := Lib.hid (refusesJ_any (roomD s) (some ⟨w.heap.size, 0, none⟩) 1 1 [p] (w.alloc (.cells #[.slice A n c] 37)) (rows1 37 hp hA hc (by omega)) (by omega))
    rw [refV_one, hnp] at RF
    rw [hnp] at hE
    have SZ0 := Lib.hid (SZ.out w (grew_refl _))
    by_cases hlong : 65536 < n
    · rw [if_pos hlong] at hE RF
      have HP : Hid (∀ w', Grew w w' → JPost F lb q w (.int .i64 (lBegin s l p).1) (lBegin s l p).2.1 (lBegin s l p).2.2 (.returned (.int .i64 5)) w') := by
        intro w' g
        rw [hE]; exact jk_same h g
      clear hE hd hm hr h SZ hbig
      go_enter Try.func20, Try.ntmps20
      go_wp2_with (first
        | (go_at_call 41; ((with_reducible refine SZ0.out.mono ?_); rintro e w1 ⟨rfl, rfl⟩))
        | (go_at_call 45; ((with_reducible refine RF.out.mono ?_); rintro e w1 ⟨rfl, rfl⟩)))
      go_ret
      exact HP.out _ (grew_alloc _ _ _)
    · rw [if_neg hlong] at hE RF
      by_cases hfull : roomD s < nbk (n + 21)
      · rw [if_pos hfull] at hE RF
        have HP : Hid (∀ w', Grew w w' → JPost F lb q w (.int .i64 (lBegin s l p).1) (lBegin s l p).2.1 (lBegin s l p).2.2 (.returned (.int .i64 9)) w') := by
          intro w' g
          rw [hE]; exact jk_same h g
        clear hE hd hm hr h SZ hbig
        go_enter Try.func20, Try.ntmps20
        go_wp2_with (first
          | (go_at_call 41; ((with_reducible refine SZ0.out.mono ?_); rintro e w1 ⟨rfl, rfl⟩))
          | (go_at_call 45; ((with_reducible refine RF.out.mono ?_); rintro e w1 ⟨rfl, rfl⟩)))
        go_ret
        exact HP.out _ (grew_alloc _ _ _)
      · rw [if_neg hfull] at hE RF
        have hok := h.ok
        obtain ⟨ot, hot⟩ : ∃ ot, ot = (1 - l.half) * roomD s := ⟨_, rfl⟩
        have hot2 : (roomD s : Int) - ((l.half * roomD s : Nat) : Int) = (ot : Int) ∧ ot + roomD s ≤ s.safe.length := by
          have h2 := hok.half
          have h3 : 2 * roomD s ≤ s.safe.length := by unfold roomD; omega
          rcases (by omega : l.half = 0 ∨ l.half = 1) with hh | hh <;> rw [hot, hh] <;> omega
        rw [← hot] at hE
        have i1 : IntKind.i64.wrap ((roomD s : Int) - ((l.half * roomD s : Nat) : Int)) = (ot : Int) := by rw [hot2.1, IntKind.wrap_i64]; omega
        have i2 : IntKind.i64.wrap ((l.gen : Int) + 1) = (l.gen : Int) + 1 := by have := hok.gen; rw [IntKind.wrap_i64]; omega
        have HOT := Lib.hid hot2
        have HOTe := Lib.hid hot
        have HC0 := Lib.hid c0
        have HRL := Lib.hid hr
        have HTL := Lib.hid ht
        have HFULL : Hid (nbk (n + 21) ≤ roomD s) := by show _ ≤ _; omega
        have HLONG : Hid (n ≤ 65536) := by show _ ≤ _; omega
        have HBIG := Lib.hid hbig
        clear hot hot2 ht
        have ga := grew_alloc w #[.slice A n c] 37
        have e2 := (grew_cell ga (p := ⟨lb, 2, none⟩) hlb).trans c2
        have e3 := (grew_cell ga (p := ⟨lb, 3, none⟩) hlb).trans c3
        have hlb1 : lb < (w.alloc (.cells #[.slice A n c] 37)).heap.size := Nat.lt_of_lt_of_le hlb ga.size
        have hp1 := hp.keep ga
        have HE := Lib.hid hE
        go_enter Try.func20, Try.ntmps20
        go_upto_region 6 with (first
          | (go_at_call 41; ((with_reducible refine SZ0.out.mono ?_); rintro e w1 ⟨rfl, rfl⟩))
          | (go_at_call 45; ((with_reducible refine RF.out.mono ?_); rintro e w1 ⟨rfl, rfl⟩)))
        clear hE hr h RF SZ0 c0 c1 c2 c3 c4 c5 c6 hfull hlong hbig
        generalize w.alloc (.cells #[.slice A n c] 37) = w1 at *
        have SZ1 : Hid (∀ m, Calls Try.prog 41 #[.pointer (some ⟨lb, 0, none⟩)] (w1.drewN m) fun e w2 => e = .returned (.int .i64 (roomD s : Int)) ∧ w1.drewN m = w2) := fun m => SZ.out _ (grew_drewN ga m)
        generalize hrm : roomD s = room at *
        generalize hhr : l.half * room = hroomx at *
        go_quiet (first | (go_at_call 41; with_reducible exact quiet_keep (SZ1.out _)))
        have ga2 := grew_drewN ga nq
        have f3 : (w1.drewN nq).cell? ⟨lb, 3, none⟩ = some (.int .i64 (l.gen : Int)) := (grew_cell (grew_drewN (grew_refl w1) nq) (p := ⟨lb, 3, none⟩) hlb1).trans e3
        have hp2 := hp1.keep (grew_drewN (grew_refl w1) nq)
        have hlb2 := Nat.lt_of_lt_of_le hlb1 (grew_drewN (grew_refl w1) nq).size
        clear hp1 e2 e3 SZ1 SZ i1 hlb1 ga
        generalize w1.drewN nq = w2 at *
        go_upto_region 7 with fail
        -- the new half
        have hzh : ∀ w, (zeroValue 78).run Try.prog w = .ok (.agg #[.int .i64 0, .int .i64 0, .slice none 0 0, .slice none 0 0, .int .i64 0]) w := fun w => (zero_of_info infoHalf).1 w
        obtain ⟨-, htA⟩ := alloc_range w2 [.int .i64 0, .int .i64 0, .slice none 0 0, .slice none 0 0, .int .i64 0] 78
        have hgA := grew_alloc w2 #[.int .i64 0, .int .i64 0, .slice none 0 0, .slice none 0 0, .int .i64 0] 78
        have CC1 := Lib.hid (copied_any A n c p (w2.alloc (.cells #[.int .i64 0, .int .i64 0, .slice none 0 0, .slice none 0 0, .int .i64 0] 78)).drew (hp2.keep (grew_drew hgA)) hA hcn)
        have CC2 := Lib.hid (copied_any A n c p w2.drew (hp2.keep (grew_drew (grew_refl _))) hA hcn)
        have f3A : (w2.alloc (.cells #[.int .i64 0, .int .i64 0, .slice none 0 0, .slice none 0 0, .int .i64 0] 78)).cell? ⟨lb, 3, none⟩ = some (.int .i64 (l.gen : Int)) := (grew_cell hgA (p := ⟨lb, 3, none⟩) hlb2).trans f3
        have HW1 : Hid (∀ w5, Grew (w2.alloc (.cells #[.int .i64 0, .int .i64 0, .slice none 0 0, .slice none 0 0, .int .i64 0] 78)).drew w5 → (w5.cell? ⟨w2.heap.size, 0, none⟩ = some (.int .i64 0) ∧ w5.cell? ⟨w2.heap.size, 1, none⟩ = some (.int .i64 0) ∧ w5.cell? ⟨w2.heap.size, 2, none⟩ = some (.slice none 0 0) ∧ w5.cell? ⟨w2.heap.size, 3, none⟩ = some (.slice none 0 0) ∧ w5.cell? ⟨w2.heap.size, 4, none⟩ = some (.int .i64 0)) ∧
            w5.frozen? ⟨w2.heap.size, 0, none⟩ = false ∧ w5.frozen? ⟨w2.heap.size, 1, none⟩ = false ∧ w5.frozen? ⟨w2.heap.size, 2, none⟩ = false ∧ w5.frozen? ⟨w2.heap.size, 3, none⟩ = false ∧ w5.frozen? ⟨w2.heap.size, 4, none⟩ = false) := by
          intro w5 g
          have hb : w5.heap[w2.heap.size]? = (w2.alloc (.cells #[.int .i64 0, .int .i64 0, .slice none 0 0, .slice none 0 0, .int .i64 0] 78)).heap[w2.heap.size]? := g.block _ (by show _ < (World.alloc _ _).heap.size; simp)
          obtain ⟨hra, hta⟩ := alloc_range w2 [.int .i64 0, .int .i64 0, .slice none 0 0, .slice none 0 0, .int .i64 0] 78
          have h1 := range5 (rangeAt_of hra hb)
          have h2 := there_of hta hb
          have t0 := (h2 0 (by simp)).2
          have t1 := (h2 1 (by simp)).2
          have t2 := (h2 2 (by simp)).2
          have t3 := (h2 3 (by simp)).2
          have t4 := (h2 4 (by simp)).2
          simp only [Nat.zero_add] at h1 t0 t1 t2 t3 t4
          exact ⟨h1, t0, t1, t2, t3, t4⟩
        have HK5 : Hid (∀ w5 : World, w5.cell? ⟨lb, 3, none⟩ = some (.int .i64 (l.gen : Int)) → lb < w5.heap.size → (∀ cs t, (w5.alloc (.cells cs t)).cell? ⟨lb, 3, none⟩ = some (.int .i64 (l.gen : Int))) ∧
            (∀ v0 v1 v2 v3 v4, (((((w5.setCell ⟨w2.heap.size, 0, none⟩ v0).setCell ⟨w2.heap.size, 1, none⟩ v1).setCell ⟨w2.heap.size, 2, none⟩ v2).setCell ⟨w2.heap.size, 3, none⟩ v3).setCell ⟨w2.heap.size, 4, none⟩ v4).cell? ⟨lb, 3, none⟩ = some (.int .i64 (l.gen : Int)))) := by
          intro w5 h1 h2
          refine ⟨fun cs t => (grew_cell (grew_alloc _ _ _) (p := ⟨lb, 3, none⟩) h2).trans h1, fun v0 v1 v2 v3 v4 => ?_⟩
          have hne : ∀ i, (⟨w2.heap.size, i, none⟩ : Addr) ≠ ⟨lb, 3, none⟩ := fun i e => by simp only [Addr.mk.injEq] at e; omega
          rw [World.cell?_setCell_other _ _ _ _ (hne 4), World.cell?_setCell_other _ _ _ _ (hne 3), World.cell?_setCell_other _ _ _ _ (hne 2), World.cell?_setCell_other _ _ _ _ (hne 1), World.cell?_setCell_other _ _ _ _ (hne 0)]
          exact h1
        have HKA : Hid (∀ w5, Grew (w2.alloc (.cells #[.int .i64 0, .int .i64 0, .slice none 0 0, .slice none 0 0, .int .i64 0] 78)).drew w5 → w5.cell? ⟨lb, 3, none⟩ = some (.int .i64 (l.gen : Int)) ∧ lb < w5.heap.size) := fun w5 g =>
          ⟨(grew_cell g (p := ⟨lb, 3, none⟩) (Nat.lt_of_lt_of_le hlb2 hgA.size)).trans f3A, Nat.lt_of_lt_of_le hlb2 (Nat.le_trans hgA.size g.size)⟩
        have HKB : Hid (∀ w5, Grew w2.drew w5 → w5.cell? ⟨lb, 3, none⟩ = some (.int .i64 (l.gen : Int)) ∧ lb < w5.heap.size) := fun w5 g =>
          ⟨(grew_cell g (p := ⟨lb, 3, none⟩) hlb2).trans f3, Nat.lt_of_lt_of_le hlb2 g.size⟩
        go_cut [7] from 11 to 73 (fun s7 wx => ∃ (H : Nat) (A5 : Option Addr) (c5 : Nat), s7 = .pointer (some ⟨H, 0, none⟩) ∧ NewHalf w2 wx H ot ((l.gen : Int) + 1) A5 n c5 p)
        case first =>
          go_region_held3 (fun w' => w'.cell? ⟨lb, 3, none⟩ = some (.int .i64 (l.gen : Int)))
            (first
              | (with_reducible exact k5)
              | (with_reducible exact k5a _ _)
              | (with_reducible exact k5s _ _ _ _ _)
              | exact f3
              | exact f3A)
            (first
              | (go_at_call 46; ((with_reducible refine CC1.out.mono ?_); rintro e w5 ⟨hg5, A5, c5, rfl, ho5, hb5, hA5, -⟩; obtain ⟨⟨x0, x1, x2, x3, x4⟩, y0, y1, y2, y3, y4⟩ := HW1.out w5 hg5; obtain ⟨k5, kl⟩ := HKA.out w5 hg5; obtain ⟨k5a, k5s⟩ := HK5.out w5 k5 kl))
              | (go_at_call 46; ((with_reducible refine CC2.out.mono ?_); rintro e w5 ⟨hg5, A5, c5, rfl, ho5, hb5, hA5, -⟩; obtain ⟨k5, kl⟩ := HKB.out w5 hg5; obtain ⟨k5a, k5s⟩ := HK5.out w5 k5 kl)))
          all_goals go_wp2
          all_goals go_meet
          all_goals (first | exact ⟨_, _, _, rfl, newHalf2 hnp hg5 ho5⟩ | exact ⟨_, _, _, rfl, newHalf1 hnp hg5 ho5⟩)
        case rest =>
          obtain ⟨H, A5, c5, rfl, NH⟩ := hcut
          clear CC1 CC2 HW1 HKA HKB HK5 f3A f3 htA hgA hzh
          have hgw := grew_trans ga2 NH.grew
          have g0 := (grew_cell hgw (p := ⟨lb, 0, none⟩) hlb).trans HC0.out
          have hlbc : lb < wc.heap.size := Nat.lt_of_lt_of_le hlb hgw.size
          have CL := clear_any FD lb q s ot wc (hd.grew hgw) g0 hlbD hlbc (by rw [hrm]; omega) (by have := HOT.out.2; omega)
          rw [hrm] at CL
          obtain ⟨y1, y2, hy⟩ : ∃ y1 y2, clrM s ot room = (y1, y2) := ⟨_, _, rfl⟩
          have hyr := clrM_room s ot room
          have hyo := clrM_opn s ot room
          have HEy := HE.out
          rw [hrm] at hyr
          rw [hy] at CL hyr hyo HEy
          dsimp only at CL hyr hyo HEy
          have HE2 := Lib.hid HEy
          have HCL := Lib.hid CL
          have hN0 : Chg (fun k => FD k ∨ w.heap.size ≤ k) w wc := hgw.chg
          have hFl : ∀ k, FD k → k < w.heap.size := fun k hk => hd.fit k hk
          have HFail := Lib.hid (fun r (s' : DS) (FD' : Nat → Prop) (w' : World) hc hd' hD hr => jk_fail (F := F) (FD := FD) (G := G) (FD' := FD') (lb := lb) (q := q) (w := w) (w' := w') (s := s) (s' := s') (l := l) (r := r) HJ.out.fit hok (by rw [hrm]; exact hm) hDG hGF hc hd' hD (by rw [hrm]; exact hr))
          clear CL HEy HE hy
          have hws := hgw.size
          by_cases hy1 : y1 = 0
          · subst hy1
            rw [if_neg (by simp)] at HE2
            -- the row
            have hop3 : y2.opn.length ≤ 900000 := by omega
            have hw02 := ga2.size
            have PU := Lib.hid (fun w3 (hc3 : Chg FD wc w3) (hd3 : DK w3 (FX FD wc w3) q y2) =>
              put_any (FX FD wc w3) H q y2 (l.gen + 1) 0 ot p A n c (.int .i64 (ot : Int)) (.slice A5 n c5) (.slice none 0 0) w3 hd3
                (fun hF => by have h1 := NH.lo; have h2 := NH.hi; rcases hF with hF | hF; · have := hFl H hF; omega
                              · omega)
                (Nat.lt_of_lt_of_le NH.hi hc3.size)
                (by have hb := hc3.block H NH.hi (fun hF => by have h1 := NH.lo; have := hFl H hF; omega)
                    have := rangeAt_of NH.rng hb
                    rw [Int.natCast_add]; exact this)
                (there_of NH.thr (hc3.block H NH.hi (fun hF => by have h1 := NH.lo; have := hFl H hF; omega)))
                ((hp.keep hgw).chg0 hc3 (fun a ha h0 hF => hAF a ha h0 (hDG _ hF).1)) hA hc (by have := hok.gen; have := HBIG.out; omega) (by omega) (by rw [hnp]; exact HLONG.out) hop3 (by have := HOT.out.2; omega))
            rw [show ((0 : Nat) : Int) = 0 from rfl] at PU
            obtain ⟨z1, z2, hzz⟩ : ∃ z1 z2, putM y2 ot (l.gen + 1) 0 p = (z1, z2) := ⟨_, _, rfl⟩
            have hzr := putM_room y2 ot (l.gen + 1) 0 p
            have hzo := putM_opn y2 ot (l.gen + 1) 0 p
            have HEz := HE2.out
            rw [hzz] at PU hzr hzo HEz
            dsimp only at PU hzr hzo HEz
            rw [hyr] at hzr
            have HE3 := Lib.hid HEz
            clear HEz HE2 hzz
            have hnb : nbk (p.length + 21) ≤ 1058 := by have := HLONG.out; unfold nbk; omega
            have hop4 : z2.opn.length ≤ 1000000 := by omega
            have PU2 := Lib.hid (fun w3 (hc3 : Chg FD wc w3) (hd3 : DK w3 (FX FD wc w3) q y2) e w4 (P : PutPost (FX FD wc w3) H q (z1, z2) (.int .i64 (ot : Int)) (.slice A5 n c5) (.slice none 0 0) (l.gen + 1) (ot + nbk (n + 21)) w3 e w4) => (P : _))
            by_cases hz1 : z1 = 0
            · subst hz1
              rw [if_neg (by simp)] at HE3
              have G4 : Hid (∀ w3 w4, Chg FD wc w3 → Chg (fun k => FX FD wc w3 k ∨ k = H) w3 w4 → w4.cell? ⟨lb, 0, none⟩ = some (.pointer (some ⟨q, 0, none⟩))) := fun w3 w4 hc3 hc4 =>
                (hc4.cell (p := ⟨lb, 0, none⟩) (Nat.lt_of_lt_of_le hlbc hc3.size) (fun hh => by
                  have h6 := NH.lo
                  rcases hh with (hh | hh) | hh
                  · exact hlbD hh
                  · have h7 : wc.heap.size ≤ lb := hh.1
                    omega
                  · have h7 : lb = H := hh
                    omega)).trans ((hc3.cell (p := ⟨lb, 0, none⟩) hlbc hlbD).trans g0)
              have SY := Lib.hid (fun w4 Fk (hd4 : DK w4 Fk q z2) => sync_any Fk q z2 w4 hd4 hop4)
              obtain ⟨v1, v2, hvv⟩ : ∃ v1 v2, dSync z2 = (v1, v2) := ⟨_, _, rfl⟩
              have hvr := roomD_sync z2
              have HEv := HE3.out
              rw [hvv] at SY hvr HEv
              dsimp only at SY hvr HEv
              rw [hzr] at hvr
              have HE4 := Lib.hid HEv
              clear HEv HE3 hvv
              by_cases hv1 : v1 = 0
              · subst hv1
                rw [if_neg (by simp)] at HE4
                have HP : Hid (∀ w3 w4 Fk w5, Chg FD wc w3 → Chg (fun k => FX FD wc w3 k ∨ k = H) w3 w4 → (∀ k, Fk k → FX (FX FD wc w3) w3 w4 k ∧ k ≠ H) → w4.rangeAt H 0 [.int .i64 (ot : Int), .int .i64 ((l.gen : Int) + 1), .slice A5 n c5, .slice none 0 0, .int .i64 ((ot + nbk (n + 21) : Nat) : Int)] → Chg Fk w4 w5 → DK w5 (FX Fk w4 w5) q v2 →
                    w5.rangeAt H 0 [.int .i64 (ot : Int), .int .i64 ((l.gen : Int) + 1), .slice A5 n c5, .slice none 0 0, .int .i64 ((ot + nbk (n + 21) : Nat) : Int)] ∧ w5.there lb 2 5 ∧
                    (∃ x, (w5.setCells lb 2 [.int .i64 (ot : Int), .int .i64 ((l.gen : Int) + 1), .slice A5 n c5, .slice none 0 0, .int .i64 ((ot + nbk (n + 21) : Nat) : Int)]).cell? ⟨lb, 1, none⟩ = some x) ∧ (w5.setCells lb 2 [.int .i64 (ot : Int), .int .i64 ((l.gen : Int) + 1), .slice A5 n c5, .slice none 0 0, .int .i64 ((ot + nbk (n + 21) : Nat) : Int)]).frozen? ⟨lb, 1, none⟩ = false ∧
                    JPost F lb q w (.int .i64 (lBegin s l p).1) (lBegin s l p).2.1 (lBegin s l p).2.2 (.returned (.int .i64 0)) ((w5.setCells lb 2 [.int .i64 (ot : Int), .int .i64 ((l.gen : Int) + 1), .slice A5 n c5, .slice none 0 0, .int .i64 ((ot + nbk (n + 21) : Nat) : Int)]).setCell ⟨lb, 1, none⟩ (.bool true))) := by
                  intro w3 w4 Fk w5 hc3 hc4 hFk hr4 hc5 hd5
                  have h3 := hc3.size
                  have h4 := hc4.size
                  have h5 := hc5.size
                  have h6 := NH.lo
                  have h7 := NH.hi
                  -- what stays until the last sync
                  have hst : ∀ k, k < wc.heap.size → ¬ FD k → k ≠ H → w5.heap[k]? = wc.heap[k]? := by
                    intro k hk hkF hkH
                    have e3 := hc3.block k hk hkF
                    have e4 := hc4.block k (by omega) (fun hh => by
                      rcases hh with (hh | hh) | hh
                      · exact hkF hh
                      · omega
                      · exact hkH hh)
                    have e5 := hc5.block k (by omega) (fun hh => by
                      rcases (hFk k hh).1 with (h1 | h1) | h1
                      · exact hkF h1
                      · omega
                      · omega)
                    rw [e5, e4, e3]
                  have hlH : lb ≠ H := by omega
                  have hbl : w5.heap[lb]? = w.heap[lb]? := (hst lb hlbc hlbD hlH).trans (hgw.block lb hlb)
                  have hr5 := rangeAt_of hr4 (hc5.block H (by omega) (fun hh => (hFk H hh).2 rfl))
                  have hlr := rangeAt_of HRL.out hbl
                  obtain ⟨hp1, hp2, hp3⟩ := log_put (d0 := .int .i64 (ot : Int)) (d1 := .int .i64 ((l.gen : Int) + 1)) (d2 := .slice A5 n c5) (d3 := .slice none 0 0) (d4 := .int .i64 ((ot + nbk (n + 21) : Nat) : Int)) hlr (there_of HTL.out hbl)
                  refine ⟨hr5, hp3, ⟨_, by have := hp1 1 _ rfl; rwa [Nat.zero_add] at this⟩, by have := (hp2 1 (by omega)).2; rwa [Nat.zero_add] at this, ?_⟩
                  have hc6 : Chg (fun k => k = lb) w5 ((w5.setCells lb 2 [.int .i64 (ot : Int), .int .i64 ((l.gen : Int) + 1), .slice A5 n c5, .slice none 0 0, .int .i64 ((ot + nbk (n + 21) : Nat) : Int)]).setCell ⟨lb, 1, none⟩ (.bool true)) := ((Chg.refl (fun k => k = lb) w5).setCells lb 2 _ (fun _ => rfl)).setCell ⟨lb, 1, none⟩ _ (fun _ => rfl)
                  have hr6 := rangeAt_set hp1 1 (by simp) (.bool true)
                  have ht6 := there_set hp2 ⟨lb, 1, none⟩ (.bool true)
                  have h8 := hc6.size
                  generalize (w5.setCells lb 2 [.int .i64 (ot : Int), .int .i64 ((l.gen : Int) + 1), .slice A5 n c5, .slice none 0 0, .int .i64 ((ot + nbk (n + 21) : Nat) : Int)]).setCell ⟨lb, 1, none⟩ (.bool true) = w6 at *
                  have hcA : Chg (fun k => FD k ∨ w.heap.size ≤ k) w w5 := by
                    have hFk2 : ∀ k, Fk k → FD k ∨ w.heap.size ≤ k := fun k hk => by
                      rcases (hFk k hk).1 with (hh | hh) | hh
                      · exact Or.inl hh
                      · exact Or.inr (by omega)
                      · exact Or.inr (by omega)
                    refine (((hN0.then hc3 (fun i _ hi => Or.inl hi)).then hc4 (fun i hi hh => ?_)).then hc5 (fun i _ hh => hFk2 i hh))
                    rcases hh with (hh | hh) | hh
                    · exact Or.inl hh
                    · omega
                    · omega
                  have hcB : Chg (fun k => (FD k ∨ w.heap.size ≤ k) ∨ k = lb) w w6 := (hcA.mono fun k hk => Or.inl hk).trans (hc6.mono fun k hk => Or.inr hk)
                  have hX : ∀ k, FX Fk w4 w5 k → FD k ∨ (wc.heap.size ≤ k ∧ k < w6.heap.size) := fun k hk => by
                    rcases hk with hk | hk
                    · rcases (hFk k hk).1 with (hh | hh) | hh
                      · exact Or.inl hh
                      · exact Or.inr ⟨by omega, by omega⟩
                      · exact Or.inr ⟨by omega, by omega⟩
                    · exact Or.inr ⟨by omega, by omega⟩
                  have hsb : ∀ k, (Value.slice A5 n c5).ownBlock = some k → w2.heap.size ≤ k ∧ k < wc.heap.size := fun k hk => World.ownsRow.lt NH.sl k hk
                  rw [HE4.out]
                  refine jk_mk (FD' := FX Fk w4 w5) (G' := fun k => k = lb ∨ (Value.slice A5 n c5).ownBlock = some k) HJ.out.fit hcB (fun k hk hN => ?_) (hd5.chg hc6 (fun k hk he => ?_)) (fun k hk => ?_) ?_ ?_ (fun k hk => ?_)
                  · rcases hN with (hN | hN) | hN
                    · exact (hDG k hN).1
                    · omega
                    · rw [hN]; exact hGF lb hm.here
                  · rcases hX k hk with h1 | h1
                    · exact hlbD (he ▸ h1)
                    · have : k = lb := he
                      omega
                  · rcases hX k hk with h1 | h1
                    · refine ⟨Or.inl (hDG k h1).1, fun hg => ?_⟩
                      rcases hg with hg | hg
                      · exact hlbD (hg ▸ h1)
                      · have := hsb k hg; have := hFl k h1; omega
                    · refine ⟨Or.inr ⟨by omega, h1.2⟩, fun hg => ?_⟩
                      rcases hg with hg | hg
                      · omega
                      · have := hsb k hg; omega
                  · refine ⟨by show 1 - l.half < 2; omega, ?_, Nat.zero_le _, ?_, by show p.length ≤ _; rw [hnp]; exact HLONG.out, fun r hr => by cases hr⟩
                    · show nbk (n + 21) ≤ roomD v2
                      rw [hvr]; exact HFULL.out
                    · show l.gen + 1 ≤ _
                      have := hok.gen; have := HBIG.out; omega
                  · refine ⟨fun k hk => ?_, Or.inl rfl, .slice A5 n c5, .slice none 0 0, ?_, ht6, (NH.sl.of fun k hk => ?_).mono (Nat.zero_le _), fun k hk => ⟨Or.inr hk, ?_⟩, RowsG.nil _ _⟩
                    · rcases hk with hk | hk
                      · rw [hk]; omega
                      · have := hsb k hk; omega
                    · rw [hvr, ← HOTe.out]
                      simpa [logC] using hr6
                    · have h9 := hsb k hk
                      rw [hc6.block k (by omega) (by omega), hst k h9.2 (fun hF => by have := hFl k hF; omega) (NH.ne k hk)]
                    · have := hsb k hk; omega
                  · rcases hk with hk | hk
                    · rw [hk]; exact Or.inl (hGF lb hm.here)
                    · have := hsb k hk; exact Or.inr ⟨by omega, by omega⟩
                clear HFail HE4 PU2
                have hone5 := one5 (a := .int .i64 (ot : Int)) (b := .int .i64 ((l.gen : Int) + 1)) (c := .slice A5 n c5) (d := .slice none 0 0) (e := .int .i64 ((ot + nbk (n + 21) : Nat) : Int)) rfl rfl rfl rfl rfl
                obtain ⟨fin', hfin⟩ : ∃ x : Int, x = ((ot + nbk (n + 21) : Nat) : Int) := ⟨_, rfl⟩
                rw [← hfin] at hone5
                have HP2 : Hid (∀ w3 w4 Fk w5, Chg FD wc w3 → Chg (fun k => FX FD wc w3 k ∨ k = H) w3 w4 → (∀ k, Fk k → FX (FX FD wc w3) w3 w4 k ∧ k ≠ H) → w4.rangeAt H 0 [.int .i64 (ot : Int), .int .i64 ((l.gen + 1 : Nat) : Int), .slice A5 n c5, .slice none 0 0, .int .i64 ((ot + nbk (n + 21) : Nat) : Int)] → Chg Fk w4 w5 → DK w5 (FX Fk w4 w5) q v2 →
                    w5.rangeAt H 0 [.int .i64 (ot : Int), .int .i64 ((l.gen : Int) + 1), .slice A5 n c5, .slice none 0 0, .int .i64 fin'] ∧ w5.there lb 2 5 ∧
                    (∃ x, (w5.setCells lb 2 [.int .i64 (ot : Int), .int .i64 ((l.gen : Int) + 1), .slice A5 n c5, .slice none 0 0, .int .i64 fin']).cell? ⟨lb, 1, none⟩ = some x) ∧ (w5.setCells lb 2 [.int .i64 (ot : Int), .int .i64 ((l.gen : Int) + 1), .slice A5 n c5, .slice none 0 0, .int .i64 fin']).frozen? ⟨lb, 1, none⟩ = false ∧
                    JPost F lb q w (.int .i64 (lBegin s l p).1) (lBegin s l p).2.1 (lBegin s l p).2.2 (.returned (.int .i64 0)) ((w5.setCells lb 2 [.int .i64 (ot : Int), .int .i64 ((l.gen : Int) + 1), .slice A5 n c5, .slice none 0 0, .int .i64 fin']).setCell ⟨lb, 1, none⟩ (.bool true))) := by
                  intro w3 w4 Fk w5 a1 a2 a3 a4 a5 a6
                  rw [Int.natCast_add] at a4
                  rw [hfin]
                  exact HP.out w3 w4 Fk w5 a1 a2 a3 a4 a5 a6
                clear HP hfin
                go_upto_region 17 with (first
                  | (go_at_call 47; ((with_reducible refine HCL.out.mono ?_); rintro e w3 ⟨rfl, hc3, hd3⟩; have g03 := (hc3.cell (p := ⟨lb, 0, none⟩) hlbc hlbD).trans g0; have PU3 := PU.out w3 hc3 hd3; have G04 := Lib.hid (fun w4 (hc4 : Chg (fun k => FX FD wc w3 k ∨ k = H) w3 w4) => G4.out w3 w4 hc3 hc4)))
                  | (go_at_call 48; ((with_reducible refine PU3.mono ?_); rintro e w4 ⟨rfl, hc4, ⟨Fk, hd4, hFk⟩, -, hr4⟩; have g04 := G04.out w4 hc4; have SY4 := SY.out w4 Fk hd4))
                  | (go_at_call 27; ((with_reducible refine SY4.mono ?_); rintro e w5 ⟨rfl, hc5, hd5⟩; obtain ⟨hr5, ht5, ⟨x1, hx1⟩, hf1, hJ⟩ := HP2.out w3 w4 Fk w5 hc3 hc4 hFk (hr4 trivial) hc5 hd5; have HJ5 := Lib.hid hJ; clear hJ)))
                clear HP2 hr4 hc3 hc4 hc5 hd3 hd4 hd5 hFk G04 SY4 PU3 hm hd hDG hGF PU SY G4 HCL HJ NH hgw hN0 g0 g03 g04 hp hA hc hAF HBIG HFULL HLONG HOT HOTe HRL HTL HC0 hp2
                obtain ⟨csx, hcsx⟩ : ∃ cs : List Value, cs = [.int .i64 (ot : Int), .int .i64 ((l.gen : Int) + 1), .slice A5 n c5, .slice none 0 0, .int .i64 fin'] := ⟨_, rfl⟩
                have hcl : Hid (csx.length = 5) := by subst hcsx; rfl
                rw [← hcsx] at hr5 hx1 hf1 HJ5 hone5
                clear hcsx
                go_wp2_with (first
                  | (refine wpList_load_mid (by rfl) 78 _ (by rfl) H 0 (by rfl) csx _ hr5 Try.underlying78 rfl (sizeHalf hcl.out.symm) ?_)
                  | (refine (wpList_store_cells (by rfl) 78 _ _ (by rfl) lb 2 csx (by rfl) (by rfl) 5 hcl.out ht5 (sizeHalf rfl) hone5 ?_); generalize w5.setCells lb 2 csx = w6 at hx1 hf1 HJ5 ⊢))
                go_ret
                exact HJ5.out
              · have d5 : (v1 != 0) = true := by simpa using hv1
                rw [if_pos hv1] at HE4
                have HP : Hid (∀ w3 w4 Fk w5, Chg FD wc w3 → Chg (fun k => FX FD wc w3 k ∨ k = H) w3 w4 → (∀ k, Fk k → FX (FX FD wc w3) w3 w4 k ∧ k ≠ H) → Chg Fk w4 w5 → DK w5 (FX Fk w4 w5) q v2 → JPost F lb q w (.int .i64 (lBegin s l p).1) (lBegin s l p).2.1 (lBegin s l p).2.2 (.returned (.int .i64 v1)) w5) := by
                  intro w3 w4 Fk w5 hc3 hc4 hFk hc5 hd5
                  rw [HE4.out]
                  have h3 := hc3.size
                  have h4 := hc4.size
                  have h5 := NH.lo
                  have h8 := hc5.size
                  have hFk2 : ∀ k, Fk k → FD k ∨ w.heap.size ≤ k := fun k hk => by
                    rcases (hFk k hk).1 with (hh | hh) | hh
                    · exact Or.inl hh
                    · exact Or.inr (by omega)
                    · exact Or.inr (by omega)
                  have hFk3 : ∀ k, Fk k → FD k ∨ (w.heap.size ≤ k ∧ k < w4.heap.size) := fun k hk => by
                    rcases (hFk k hk).1 with (hh | hh) | hh
                    · exact Or.inl hh
                    · exact Or.inr ⟨by omega, by omega⟩
                    · exact Or.inr ⟨by omega, by omega⟩
                  refine HFail.out _ _ _ w5 (((hN0.then hc3 (fun i _ hi => Or.inl hi)).then hc4 (fun i hi hh => ?_)).then hc5 (fun i _ hh => hFk2 i hh)) hd5 (fun k hk => ?_) hvr
                  · rcases hh with (hh | hh) | hh
                    · exact Or.inl hh
                    · omega
                    · omega
                  · rcases hk with hk | hk
                    · rcases hFk3 k hk with h1 | h1
                      · exact Or.inl h1
                      · exact Or.inr ⟨h1.1, by omega⟩
                    · exact Or.inr ⟨by omega, hk.2⟩
                clear HFail HE4 PU2
                go_wp2_with (first
                  | (go_at_call 47; ((with_reducible refine HCL.out.mono ?_); rintro e w3 ⟨rfl, hc3, hd3⟩; have g03 := (hc3.cell (p := ⟨lb, 0, none⟩) hlbc hlbD).trans g0; have PU3 := PU.out w3 hc3 hd3; have G04 := Lib.hid (fun w4 (hc4 : Chg (fun k => FX FD wc w3 k ∨ k = H) w3 w4) => G4.out w3 w4 hc3 hc4)))
                  | (go_at_call 48; ((with_reducible refine PU3.mono ?_); rintro e w4 ⟨rfl, hc4, ⟨Fk, hd4, hFk⟩, -, -⟩; have g04 := G04.out w4 hc4; have SY4 := SY.out w4 Fk hd4))
                  | (go_at_call 27; ((with_reducible refine SY4.mono ?_); rintro e w5 ⟨rfl, hc5, hd5⟩)))
                go_ret
                exact HP.out _ _ _ _ hc3 hc4 hFk hc5 hd5
            · have d4 : (z1 != 0) = true := by simpa using hz1
              rw [if_pos hz1] at HE3
              have HP : Hid (∀ w3 w4, Chg FD wc w3 → Chg (fun k => FX FD wc w3 k ∨ k = H) w3 w4 → (∃ Fk, DK w4 Fk q z2 ∧ ∀ k, Fk k → FX (FX FD wc w3) w3 w4 k ∧ k ≠ H) → JPost F lb q w (.int .i64 (lBegin s l p).1) (lBegin s l p).2.1 (lBegin s l p).2.2 (.returned (.int .i64 z1)) w4) := by
                intro w3 w4 hc3 hc4 ⟨Fk, hd4, hFk⟩
                rw [HE3.out]
                have h3 := hc3.size
                have h4 := hc4.size
                have h5 := NH.lo
                have h6 := ga2.size
                refine HFail.out _ _ _ w4 ((hN0.then hc3 (fun i _ hi => Or.inl hi)).then hc4 (fun i hi hh => ?_)) hd4 (fun k hk => ?_) hzr
                · rcases hh with (hh | hh) | hh
                  · exact Or.inl hh
                  · omega
                  · omega
                · rcases (hFk k hk).1 with (hh | hh) | hh
                  · exact Or.inl hh
                  · exact Or.inr ⟨by omega, by omega⟩
                  · exact Or.inr ⟨by omega, hh.2⟩
              clear HFail HE3 PU2
              go_wp2_with (first
                | (go_at_call 47; ((with_reducible refine HCL.out.mono ?_); rintro e w3 ⟨rfl, hc3, hd3⟩; have g03 := (hc3.cell (p := ⟨lb, 0, none⟩) hlbc hlbD).trans g0; have PU3 := PU.out w3 hc3 hd3))
                | (go_at_call 48; ((with_reducible refine PU3.mono ?_); rintro e w4 ⟨rfl, hc4, hd4, -, -⟩)))
              go_ret
              exact HP.out _ _ hc3 hc4 hd4
          · have d3 : (y1 != 0) = true := by simpa using hy1
            rw [if_pos hy1] at HE2
            have HP : Hid (∀ w3, Chg FD wc w3 → DK w3 (FX FD wc w3) q y2 → JPost F lb q w (.int .i64 (lBegin s l p).1) (lBegin s l p).2.1 (lBegin s l p).2.2 (.returned (.int .i64 y1)) w3) := by
              intro w3 hc3 hd3
              rw [HE2.out]
              refine HFail.out _ _ _ w3 (hN0.then hc3 (fun i _ hi => Or.inl hi)) hd3 (fun k hk => ?_) hyr
              rcases hk with hk | hk
              · exact Or.inl hk
              · exact Or.inr ⟨by omega, hk.2⟩
            clear HFail HE2 hm hd hDG hGF
            go_wp2_with (go_at_call 47; ((with_reducible refine HCL.out.mono ?_); rintro e w3 ⟨rfl, hc3, hd3⟩))
            go_ret
            exact HP.out _ hc3 hd3
end Go.Proofs.Ythnhhhfjgbgpgaa.NumK
namespace Go.Proofs.Ythnhhhfjgbgpgaa.NumK
open Go.RowKit

/-- The rows of some records, written one behind the other. -/
def appM (s : DS) (at' g k : Nat) (ls : List (List UInt8)) : Int × DS := wrL s at' (rowsL g k ls)
theorem appM_snoc (s : DS) (at' g k : Nat) (ls : List (List UInt8)) (p : List UInt8) (h : (appM s at' g k ls).1 = 0) : appM s at' g k (ls ++ [p]) = putM (appM s at' g k ls).2 (at' + spanL ls) g (k + ls.length) p := by
  unfold appM putM at *
  rw [rowsL_append, wrL_append, if_pos h, rowsL_len]
  simp only [rowsL, List.append_nil]
theorem appM_stop (s : DS) (at' g k : Nat) (ls ms : List (List UInt8)) (h : (appM s at' g k ls).1 ≠ 0) : appM s at' g k (ls ++ ms) = appM s at' g k ls := by
  unfold appM at *
  rw [rowsL_append, wrL_stop _ _ _ _ h]
theorem appM_room (s : DS) (at' g k : Nat) (ls : List (List UInt8)) : roomD (appM s at' g k ls).2 = roomD s := by unfold appM roomD; rw [wrL_keeps]
theorem appM_opn (s : DS) (at' g k : Nat) (ls : List (List UInt8)) : (appM s at' g k ls).2.opn.length ≤ s.opn.length + spanL ls := by
  have := wrL_opn s at' (rowsL g k ls)
  rw [rowsL_len] at this
  exact this
/-- Where a write is refused the power is off. -/
theorem wrL_off {s : DS} {at' : Nat} {l : List Blk} (ho : s.off = false) (ha : at' + l.length ≤ s.safe.length) (h : (wrL s at' l).1 ≠ 0) : (wrL s at' l).2.off = true := by
  obtain ⟨j, _, _, _, h4⟩ := wrL_post ho ha
  rcases h4 with h4 | h4
  · exact absurd h4.1 h
  · exact h4.2
theorem lAppend_eq (s : DS) (l : LS) (recs : List (List UInt8)) (hf : l.fin ≤ roomD s) : lAppend s l recs =
    if l.begun = false then (14, s, l) else if refV (roomD s - l.fin) recs ≠ 0 then (refV (roomD s - l.fin) recs, s, l) else if s.off then (7, s, l) else
    if (appM s (l.half * roomD s + l.fin) l.gen (l.recs.length + 1) recs).1 ≠ 0 then ((appM s (l.half * roomD s + l.fin) l.gen (l.recs.length + 1) recs).1, (appM s (l.half * roomD s + l.fin) l.gen (l.recs.length + 1) recs).2, l)
    else (0, (appM s (l.half * roomD s + l.fin) l.gen (l.recs.length + 1) recs).2, { l with recs := l.recs ++ recs, fin := l.fin + spanL recs }) := by
  unfold lAppend refV appM
  by_cases h1 : l.begun = false
  · rw [if_pos h1, if_pos h1]
  · rw [if_neg h1, if_neg h1]
    by_cases h2 : ∃ r ∈ recs, 65536 < r.length
    · rw [if_pos h2, if_pos h2]; rfl
    · rw [if_neg h2, if_neg h2]
      by_cases h3 : roomD s < l.fin + spanL recs
      · rw [if_pos h3, if_pos (show roomD s - l.fin < spanL recs by omega)]; rfl
      · have e0 : ¬ ((if roomD s - l.fin < spanL recs then (9 : Int) else 0) ≠ 0) := by rw [if_neg (show ¬ roomD s - l.fin < spanL recs by omega)]; exact fun h => h rfl
        rw [if_neg h3, if_neg e0]
theorem RowsB.chg {F : Nat → Prop} {w w' : World} {A : Option Addr} {n : Nat} {l : List (List UInt8)} (h : RowsB w A n l) (g : Chg F w w') (hA : ∀ a, A = some a → ¬ F a.block)
    (hI : ∀ b o j A1 n1 c1 a, A = some ⟨b, o, none⟩ → j < n → w.cell? ⟨b, o + j, none⟩ = some (.slice A1 n1 c1) → A1 = some a → ¬ F a.block) : RowsB w' A n l :=
  ⟨h.1, fun hn => by
    obtain ⟨b, o, e, hb, hc⟩ := h.2 hn
    refine ⟨b, o, e, Nat.lt_of_lt_of_le hb g.size, fun j hj => ?_⟩
    obtain ⟨A1, n1, c1, h1, h2, h3, h4, h5⟩ := hc j hj
    exact ⟨A1, n1, c1, (g.cell (p := ⟨b, o + j, none⟩) hb (by simpa using hA _ e)).trans h1, h2.chg g (fun a ha => hI b o j A1 n1 c1 a e hj h1 ha), h3, h4, h5⟩⟩
set_option maxRecDepth 100000 in
set_option maxHeartbeats 4000000 in
/-- Append where it does nothing: not begun, too long, no room, no power. -/
theorem appendJ_not (F : Nat → Prop) (lb q : Nat) (s : DS) (l : LS) (ls : List (List UInt8)) (A : Option Addr) (n c : Nat) (w : World) (h : JK w F lb q s l) (hB : ∀ w', Grew w w' → RowsB w' A n ls) (hn : n ≤ 1000000)
    (hno : l.begun = false ∨ refV (roomD s - l.fin) ls ≠ 0 ∨ s.off = true) :
    Calls Try.prog 28 #[.pointer (some ⟨lb, 0, none⟩), .slice A n c] w (JPost F lb q w (.int .i64 (lAppend s l ls).1) (lAppend s l ls).2.1 (lAppend s l ls).2.2) := by
  have HJ := Lib.hid h
  obtain ⟨FD, G, hd, hm, hDG, hGF⟩ := h.ex
  obtain ⟨sv, rv, hr, ht, hsv, hsg, hrv⟩ := hm.ex
  obtain ⟨Asv, csv, rfl⟩ := SlB.form hsv
  obtain ⟨Arv, crv, rfl⟩ := hrv.form
  obtain ⟨c0, c1, c2, c3, c4, c5, c6⟩ := range7 hr
  have hlb : lb < w.heap.size := hm.fit lb hm.here
  have hfin := h.ok.fin
  have hhalf := h.ok.half
  have hfew := hd.ok.few
  have hroom : roomD s ≤ 32768 := by unfold roomD; omega
  have hE := lAppend_eq s l ls hfin
  have HPs : Hid (∀ r w', lAppend s l ls = (r, s, l) → Grew w w' → JPost F lb q w (.int .i64 (lAppend s l ls).1) (lAppend s l ls).2.1 (lAppend s l ls).2.2 (.returned (.int .i64 r)) w') := by
    intro r w' e g
    rw [e]; exact jk_same h g
  cases hbg : l.begun with
  | false =>
    rw [hbg] at c1
    have HP := Lib.hid (HPs.out 14 w (by rw [hE, if_pos hbg]) (grew_refl _))
    clear hE hd hm hr h hB hno
    go_enter Try.func28, Try.ntmps28
    go_wp2
    go_ret
    exact HP.out
  | true =>
    rw [hbg] at c1
    rw [if_neg (by rw [hbg]; simp)] at hE
    have hra : w.rangeAt lb 2 [.int .i64 ((l.half * roomD s : Nat) : Int), .int .i64 (l.gen : Int), .slice Asv l.snap.length csv, .slice Arv l.recs.length crv, .int .i64 ((l.half * roomD s + l.fin : Nat) : Int)] := range5_of c2 c3 c4 c5 c6
    obtain ⟨fi, hfi⟩ : ∃ fi, fi = l.half * roomD s := ⟨_, rfl⟩
    have hfb : fi ≤ 32768 := by rw [hfi]; rcases (by omega : l.half = 0 ∨ l.half = 1) with hh | hh <;> rw [hh] <;> omega
    rw [← hfi, Int.natCast_add] at hra
    obtain ⟨hb, hlx⟩ := alloc_range w [.int .i64 (fi : Int), .int .i64 (l.gen : Int), .slice Asv l.snap.length csv, .slice Arv l.recs.length crv, .int .i64 ((fi : Int) + (l.fin : Int))] 78
    have ga := grew_alloc w #[.int .i64 (fi : Int), .int .i64 (l.gen : Int), .slice Asv l.snap.length csv, .slice Arv l.recs.length crv, .int .i64 ((fi : Int) + (l.fin : Int))] 78
    have SZ := Lib.hid (fun w' (g : Grew w w') => size_any FD lb q s w' (hd.grew g) ((grew_cell g (p := ⟨lb, 0, none⟩) hlb).trans c0))
    have RF := Lib.hid (fun w' (g : Grew w w') => refusesJ_any (roomD s - l.fin) A n c ls w' (hB w' g) (by omega))
    have CO := Lib.hid (fun w' (g : Grew w w') => off_any FD q s w' (hd.grew g))
    have HC0 : Hid (∀ w', Grew w w' → w'.cell? ⟨lb, 0, none⟩ = some (.pointer (some ⟨q, 0, none⟩))) := fun w' g => (grew_cell g (p := ⟨lb, 0, none⟩) hlb).trans c0
    have e1 : ((roomD s - l.fin : Nat) : Int) = (fi : Int) + (roomD s : Int) - ((fi : Int) + (l.fin : Int)) := by omega
    have i1 : IntKind.i64.wrap ((fi : Int) + (roomD s : Int)) = (fi : Int) + (roomD s : Int) := by rw [IntKind.wrap_i64]; omega
    have i2 : IntKind.i64.wrap ((fi : Int) + (roomD s : Int) - ((fi : Int) + (l.fin : Int))) = (fi : Int) + (roomD s : Int) - ((fi : Int) + (l.fin : Int)) := by rw [IntKind.wrap_i64]; omega
    rw [e1] at RF
    clear hfi
    obtain ⟨b0, b1, b2, b3, b4⟩ := range5 hb
    simp only [Nat.zero_add] at b1 b2 b3 b4
    by_cases hrf : refV (roomD s - l.fin) ls = 0
    · have hof : s.off = true := by
        rcases hno with h1 | h1 | h1
        · rw [hbg] at h1; cases h1
        · exact absurd hrf h1
        · exact h1
      have HP := Lib.hid (fun w' => HPs.out 7 w' (by rw [hE, if_neg (by rw [hrf]; exact fun h => h rfl), hof]; rfl))
      rw [hrf] at RF
      rw [hof] at CO
      clear hE hd hm hr h hB hno hrf HPs hof c2 c3 c4 c5 c6 e1 hbg
      generalize roomD s = room at *
      go_enter Try.func28, Try.ntmps28
      go_upto_region 4 with (first
        | (refine wpList_load_mid (by rfl) 78 _ (by rfl) lb 2 (by rfl) [.int .i64 (fi : Int), .int .i64 (l.gen : Int), .slice Asv l.snap.length csv, .slice Arv l.recs.length crv, .int .i64 ((fi : Int) + (l.fin : Int))] _ hra Try.underlying78 rfl (sizeHalf rfl) ?_))
      generalize w.alloc (.cells #[.int .i64 (fi : Int), .int .i64 (l.gen : Int), .slice Asv l.snap.length csv, .slice Arv l.recs.length crv, .int .i64 ((fi : Int) + (l.fin : Int))] 78) = w1 at *
      go_quiet (first
        | (go_at_call 41; with_reducible exact quiet_keep (SZ.out _ (grew_drewN ga _)))
        | (go_at_call 45; with_reducible exact quiet_keep (RF.out _ (grew_drewN ga _))))
      have ga2 := grew_drewN ga nq
      generalize w1.drewN nq = w2 at ga2 ⊢
      have g0 := HC0.out w2 ga2
      have CO2 := CO.out w2 ga2
      go_wp2_with (first
        | (go_at_call 39; ((with_reducible refine CO2.mono ?_); rintro e w3 ⟨rfl, rfl⟩)))
      go_ret
      exact HP.out _ ga2
    · have HP := Lib.hid (fun w' => HPs.out (refV (roomD s - l.fin) ls) w' (by rw [hE, if_pos hrf]))
      have d1 : (refV (roomD s - l.fin) ls != 0) = true := by simpa using hrf
      clear hE hd hm hr h hB hno hrf HPs c2 c3 c4 c5 c6 e1 hbg CO HC0
      generalize refV (roomD s - l.fin) ls = rv' at *
      generalize roomD s = room at *
      go_enter Try.func28, Try.ntmps28
      go_upto_region 4 with (first
        | (refine wpList_load_mid (by rfl) 78 _ (by rfl) lb 2 (by rfl) [.int .i64 (fi : Int), .int .i64 (l.gen : Int), .slice Asv l.snap.length csv, .slice Arv l.recs.length crv, .int .i64 ((fi : Int) + (l.fin : Int))] _ hra Try.underlying78 rfl (sizeHalf rfl) ?_))
      generalize w.alloc (.cells #[.int .i64 (fi : Int), .int .i64 (l.gen : Int), .slice Asv l.snap.length csv, .slice Arv l.recs.length crv, .int .i64 ((fi : Int) + (l.fin : Int))] 78) = w1 at *
      go_quiet (first
        | (go_at_call 41; with_reducible exact quiet_keep (SZ.out _ (grew_drewN ga _)))
        | (go_at_call 45; with_reducible exact quiet_keep (RF.out _ (grew_drewN ga _))))
      have ga2 := grew_drewN ga nq
      generalize w1.drewN nq = w2 at ga2 ⊢
      go_wp2
      go_ret
      exact HP.out _ ga2
end Go.Proofs.Ythnhhhfjgbgpgaa.NumK
namespace Go.Proofs.Ythnhhhfjgbgpgaa.NumK
open Go.RowKit

/-- Behind j records: the disk, the half in block H, the log's own blocks. -/
structure AI (w wr : World) (F G : Nat → Prop) (lb H q fi : Nat) (s : DS) (l : LS) (ls : List (List UInt8)) (j : Nat) (Arv : Option Addr) (crv : Nat) : Prop where
  chg : Chg (fun k => F k ∨ w.heap.size ≤ k) w wr
  lbk : wr.heap[lb]? = w.heap[lb]?
  hlt : H < wr.heap.size
  ex : ∃ (P Fk : Nat → Prop) (sv : Value), (∀ k, G k → P k) ∧ (∀ k, P k → (G k ∨ w.heap.size ≤ k) ∧ k < wr.heap.size ∧ k ≠ H) ∧
    DK wr Fk q (appM s (fi + l.fin) l.gen (l.recs.length + 1) (ls.take j)).2 ∧ (∀ k, Fk k → FX F w wr k ∧ ¬ P k ∧ k ≠ H) ∧
    wr.rangeAt H 0 [.int .i64 (fi : Int), .int .i64 (l.gen : Int), sv, .slice Arv (l.recs.length + j) crv, .int .i64 ((fi + l.fin + spanL (ls.take j) : Nat) : Int)] ∧ wr.there H 0 5 ∧
    SlB wr 0 sv l.snap ∧ (∀ k, sv.ownBlock = some k → G k ∧ k ≠ lb) ∧ RowsG wr (fun k => P k ∧ k ≠ lb) (.slice Arv (l.recs.length + j) crv) (l.recs ++ ls.take j)
theorem spanL_take_le (ls : List (List UInt8)) (j : Nat) : spanL (ls.take j) ≤ spanL ls := by
  have := spanL_append (ls.take j) (ls.drop j)
  rw [List.take_append_drop] at this
  omega
/-- The next record's row was put, its copy appended. -/
theorem AI.step {w wr w2 w3 w4 : World} {F G Fk P : Nat → Prop} {lb H q fi : Nat} {s : DS} {l : LS} {ls : List (List UInt8)} {j : Nat} {Arv Arv2 : Option Addr} {crv crv2 : Nat} {x sv : Value} {p : List UInt8} {t : TypeId} {xs : List Value}
    (hGF : ∀ k, G k → F k) (hw : Chg (fun k => F k ∨ w.heap.size ≤ k) w wr) (hlbk : wr.heap[lb]? = w.heap[lb]?) (hlbG : G lb) (hH : H < wr.heap.size) (hHw : w.heap.size ≤ H) (hj : j < ls.length) (hpj : ls.getD j [] = p)
    (hGP : ∀ k, G k → P k) (hP : ∀ k, P k → (G k ∨ w.heap.size ≤ k) ∧ k < wr.heap.size ∧ k ≠ H) (hFk : ∀ k, Fk k → FX F w wr k ∧ ¬ P k ∧ k ≠ H)
    (hz : (appM s (fi + l.fin) l.gen (l.recs.length + 1) (ls.take j)).1 = 0) (hc2 : Chg (fun k => Fk k ∨ k = H) wr w2) (hGl : ∀ k, G k → k < w.heap.size)
    (hd2 : ∃ Fk2, DK w2 Fk2 q (putM (appM s (fi + l.fin) l.gen (l.recs.length + 1) (ls.take j)).2 (fi + l.fin + spanL (ls.take j)) l.gen (l.recs.length + 1 + j) p).2 ∧ ∀ k, Fk2 k → FX Fk wr w2 k ∧ k ≠ H) (ht2 : w2.there H 0 5)
    (hr2 : w2.rangeAt H 0 [.int .i64 (fi : Int), .int .i64 (l.gen : Int), sv, .slice Arv (l.recs.length + j) crv, .int .i64 ((fi + l.fin + spanL (ls.take j) + nbk (p.length + 21) : Nat) : Int)])
    (hsv : SlB wr 0 sv l.snap) (hsg : ∀ k, sv.ownBlock = some k → G k ∧ k ≠ lb)
    (hx1 : wr.ownsRow 0 37 1 (.slice Arv (l.recs.length + j) crv) (l.recs.length + j) xs) (hxv : ∀ k, (Value.slice Arv (l.recs.length + j) crv).ownBlock = some k → P k ∧ k ≠ lb)
    (hx2 : ∀ i, i < (l.recs ++ ls.take j).length → ∃ y, xs[i]? = some y ∧ SlB wr 0 y ((l.recs ++ ls.take j).getD i []) ∧ ∀ k, y.ownBlock = some k → P k ∧ k ≠ lb)
    (hg3 : Grew w2 w3) (hs3 : SlB w3 w2.heap.size x p) (ho4 : w4.ownsRow 0 37 1 (.slice Arv2 (l.recs.length + j + 1) crv2) (l.recs.length + j + 1) (xs ++ [x]))
    (hg4 : (w3.alloc (.cells #[x] t)).grownBy w4 (Value.slice Arv (l.recs.length + j) crv).ownBlock) (hat : ∀ k, (Value.slice Arv2 (l.recs.length + j + 1) crv2).ownBlock = some k → (Value.slice Arv (l.recs.length + j) crv).ownBlock = some k ∨ (w3.heap.size ≤ k ∧ k < w4.heap.size)) :
    AI w (w4.setCell ⟨H, 3, none⟩ (.slice Arv2 (l.recs.length + (j + 1)) crv2)) F G lb H q fi s l ls (j + 1) Arv2 crv2 := by
  have s2 := hc2.size
  have s3 := hg3.size
  have s4 : w3.heap.size + 1 ≤ w4.heap.size := by have := hg4.size; simp at this; omega
  have hs5 : (w4.setCell ⟨H, 3, none⟩ (.slice Arv2 (l.recs.length + (j + 1)) crv2)).heap.size = w4.heap.size := by simp [World.setCell]
  have hw1 := hw.size
  have hln : (l.recs ++ ls.take j).length = l.recs.length + j := by rw [List.length_append, List.length_take]; omega
  have htk : ls.take (j + 1) = ls.take j ++ [p] := by rw [take_snocR ls j hj, hpj]
  have hst3 : ∀ k, k < wr.heap.size → ¬ Fk k → k ≠ H → (w3.alloc (.cells #[x] t)).heap[k]? = wr.heap[k]? := by
    intro k h1 h2 h3
    rw [Below.heap_alloc _ _ _ (by omega), hg3.block k (by omega), hc2.block k h1 (fun h => h.elim h2 h3)]
  have hst4 : ∀ k, k < wr.heap.size → ¬ Fk k → k ≠ H → some k ≠ (Value.slice Arv (l.recs.length + j) crv).ownBlock → w4.heap[k]? = wr.heap[k]? := by
    intro k h1 h2 h3 h4
    rw [hg4.block k (by simp; omega) h4]
    exact hst3 k h1 h2 h3
  have hst5 : ∀ k, k ≠ H → (w4.setCell ⟨H, 3, none⟩ (.slice Arv2 (l.recs.length + (j + 1)) crv2)).heap[k]? = w4.heap[k]? := fun k hk => Below.heap_setCell _ _ _ _ hk
  have hPn : ∀ k, P k → ¬ Fk k := fun k hk hF => (hFk k hF).2.1 hk
  have hlbP := hGP lb hlbG
  have hHb : w4.heap[H]? = w2.heap[H]? := by
    rw [hg4.block H (by simp; omega) (fun e => (hP H (hxv H e.symm).1).2.2 rfl), Below.heap_alloc _ _ _ (by omega), hg3.block H (by omega)]
  have hcd : Chg (fun k => (Value.slice Arv (l.recs.length + j) crv).ownBlock = some k ∨ k = H) w2 (w4.setCell ⟨H, 3, none⟩ (.slice Arv2 (l.recs.length + (j + 1)) crv2)) :=
    (((hg3.chg (F := fun k => (Value.slice Arv (l.recs.length + j) crv).ownBlock = some k ∨ k = H)).alloc (.cells #[x] t)).grown hg4 (fun k hk _ => Or.inl hk)).setCell ⟨H, 3, none⟩ _ (fun _ => Or.inr rfl)
  obtain ⟨Fk2, hdk2, hFk2⟩ := hd2
  have hap : appM s (fi + l.fin) l.gen (l.recs.length + 1) (ls.take (j + 1)) = putM (appM s (fi + l.fin) l.gen (l.recs.length + 1) (ls.take j)).2 (fi + l.fin + spanL (ls.take j)) l.gen (l.recs.length + 1 + j) p := by
    rw [htk, appM_snoc _ _ _ _ _ _ hz, List.length_take, Nat.min_eq_left (by omega)]
  have hF2 : ∀ k, Fk2 k → (Fk k ∨ (wr.heap.size ≤ k ∧ k < w2.heap.size)) ∧ k ≠ H := fun k hk => hFk2 k hk
  have hxb : ∀ k, x.ownBlock = some k → w2.heap.size ≤ k ∧ k < w3.heap.size := fun k hk => World.ownsRow.lt hs3 k hk
  refine ⟨?_, ?_, by rw [hs5]; omega, fun k => P k ∨ x.ownBlock = some k ∨ (Value.slice Arv2 (l.recs.length + j + 1) crv2).ownBlock = some k, Fk2, sv, fun k hk => Or.inl (hGP k hk), ?_, ?_, ?_, ?_, ?_, ?_, hsg, ?_⟩
  · refine (hw.then hc2 (fun k _ hk => ?_)).trans (hcd.mono fun k hk => ?_)
    · rcases hk with hk | hk
      · rcases (hFk k hk).1 with h1 | h1
        · exact Or.inl h1
        · exact Or.inr h1.1
      · exact Or.inr (by omega)
    · rcases hk with hk | hk
      · rcases (hP k (hxv k hk).1).1 with h1 | h1
        · exact Or.inl (hGF k h1)
        · exact Or.inr h1
      · exact Or.inr (by omega)
  · have hlH := (hP lb hlbP).2.2
    rw [hst5 lb hlH, hst4 lb (hP lb hlbP).2.1 (hPn lb hlbP) hlH (fun e => (hxv lb e.symm).2 rfl), hlbk]
  · intro k hk
    rcases hk with hk | hk | hk
    · have := hP k hk; exact ⟨this.1, by rw [hs5]; omega, this.2.2⟩
    · have := hxb k hk; exact ⟨Or.inr (by omega), by rw [hs5]; omega, by omega⟩
    · rcases hat k hk with h1 | h1
      · have := hP k (hxv k h1).1; exact ⟨this.1, by rw [hs5]; omega, this.2.2⟩
      · exact ⟨Or.inr (by omega), by rw [hs5]; omega, by omega⟩
  · rw [hap]
    refine hdk2.chg hcd (fun k hk hN => ?_)
    rcases hN with hN | hN
    · have h1 := hP k (hxv k hN).1
      rcases (hF2 k hk).1 with h2 | h2
      · exact hPn k (hxv k hN).1 h2
      · omega
    · exact (hF2 k hk).2 hN
  · intro k hk
    have h1 := hF2 k hk
    refine ⟨?_, fun hp2 => ?_, h1.2⟩
    · rcases h1.1 with h2 | h2
      · rcases (hFk k h2).1 with h3 | h3
        · exact Or.inl h3
        · exact Or.inr ⟨h3.1, by rw [hs5]; omega⟩
      · exact Or.inr ⟨by omega, by rw [hs5]; omega⟩
    · have hlt2 := hdk2.fit k hk
      rcases hp2 with h2 | h2 | h2
      · rcases h1.1 with h3 | h3
        · exact hPn k h2 h3
        · have := (hP k h2).2.1; omega
      · have := hxb k h2; omega
      · rcases hat k h2 with h4 | h4
        · have h5 := (hxv k h4).1
          rcases h1.1 with h3 | h3
          · exact hPn k h5 h3
          · have := (hP k h5).2.1; omega
        · omega
  · have h1 := rangeAt_set (rangeAt_of hr2 hHb) 3 (by simp) (.slice Arv2 (l.recs.length + (j + 1)) crv2)
    have h2 : spanL (ls.take (j + 1)) = spanL (ls.take j) + nbk (p.length + 21) := by rw [htk, spanL_append]; rfl
    simpa [h2, Int.add_assoc] using h1
  · exact there_set (there_of ht2 hHb) _ _
  · refine hsv.of fun k hk => ?_
    have h1 := hP k (hGP k (hsg k hk).1)
    rw [hst5 k h1.2.2, hst4 k h1.2.1 (hPn k (hGP k (hsg k hk).1)) h1.2.2 (fun e => own_ne hsv hx1 (by decide) k hk e.symm)]
  · have hrow : RowsG w4 (fun k => (P k ∨ x.ownBlock = some k ∨ (Value.slice Arv2 (l.recs.length + j + 1) crv2).ownBlock = some k) ∧ k ≠ lb) (.slice Arv2 (l.recs.length + j + 1) crv2) (l.recs ++ ls.take j ++ [p]) := by
      refine RowsG.app (w := w3.alloc (.cells #[x] t)) (v := .slice Arv (l.recs.length + j) crv) (P := fun k => P k ∧ k ≠ lb) (xs := xs) ?_ (fun i hi => ?_) ((hs3.mono (Nat.zero_le _)).keep (grew_alloc w3 #[x] t)) (by rw [hln]; exact ho4) hg4 (fun k hk => ⟨Or.inl hk.1, hk.2⟩) (fun k hk => ⟨Or.inr (Or.inl hk), ?_⟩) (fun k hk => ⟨Or.inr (Or.inr hk), ?_⟩)
      · rw [hln]
        exact ownsRow_of hx1 fun k hk => hst3 k (hP k (hxv k hk).1).2.1 (hPn k (hxv k hk).1) (hP k (hxv k hk).1).2.2
      · obtain ⟨y, hy, hs, hp⟩ := hx2 i hi
        exact ⟨y, hy, hs.of fun k hk => hst3 k (hP k (hp k hk).1).2.1 (hPn k (hp k hk).1) (hP k (hp k hk).1).2.2, hp⟩
      · have h1 := hxb k hk
        have h2 := hGl lb hlbG
        omega
      · rcases hat k hk with h1 | h1
        · exact (hxv k h1).2
        · have h2 := hGl lb hlbG
          omega
    rw [htk, ← List.append_assoc]
    refine hrow.of fun k hk _ => hst5 k ?_
    rcases hk.1 with h1 | h1 | h1
    · exact (hP k h1).2.2
    · have := hxb k h1; omega
    · rcases hat k h1 with h2 | h2
      · exact (hP k (hxv k h2).1).2.2
      · omega
/-- A slice of slices of bytes that stays, whatever N turns. -/
def RowsS (N : Nat → Prop) (w : World) (A : Option Addr) (n : Nat) (ls : List (List UInt8)) : Prop :=
  ls.length = n ∧ (0 < n → ∃ b o, A = some ⟨b, o, none⟩ ∧ b < w.heap.size ∧ ∀ j, j < n → ∃ A1 n1 c1, (∀ w', Chg N w w' → w'.cell? ⟨b, o + j, none⟩ = some (.slice A1 n1 c1) ∧ Bys w' A1 n1 (ls.getD j [])) ∧ (A1 = none → c1 = 0) ∧ n1 ≤ c1 ∧ n1 ≤ 9223372036854775807)
theorem RowsS.toB {N : Nat → Prop} {w w' : World} {A : Option Addr} {n : Nat} {ls : List (List UInt8)} (h : RowsS N w A n ls) (g : Chg N w w') : RowsB w' A n ls :=
  ⟨h.1, fun hn => by
    obtain ⟨b, o, e, hb, hc⟩ := h.2 hn
    refine ⟨b, o, e, Nat.lt_of_lt_of_le hb g.size, fun j hj => ?_⟩
    obtain ⟨A1, n1, c1, h1, h2, h3, h4⟩ := hc j hj
    exact ⟨A1, n1, c1, (h1 w' g).1, (h1 w' g).2, h2, h3, h4⟩⟩
end Go.Proofs.Ythnhhhfjgbgpgaa.NumK
namespace Go.Proofs.Ythnhhhfjgbgpgaa.NumK
open Go.RowKit

theorem takeR_eq_succ {xs ys : List (List UInt8)} {k : Nat} (h1 : k < xs.length) (h2 : k < ys.length) (h : xs.take k = ys.take k) (he : xs.getD k [] = ys.getD k []) : xs.take (k + 1) = ys.take (k + 1) := by
  rw [take_snocR xs k h1, take_snocR ys k h2, h, he]
set_option maxRecDepth 100000 in
set_option maxHeartbeats 2000000 in
theorem keepRows_any (A B : Option Addr) (n m c c2 : Nat) (xs ys : List (List UInt8)) (w : World) (hx : RowsB w A n xs) (hy : RowsB w B m ys) (hn : n ≤ 9223372036854775807) (hm : m ≤ 9223372036854775807) :
    Calls Try.prog 35 #[.slice A n c, .slice B m c2] w fun e w' => e = .returned (.bool (decide (xs = ys))) ∧ Grew w w' := by
  have HX := Lib.hid hx
  have HY := Lib.hid hy
  clear hx hy
  by_cases hnm : n = m
  · subst hnm
    go_enter Try.func35, Try.ntmps35
    go_wp2
    go_loopw [5] (fun vi wr => ∃ k : Nat, vi = .int .i64 k ∧ k ≤ n ∧ Hid (xs.take k = ys.take k) ∧ Hid (Grew w wr)) (fun vi _ => n - (intOf vi).toNat)
    case atStart => exact ⟨0, rfl, Nat.zero_le _, rfl, grew_refl _⟩
    case round =>
      obtain ⟨k, rfl, hk, HE, HG⟩ := hrel
      by_cases hlt : k < n
      · obtain ⟨b, o, A1, n1, cp1, rfl, g0, hb1, hA1, hn1, hm1⟩ := (HX.out.keep HG.out).at hlt
        obtain ⟨b2, o2, A2, n2, cp2, rfl, g2, hb2, hA2, hn2, hm2⟩ := (HY.out.keep HG.out).at hlt
        have a3 : (k : Int) < (n : Int) := by omega
        have hl1 := HX.out.1
        have hl2 := HY.out.1
        have HN := Lib.hid (takeR_eq_succ (xs := xs) (ys := ys) (k := k) (by omega) (by omega) HE.out)
        have HF : Hid (xs.getD k [] ≠ ys.getD k [] → decide (xs = ys) = false) := fun h => decide_eq_false (fun e => h (by rw [e]))
        have CK := Lib.hid (keepBytes_any A1 A2 n1 n2 cp1 cp2 _ _ wr.drew (hb1.keep (grew_drew (grew_refl _))) (hb2.keep (grew_drew (grew_refl _))) hm1 hm2)
        clear hl1 hl2 hb1 hb2 hA1 hA2 hn1 hn2 hm1 hm2
        have hbl := World.block_lt_of_cell? wr _ g0
        have hbl2 := World.block_lt_of_cell? wr _ g2
        by_cases hxy : xs.getD k [] = ys.getD k []
        · have HN2 := Lib.hid (HN.out hxy)
          rw [decide_eq_true hxy] at CK
          clear HN HF hxy
          go_upto_region 6 with fail
          go_region_held3 (fun w' => w'.cell? ⟨b, o + k, none⟩ = some (.slice A1 n1 cp1) ∧ w'.cell? ⟨b2, o2 + k, none⟩ = some (.slice A2 n2 cp2))
            (first
              | exact ⟨g0, g2⟩
              | exact ⟨(grew_cell hg2 (p := ⟨b, o + k, none⟩) hbl).trans g0, (grew_cell hg2 (p := ⟨b2, o2 + k, none⟩) hbl2).trans g2⟩)
            (first
              | (go_at_call 34; ((with_reducible refine CK.out.mono ?_); rintro e w2 ⟨rfl, hg2⟩)))
          have HG2 := Lib.hid (grew_trans HG.out (grew_trans (grew_drew (grew_refl wr)) hg2))
          clear hg2
          go_wp2
          go_roundw
          case rel => exact ⟨k + 1, by go_num, by omega, HN2, HG2⟩
          case measure => simp only [intOf]; omega
        · have HF2 := Lib.hid (HF.out hxy)
          rw [decide_eq_false hxy] at CK
          clear HN HF hxy
          go_upto_region 6 with fail
          go_region_held3 (fun w' => w'.cell? ⟨b, o + k, none⟩ = some (.slice A1 n1 cp1) ∧ w'.cell? ⟨b2, o2 + k, none⟩ = some (.slice A2 n2 cp2))
            (first
              | exact ⟨g0, g2⟩
              | exact ⟨(grew_cell hg2 (p := ⟨b, o + k, none⟩) hbl).trans g0, (grew_cell hg2 (p := ⟨b2, o2 + k, none⟩) hbl2).trans g2⟩)
            (first
              | (go_at_call 34; ((with_reducible refine CK.out.mono ?_); rintro e w2 ⟨rfl, hg2⟩)))
          have HG2 := Lib.hid (grew_trans HG.out (grew_trans (grew_drew (grew_refl wr)) hg2))
          clear hg2
          go_wp2
          go_ret
          exact ⟨ret_b HF2.out.symm, HG2.out⟩
      · obtain rfl : k = n := by omega
        have hl1 := HX.out.1
        have hl2 := HY.out.1
        have HF : Hid (decide (xs = ys) = true) := decide_eq_true (by have := HE.out; rwa [List.take_of_length_le (by omega), List.take_of_length_le (by omega)] at this)
        clear hl1 hl2
        go_wp2
        go_ret
        exact ⟨ret_b HF.out.symm, HG.out⟩
  · have HF : Hid (decide (xs = ys) = false) := decide_eq_false (fun e => hnm (by rw [← HX.out.1, ← HY.out.1, e]))
    have d1 : ((n : Int) != (m : Int)) = true := by simp; omega
    go_enter Try.func35, Try.ntmps35
    go_wp2
    go_ret
    exact ⟨ret_b HF.out.symm, grew_refl _⟩
def fewB (ls : List (List UInt8)) : Bool := decide (ls.length ≤ 20 ∧ ∀ l ∈ ls, l.length ≤ 300)
end Go.Proofs.Ythnhhhfjgbgpgaa.NumK
