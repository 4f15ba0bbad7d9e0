/- The document's journal: a disk and a log on it; Begin. -/
import Derived.Test.YthnhhhfjgbgpgaaRRjD
import Derived.Test.YthnhhhfjgbgpgaaRJnK
import Derived.Test.YthnhhhfjgbgpgaaRRefE
import Derived.Test.YthnhhhfjgbgpgaaRRefG
import Derived.Test.YthnhhhfjgbgpgaaRJnN
namespace Go.Proofs.Ythnhhhfjgbgpgaa.NumK
open Go.RowKit

structure JR (w : World) (F : Nat → Prop) (lb q : Nat) (s : DS) (l : LS) : Prop where
  fit : ∀ k, F k → k < w.heap.size
  ok : LOK s l
  ex : ∃ FD G, RK w FD q s ∧ RLM w G lb q l ∧ (∀ k, FD k → F k ∧ ¬ G k) ∧ ∀ k, G k → F k
theorem JR.chg {F N : Nat → Prop} {w w' : World} {lb q : Nat} {s : DS} {l : LS} (h : JR w F lb q s l) (g : Chg N w w') (hn : ∀ k, F k → ¬ N k) : JR w' F lb q s l := by
  obtain ⟨FD, G, h1, h2, h3, h4⟩ := h.ex
  exact ⟨fun k hk => Nat.lt_of_lt_of_le (h.fit k hk) g.size, h.ok, FD, G, h1.chg g (fun k hk => hn k (h3 k hk).1), h2.chg g (fun k hk => hn k (h4 k hk)), h3, h4⟩
theorem JR.grew {F : Nat → Prop} {w w' : World} {lb q : Nat} {s : DS} {l : LS} (h : JR w F lb q s l) (g : Grew w w') : JR w' F lb q s l := h.chg (N := fun _ => False) g.chg (fun _ _ h => h)
def JRPost (F : Nat → Prop) (lb q : Nat) (w : World) (r : Value) (s : DS) (l : LS) (e : Ending) (w' : World) : Prop := e = .returned r ∧ Chg F w w' ∧ JR w' (FX F w w') lb q s l

/-- Only the disk was turned, by a call that leaves it in its own blocks. -/
theorem jr_disk {F FD G : Nat → Prop} {lb q : Nat} {w w' : World} {s s' : DS} {l : LS} {r : Value} {e : Ending} (hf : ∀ k, F k → k < w.heap.size) (hok : LOK s l) (hm : RLM w G lb q l) (hDG : ∀ k, FD k → F k ∧ ¬ G k) (hGF : ∀ k, G k → F k)
    (p : RPost FD q w r s' e w') (hr : roomD s' = roomD s) : JRPost F lb q w r s' l e w' := by
  obtain ⟨he, hc, hk⟩ := p
  refine ⟨he, hc.mono (fun k hk => (hDG k hk).1), fx_lt hf hc.size, hok.room hr, FX FD w w', G, hk, hm.chg hc (fun k hg hd => (hDG k hd).2 hg), fun k hk => ?_, fun k hk => Or.inl (hGF k hk)⟩
  rcases hk with hk | hk
  · exact ⟨Or.inl (hDG k hk).1, (hDG k hk).2⟩
  · exact ⟨Or.inr hk, fun hg => by have := hm.fit k hg; omega⟩
theorem jr_same {F : Nat → Prop} {lb q : Nat} {w w' : World} {s : DS} {l : LS} {r : Value} (h : JR w F lb q s l) (g : Grew w w') : JRPost F lb q w r s l (.returned r) w' := by
  obtain ⟨FD, G, h1, h2, h3, h4⟩ := h.ex
  exact jr_disk h.fit h.ok h2 h3 h4 (rpost_grew h1.fit g ⟨rfl, rk_same (h1.grew g)⟩) rfl
theorem roomD_safe {s s' : DS} (h : s'.safe = s.safe) : roomD s' = roomD s := by unfold roomD; rw [h]
theorem wrL_room (s : DS) (a : Nat) (l : List Blk) : roomD (wrL s a l).2 = roomD s := roomD_safe (wrL_keeps s a l)
/-- A step of the disk, behind such. -/
theorem rp_step {F : Nat → Prop} {q : Nat} {w w1 w2 : World} {s : DS} {v r : Value} {s2 : DS} {e e2 : Ending} (hf : ∀ k, F k → k < w.heap.size) (p : RPost F q w v s e w1) (p2 : RPost (FX F w w1) q w1 r s2 e2 w2) : RPost F q w r s2 e2 w2 := rpost_then hf p.2.1 p2

/-- append as one step of a region that draws: bytes (or nil) to a row of the call's own. -/
theorem step_append_some {ops : Array Oper} {o : Oper} {a : Act} {w : World} {K : Act → World → Prop} {Q : Exit → Act → World → Prop} {E : Prop} (hgd : o.guard = none) (s x : Operand)
    (ho : o.op = .call { callee := .builtin .append, args := #[s, x], argTypes := #[37, 37] })
    (base : Nat) (v : Value) (n : Nat) (xs : List UInt8) (hs : a.eval s = v) (hown : w.ownsRow base 5 1 v n (xs.map byv))
    (A : Option Addr) (m c : Nat) (zs : List UInt8) (hx : a.eval x = .slice A m c) (hA : A = none → c = 0) (hI : Bys w A m zs)
    (h63 : n + m ≤ 140737488355328) (hbase : base ≤ w.heap.size)
    (h : ∀ v' w', w'.ownsRow base 5 1 v' (n + m) ((xs ++ zs).map byv) → Below base w w' → K (a.put o.dst v') w') : if Region.wanted o (yielded ops a.tmps) = true then Oper.wp Try.prog o a w K Q else E := by
  cases A with
  | none =>
    have hc := hA rfl
    subst hc
    have hm : m = 0 := by
      rcases Nat.eq_zero_or_pos m with h0 | h0
      · exact h0
      · obtain ⟨b, o, he, _⟩ := hI.2 h0
        cases he
    subst hm
    have hz : zs = [] := List.eq_nil_of_length_eq_zero hI.1
    subst hz
    have hw : Region.wanted o (yielded ops a.tmps) = true := by simp [Region.wanted, hgd]
    rw [if_pos hw]
    obtain ⟨i, hi, hz0, hz1, hz2⟩ := info_parts info_u8
    have hrun := run_append_owned_none (P := Try.prog) (w := w) base 37 o.type 5 i 1 Try.underlying37 hi v n _ hown
    unfold Oper.wp
    simp [execOp, ho, resolve, invoke, builtin, hs, hx, hrun, Result.andThen]
    exact h v w (by simpa using hown) (Below.refl _ _)
  | some ad => exact step_append_bytes hgd s x ho base v n xs hs hown (some ad) m c zs hx (by intro e; cases e) hI h63 hbase h

def setL (w : World) (lb : Nat) (a b c d e f : Value) : World := (((((w.setCell ⟨lb, 1, none⟩ a).setCell ⟨lb, 2, none⟩ b).setCell ⟨lb, 3, none⟩ c).setCell ⟨lb, 4, none⟩ d).setCell ⟨lb, 5, none⟩ e).setCell ⟨lb, 6, none⟩ f
theorem setL_range {w : World} {lb : Nat} {c0 c1 c2 c3 c4 c5 c6 : Value} (h : w.rangeAt lb 0 [c0, c1, c2, c3, c4, c5, c6]) (a b c d e f : Value) : (setL w lb a b c d e f).rangeAt lb 0 [c0, a, b, c, d, e, f] := by
  have h1 := rangeAt_set h 1 (by simp) a
  have h2 := rangeAt_set h1 2 (by simp) b
  have h3 := rangeAt_set h2 3 (by simp) c
  have h4 := rangeAt_set h3 4 (by simp) d
  have h5 := rangeAt_set h4 5 (by simp) e
  have h6 := rangeAt_set h5 6 (by simp) f
  simpa [setL] using h6
theorem setL_there {w : World} {lb : Nat} (h : w.there lb 0 7) (a b c d e f : Value) : (setL w lb a b c d e f).there lb 0 7 := there_set (there_set (there_set (there_set (there_set (there_set h _ _) _ _) _ _) _ _) _ _) _ _
theorem setL_chg (w : World) (lb : Nat) (a b c d e f : Value) : Chg (fun k => k = lb) w (setL w lb a b c d e f) :=
  ((((((Chg.refl (fun k => k = lb) w).setCell ⟨lb, 1, none⟩ a (fun _ => rfl)).setCell ⟨lb, 2, none⟩ b (fun _ => rfl)).setCell ⟨lb, 3, none⟩ c (fun _ => rfl)).setCell ⟨lb, 4, none⟩ d (fun _ => rfl)).setCell ⟨lb, 5, none⟩ e (fun _ => rfl)).setCell ⟨lb, 6, none⟩ f (fun _ => rfl)

/-- The log anew, its start in a slice that was made behind the disk's last turn. -/
theorem rbegin_end {F FD G : Nat → Prop} {lb q : Nat} {w w4 w6 : World} {s3 : DS} {l l2 : LS} {r : Value} {sv : Value} (hf : ∀ k, F k → k < w.heap.size) (hm : RLM w G lb q l) (hDG : ∀ k, FD k → F k ∧ ¬ G k) (hGF : ∀ k, G k → F k)
    (hc : Chg FD w w4) (hk : RK w4 (FX FD w w4) q s3) (hg : Grew w4 w6) (ho : SlB w6 w4.heap.size sv l2.snap) (hr : l2.recs = []) (hok : LOK s3 l2) :
    JRPost F lb q w r s3 l2 (.returned r) (setL w6 lb (.int .i64 (l2.half : Int)) (.int .i64 (l2.gen : Int)) sv (.slice none 0 0) (.int .i64 (l2.fin : Int)) (.bool l2.begun)) := by
  have hm4 : RLM w6 G lb q l := (hm.chg hc (fun k hg hd => (hDG k hd).2 hg)).grew hg
  have hlb := hm.fit lb hm.here
  obtain ⟨sv0, rv0, h1, h2, _⟩ := hm4.ex
  have hR := setL_range h1 (.int .i64 (l2.half : Int)) (.int .i64 (l2.gen : Int)) sv (.slice none 0 0) (.int .i64 (l2.fin : Int)) (.bool l2.begun)
  have hT := setL_there h2 (.int .i64 (l2.half : Int)) (.int .i64 (l2.gen : Int)) sv (.slice none 0 0) (.int .i64 (l2.fin : Int)) (.bool l2.begun)
  have hC := setL_chg w6 lb (.int .i64 (l2.half : Int)) (.int .i64 (l2.gen : Int)) sv (.slice none 0 0) (.int .i64 (l2.fin : Int)) (.bool l2.begun)
  generalize setL w6 lb (.int .i64 (l2.half : Int)) (.int .i64 (l2.gen : Int)) sv (.slice none 0 0) (.int .i64 (l2.fin : Int)) (.bool l2.begun) = wE at *
  have hs4 := hc.size
  have hs6 := hg.size
  have hsE := hC.size
  have hcE : Chg (fun k => k = lb) w4 wE := hg.chg.trans hC
  have hFl : F lb := hGF _ hm.here
  have hcF : Chg F w wE := (hc.mono (fun k hk => (hDG k hk).1)).trans (hcE.mono (fun k hk => by rw [hk]; exact hFl))
  have hDl : ∀ k, FX FD w w4 k → ¬ k = lb := fun k hk he => by
    subst he
    rcases hk with hk | hk
    · exact (hDG _ hk).2 hm.here
    · omega
  refine ⟨rfl, hcF, fx_lt hf hcF.size, hok, FX FD w w4, fun k => G k ∨ (w4.heap.size ≤ k ∧ k < wE.heap.size), hk.chg hcE hDl, ⟨fun k hk => ?_, Or.inl hm.here, sv, .slice none 0 0, hR, hT, ?_, fun k hk => ?_, by rw [hr]; exact RowsG.nil _ _⟩, fun k hk => ?_, fun k hk => ?_⟩
  · rcases hk with hk | hk
    · have := hm.fit k hk; omega
    · exact hk.2
  · exact SlB.mono (ho.of fun k hk => hC.block k (World.ownsRow.lt ho k hk).2 (by have := (World.ownsRow.lt ho k hk).1; omega)) (Nat.zero_le _)
  · have := World.ownsRow.lt ho k hk
    exact ⟨Or.inr ⟨this.1, by omega⟩, by omega⟩
  · rcases hk with hk | hk
    · exact ⟨Or.inl (hDG k hk).1, fun hh => hh.elim (hDG k hk).2 (fun h => by have := hf k (hDG k hk).1; omega)⟩
    · exact ⟨Or.inr ⟨hk.1, by omega⟩, fun hh => hh.elim (fun h => by have := hm.fit k h; omega) (fun h => by omega)⟩
  · rcases hk with hk | hk
    · exact Or.inl (hGF k hk)
    · exact Or.inr ⟨by omega, hk.2⟩

set_option maxRecDepth 100000 in
set_option maxHeartbeats 4000000 in
theorem rbegin_any (F : Nat → Prop) (lb q : Nat) (s : DS) (l : LS) (p : List UInt8) (A : Option Addr) (n c : Nat) (w : World) (h : JR w F lb q s l) (hp : Bys w A n p) (hA : A = none → c = 0) (_hc : n ≤ c) (hAF : ∀ a, A = some a → 0 < n → ¬ F a.block) (hcn : n ≤ 140737488355328)
    (hn : s.opn.length ≤ 500000) :
    Calls Try.prog 21 #[.pointer (some ⟨lb, 0, none⟩), .slice A n c] w (JRPost F lb q w (.int .i64 (lBegin s l p).1) (lBegin s l p).2.1 (lBegin s l p).2.2) := by
  have HJ := Lib.hid h
  obtain ⟨FD, G, hd, hm, hDG, hGF⟩ := h.ex
  obtain ⟨hlb, c0, c1, c2, c5, c6⟩ := hm.cells
  obtain ⟨hq, y0, y3⟩ := rk_off hd
  have hlbD : ¬ FD lb := fun h => (hDG lb h).2 hm.here
  have hnp := hp.1
  have hfew := hd.ok.few
  have hroom : roomD s ≤ 32768 := by unfold roomD; omega
  have HLE : Hid (lBegin s l p = lBegin s l p) := rfl
  have hE : lBegin s l p = if l.gen = 1099511627776 then (1, s, l) else if 65536 < n then (5, s, l) else if roomD s < nbk (n + 21) then (9, s, l) else lBegin s l p := by
    by_cases h1 : l.gen = 1099511627776
    · rw [if_pos h1]; unfold lBegin; rw [if_pos h1]
    · rw [if_neg h1]
      by_cases h2 : 65536 < n
      · rw [if_pos h2]; unfold lBegin; rw [if_neg h1, hnp, if_pos h2]
      · rw [if_neg h2]
        by_cases h3 : roomD s < nbk (n + 21)
        · rw [if_pos h3]; unfold lBegin; rw [if_neg h1, hnp, if_neg h2, if_pos h3]
        · rw [if_neg h3]
  by_cases hbig : l.gen = 1099511627776
  · rw [if_pos hbig] at hE
    rw [hbig] at c2
    have HP : Hid (JRPost F lb q w (.int .i64 (lBegin s l p).1) (lBegin s l p).2.1 (lBegin s l p).2.2 (.returned (.int .i64 1)) w) := by
      show JRPost _ _ _ _ _ _ _ _ _
      rw [hE]; exact jr_same h (grew_refl _)
    clear hE hd hm h
    go_enter Try.func21, Try.ntmps21
    go_wp2
    go_ret
    exact HP.out
  · rw [if_neg hbig] at hE
    have d1 : ((l.gen : Int) == 1099511627776) = false := by simp; omega
    by_cases hlong : 65536 < n
    · rw [if_pos hlong] at hE
      have d2 : (65536 : Int) < (n : Int) := by omega
      have HP : Hid (JRPost F lb q w (.int .i64 (lBegin s l p).1) (lBegin s l p).2.1 (lBegin s l p).2.2 (.returned (.int .i64 5)) w) := by
        show JRPost _ _ _ _ _ _ _ _ _
        rw [hE]; exact jr_same h (grew_refl _)
      clear hE hd hm h hbig
      go_enter Try.func21, Try.ntmps21
      go_wp2
      go_ret
      exact HP.out
    · rw [if_neg hlong] at hE
      have d2 : ¬ (65536 : Int) < (n : Int) := by omega
      have CB : Hid (∀ w1, Calls Try.prog 49 #[.int .i64 ((n : Int) + 21)] w1 fun e w' => e = .returned (.int .i64 (nbk (n + 21) : Int)) ∧ w1 = w') := fun w1 => by
        have := rblocks_any (n + 21) (by omega) w1
        rw [Int.natCast_add] at this
        exact this
      have CRM := Lib.hid (rroom_any FD G lb q s l w hd hm)
      have i21 : IntKind.i64.wrap ((n : Int) + 21) = (n : Int) + 21 := by rw [IntKind.wrap_i64]; omega
      by_cases hfull : roomD s < nbk (n + 21)
      · rw [if_pos hfull] at hE
        have d3 : (roomD s : Int) < (nbk (n + 21) : Int) := by omega
        have HP : Hid (JRPost F lb q w (.int .i64 (lBegin s l p).1) (lBegin s l p).2.1 (lBegin s l p).2.2 (.returned (.int .i64 9)) w) := by
          show JRPost _ _ _ _ _ _ _ _ _
          rw [hE]; exact jr_same h (grew_refl _)
        clear hE hd hm h hbig hfull
        generalize nbk (n + 21) = nb at *
        generalize roomD s = room at *
        go_enter Try.func21, Try.ntmps21
        go_wp2_with (first
          | (go_at_call 49; ((with_reducible refine (CB.out _).mono ?_); rintro e w1 ⟨rfl, rfl⟩))
          | (go_at_call 50; ((with_reducible refine CRM.out.mono ?_); rintro e w1 ⟨rfl, rfl⟩)))
        go_ret
        exact HP.out
      · clear hE
        have d3 : ¬ (roomD s : Int) < (nbk (n + 21) : Int) := by omega
        obtain ⟨hf, hhf⟩ : ∃ hf, hf = 1 - l.half := ⟨_, rfl⟩
        obtain ⟨ot, hot⟩ : ∃ ot, ot = hf * roomD s := ⟨_, rfl⟩
        have hhalf := h.ok.half
        have hot2 : ot + roomD s ≤ s.safe.length := by
          have h3 : 2 * roomD s ≤ s.safe.length := by unfold roomD; omega
          rcases (by omega : hf = 0 ∨ hf = 1) with hh | hh <;> rw [hot, hh] <;> omega
        have i1 : IntKind.i64.wrap (1 - (l.half : Int)) = (hf : Int) := by rw [IntKind.wrap_i64]; omega
        have t1 := room_tdiv s
        have t2 : IntKind.i64.wrap (roomD s : Int) = (roomD s : Int) := by rw [IntKind.wrap_i64]; omega
        have t3 : (hf : Int) * (roomD s : Int) = (ot : Int) := by rw [hot, Int.natCast_mul]
        have t4 : IntKind.i64.wrap (ot : Int) = (ot : Int) := by rw [IntKind.wrap_i64]; omega
        -- the whole, as the walk goes
        have HE : Hid (lBegin s l p = 
            let z := wrL s ot (List.replicate (roomD s) blk0)
            if z.1 ≠ 0 then (z.1, z.2, l) else
            let y := dSync z.2
            if y.1 ≠ 0 then (y.1, y.2, l) else
            let w := wrL y.2 ot (rowL (l.gen + 1) (frameB (l.gen + 1) 0 p))
            if w.1 ≠ 0 then (w.1, w.2, l) else
            let v := dSync w.2
            if v.1 ≠ 0 then (v.1, v.2, l) else (0, v.2, ⟨hf, l.gen + 1, p, [], nbk (n + 21), true⟩)) := by
          show _ = _
          unfold lBegin
          rw [if_neg hbig, hnp, if_neg hlong, if_neg hfull, hot, hhf]
        have HFin : Hid (∀ (r : Int) (s' : DS) e w', RPost FD q w (.int .i64 r) s' e w' → roomD s' = roomD s → lBegin s l p = (r, s', l) → JRPost F lb q w (.int .i64 (lBegin s l p).1) (lBegin s l p).2.1 (lBegin s l p).2.2 e w') := fun r s' e w' pp hr he => by
          rw [he]
          exact jr_disk HJ.out.fit HJ.out.ok hm hDG hGF pp hr
        have HC0 : Hid (∀ w', Chg FD w w' → w'.cell? ⟨lb, 0, none⟩ = some (.pointer (some ⟨q, 0, none⟩)) ∧ w'.cell? ⟨lb, 2, none⟩ = some (.int .i64 (l.gen : Int)) ∧ lb < w'.heap.size) := fun w' g =>
          ⟨(g.cell (p := ⟨lb, 0, none⟩) hlb hlbD).trans c0, (g.cell (p := ⟨lb, 2, none⟩) hlb hlbD).trans c2, Nat.lt_of_lt_of_le hlb g.size⟩
        have HF := Lib.hid hd.fit
        have HDK := Lib.hid hd
        have HB := Lib.hid (fun w' (g : Chg FD w w') => hp.chg0 g (fun a ha h0 hF => hAF a ha h0 (hDG _ hF).1))
        have HGN : Hid (l.gen + 1 ≤ 1099511627776) := by have := h.ok.gen; show _ ≤ _; omega
        have HNN : Hid (n ≤ 65536 ∧ nbk (n + 21) ≤ roomD s ∧ hf < 2 ∧ p.length = n) := ⟨by omega, by omega, by omega, hnp⟩
        obtain ⟨ZZ, hZZ⟩ : ∃ Z, Z = (bytesV blk0).toArray := ⟨_, rfl⟩
        have hz := fun w => zero40 w
        rw [← hZZ] at hz
        have HZZ := Lib.hid hZZ
        have HOT := Lib.hid hot
        have HHF := Lib.hid hhf
        clear hhf hZZ hot hd h hbig hlong hfull hhalf c5 c6 y3 hp
        have HN5 := Lib.hid hn
        have HFEW := Lib.hid hroom
        have HSF : Hid (ot + roomD s ≤ 65536) := by show _ ≤ _; omega
        have HCELL : Hid (∀ r s' e wr, RPost FD q w r s' e wr → s'.safe.length = s.safe.length → wr.cell? ⟨lb, 0, none⟩ = some (.pointer (some ⟨q, 0, none⟩)) ∧ wr.cell? ⟨lb, 2, none⟩ = some (.int .i64 (l.gen : Int)) ∧ wr.cell? ⟨q, 0, none⟩ = some (.int .i64 (s.safe.length : Int))) := fun r s' e wr p hs => by
          obtain ⟨a, b, _⟩ := HC0.out wr p.2.1
          have := (rk_off p.2.2).2.1
          rw [hs] at this
          exact ⟨a, b, this⟩
        have t5 : ∀ k : Nat, k < roomD s → IntKind.i64.wrap ((ot : Int) + (k : Int)) = (ot : Int) + (k : Int) := fun k hk => by rw [IntKind.wrap_i64]; omega
        have HT5 := Lib.hid t5
        have HRS : Hid (roomD s = roomD s) := rfl
        clear t5 hn hroom hfew hot2
        generalize hNN : s.safe.length = NN at *
        generalize hnb : nbk (n + 21) = nb at *
        generalize hrm : roomD s = room at *
        go_enter Try.func21, Try.ntmps21
        go_upto_region 8 with (first
          | (go_at_call 49; ((with_reducible refine (CB.out _).mono ?_); rintro e w1 ⟨rfl, rfl⟩))
          | (go_at_call 50; ((with_reducible refine CRM.out.mono ?_); rintro e w1 ⟨rfl, rfl⟩)))
        go_wp2
        clear c0 c1 c2 y0
        have d4 : decide (room < nb) = false := by rw [decide_eq_false_iff_not]; have := HNN.out.2.1; omega
        simp only [d4]
        clear d4
        go_loopw [6] (fun v6 wr => ∃ k : Nat, v6 = .int .i64 k ∧ k ≤ room ∧ Hid ((wrL s ot (List.replicate k blk0)).1 = 0) ∧ Hid (RPost FD q w (.int .i64 0) (wrL s ot (List.replicate k blk0)).2 (.returned (.int .i64 0)) wr)) (fun v6 _ => room - (intOf v6).toNat)
        case atStart => exact ⟨0, rfl, Nat.zero_le _, rfl, rfl, rk_same HDK.out⟩
        case round =>
          obtain ⟨k, rfl, hk, HZ0, HP⟩ := hrel
          obtain ⟨c0, c2, y0⟩ := HCELL.out _ _ _ _ HP.out (by rw [wrL_keeps]; exact hNN)
          by_cases hlt : k < room
          · have a3 : (k : Int) < (room : Int) := by omega
            have hbd : room ≤ 32768 := HFEW.out
            have t5 := HT5.out k hlt
            obtain ⟨e1, s1, hws⟩ : ∃ e1 s1, wrL s ot (List.replicate (k + 1) blk0) = (e1, s1) := ⟨_, _, rfl⟩
            have hdw : dWrite (wrL s ot (List.replicate k blk0)).2 ((ot + k : Nat) : Int) blk0 = (e1, s1) := by
              rw [← hws, List.replicate_succ', wrL_snoc _ _ _ _ HZ0.out, List.length_replicate]
            have hop2 := wrL_opn s ot (List.replicate k blk0)
            have CWR := rwrite_any (FX FD w wr) q (wrL s ot (List.replicate k blk0)).2 ((ot + k : Nat) : Int) blk0 wr.drew (HP.out.2.2.chg ((Chg.refl (fun _ => False) wr).drew) (fun _ _ h => h)) rfl (by rw [List.length_replicate] at hop2; have := HN5.out; have := HFEW.out; omega)
            rw [hdw, Int.natCast_add] at CWR
            have hV9 : blkV' blk0 = .agg ZZ := by rw [HZZ.out]; rfl
            rw [hV9] at CWR
            have hs1 : s1.safe = s.safe := by have := wrL_keeps s ot (List.replicate (k + 1) blk0); rw [hws] at this; exact this
            have HPN : Hid (∀ e w9, RPost (FX FD w wr) q wr.drew (.int .i64 e1) s1 e w9 → RPost FD q w (.int .i64 e1) s1 e w9 ∧ w9.cell? ⟨lb, 0, none⟩ = some (.pointer (some ⟨q, 0, none⟩)) ∧ w9.cell? ⟨q, 0, none⟩ = some (.int .i64 (NN : Int))) := fun e w9 p => by
              have h9 : RPost FD q w (.int .i64 e1) s1 e w9 := rp_mk HF.out HP.out.2.1.size (show wr.heap.size ≤ wr.drew.heap.size from Nat.le_refl _) ((HP.out.2.1.mono (fun i hi => Or.inl hi)).drew) p
              obtain ⟨a, _, c⟩ := HCELL.out _ _ _ _ h9 (by rw [hs1]; exact hNN)
              exact ⟨h9, a, c⟩
            have HWS := Lib.hid hws
            have CWR := Lib.hid CWR
            clear hws hdw hop2 hV9 hs1 c2
            go_upto_region 11 with fail
            go_region_held3 (fun w' => w'.cell? ⟨lb, 0, none⟩ = some (.pointer (some ⟨q, 0, none⟩)) ∧ w'.cell? ⟨q, 0, none⟩ = some (.int .i64 (NN : Int)))
              (first | exact ⟨c0, y0⟩ | exact ⟨hx9, hr9⟩)
              (first
                | (go_at_call 26; ((with_reducible refine CWR.out.mono ?_); rintro e w9 hp9; obtain ⟨⟨rfl, hc9, hk9⟩, hx9, hr9⟩ := HPN.out e w9 hp9; have HC9 := Lib.hid hc9; have HK9 := Lib.hid hk9; clear hp9 hc9 hk9)))
            by_cases he : e1 = 0
            · subst he
              go_wp2
              go_roundw
              case rel => exact ⟨k + 1, by go_num, by omega, by show _ = _; rw [HWS.out], by rw [HWS.out]; exact ⟨rfl, HC9.out, HK9.out⟩⟩
              case measure => simp only [intOf]; omega
            · have d9 : (e1 != 0) = true := bne_iff_ne.2 he
              have HF9 : Hid (JRPost F lb q w (.int .i64 (lBegin s l p).1) (lBegin s l p).2.1 (lBegin s l p).2.2 (.returned (.int .i64 e1)) w9) := by
                have h1 : List.replicate room blk0 = List.replicate (k + 1) blk0 ++ List.replicate (room - (k + 1)) blk0 := by rw [List.replicate_append_replicate]; congr 1; omega
                have h3 : wrL s ot (List.replicate room blk0) = (e1, s1) := by rw [h1, wrL_stop _ _ _ _ (by rw [HWS.out]; exact he), HWS.out]
                refine HFin.out e1 s1 _ _ ⟨rfl, HC9.out, HK9.out⟩ ?_ ?_
                · rw [← hrm]; exact roomD_safe (by have := wrL_keeps s ot (List.replicate (k + 1) blk0); rw [HWS.out] at this; exact this)
                · rw [HE.out, h3]; simp only [ne_eq, he, not_false_eq_true, if_true]
              clear hlt
              go_wp2
              go_ret
              exact HF9.out
          · obtain rfl : k = room := by omega
            clear hlt
            -- synced
            have hbd : k ≤ 32768 := HFEW.out
            obtain ⟨r1, s1, hs1⟩ : ∃ r1 s1, dSync (wrL s ot (List.replicate k blk0)).2 = (r1, s1) := ⟨_, _, rfl⟩
            have hop1 : (wrL s ot (List.replicate k blk0)).2.opn.length ≤ 532768 := by
              have hop2 := wrL_opn s ot (List.replicate k blk0)
              rw [List.length_replicate] at hop2; have := HN5.out; omega
            have CS1 := rsync_any (FX FD w wr) q (wrL s ot (List.replicate k blk0)).2 wr HP.out.2.2 (by omega)
            rw [hs1] at CS1
            have CS1 : Hid (Calls Try.prog 18 #[.pointer (some ⟨q, 0, none⟩)] wr fun e w' => RPost FD q w (.int .i64 r1) s1 e w') := CS1.mono fun e w' p => rpost_then HF.out HP.out.2.1 p
            have hl1 : s1.safe.length = s.safe.length := by have h1 := dSync_len (wrL s ot (List.replicate k blk0)).2; rw [hs1, wrL_keeps] at h1; exact h1
            have ho1 : s1.opn.length ≤ 532768 := by have h1 := dSync_opn (wrL s ot (List.replicate k blk0)).2; rw [hs1] at h1; exact Nat.le_trans h1 hop1
            have HL1 := Lib.hid hl1
            have HE1 : Hid (lBegin s l p = if r1 ≠ 0 then (r1, s1, l) else if (wrL s1 ot (rowL (l.gen + 1) (frameB (l.gen + 1) 0 p))).1 ≠ 0 then ((wrL s1 ot (rowL (l.gen + 1) (frameB (l.gen + 1) 0 p))).1, (wrL s1 ot (rowL (l.gen + 1) (frameB (l.gen + 1) 0 p))).2, l) else if (dSync (wrL s1 ot (rowL (l.gen + 1) (frameB (l.gen + 1) 0 p))).2).1 ≠ 0 then ((dSync (wrL s1 ot (rowL (l.gen + 1) (frameB (l.gen + 1) 0 p))).2).1, (dSync (wrL s1 ot (rowL (l.gen + 1) (frameB (l.gen + 1) 0 p))).2).2, l) else (0, (dSync (wrL s1 ot (rowL (l.gen + 1) (frameB (l.gen + 1) 0 p))).2).2, ⟨hf, l.gen + 1, p, [], nb, true⟩)) := by
              show _ = _
              rw [HE.out, if_neg (fun h => h HZ0.out), hs1]
            clear HE hs1 hop1 HP HZ0 HDK HT5 hl1 t3 t4
            by_cases hr1 : r1 = 0
            · subst hr1
              obtain ⟨fr, hfr⟩ : ∃ fr, fr = frameB (l.gen + 1) 0 p := ⟨_, rfl⟩
              obtain ⟨g1, hg1⟩ : ∃ g1, g1 = l.gen + 1 := ⟨_, rfl⟩
              have hg1b : g1 ≤ 1099511627776 := by have := HGN.out; omega
              have i3 : IntKind.i64.wrap ((l.gen : Int) + 1) = (g1 : Int) := by rw [IntKind.wrap_i64]; omega
              rw [← hfr, ← hg1] at HE1
              have CSEAL : Hid (∀ w', Chg FD w w' → Calls Try.prog 52 #[.int .i64 (g1 : Int), .int .i64 0, .slice A n c] w' fun e w'' => Grew w' w'' ∧ ∃ A2 c2, e = .returned (.slice A2 (n + 21) c2) ∧ Bys w'' A2 (n + 21) fr ∧ ∀ a, A2 = some a → w'.heap.size ≤ a.block) := fun w' g => by
                have h1 := refSeal_any g1 0 A n c p w' (HB.out w' g) hA hg1b (by omega) (by have := HNN.out.1; omega)
                rw [hg1, ← hfr, ← hg1] at h1
                refine h1.mono fun e w'' ⟨g2, v, he, ho⟩ => ⟨g2, ?_⟩
                obtain ⟨A2, c2, rfl, hb2, _⟩ := bys_of_own ho
                refine ⟨A2, c2, he, hb2, fun a ha => ?_⟩
                rcases ho.2 with ⟨e2, _⟩ | ⟨b, cap, cur, e2, hb, _⟩
                · cases e2
                · cases e2; cases ha; exact hb
              obtain ⟨r2, s2, hs2⟩ : ∃ r2 s2, wrL s1 ot (rowL g1 fr) = (r2, s2) := ⟨_, _, rfl⟩
              have hrm1 : roomD s1 = k := by rw [← hrm]; unfold roomD; rw [HL1.out]
              have hfl : fr.length ≤ 65557 := by rw [hfr]; have := HNN.out; rw [frameB_len]; omega
              have CPUT : Hid (∀ w', RPost FD q w (.int .i64 0) s1 (.returned (.int .i64 0)) w' → ∀ w2 A2 c2, Grew w'.drew w2 → Bys w2 A2 (n + 21) fr → (∀ a, A2 = some a → w'.drew.heap.size ≤ a.block) → Calls Try.prog 51 #[.pointer (some ⟨q, 0, none⟩), .int .i64 (hf : Int), .int .i64 0, .int .i64 (g1 : Int), .slice A2 (n + 21) c2] w2 fun e w3 => RPost FD q w (.int .i64 r2) s2 e w3) := fun w' hp w2 A2 c2 hg2 hb2 hn2 => by
                have hfit : ∀ i, FX FD w w' i → i < w'.heap.size := fx_lt HF.out hp.2.1.size
                have h1 := rput_any (FX FD w w') q s1 hf 0 g1 fr A2 (n + 21) c2 w2 ((hp.2.2.grew (grew_drew (grew_refl _))).grew hg2) hb2 (fun a ha _ hh => by have h3 := hn2 a ha; have h4 := hfit _ hh; have h5 : w'.drew.heap.size = w'.heap.size := rfl; omega) (by have := HNN.out.1; omega) HNN.out.2.2.1 (by omega) (by omega) (by omega)
                rw [hrm1, ← HOT.out, Nat.add_zero ot, hs2] at h1
                refine h1.mono fun e w3 p => ?_
                exact rp_mk HF.out hp.2.1.size (by have := hg2.size; exact this) (((hp.2.1.mono (fun i hi => Or.inl hi)).drew).trans hg2.chg) p
              have hl2 : s2.safe.length = s.safe.length := by have h1 := wrL_keeps s1 ot (rowL g1 fr); rw [hs2] at h1; rw [← HL1.out]; exact congrArg List.length h1
              have ho2 : s2.opn.length ≤ 600000 := by
                have h1 := wrL_opn s1 ot (rowL g1 fr); rw [hs2] at h1
                have h2 : (rowL g1 fr).length = nbk fr.length := by simp [rowL]
                have h3 : nbk fr.length ≤ 1100 := by unfold nbk; omega
                have h1 : s2.opn.length ≤ _ := h1
                omega
              have HL2 := Lib.hid hl2
              obtain ⟨r3, s3, hs3⟩ : ∃ r3 s3, dSync s2 = (r3, s3) := ⟨_, _, rfl⟩
              have CS2 : Hid (∀ w', RPost FD q w (.int .i64 0) s2 (.returned (.int .i64 0)) w' → Calls Try.prog 18 #[.pointer (some ⟨q, 0, none⟩)] w' fun e w'' => RPost FD q w (.int .i64 r3) s3 e w'') := fun w' hp => by
                have h1 := rsync_any (FX FD w w') q s2 w' hp.2.2 (by omega)
                rw [hs3] at h1
                exact h1.mono fun e w'' p => rpost_then HF.out hp.2.1 p
              have hl3 : s3.safe.length = s.safe.length := by have h1 := dSync_len s2; rw [hs3, HL2.out] at h1; exact h1
              have HL3 := Lib.hid hl3
              have HE2 : Hid (lBegin s l p = if r2 ≠ 0 then (r2, s2, l) else if r3 ≠ 0 then (r3, s3, l) else (0, s3, ⟨hf, g1, p, [], nb, true⟩)) := by
                show _ = _
                rw [HE1.out, if_neg (fun h => h rfl), hs2, hs3]
              have HG1 : Hid (g1 ≤ 1099511627776) := hg1b
              clear HE1 hs2 hs3 hl2 hl3 hrm1 hfl hfr hg1 ho1 ho2 hg1b
              go_upto_region 16 with (first
                | (go_at_call 18; ((with_reducible refine CS1.out.mono ?_); rintro e wS hp1; obtain ⟨he1, hc1, hk1⟩ := hp1; subst he1; have HP1 : Hid (RPost FD q w (.int .i64 0) s1 (.returned (.int .i64 0)) wS) := ⟨rfl, hc1, hk1⟩; have HPC : Hid (Chg FD w wS.drew) := hc1.drew; clear hc1 hk1)))
              clear c0 c2 t1 t2 y0
              obtain ⟨c0, c2, _⟩ := HCELL.out _ _ _ _ HP1.out (by rw [HL1.out]; exact hNN)
              go_region_held3 (fun w' => w'.cell? ⟨lb, 0, none⟩ = some (.pointer (some ⟨q, 0, none⟩)) ∧ w'.cell? ⟨lb, 2, none⟩ = some (.int .i64 (l.gen : Int)))
                (first | exact ⟨c0, c2⟩ | exact ⟨x0, x2⟩ | exact ⟨z0, z2⟩)
                (first
                  | (go_at_call 52; ((with_reducible refine (CSEAL.out _ HPC.out).mono ?_); rintro e w2 ⟨hg2, A2, c2', rfl, hb2, hn2⟩; have HG2 := Lib.hid hg2; have HB2 := Lib.hid hb2; have HN2 := Lib.hid hn2; have hx2 := HC0.out w2 (HPC.out.trans hg2.chg); have x0 := hx2.1; have x2 := hx2.2.1; clear hg2 hb2 hn2 hx2))
                  | (go_at_call 51; ((with_reducible refine (CPUT.out _ HP1.out _ _ _ HG2.out HB2.out HN2.out).mono ?_); rintro e w3 hp3; obtain ⟨he3, hc3, hk3⟩ := hp3; subst he3; have HP3 : Hid (RPost FD q w (.int .i64 r2) s2 (.returned (.int .i64 r2)) w3) := ⟨rfl, hc3, hk3⟩; have hx3 := HC0.out w3 hc3; have z0 := hx3.1; have z2 := hx3.2.1; clear hc3 hk3 hx3)))
              clear CSEAL CPUT c0 c2 x0 x2 HG2 HB2 HN2
              by_cases hr2 : r2 = 0
              · subst hr2
                by_cases hr3 : r3 = 0
                · subst hr3
                  have HAN := Lib.hid hA
                  have HN6 : Hid (n ≤ 65536) := HNN.out.1
                  have hroom3 : roomD s3 = k := by rw [← hrm]; unfold roomD; rw [HL3.out]
                  have HLOK : Hid (LOK s3 ⟨hf, g1, p, [], nb, true⟩) := ⟨HNN.out.2.2.1, by rw [hroom3]; exact HNN.out.2.1, Nat.zero_le _, HG1.out, by rw [hnp]; exact HNN.out.1, fun r hr => (by cases hr)⟩
                  have HEE : Hid (lBegin s l p = (0, s3, ⟨hf, g1, p, [], nb, true⟩)) := by
                    show _ = _
                    rw [HE2.out, if_neg (fun h => h rfl), if_neg (fun h => h rfl)]
                  clear HE2 hroom3 hA
                  go_upto_region 22 with (first
                    | (go_at_call 18; ((with_reducible refine (CS2.out _ HP3.out).mono ?_); rintro e w4 hp4; obtain ⟨he4, hc4, hk4⟩ := hp4; subst he4; have HC4 := Lib.hid hc4; have HK4 := Lib.hid hk4; clear hc4 hk4)))
                  obtain ⟨sv0, rv0, hr0, ht0, _⟩ := (hm.chg HC4.out (fun k hg hd => (hDG k hd).2 hg)).ex
                  have hlb4 : lb < w4.heap.size := Nat.lt_of_lt_of_le hlb HC4.out.size
                  have c2 : w4.cell? ⟨lb, 2, none⟩ = some (.int .i64 (l.gen : Int)) := (range7 hr0).2.2.1
                  have HBY : Hid (Bys w4.drew A n p) := HB.out w4.drew HC4.out.drew
                  have HTHERE : Hid (∀ w6, Below w4.heap.size w4.drew w6 → w6.cell? ⟨lb, 1, none⟩ = some (.int .i64 (l.half : Int)) ∧ w6.cell? ⟨lb, 2, none⟩ = some (.int .i64 (l.gen : Int)) ∧ w6.cell? ⟨lb, 3, none⟩ = some sv0 ∧ w6.cell? ⟨lb, 4, none⟩ = some rv0 ∧ w6.cell? ⟨lb, 5, none⟩ = some (.int .i64 (l.fin : Int)) ∧ w6.cell? ⟨lb, 6, none⟩ = some (.bool l.begun) ∧
                      w6.frozen? ⟨lb, 1, none⟩ = false ∧ w6.frozen? ⟨lb, 2, none⟩ = false ∧ w6.frozen? ⟨lb, 3, none⟩ = false ∧ w6.frozen? ⟨lb, 4, none⟩ = false ∧ w6.frozen? ⟨lb, 5, none⟩ = false ∧ w6.frozen? ⟨lb, 6, none⟩ = false ∧ True) := fun w6 hb => by
                    have hbk := hb.block lb hlb4
                    obtain ⟨_, d1, d2, d3, d4, d5, d6⟩ := range7 (rangeAt_of (w := w4.drew) hr0 hbk)
                    have ht6 := there_of (w := w4.drew) ht0 hbk
                    have f1 := (ht6 1 (by omega)).2
                    have f2 := (ht6 2 (by omega)).2
                    have f3 := (ht6 3 (by omega)).2
                    have f4 := (ht6 4 (by omega)).2
                    have f5 := (ht6 5 (by omega)).2
                    have f6 := (ht6 6 (by omega)).2
                    simp only [Nat.zero_add] at f1 f2 f3 f4 f5 f6
                    exact ⟨d1, d2, d3, d4, d5, d6, f1, f2, f3, f4, f5, f6, trivial⟩
                  have HEND : Hid (∀ A6 c6 w6, w6.ownsRow w4.heap.size 5 1 (.slice A6 n c6) n (p.map byv) → Below w4.heap.size w4.drew w6 → JRPost F lb q w (.int .i64 (lBegin s l p).1) (lBegin s l p).2.1 (lBegin s l p).2.2 (.returned (.int .i64 0))
                      ((((((w6.setCell ⟨lb, 1, none⟩ (.int .i64 (hf : Int))).setCell ⟨lb, 2, none⟩ (.int .i64 (g1 : Int))).setCell ⟨lb, 3, none⟩ (.slice A6 n c6)).setCell ⟨lb, 4, none⟩ (.slice none 0 0)).setCell ⟨lb, 5, none⟩ (.int .i64 (nb : Int))).setCell ⟨lb, 6, none⟩ (.bool true))) := fun A6 c6 w6 ho hb => by
                    rw [HEE.out]
                    exact rbegin_end (l2 := ⟨hf, g1, p, [], nb, true⟩) (sv := .slice A6 n c6) HJ.out.fit hm hDG hGF HC4.out HK4.out (grew_trans (grew_drew (grew_refl _)) hb) (by show w6.ownsRow _ _ 1 _ p.length _; rw [hnp]; exact ho) rfl HLOK.out
                  clear hr0 ht0 hlb4 HCELL HC0 HFin HEE HLOK HC4 HK4 CS2 HP3 HP1 HPC HB
                  -- REGION22
                  refine wp_region_held_drew (S := fun _ => True) (by kernel_rfl) trivial (fun hHeld => ?_)
                  (refine wpAnyH_take (i := 0) (oi := { dst := some 98, op := Op.move (Operand.tmp 0), type := 32, pos := "ref.go:250", after := #[], guard := none }) (v := ?_) rfl (by kernel_rfl) (by kernel_rfl) (by kernel_rfl) (fun _ _ _ h => h) (Or.inl ⟨by rfl, ?_⟩) (by assumption) ?_; rotate_left; · (intro w hSw; (try dsimp only at hSw); go_simp; (first | done | with_reducible rfl)))
                  try simp only [Act.put, List.setIfInBounds_toArray, List.set_cons_zero, List.set_cons_succ]
                  (refine wpAnyH_take (i := 1) (oi := { dst := some 99, op := Op.move (Operand.tmp 0), type := 32, pos := "ref.go:250", after := #[{ on := 21, ground := Ground.gcOnly Departure.lateStores }], guard := none }) (v := ?_) rfl (by kernel_rfl) (by kernel_rfl) (by kernel_rfl) (fun _ _ _ h => h) (Or.inl ⟨by rfl, ?_⟩) (by assumption) ?_; rotate_left; · (intro w hSw; (try dsimp only at hSw); go_simp; (first | done | with_reducible rfl)))
                  try simp only [Act.put, List.setIfInBounds_toArray, List.set_cons_zero, List.set_cons_succ]
                  (refine wpAnyH_take (i := 2) (oi := { dst := some 100, op := Op.move (Operand.tmp 0), type := 32, pos := "ref.go:250", after := #[{ on := 24, ground := Ground.gcOnly Departure.lateStores }], guard := none }) (v := ?_) rfl (by kernel_rfl) (by kernel_rfl) (by kernel_rfl) (fun _ _ _ h => h) (Or.inl ⟨by rfl, ?_⟩) (by assumption) ?_; rotate_left; · (intro w hSw; (try dsimp only at hSw); go_simp; (first | done | with_reducible rfl)))
                  try simp only [Act.put, List.setIfInBounds_toArray, List.set_cons_zero, List.set_cons_succ]
                  (refine wpAnyH_take (i := 3) (oi := { dst := some 101, op := Op.move (Operand.tmp 0), type := 32, pos := "ref.go:250", after := #[{ on := 27, ground := Ground.gcOnly Departure.lateStores }], guard := none }) (v := ?_) rfl (by kernel_rfl) (by kernel_rfl) (by kernel_rfl) (fun _ _ _ h => h) (Or.inl ⟨by rfl, ?_⟩) (by assumption) ?_; rotate_left; · (intro w hSw; (try dsimp only at hSw); go_simp; (first | done | with_reducible rfl)))
                  try simp only [Act.put, List.setIfInBounds_toArray, List.set_cons_zero, List.set_cons_succ]
                  (refine wpAnyH_take (i := 4) (oi := { dst := some 102, op := Op.move (Operand.tmp 0), type := 32, pos := "ref.go:250", after := #[{ on := 30, ground := Ground.gcOnly Departure.lateStores }], guard := none }) (v := ?_) rfl (by kernel_rfl) (by kernel_rfl) (by kernel_rfl) (fun _ _ _ h => h) (Or.inl ⟨by rfl, ?_⟩) (by assumption) ?_; rotate_left; · (intro w hSw; (try dsimp only at hSw); go_simp; (first | done | with_reducible rfl)))
                  try simp only [Act.put, List.setIfInBounds_toArray, List.set_cons_zero, List.set_cons_succ]
                  (refine wpAnyH_take (i := 5) (oi := { dst := some 103, op := Op.move (Operand.tmp 0), type := 32, pos := "ref.go:250", after := #[{ on := 33, ground := Ground.gcOnly Departure.lateStores }], guard := none }) (v := ?_) rfl (by kernel_rfl) (by kernel_rfl) (by kernel_rfl) (fun _ _ _ h => h) (Or.inl ⟨by rfl, ?_⟩) (by assumption) ?_; rotate_left; · (intro w hSw; (try dsimp only at hSw); go_simp; (first | done | with_reducible rfl)))
                  try simp only [Act.put, List.setIfInBounds_toArray, List.set_cons_zero, List.set_cons_succ]
                  (refine wpAnyH_take (i := 6) (oi := { dst := some 104, op := Op.move (Operand.tmp 5), type := 3, pos := "ref.go:250", after := #[], guard := none }) (v := ?_) rfl (by kernel_rfl) (by kernel_rfl) (by kernel_rfl) (fun _ _ _ h => h) (Or.inl ⟨by rfl, ?_⟩) (by assumption) ?_; rotate_left; · (intro w hSw; (try dsimp only at hSw); go_simp; (first | done | with_reducible rfl)))
                  try simp only [Act.put, List.setIfInBounds_toArray, List.set_cons_zero, List.set_cons_succ]
                  (refine wpAnyH_take (i := 7) (oi := { dst := some 105, op := Op.move (Operand.tmp 0), type := 32, pos := "ref.go:250", after := #[], guard := none }) (v := ?_) rfl (by kernel_rfl) (by kernel_rfl) (by kernel_rfl) (fun _ _ _ h => h) (Or.inl ⟨by rfl, ?_⟩) (by assumption) ?_; rotate_left; · (intro w hSw; (try dsimp only at hSw); go_simp; (first | done | with_reducible rfl)))
                  try simp only [Act.put, List.setIfInBounds_toArray, List.set_cons_zero, List.set_cons_succ]
                  (refine wpAnyH_take (i := 8) (oi := { dst := some 106, op := Op.nilCheck (Operand.tmp 105), type := 0, pos := "ref.go:250", after := #[{ on := 7, ground := Ground.data }], guard := none }) (v := ?_) rfl (by kernel_rfl) (by kernel_rfl) (by kernel_rfl) (fun _ _ _ h => h) (Or.inl ⟨by rfl, ?_⟩) (by assumption) ?_; rotate_left; · (intro w hSw; (try dsimp only at hSw); go_simp; (first | done | with_reducible rfl)))
                  try simp only [Act.put, List.setIfInBounds_toArray, List.set_cons_zero, List.set_cons_succ]
                  (refine wpAnyH_take (i := 9) (oi := { dst := some 107, op := Op.fieldAddr 72 (Operand.tmp 106) 2, type := 0, pos := "ref.go:250", after := #[{ on := 8, ground := Ground.data }], guard := none }) (v := ?_) rfl (by kernel_rfl) (by kernel_rfl) (by kernel_rfl) (fun _ _ _ h => h) (Or.inl ⟨by rfl, ?_⟩) (by assumption) ?_; rotate_left; · (intro w hSw; (try dsimp only at hSw); go_simp; (first | done | with_reducible rfl)))
                  try simp only [Act.put, List.setIfInBounds_toArray, List.set_cons_zero, List.set_cons_succ]
                  (refine wpAnyH_take (i := 12) (oi := { dst := some 110, op := Op.move (Operand.tmp 9), type := 37, pos := "ref.go:250", after := #[], guard := none }) (v := ?_) rfl (by kernel_rfl) (by kernel_rfl) (by kernel_rfl) (fun _ _ _ h => h) (Or.inl ⟨by rfl, ?_⟩) (by assumption) ?_; rotate_left; · (intro w hSw; (try dsimp only at hSw); go_simp; (first | done | with_reducible rfl)))
                  try simp only [Act.put, List.setIfInBounds_toArray, List.set_cons_zero, List.set_cons_succ]
                  (refine wpAnyH_take (i := 13) (oi := { dst := some 111, op := Op.move (Operand.tmp 1), type := 37, pos := "ref.go:250", after := #[], guard := none }) (v := ?_) rfl (by kernel_rfl) (by kernel_rfl) (by kernel_rfl) (fun _ _ _ h => h) (Or.inl ⟨by rfl, ?_⟩) (by assumption) ?_; rotate_left; · (intro w hSw; (try dsimp only at hSw); go_simp; (first | done | with_reducible rfl)))
                  try simp only [Act.put, List.setIfInBounds_toArray, List.set_cons_zero, List.set_cons_succ]
                  (refine wpAnyH_take (i := 15) (oi := { dst := some 113, op := Op.move (Operand.tmp 1), type := 37, pos := "ref.go:250", after := #[], guard := none }) (v := ?_) rfl (by kernel_rfl) (by kernel_rfl) (by kernel_rfl) (fun _ _ _ h => h) (Or.inl ⟨by rfl, ?_⟩) (by assumption) ?_; rotate_left; · (intro w hSw; (try dsimp only at hSw); go_simp; (first | done | with_reducible rfl)))
                  try simp only [Act.put, List.setIfInBounds_toArray, List.set_cons_zero, List.set_cons_succ]
                  (refine wpAnyH_take (i := 16) (oi := { dst := some 114, op := Op.call { callee := Go.Callee.builtin Go.Builtin.len, args := #[Operand.tmp 113], argTypes := #[37] }, type := 3, pos := "ref.go:250", after := #[{ on := 15, ground := Ground.data }], guard := none }) (v := ?_) rfl (by kernel_rfl) (by kernel_rfl) (by kernel_rfl) (fun _ _ _ h => h) (Or.inl ⟨by rfl, ?_⟩) (by assumption) ?_; rotate_left; · (intro w hSw; (try dsimp only at hSw); go_simp; (first | done | with_reducible rfl)))
                  try simp only [Act.put, List.setIfInBounds_toArray, List.set_cons_zero, List.set_cons_succ]
                  (refine wpAnyH_take (i := 17) (oi := { dst := some 115, op := Op.binOp BinOp.add 3 (Operand.tmp 114) (Operand.const (Value.int IntKind.i64 21)) 3, type := 3, pos := "ref.go:250", after := #[{ on := 16, ground := Ground.data }], guard := none }) (v := ?_) rfl (by kernel_rfl) (by kernel_rfl) (by kernel_rfl) (fun _ _ _ h => h) (Or.inl ⟨by rfl, ?_⟩) (by assumption) ?_; rotate_left; · (intro w hSw; (try dsimp only at hSw); go_simp; (first | done | with_reducible rfl)))
                  try simp only [Act.put, List.setIfInBounds_toArray, List.set_cons_zero, List.set_cons_succ]
                  refine wpAnyH_ready (rs := [10, 14]) (by kernel_rfl) (by simp) ?_
                  refine (AllReadyH.cons (o := { dst := some 108, op := Op.load 3 (Operand.tmp 107), type := 3, pos := "ref.go:250", after := #[{ on := 9, ground := Ground.data }], guard := none }) rfl (fun K hK => ?_) (AllReadyH.cons (o := { dst := some 112, op := Op.call { callee := Go.Callee.builtin Go.Builtin.append, args := #[Operand.tmp 110, Operand.tmp 111], argTypes := #[37, 37] }, type := 37, pos := "ref.go:250", after := #[{ on := 12, ground := Ground.data }, { on := 13, ground := Ground.data }], guard := none }) rfl (fun K hK => ?_) AllReadyH.nil))
                  · go_simp
                    refine hK.out _ _ ?_ (fun hHeld => ?_)
                    · first
                      | exact trivial
                    clear hK K
                    try simp only [Act.put, List.setIfInBounds_toArray, List.set_cons_zero, List.set_cons_succ]
                    (refine wpAnyH_take (i := 11) (oi := { dst := some 109, op := Op.binOp BinOp.add 3 (Operand.tmp 108) (Operand.const (Value.int IntKind.i64 1)) 3, type := 3, pos := "ref.go:250", after := #[{ on := 10, ground := Ground.data }], guard := none }) (v := ?_) rfl (by kernel_rfl) (by kernel_rfl) (by kernel_rfl) (fun _ _ _ h => h) (Or.inl ⟨by rfl, ?_⟩) (by assumption) ?_; rotate_left; · (intro w hSw; (try dsimp only at hSw); go_simp; (first | done | with_reducible rfl)))
                    try simp only [Act.put, List.setIfInBounds_toArray, List.set_cons_zero, List.set_cons_succ]
                    refine wpAnyH_ready (rs := [14]) (by kernel_rfl) (by simp) ?_
                    refine (AllReadyH.cons (o := { dst := some 112, op := Op.call { callee := Go.Callee.builtin Go.Builtin.append, args := #[Operand.tmp 110, Operand.tmp 111], argTypes := #[37, 37] }, type := 37, pos := "ref.go:250", after := #[{ on := 12, ground := Ground.data }, { on := 13, ground := Ground.data }], guard := none }) rfl (fun K hK => ?_) AllReadyH.nil)
                    (refine step_append_some rfl _ _ rfl w4.heap.size (.slice none 0 0) 0 [] rfl (World.ownsRow_nil _ _ _ _) A n c p rfl HAN.out HBY.out (by have := HN6.out; omega) (Nat.le_refl _) ?_; intro v6 w6 ho6 hb6; rw [Nat.zero_add, List.nil_append] at ho6; obtain ⟨A6, c6, rfl⟩ := own_form ho6; obtain ⟨g1', g2', g3', g4', g5', g6', f1, f2, f3, f4, f5, f6, hq⟩ := HTHERE.out w6 hb6; have HE6 := Lib.hid (HEND.out A6 c6 w6 ho6 hb6); clear ho6 hb6 hq)
                    refine hK.out _ _ ?_ (fun hHeld => ?_)
                    · first
                      | exact trivial
                    clear hK K
                    try simp only [Act.put, List.setIfInBounds_toArray, List.set_cons_zero, List.set_cons_succ]
                    refine wpAnyH_ready (rs := [18]) (by kernel_rfl) (by simp) ?_
                    refine (AllReadyH.cons (o := { dst := some 116, op := Op.call { callee := Go.Callee.value (Operand.func 49), args := #[Operand.tmp 115], argTypes := #[3] }, type := 3, pos := "ref.go:250", after := #[{ on := 17, ground := Ground.data }, { on := 14, ground := Ground.chain }], guard := none }) rfl (fun K hK => ?_) AllReadyH.nil)
                    go_simp
                    (go_at_call 49; ((with_reducible refine (CB.out _).mono ?_); rintro e w7 ⟨rfl, rfl⟩))
                    refine hK.out _ _ ?_ (fun hHeld => ?_)
                    · first
                      | exact trivial
                    clear hK K
                    try simp only [Act.put, List.setIfInBounds_toArray, List.set_cons_zero, List.set_cons_succ]
                    (refine wpAnyH_take (i := 19) (oi := { dst := some 117, op := Op.nilCheck (Operand.tmp 98), type := 0, pos := "ref.go:250", after := #[{ on := 0, ground := Ground.data }, { on := 0, ground := Ground.phase }, { on := 1, ground := Ground.textOnly Departure.lateStores }, { on := 2, ground := Ground.textOnly Departure.lateStores }, { on := 3, ground := Ground.textOnly Departure.lateStores }, { on := 4, ground := Ground.textOnly Departure.lateStores }, { on := 5, ground := Ground.textOnly Departure.lateStores }, { on := 6, ground := Ground.phase }, { on := 7, ground := Ground.textOnly Departure.lateStores }, { on := 8, ground := Ground.textOnly Departure.lateStoresUnsure }, { on := 9, ground := Ground.textOnly Departure.lateStoresUnsure }, { on := 10, ground := Ground.phase }, { on := 11, ground := Ground.textOnly Departure.lateStoresUnsure }, { on := 12, ground := Ground.textOnly Departure.lateStores }, { on := 13, ground := Ground.textOnly Departure.lateStores }, { on := 14, ground := Ground.phase }, { on := 15, ground := Ground.textOnly Departure.lateStores }, { on := 16, ground := Ground.textOnly Departure.lateStoresUnsure }, { on := 17, ground := Ground.textOnly Departure.lateStores }, { on := 18, ground := Ground.phase }], guard := none }) (v := ?_) rfl (by kernel_rfl) (by kernel_rfl) (by kernel_rfl) (fun _ _ _ h => h) (Or.inl ⟨by rfl, ?_⟩) (by assumption) ?_; rotate_left; · (intro w hSw; (try dsimp only at hSw); go_simp; (first | done | with_reducible rfl)))
                    try simp only [Act.put, List.setIfInBounds_toArray, List.set_cons_zero, List.set_cons_succ]
                    (refine wpAnyH_take (i := 20) (oi := { dst := some 118, op := Op.fieldAddr 72 (Operand.tmp 117) 1, type := 0, pos := "ref.go:250", after := #[{ on := 19, ground := Ground.data }, { on := 0, ground := Ground.phase }, { on := 1, ground := Ground.textOnly Departure.lateStores }, { on := 2, ground := Ground.textOnly Departure.lateStores }, { on := 3, ground := Ground.textOnly Departure.lateStores }, { on := 4, ground := Ground.textOnly Departure.lateStores }, { on := 5, ground := Ground.textOnly Departure.lateStores }, { on := 6, ground := Ground.phase }, { on := 7, ground := Ground.textOnly Departure.lateStores }, { on := 8, ground := Ground.textOnly Departure.lateStoresUnsure }, { on := 9, ground := Ground.textOnly Departure.lateStoresUnsure }, { on := 10, ground := Ground.phase }, { on := 11, ground := Ground.textOnly Departure.lateStoresUnsure }, { on := 12, ground := Ground.textOnly Departure.lateStores }, { on := 13, ground := Ground.textOnly Departure.lateStores }, { on := 14, ground := Ground.phase }, { on := 15, ground := Ground.textOnly Departure.lateStores }, { on := 16, ground := Ground.textOnly Departure.lateStoresUnsure }, { on := 17, ground := Ground.textOnly Departure.lateStores }, { on := 18, ground := Ground.phase }], guard := none }) (v := ?_) rfl (by kernel_rfl) (by kernel_rfl) (by kernel_rfl) (fun _ _ _ h => h) (Or.inl ⟨by rfl, ?_⟩) (by assumption) ?_; rotate_left; · (intro w hSw; (try dsimp only at hSw); go_simp; (first | done | with_reducible rfl)))
                    try simp only [Act.put, List.setIfInBounds_toArray, List.set_cons_zero, List.set_cons_succ]
                    refine wpAnyH_ready (rs := [21]) (by kernel_rfl) (by simp) ?_
                    refine (AllReadyH.cons (o := { dst := none, op := Op.store 3 (Operand.tmp 118) (Operand.tmp 104), type := 0, pos := "ref.go:250", after := #[{ on := 20, ground := Ground.data }, { on := 6, ground := Ground.data }, { on := 18, ground := Ground.chain }, { on := 0, ground := Ground.phase }, { on := 1, ground := Ground.textOnly Departure.lateStores }, { on := 2, ground := Ground.textOnly Departure.lateStores }, { on := 3, ground := Ground.textOnly Departure.lateStores }, { on := 4, ground := Ground.textOnly Departure.lateStores }, { on := 5, ground := Ground.textOnly Departure.lateStores }, { on := 6, ground := Ground.phase }, { on := 7, ground := Ground.textOnly Departure.lateStores }, { on := 8, ground := Ground.textOnly Departure.lateStoresUnsure }, { on := 9, ground := Ground.textOnly Departure.lateStoresUnsure }, { on := 10, ground := Ground.phase }, { on := 11, ground := Ground.textOnly Departure.lateStoresUnsure }, { on := 12, ground := Ground.textOnly Departure.lateStores }, { on := 13, ground := Ground.textOnly Departure.lateStores }, { on := 14, ground := Ground.phase }, { on := 15, ground := Ground.textOnly Departure.lateStores }, { on := 16, ground := Ground.textOnly Departure.lateStoresUnsure }, { on := 17, ground := Ground.textOnly Departure.lateStores }, { on := 18, ground := Ground.phase }], guard := none }) rfl (fun K hK => ?_) AllReadyH.nil)
                    go_simp
                    refine hK.out _ _ ?_ (fun hHeld => ?_)
                    · first
                      | exact trivial
                    clear hK K
                    try simp only [Act.put, List.setIfInBounds_toArray, List.set_cons_zero, List.set_cons_succ]
                    (refine wpAnyH_take (i := 22) (oi := { dst := some 119, op := Op.nilCheck (Operand.tmp 99), type := 0, pos := "ref.go:250", after := #[{ on := 1, ground := Ground.data }, { on := 0, ground := Ground.phase }, { on := 1, ground := Ground.phase }, { on := 2, ground := Ground.textOnly Departure.lateStores }, { on := 3, ground := Ground.textOnly Departure.lateStores }, { on := 4, ground := Ground.textOnly Departure.lateStores }, { on := 5, ground := Ground.textOnly Departure.lateStores }, { on := 6, ground := Ground.phase }, { on := 7, ground := Ground.phase }, { on := 8, ground := Ground.phase }, { on := 9, ground := Ground.phase }, { on := 10, ground := Ground.phase }, { on := 11, ground := Ground.phase }, { on := 12, ground := Ground.textOnly Departure.lateStores }, { on := 13, ground := Ground.textOnly Departure.lateStores }, { on := 14, ground := Ground.phase }, { on := 15, ground := Ground.textOnly Departure.lateStores }, { on := 16, ground := Ground.textOnly Departure.lateStoresUnsure }, { on := 17, ground := Ground.textOnly Departure.lateStores }, { on := 18, ground := Ground.phase }, { on := 19, ground := Ground.phase }, { on := 20, ground := Ground.phase }, { on := 21, ground := Ground.phase }], guard := none }) (v := ?_) rfl (by kernel_rfl) (by kernel_rfl) (by kernel_rfl) (fun _ _ _ h => h) (Or.inl ⟨by rfl, ?_⟩) (by assumption) ?_; rotate_left; · (intro w hSw; (try dsimp only at hSw); go_simp; (first | done | with_reducible rfl)))
                    try simp only [Act.put, List.setIfInBounds_toArray, List.set_cons_zero, List.set_cons_succ]
                    (refine wpAnyH_take (i := 23) (oi := { dst := some 120, op := Op.fieldAddr 72 (Operand.tmp 119) 2, type := 0, pos := "ref.go:250", after := #[{ on := 22, ground := Ground.data }, { on := 0, ground := Ground.phase }, { on := 1, ground := Ground.phase }, { on := 2, ground := Ground.textOnly Departure.lateStores }, { on := 3, ground := Ground.textOnly Departure.lateStores }, { on := 4, ground := Ground.textOnly Departure.lateStores }, { on := 5, ground := Ground.textOnly Departure.lateStores }, { on := 6, ground := Ground.phase }, { on := 7, ground := Ground.phase }, { on := 8, ground := Ground.phase }, { on := 9, ground := Ground.phase }, { on := 10, ground := Ground.phase }, { on := 11, ground := Ground.phase }, { on := 12, ground := Ground.textOnly Departure.lateStores }, { on := 13, ground := Ground.textOnly Departure.lateStores }, { on := 14, ground := Ground.phase }, { on := 15, ground := Ground.textOnly Departure.lateStores }, { on := 16, ground := Ground.textOnly Departure.lateStoresUnsure }, { on := 17, ground := Ground.textOnly Departure.lateStores }, { on := 18, ground := Ground.phase }, { on := 19, ground := Ground.phase }, { on := 20, ground := Ground.phase }, { on := 21, ground := Ground.phase }], guard := none }) (v := ?_) rfl (by kernel_rfl) (by kernel_rfl) (by kernel_rfl) (fun _ _ _ h => h) (Or.inl ⟨by rfl, ?_⟩) (by assumption) ?_; rotate_left; · (intro w hSw; (try dsimp only at hSw); go_simp; (first | done | with_reducible rfl)))
                    try simp only [Act.put, List.setIfInBounds_toArray, List.set_cons_zero, List.set_cons_succ]
                    refine wpAnyH_ready (rs := [24]) (by kernel_rfl) (by simp) ?_
                    refine (AllReadyH.cons (o := { dst := none, op := Op.store 3 (Operand.tmp 120) (Operand.tmp 109), type := 0, pos := "ref.go:250", after := #[{ on := 23, ground := Ground.data }, { on := 11, ground := Ground.data }, { on := 21, ground := Ground.chain }, { on := 0, ground := Ground.phase }, { on := 1, ground := Ground.phase }, { on := 2, ground := Ground.textOnly Departure.lateStores }, { on := 3, ground := Ground.textOnly Departure.lateStores }, { on := 4, ground := Ground.textOnly Departure.lateStores }, { on := 5, ground := Ground.textOnly Departure.lateStores }, { on := 6, ground := Ground.phase }, { on := 7, ground := Ground.phase }, { on := 8, ground := Ground.phase }, { on := 9, ground := Ground.phase }, { on := 10, ground := Ground.phase }, { on := 11, ground := Ground.phase }, { on := 12, ground := Ground.textOnly Departure.lateStores }, { on := 13, ground := Ground.textOnly Departure.lateStores }, { on := 14, ground := Ground.phase }, { on := 15, ground := Ground.textOnly Departure.lateStores }, { on := 16, ground := Ground.textOnly Departure.lateStoresUnsure }, { on := 17, ground := Ground.textOnly Departure.lateStores }, { on := 18, ground := Ground.phase }, { on := 19, ground := Ground.phase }, { on := 20, ground := Ground.phase }, { on := 21, ground := Ground.phase }], guard := none }) rfl (fun K hK => ?_) AllReadyH.nil)
                    go_simp
                    refine hK.out _ _ ?_ (fun hHeld => ?_)
                    · first
                      | exact trivial
                    clear hK K
                    try simp only [Act.put, List.setIfInBounds_toArray, List.set_cons_zero, List.set_cons_succ]
                    (refine wpAnyH_take (i := 25) (oi := { dst := some 121, op := Op.nilCheck (Operand.tmp 100), type := 0, pos := "ref.go:250", after := #[{ on := 2, ground := Ground.data }, { on := 0, ground := Ground.phase }, { on := 1, ground := Ground.phase }, { on := 2, ground := Ground.phase }, { on := 3, ground := Ground.textOnly Departure.lateStores }, { on := 4, ground := Ground.textOnly Departure.lateStores }, { on := 5, ground := Ground.textOnly Departure.lateStores }, { on := 6, ground := Ground.phase }, { on := 7, ground := Ground.phase }, { on := 8, ground := Ground.phase }, { on := 9, ground := Ground.phase }, { on := 10, ground := Ground.phase }, { on := 11, ground := Ground.phase }, { on := 12, ground := Ground.phase }, { on := 13, ground := Ground.phase }, { on := 14, ground := Ground.phase }, { on := 15, ground := Ground.textOnly Departure.lateStores }, { on := 16, ground := Ground.textOnly Departure.lateStoresUnsure }, { on := 17, ground := Ground.textOnly Departure.lateStores }, { on := 18, ground := Ground.phase }, { on := 19, ground := Ground.phase }, { on := 20, ground := Ground.phase }, { on := 21, ground := Ground.phase }, { on := 22, ground := Ground.phase }, { on := 23, ground := Ground.phase }, { on := 24, ground := Ground.phase }], guard := none }) (v := ?_) rfl (by kernel_rfl) (by kernel_rfl) (by kernel_rfl) (fun _ _ _ h => h) (Or.inl ⟨by rfl, ?_⟩) (by assumption) ?_; rotate_left; · (intro w hSw; (try dsimp only at hSw); go_simp; (first | done | with_reducible rfl)))
                    try simp only [Act.put, List.setIfInBounds_toArray, List.set_cons_zero, List.set_cons_succ]
                    (refine wpAnyH_take (i := 26) (oi := { dst := some 122, op := Op.fieldAddr 72 (Operand.tmp 121) 3, type := 0, pos := "ref.go:250", after := #[{ on := 25, ground := Ground.data }, { on := 0, ground := Ground.phase }, { on := 1, ground := Ground.phase }, { on := 2, ground := Ground.phase }, { on := 3, ground := Ground.textOnly Departure.lateStores }, { on := 4, ground := Ground.textOnly Departure.lateStores }, { on := 5, ground := Ground.textOnly Departure.lateStores }, { on := 6, ground := Ground.phase }, { on := 7, ground := Ground.phase }, { on := 8, ground := Ground.phase }, { on := 9, ground := Ground.phase }, { on := 10, ground := Ground.phase }, { on := 11, ground := Ground.phase }, { on := 12, ground := Ground.phase }, { on := 13, ground := Ground.phase }, { on := 14, ground := Ground.phase }, { on := 15, ground := Ground.textOnly Departure.lateStores }, { on := 16, ground := Ground.textOnly Departure.lateStoresUnsure }, { on := 17, ground := Ground.textOnly Departure.lateStores }, { on := 18, ground := Ground.phase }, { on := 19, ground := Ground.phase }, { on := 20, ground := Ground.phase }, { on := 21, ground := Ground.phase }, { on := 22, ground := Ground.phase }, { on := 23, ground := Ground.phase }, { on := 24, ground := Ground.phase }], guard := none }) (v := ?_) rfl (by kernel_rfl) (by kernel_rfl) (by kernel_rfl) (fun _ _ _ h => h) (Or.inl ⟨by rfl, ?_⟩) (by assumption) ?_; rotate_left; · (intro w hSw; (try dsimp only at hSw); go_simp; (first | done | with_reducible rfl)))
                    try simp only [Act.put, List.setIfInBounds_toArray, List.set_cons_zero, List.set_cons_succ]
                    refine wpAnyH_ready (rs := [27]) (by kernel_rfl) (by simp) ?_
                    refine (AllReadyH.cons (o := { dst := none, op := Op.store 37 (Operand.tmp 122) (Operand.tmp 112), type := 0, pos := "ref.go:250", after := #[{ on := 26, ground := Ground.data }, { on := 14, ground := Ground.data }, { on := 24, ground := Ground.chain }, { on := 0, ground := Ground.phase }, { on := 1, ground := Ground.phase }, { on := 2, ground := Ground.phase }, { on := 3, ground := Ground.textOnly Departure.lateStores }, { on := 4, ground := Ground.textOnly Departure.lateStores }, { on := 5, ground := Ground.textOnly Departure.lateStores }, { on := 6, ground := Ground.phase }, { on := 7, ground := Ground.phase }, { on := 8, ground := Ground.phase }, { on := 9, ground := Ground.phase }, { on := 10, ground := Ground.phase }, { on := 11, ground := Ground.phase }, { on := 12, ground := Ground.phase }, { on := 13, ground := Ground.phase }, { on := 14, ground := Ground.phase }, { on := 15, ground := Ground.textOnly Departure.lateStores }, { on := 16, ground := Ground.textOnly Departure.lateStoresUnsure }, { on := 17, ground := Ground.textOnly Departure.lateStores }, { on := 18, ground := Ground.phase }, { on := 19, ground := Ground.phase }, { on := 20, ground := Ground.phase }, { on := 21, ground := Ground.phase }, { on := 22, ground := Ground.phase }, { on := 23, ground := Ground.phase }, { on := 24, ground := Ground.phase }], guard := none }) rfl (fun K hK => ?_) AllReadyH.nil)
                    go_simp
                    refine hK.out _ _ ?_ (fun hHeld => ?_)
                    · first
                      | exact trivial
                    clear hK K
                    try simp only [Act.put, List.setIfInBounds_toArray, List.set_cons_zero, List.set_cons_succ]
                    (refine wpAnyH_take (i := 28) (oi := { dst := some 123, op := Op.nilCheck (Operand.tmp 101), type := 0, pos := "ref.go:250", after := #[{ on := 3, ground := Ground.data }, { on := 0, ground := Ground.phase }, { on := 1, ground := Ground.phase }, { on := 2, ground := Ground.phase }, { on := 3, ground := Ground.phase }, { on := 4, ground := Ground.textOnly Departure.lateStores }, { on := 5, ground := Ground.textOnly Departure.lateStores }, { on := 6, ground := Ground.phase }, { on := 7, ground := Ground.phase }, { on := 8, ground := Ground.phase }, { on := 9, ground := Ground.phase }, { on := 10, ground := Ground.phase }, { on := 11, ground := Ground.phase }, { on := 12, ground := Ground.phase }, { on := 13, ground := Ground.phase }, { on := 14, ground := Ground.phase }, { on := 15, ground := Ground.textOnly Departure.lateStores }, { on := 16, ground := Ground.textOnly Departure.lateStoresUnsure }, { on := 17, ground := Ground.textOnly Departure.lateStores }, { on := 18, ground := Ground.phase }, { on := 19, ground := Ground.phase }, { on := 20, ground := Ground.phase }, { on := 21, ground := Ground.phase }, { on := 22, ground := Ground.phase }, { on := 23, ground := Ground.phase }, { on := 24, ground := Ground.phase }, { on := 25, ground := Ground.phase }, { on := 26, ground := Ground.phase }, { on := 27, ground := Ground.phase }], guard := none }) (v := ?_) rfl (by kernel_rfl) (by kernel_rfl) (by kernel_rfl) (fun _ _ _ h => h) (Or.inl ⟨by rfl, ?_⟩) (by assumption) ?_; rotate_left; · (intro w hSw; (try dsimp only at hSw); go_simp; (first | done | with_reducible rfl)))
                    try simp only [Act.put, List.setIfInBounds_toArray, List.set_cons_zero, List.set_cons_succ]
                    (refine wpAnyH_take (i := 29) (oi := { dst := some 124, op := Op.fieldAddr 72 (Operand.tmp 123) 4, type := 0, pos := "ref.go:250", after := #[{ on := 28, ground := Ground.data }, { on := 0, ground := Ground.phase }, { on := 1, ground := Ground.phase }, { on := 2, ground := Ground.phase }, { on := 3, ground := Ground.phase }, { on := 4, ground := Ground.textOnly Departure.lateStores }, { on := 5, ground := Ground.textOnly Departure.lateStores }, { on := 6, ground := Ground.phase }, { on := 7, ground := Ground.phase }, { on := 8, ground := Ground.phase }, { on := 9, ground := Ground.phase }, { on := 10, ground := Ground.phase }, { on := 11, ground := Ground.phase }, { on := 12, ground := Ground.phase }, { on := 13, ground := Ground.phase }, { on := 14, ground := Ground.phase }, { on := 15, ground := Ground.textOnly Departure.lateStores }, { on := 16, ground := Ground.textOnly Departure.lateStoresUnsure }, { on := 17, ground := Ground.textOnly Departure.lateStores }, { on := 18, ground := Ground.phase }, { on := 19, ground := Ground.phase }, { on := 20, ground := Ground.phase }, { on := 21, ground := Ground.phase }, { on := 22, ground := Ground.phase }, { on := 23, ground := Ground.phase }, { on := 24, ground := Ground.phase }, { on := 25, ground := Ground.phase }, { on := 26, ground := Ground.phase }, { on := 27, ground := Ground.phase }], guard := none }) (v := ?_) rfl (by kernel_rfl) (by kernel_rfl) (by kernel_rfl) (fun _ _ _ h => h) (Or.inl ⟨by rfl, ?_⟩) (by assumption) ?_; rotate_left; · (intro w hSw; (try dsimp only at hSw); go_simp; (first | done | with_reducible rfl)))
                    try simp only [Act.put, List.setIfInBounds_toArray, List.set_cons_zero, List.set_cons_succ]
                    refine wpAnyH_ready (rs := [30]) (by kernel_rfl) (by simp) ?_
                    refine (AllReadyH.cons (o := { dst := none, op := Op.store 38 (Operand.tmp 124) (Operand.const (Value.slice none 0 0)), type := 0, pos := "ref.go:250", after := #[{ on := 29, ground := Ground.data }, { on := 27, ground := Ground.chain }, { on := 0, ground := Ground.phase }, { on := 1, ground := Ground.phase }, { on := 2, ground := Ground.phase }, { on := 3, ground := Ground.phase }, { on := 4, ground := Ground.textOnly Departure.lateStores }, { on := 5, ground := Ground.textOnly Departure.lateStores }, { on := 6, ground := Ground.phase }, { on := 7, ground := Ground.phase }, { on := 8, ground := Ground.phase }, { on := 9, ground := Ground.phase }, { on := 10, ground := Ground.phase }, { on := 11, ground := Ground.phase }, { on := 12, ground := Ground.phase }, { on := 13, ground := Ground.phase }, { on := 14, ground := Ground.phase }, { on := 15, ground := Ground.textOnly Departure.lateStores }, { on := 16, ground := Ground.textOnly Departure.lateStoresUnsure }, { on := 17, ground := Ground.textOnly Departure.lateStores }, { on := 18, ground := Ground.phase }, { on := 19, ground := Ground.phase }, { on := 20, ground := Ground.phase }, { on := 21, ground := Ground.phase }, { on := 22, ground := Ground.phase }, { on := 23, ground := Ground.phase }, { on := 24, ground := Ground.phase }, { on := 25, ground := Ground.phase }, { on := 26, ground := Ground.phase }, { on := 27, ground := Ground.phase }], guard := none }) rfl (fun K hK => ?_) AllReadyH.nil)
                    go_simp
                    refine hK.out _ _ ?_ (fun hHeld => ?_)
                    · first
                      | exact trivial
                    clear hK K
                    try simp only [Act.put, List.setIfInBounds_toArray, List.set_cons_zero, List.set_cons_succ]
                    (refine wpAnyH_take (i := 31) (oi := { dst := some 125, op := Op.nilCheck (Operand.tmp 102), type := 0, pos := "ref.go:250", after := #[{ on := 4, ground := Ground.data }, { on := 0, ground := Ground.phase }, { on := 1, ground := Ground.phase }, { on := 2, ground := Ground.phase }, { on := 3, ground := Ground.phase }, { on := 4, ground := Ground.phase }, { on := 5, ground := Ground.textOnly Departure.lateStores }, { on := 6, ground := Ground.phase }, { on := 7, ground := Ground.phase }, { on := 8, ground := Ground.phase }, { on := 9, ground := Ground.phase }, { on := 10, ground := Ground.phase }, { on := 11, ground := Ground.phase }, { on := 12, ground := Ground.phase }, { on := 13, ground := Ground.phase }, { on := 14, ground := Ground.phase }, { on := 15, ground := Ground.phase }, { on := 16, ground := Ground.phase }, { on := 17, ground := Ground.phase }, { on := 18, ground := Ground.phase }, { on := 19, ground := Ground.phase }, { on := 20, ground := Ground.phase }, { on := 21, ground := Ground.phase }, { on := 22, ground := Ground.phase }, { on := 23, ground := Ground.phase }, { on := 24, ground := Ground.phase }, { on := 25, ground := Ground.phase }, { on := 26, ground := Ground.phase }, { on := 27, ground := Ground.phase }, { on := 28, ground := Ground.phase }, { on := 29, ground := Ground.phase }, { on := 30, ground := Ground.phase }], guard := none }) (v := ?_) rfl (by kernel_rfl) (by kernel_rfl) (by kernel_rfl) (fun _ _ _ h => h) (Or.inl ⟨by rfl, ?_⟩) (by assumption) ?_; rotate_left; · (intro w hSw; (try dsimp only at hSw); go_simp; (first | done | with_reducible rfl)))
                    try simp only [Act.put, List.setIfInBounds_toArray, List.set_cons_zero, List.set_cons_succ]
                    (refine wpAnyH_take (i := 32) (oi := { dst := some 126, op := Op.fieldAddr 72 (Operand.tmp 125) 5, type := 0, pos := "ref.go:250", after := #[{ on := 31, ground := Ground.data }, { on := 0, ground := Ground.phase }, { on := 1, ground := Ground.phase }, { on := 2, ground := Ground.phase }, { on := 3, ground := Ground.phase }, { on := 4, ground := Ground.phase }, { on := 5, ground := Ground.textOnly Departure.lateStores }, { on := 6, ground := Ground.phase }, { on := 7, ground := Ground.phase }, { on := 8, ground := Ground.phase }, { on := 9, ground := Ground.phase }, { on := 10, ground := Ground.phase }, { on := 11, ground := Ground.phase }, { on := 12, ground := Ground.phase }, { on := 13, ground := Ground.phase }, { on := 14, ground := Ground.phase }, { on := 15, ground := Ground.phase }, { on := 16, ground := Ground.phase }, { on := 17, ground := Ground.phase }, { on := 18, ground := Ground.phase }, { on := 19, ground := Ground.phase }, { on := 20, ground := Ground.phase }, { on := 21, ground := Ground.phase }, { on := 22, ground := Ground.phase }, { on := 23, ground := Ground.phase }, { on := 24, ground := Ground.phase }, { on := 25, ground := Ground.phase }, { on := 26, ground := Ground.phase }, { on := 27, ground := Ground.phase }, { on := 28, ground := Ground.phase }, { on := 29, ground := Ground.phase }, { on := 30, ground := Ground.phase }], guard := none }) (v := ?_) rfl (by kernel_rfl) (by kernel_rfl) (by kernel_rfl) (fun _ _ _ h => h) (Or.inl ⟨by rfl, ?_⟩) (by assumption) ?_; rotate_left; · (intro w hSw; (try dsimp only at hSw); go_simp; (first | done | with_reducible rfl)))
                    try simp only [Act.put, List.setIfInBounds_toArray, List.set_cons_zero, List.set_cons_succ]
                    refine wpAnyH_ready (rs := [33]) (by kernel_rfl) (by simp) ?_
                    refine (AllReadyH.cons (o := { dst := none, op := Op.store 3 (Operand.tmp 126) (Operand.tmp 116), type := 0, pos := "ref.go:250", after := #[{ on := 32, ground := Ground.data }, { on := 18, ground := Ground.data }, { on := 30, ground := Ground.chain }, { on := 0, ground := Ground.phase }, { on := 1, ground := Ground.phase }, { on := 2, ground := Ground.phase }, { on := 3, ground := Ground.phase }, { on := 4, ground := Ground.phase }, { on := 5, ground := Ground.textOnly Departure.lateStores }, { on := 6, ground := Ground.phase }, { on := 7, ground := Ground.phase }, { on := 8, ground := Ground.phase }, { on := 9, ground := Ground.phase }, { on := 10, ground := Ground.phase }, { on := 11, ground := Ground.phase }, { on := 12, ground := Ground.phase }, { on := 13, ground := Ground.phase }, { on := 14, ground := Ground.phase }, { on := 15, ground := Ground.phase }, { on := 16, ground := Ground.phase }, { on := 17, ground := Ground.phase }, { on := 18, ground := Ground.phase }, { on := 19, ground := Ground.phase }, { on := 20, ground := Ground.phase }, { on := 21, ground := Ground.phase }, { on := 22, ground := Ground.phase }, { on := 23, ground := Ground.phase }, { on := 24, ground := Ground.phase }, { on := 25, ground := Ground.phase }, { on := 26, ground := Ground.phase }, { on := 27, ground := Ground.phase }, { on := 28, ground := Ground.phase }, { on := 29, ground := Ground.phase }, { on := 30, ground := Ground.phase }], guard := none }) rfl (fun K hK => ?_) AllReadyH.nil)
                    go_simp
                    refine hK.out _ _ ?_ (fun hHeld => ?_)
                    · first
                      | exact trivial
                    clear hK K
                    try simp only [Act.put, List.setIfInBounds_toArray, List.set_cons_zero, List.set_cons_succ]
                    (refine wpAnyH_take (i := 34) (oi := { dst := some 127, op := Op.nilCheck (Operand.tmp 103), type := 0, pos := "ref.go:250", after := #[{ on := 5, ground := Ground.data }, { on := 0, ground := Ground.phase }, { on := 1, ground := Ground.phase }, { on := 2, ground := Ground.phase }, { on := 3, ground := Ground.phase }, { on := 4, ground := Ground.phase }, { on := 5, ground := Ground.phase }, { on := 6, ground := Ground.phase }, { on := 7, ground := Ground.phase }, { on := 8, ground := Ground.phase }, { on := 9, ground := Ground.phase }, { on := 10, ground := Ground.phase }, { on := 11, ground := Ground.phase }, { on := 12, ground := Ground.phase }, { on := 13, ground := Ground.phase }, { on := 14, ground := Ground.phase }, { on := 15, ground := Ground.phase }, { on := 16, ground := Ground.phase }, { on := 17, ground := Ground.phase }, { on := 18, ground := Ground.phase }, { on := 19, ground := Ground.phase }, { on := 20, ground := Ground.phase }, { on := 21, ground := Ground.phase }, { on := 22, ground := Ground.phase }, { on := 23, ground := Ground.phase }, { on := 24, ground := Ground.phase }, { on := 25, ground := Ground.phase }, { on := 26, ground := Ground.phase }, { on := 27, ground := Ground.phase }, { on := 28, ground := Ground.phase }, { on := 29, ground := Ground.phase }, { on := 30, ground := Ground.phase }, { on := 31, ground := Ground.phase }, { on := 32, ground := Ground.phase }, { on := 33, ground := Ground.phase }], guard := none }) (v := ?_) rfl (by kernel_rfl) (by kernel_rfl) (by kernel_rfl) (fun _ _ _ h => h) (Or.inl ⟨by rfl, ?_⟩) (by assumption) ?_; rotate_left; · (intro w hSw; (try dsimp only at hSw); go_simp; (first | done | with_reducible rfl)))
                    try simp only [Act.put, List.setIfInBounds_toArray, List.set_cons_zero, List.set_cons_succ]
                    (refine wpAnyH_take (i := 35) (oi := { dst := some 128, op := Op.fieldAddr 72 (Operand.tmp 127) 6, type := 0, pos := "ref.go:250", after := #[{ on := 34, ground := Ground.data }, { on := 0, ground := Ground.phase }, { on := 1, ground := Ground.phase }, { on := 2, ground := Ground.phase }, { on := 3, ground := Ground.phase }, { on := 4, ground := Ground.phase }, { on := 5, ground := Ground.phase }, { on := 6, ground := Ground.phase }, { on := 7, ground := Ground.phase }, { on := 8, ground := Ground.phase }, { on := 9, ground := Ground.phase }, { on := 10, ground := Ground.phase }, { on := 11, ground := Ground.phase }, { on := 12, ground := Ground.phase }, { on := 13, ground := Ground.phase }, { on := 14, ground := Ground.phase }, { on := 15, ground := Ground.phase }, { on := 16, ground := Ground.phase }, { on := 17, ground := Ground.phase }, { on := 18, ground := Ground.phase }, { on := 19, ground := Ground.phase }, { on := 20, ground := Ground.phase }, { on := 21, ground := Ground.phase }, { on := 22, ground := Ground.phase }, { on := 23, ground := Ground.phase }, { on := 24, ground := Ground.phase }, { on := 25, ground := Ground.phase }, { on := 26, ground := Ground.phase }, { on := 27, ground := Ground.phase }, { on := 28, ground := Ground.phase }, { on := 29, ground := Ground.phase }, { on := 30, ground := Ground.phase }, { on := 31, ground := Ground.phase }, { on := 32, ground := Ground.phase }, { on := 33, ground := Ground.phase }], guard := none }) (v := ?_) rfl (by kernel_rfl) (by kernel_rfl) (by kernel_rfl) (fun _ _ _ h => h) (Or.inl ⟨by rfl, ?_⟩) (by assumption) ?_; rotate_left; · (intro w hSw; (try dsimp only at hSw); go_simp; (first | done | with_reducible rfl)))
                    try simp only [Act.put, List.setIfInBounds_toArray, List.set_cons_zero, List.set_cons_succ]
                    refine wpAnyH_ready (rs := [36]) (by kernel_rfl) (by simp) ?_
                    refine (AllReadyH.cons (o := { dst := none, op := Op.store 4 (Operand.tmp 128) (Operand.const (Value.bool true)), type := 0, pos := "ref.go:250", after := #[{ on := 35, ground := Ground.data }, { on := 33, ground := Ground.chain }, { on := 0, ground := Ground.phase }, { on := 1, ground := Ground.phase }, { on := 2, ground := Ground.phase }, { on := 3, ground := Ground.phase }, { on := 4, ground := Ground.phase }, { on := 5, ground := Ground.phase }, { on := 6, ground := Ground.phase }, { on := 7, ground := Ground.phase }, { on := 8, ground := Ground.phase }, { on := 9, ground := Ground.phase }, { on := 10, ground := Ground.phase }, { on := 11, ground := Ground.phase }, { on := 12, ground := Ground.phase }, { on := 13, ground := Ground.phase }, { on := 14, ground := Ground.phase }, { on := 15, ground := Ground.phase }, { on := 16, ground := Ground.phase }, { on := 17, ground := Ground.phase }, { on := 18, ground := Ground.phase }, { on := 19, ground := Ground.phase }, { on := 20, ground := Ground.phase }, { on := 21, ground := Ground.phase }, { on := 22, ground := Ground.phase }, { on := 23, ground := Ground.phase }, { on := 24, ground := Ground.phase }, { on := 25, ground := Ground.phase }, { on := 26, ground := Ground.phase }, { on := 27, ground := Ground.phase }, { on := 28, ground := Ground.phase }, { on := 29, ground := Ground.phase }, { on := 30, ground := Ground.phase }, { on := 31, ground := Ground.phase }, { on := 32, ground := Ground.phase }, { on := 33, ground := Ground.phase }], guard := none }) rfl (fun K hK => ?_) AllReadyH.nil)
                    go_simp
                    refine hK.out _ _ ?_ (fun hHeld => ?_)
                    · first
                      | exact trivial
                    clear hK K
                    try simp only [Act.put, List.setIfInBounds_toArray, List.set_cons_zero, List.set_cons_succ]
                    refine wpAnyH_done (by kernel_rfl) ?_ _
                    go_wp2
                    go_ret
                    exact HE6.out
                  · (refine step_append_some rfl _ _ rfl w4.heap.size (.slice none 0 0) 0 [] rfl (World.ownsRow_nil _ _ _ _) A n c p rfl HAN.out HBY.out (by have := HN6.out; omega) (Nat.le_refl _) ?_; intro v6 w6 ho6 hb6; rw [Nat.zero_add, List.nil_append] at ho6; obtain ⟨A6, c6, rfl⟩ := own_form ho6; obtain ⟨g1', g2', g3', g4', g5', g6', f1, f2, f3, f4, f5, f6, hq⟩ := HTHERE.out w6 hb6; have HE6 := Lib.hid (HEND.out A6 c6 w6 ho6 hb6); clear ho6 hb6 hq)
                    refine hK.out _ _ ?_ (fun hHeld => ?_)
                    · first
                      | exact trivial
                    clear hK K
                    try simp only [Act.put, List.setIfInBounds_toArray, List.set_cons_zero, List.set_cons_succ]
                    refine wpAnyH_ready (rs := [10, 18]) (by kernel_rfl) (by simp) ?_
                    refine (AllReadyH.cons (o := { dst := some 108, op := Op.load 3 (Operand.tmp 107), type := 3, pos := "ref.go:250", after := #[{ on := 9, ground := Ground.data }], guard := none }) rfl (fun K hK => ?_) (AllReadyH.cons (o := { dst := some 116, op := Op.call { callee := Go.Callee.value (Operand.func 49), args := #[Operand.tmp 115], argTypes := #[3] }, type := 3, pos := "ref.go:250", after := #[{ on := 17, ground := Ground.data }, { on := 14, ground := Ground.chain }], guard := none }) rfl (fun K hK => ?_) AllReadyH.nil))
                    · go_simp
                      refine hK.out _ _ ?_ (fun hHeld => ?_)
                      · first
                        | exact trivial
                      clear hK K
                      try simp only [Act.put, List.setIfInBounds_toArray, List.set_cons_zero, List.set_cons_succ]
                      (refine wpAnyH_take (i := 11) (oi := { dst := some 109, op := Op.binOp BinOp.add 3 (Operand.tmp 108) (Operand.const (Value.int IntKind.i64 1)) 3, type := 3, pos := "ref.go:250", after := #[{ on := 10, ground := Ground.data }], guard := none }) (v := ?_) rfl (by kernel_rfl) (by kernel_rfl) (by kernel_rfl) (fun _ _ _ h => h) (Or.inl ⟨by rfl, ?_⟩) (by assumption) ?_; rotate_left; · (intro w hSw; (try dsimp only at hSw); go_simp; (first | done | with_reducible rfl)))
                      try simp only [Act.put, List.setIfInBounds_toArray, List.set_cons_zero, List.set_cons_succ]
                      refine wpAnyH_ready (rs := [18]) (by kernel_rfl) (by simp) ?_
                      refine (AllReadyH.cons (o := { dst := some 116, op := Op.call { callee := Go.Callee.value (Operand.func 49), args := #[Operand.tmp 115], argTypes := #[3] }, type := 3, pos := "ref.go:250", after := #[{ on := 17, ground := Ground.data }, { on := 14, ground := Ground.chain }], guard := none }) rfl (fun K hK => ?_) AllReadyH.nil)
                      go_simp
                      (go_at_call 49; ((with_reducible refine (CB.out _).mono ?_); rintro e w7 ⟨rfl, rfl⟩))
                      refine hK.out _ _ ?_ (fun hHeld => ?_)
                      · first
                        | exact trivial
                      clear hK K
                      try simp only [Act.put, List.setIfInBounds_toArray, List.set_cons_zero, List.set_cons_succ]
                      (refine wpAnyH_take (i := 19) (oi := { dst := some 117, op := Op.nilCheck (Operand.tmp 98), type := 0, pos := "ref.go:250", after := #[{ on := 0, ground := Ground.data }, { on := 0, ground := Ground.phase }, { on := 1, ground := Ground.textOnly Departure.lateStores }, { on := 2, ground := Ground.textOnly Departure.lateStores }, { on := 3, ground := Ground.textOnly Departure.lateStores }, { on := 4, ground := Ground.textOnly Departure.lateStores }, { on := 5, ground := Ground.textOnly Departure.lateStores }, { on := 6, ground := Ground.phase }, { on := 7, ground := Ground.textOnly Departure.lateStores }, { on := 8, ground := Ground.textOnly Departure.lateStoresUnsure }, { on := 9, ground := Ground.textOnly Departure.lateStoresUnsure }, { on := 10, ground := Ground.phase }, { on := 11, ground := Ground.textOnly Departure.lateStoresUnsure }, { on := 12, ground := Ground.textOnly Departure.lateStores }, { on := 13, ground := Ground.textOnly Departure.lateStores }, { on := 14, ground := Ground.phase }, { on := 15, ground := Ground.textOnly Departure.lateStores }, { on := 16, ground := Ground.textOnly Departure.lateStoresUnsure }, { on := 17, ground := Ground.textOnly Departure.lateStores }, { on := 18, ground := Ground.phase }], guard := none }) (v := ?_) rfl (by kernel_rfl) (by kernel_rfl) (by kernel_rfl) (fun _ _ _ h => h) (Or.inl ⟨by rfl, ?_⟩) (by assumption) ?_; rotate_left; · (intro w hSw; (try dsimp only at hSw); go_simp; (first | done | with_reducible rfl)))
                      try simp only [Act.put, List.setIfInBounds_toArray, List.set_cons_zero, List.set_cons_succ]
                      (refine wpAnyH_take (i := 20) (oi := { dst := some 118, op := Op.fieldAddr 72 (Operand.tmp 117) 1, type := 0, pos := "ref.go:250", after := #[{ on := 19, ground := Ground.data }, { on := 0, ground := Ground.phase }, { on := 1, ground := Ground.textOnly Departure.lateStores }, { on := 2, ground := Ground.textOnly Departure.lateStores }, { on := 3, ground := Ground.textOnly Departure.lateStores }, { on := 4, ground := Ground.textOnly Departure.lateStores }, { on := 5, ground := Ground.textOnly Departure.lateStores }, { on := 6, ground := Ground.phase }, { on := 7, ground := Ground.textOnly Departure.lateStores }, { on := 8, ground := Ground.textOnly Departure.lateStoresUnsure }, { on := 9, ground := Ground.textOnly Departure.lateStoresUnsure }, { on := 10, ground := Ground.phase }, { on := 11, ground := Ground.textOnly Departure.lateStoresUnsure }, { on := 12, ground := Ground.textOnly Departure.lateStores }, { on := 13, ground := Ground.textOnly Departure.lateStores }, { on := 14, ground := Ground.phase }, { on := 15, ground := Ground.textOnly Departure.lateStores }, { on := 16, ground := Ground.textOnly Departure.lateStoresUnsure }, { on := 17, ground := Ground.textOnly Departure.lateStores }, { on := 18, ground := Ground.phase }], guard := none }) (v := ?_) rfl (by kernel_rfl) (by kernel_rfl) (by kernel_rfl) (fun _ _ _ h => h) (Or.inl ⟨by rfl, ?_⟩) (by assumption) ?_; rotate_left; · (intro w hSw; (try dsimp only at hSw); go_simp; (first | done | with_reducible rfl)))
                      try simp only [Act.put, List.setIfInBounds_toArray, List.set_cons_zero, List.set_cons_succ]
                      refine wpAnyH_ready (rs := [21]) (by kernel_rfl) (by simp) ?_
                      refine (AllReadyH.cons (o := { dst := none, op := Op.store 3 (Operand.tmp 118) (Operand.tmp 104), type := 0, pos := "ref.go:250", after := #[{ on := 20, ground := Ground.data }, { on := 6, ground := Ground.data }, { on := 18, ground := Ground.chain }, { on := 0, ground := Ground.phase }, { on := 1, ground := Ground.textOnly Departure.lateStores }, { on := 2, ground := Ground.textOnly Departure.lateStores }, { on := 3, ground := Ground.textOnly Departure.lateStores }, { on := 4, ground := Ground.textOnly Departure.lateStores }, { on := 5, ground := Ground.textOnly Departure.lateStores }, { on := 6, ground := Ground.phase }, { on := 7, ground := Ground.textOnly Departure.lateStores }, { on := 8, ground := Ground.textOnly Departure.lateStoresUnsure }, { on := 9, ground := Ground.textOnly Departure.lateStoresUnsure }, { on := 10, ground := Ground.phase }, { on := 11, ground := Ground.textOnly Departure.lateStoresUnsure }, { on := 12, ground := Ground.textOnly Departure.lateStores }, { on := 13, ground := Ground.textOnly Departure.lateStores }, { on := 14, ground := Ground.phase }, { on := 15, ground := Ground.textOnly Departure.lateStores }, { on := 16, ground := Ground.textOnly Departure.lateStoresUnsure }, { on := 17, ground := Ground.textOnly Departure.lateStores }, { on := 18, ground := Ground.phase }], guard := none }) rfl (fun K hK => ?_) AllReadyH.nil)
                      go_simp
                      refine hK.out _ _ ?_ (fun hHeld => ?_)
                      · first
                        | exact trivial
                      clear hK K
                      try simp only [Act.put, List.setIfInBounds_toArray, List.set_cons_zero, List.set_cons_succ]
                      (refine wpAnyH_take (i := 22) (oi := { dst := some 119, op := Op.nilCheck (Operand.tmp 99), type := 0, pos := "ref.go:250", after := #[{ on := 1, ground := Ground.data }, { on := 0, ground := Ground.phase }, { on := 1, ground := Ground.phase }, { on := 2, ground := Ground.textOnly Departure.lateStores }, { on := 3, ground := Ground.textOnly Departure.lateStores }, { on := 4, ground := Ground.textOnly Departure.lateStores }, { on := 5, ground := Ground.textOnly Departure.lateStores }, { on := 6, ground := Ground.phase }, { on := 7, ground := Ground.phase }, { on := 8, ground := Ground.phase }, { on := 9, ground := Ground.phase }, { on := 10, ground := Ground.phase }, { on := 11, ground := Ground.phase }, { on := 12, ground := Ground.textOnly Departure.lateStores }, { on := 13, ground := Ground.textOnly Departure.lateStores }, { on := 14, ground := Ground.phase }, { on := 15, ground := Ground.textOnly Departure.lateStores }, { on := 16, ground := Ground.textOnly Departure.lateStoresUnsure }, { on := 17, ground := Ground.textOnly Departure.lateStores }, { on := 18, ground := Ground.phase }, { on := 19, ground := Ground.phase }, { on := 20, ground := Ground.phase }, { on := 21, ground := Ground.phase }], guard := none }) (v := ?_) rfl (by kernel_rfl) (by kernel_rfl) (by kernel_rfl) (fun _ _ _ h => h) (Or.inl ⟨by rfl, ?_⟩) (by assumption) ?_; rotate_left; · (intro w hSw; (try dsimp only at hSw); go_simp; (first | done | with_reducible rfl)))
                      try simp only [Act.put, List.setIfInBounds_toArray, List.set_cons_zero, List.set_cons_succ]
                      (refine wpAnyH_take (i := 23) (oi := { dst := some 120, op := Op.fieldAddr 72 (Operand.tmp 119) 2, type := 0, pos := "ref.go:250", after := #[{ on := 22, ground := Ground.data }, { on := 0, ground := Ground.phase }, { on := 1, ground := Ground.phase }, { on := 2, ground := Ground.textOnly Departure.lateStores }, { on := 3, ground := Ground.textOnly Departure.lateStores }, { on := 4, ground := Ground.textOnly Departure.lateStores }, { on := 5, ground := Ground.textOnly Departure.lateStores }, { on := 6, ground := Ground.phase }, { on := 7, ground := Ground.phase }, { on := 8, ground := Ground.phase }, { on := 9, ground := Ground.phase }, { on := 10, ground := Ground.phase }, { on := 11, ground := Ground.phase }, { on := 12, ground := Ground.textOnly Departure.lateStores }, { on := 13, ground := Ground.textOnly Departure.lateStores }, { on := 14, ground := Ground.phase }, { on := 15, ground := Ground.textOnly Departure.lateStores }, { on := 16, ground := Ground.textOnly Departure.lateStoresUnsure }, { on := 17, ground := Ground.textOnly Departure.lateStores }, { on := 18, ground := Ground.phase }, { on := 19, ground := Ground.phase }, { on := 20, ground := Ground.phase }, { on := 21, ground := Ground.phase }], guard := none }) (v := ?_) rfl (by kernel_rfl) (by kernel_rfl) (by kernel_rfl) (fun _ _ _ h => h) (Or.inl ⟨by rfl, ?_⟩) (by assumption) ?_; rotate_left; · (intro w hSw; (try dsimp only at hSw); go_simp; (first | done | with_reducible rfl)))
                      try simp only [Act.put, List.setIfInBounds_toArray, List.set_cons_zero, List.set_cons_succ]
                      refine wpAnyH_ready (rs := [24]) (by kernel_rfl) (by simp) ?_
                      refine (AllReadyH.cons (o := { dst := none, op := Op.store 3 (Operand.tmp 120) (Operand.tmp 109), type := 0, pos := "ref.go:250", after := #[{ on := 23, ground := Ground.data }, { on := 11, ground := Ground.data }, { on := 21, ground := Ground.chain }, { on := 0, ground := Ground.phase }, { on := 1, ground := Ground.phase }, { on := 2, ground := Ground.textOnly Departure.lateStores }, { on := 3, ground := Ground.textOnly Departure.lateStores }, { on := 4, ground := Ground.textOnly Departure.lateStores }, { on := 5, ground := Ground.textOnly Departure.lateStores }, { on := 6, ground := Ground.phase }, { on := 7, ground := Ground.phase }, { on := 8, ground := Ground.phase }, { on := 9, ground := Ground.phase }, { on := 10, ground := Ground.phase }, { on := 11, ground := Ground.phase }, { on := 12, ground := Ground.textOnly Departure.lateStores }, { on := 13, ground := Ground.textOnly Departure.lateStores }, { on := 14, ground := Ground.phase }, { on := 15, ground := Ground.textOnly Departure.lateStores }, { on := 16, ground := Ground.textOnly Departure.lateStoresUnsure }, { on := 17, ground := Ground.textOnly Departure.lateStores }, { on := 18, ground := Ground.phase }, { on := 19, ground := Ground.phase }, { on := 20, ground := Ground.phase }, { on := 21, ground := Ground.phase }], guard := none }) rfl (fun K hK => ?_) AllReadyH.nil)
                      go_simp
                      refine hK.out _ _ ?_ (fun hHeld => ?_)
                      · first
                        | exact trivial
                      clear hK K
                      try simp only [Act.put, List.setIfInBounds_toArray, List.set_cons_zero, List.set_cons_succ]
                      (refine wpAnyH_take (i := 25) (oi := { dst := some 121, op := Op.nilCheck (Operand.tmp 100), type := 0, pos := "ref.go:250", after := #[{ on := 2, ground := Ground.data }, { on := 0, ground := Ground.phase }, { on := 1, ground := Ground.phase }, { on := 2, ground := Ground.phase }, { on := 3, ground := Ground.textOnly Departure.lateStores }, { on := 4, ground := Ground.textOnly Departure.lateStores }, { on := 5, ground := Ground.textOnly Departure.lateStores }, { on := 6, ground := Ground.phase }, { on := 7, ground := Ground.phase }, { on := 8, ground := Ground.phase }, { on := 9, ground := Ground.phase }, { on := 10, ground := Ground.phase }, { on := 11, ground := Ground.phase }, { on := 12, ground := Ground.phase }, { on := 13, ground := Ground.phase }, { on := 14, ground := Ground.phase }, { on := 15, ground := Ground.textOnly Departure.lateStores }, { on := 16, ground := Ground.textOnly Departure.lateStoresUnsure }, { on := 17, ground := Ground.textOnly Departure.lateStores }, { on := 18, ground := Ground.phase }, { on := 19, ground := Ground.phase }, { on := 20, ground := Ground.phase }, { on := 21, ground := Ground.phase }, { on := 22, ground := Ground.phase }, { on := 23, ground := Ground.phase }, { on := 24, ground := Ground.phase }], guard := none }) (v := ?_) rfl (by kernel_rfl) (by kernel_rfl) (by kernel_rfl) (fun _ _ _ h => h) (Or.inl ⟨by rfl, ?_⟩) (by assumption) ?_; rotate_left; · (intro w hSw; (try dsimp only at hSw); go_simp; (first | done | with_reducible rfl)))
                      try simp only [Act.put, List.setIfInBounds_toArray, List.set_cons_zero, List.set_cons_succ]
                      (refine wpAnyH_take (i := 26) (oi := { dst := some 122, op := Op.fieldAddr 72 (Operand.tmp 121) 3, type := 0, pos := "ref.go:250", after := #[{ on := 25, ground := Ground.data }, { on := 0, ground := Ground.phase }, { on := 1, ground := Ground.phase }, { on := 2, ground := Ground.phase }, { on := 3, ground := Ground.textOnly Departure.lateStores }, { on := 4, ground := Ground.textOnly Departure.lateStores }, { on := 5, ground := Ground.textOnly Departure.lateStores }, { on := 6, ground := Ground.phase }, { on := 7, ground := Ground.phase }, { on := 8, ground := Ground.phase }, { on := 9, ground := Ground.phase }, { on := 10, ground := Ground.phase }, { on := 11, ground := Ground.phase }, { on := 12, ground := Ground.phase }, { on := 13, ground := Ground.phase }, { on := 14, ground := Ground.phase }, { on := 15, ground := Ground.textOnly Departure.lateStores }, { on := 16, ground := Ground.textOnly Departure.lateStoresUnsure }, { on := 17, ground := Ground.textOnly Departure.lateStores }, { on := 18, ground := Ground.phase }, { on := 19, ground := Ground.phase }, { on := 20, ground := Ground.phase }, { on := 21, ground := Ground.phase }, { on := 22, ground := Ground.phase }, { on := 23, ground := Ground.phase }, { on := 24, ground := Ground.phase }], guard := none }) (v := ?_) rfl (by kernel_rfl) (by kernel_rfl) (by kernel_rfl) (fun _ _ _ h => h) (Or.inl ⟨by rfl, ?_⟩) (by assumption) ?_; rotate_left; · (intro w hSw; (try dsimp only at hSw); go_simp; (first | done | with_reducible rfl)))
                      try simp only [Act.put, List.setIfInBounds_toArray, List.set_cons_zero, List.set_cons_succ]
                      refine wpAnyH_ready (rs := [27]) (by kernel_rfl) (by simp) ?_
                      refine (AllReadyH.cons (o := { dst := none, op := Op.store 37 (Operand.tmp 122) (Operand.tmp 112), type := 0, pos := "ref.go:250", after := #[{ on := 26, ground := Ground.data }, { on := 14, ground := Ground.data }, { on := 24, ground := Ground.chain }, { on := 0, ground := Ground.phase }, { on := 1, ground := Ground.phase }, { on := 2, ground := Ground.phase }, { on := 3, ground := Ground.textOnly Departure.lateStores }, { on := 4, ground := Ground.textOnly Departure.lateStores }, { on := 5, ground := Ground.textOnly Departure.lateStores }, { on := 6, ground := Ground.phase }, { on := 7, ground := Ground.phase }, { on := 8, ground := Ground.phase }, { on := 9, ground := Ground.phase }, { on := 10, ground := Ground.phase }, { on := 11, ground := Ground.phase }, { on := 12, ground := Ground.phase }, { on := 13, ground := Ground.phase }, { on := 14, ground := Ground.phase }, { on := 15, ground := Ground.textOnly Departure.lateStores }, { on := 16, ground := Ground.textOnly Departure.lateStoresUnsure }, { on := 17, ground := Ground.textOnly Departure.lateStores }, { on := 18, ground := Ground.phase }, { on := 19, ground := Ground.phase }, { on := 20, ground := Ground.phase }, { on := 21, ground := Ground.phase }, { on := 22, ground := Ground.phase }, { on := 23, ground := Ground.phase }, { on := 24, ground := Ground.phase }], guard := none }) rfl (fun K hK => ?_) AllReadyH.nil)
                      go_simp
                      refine hK.out _ _ ?_ (fun hHeld => ?_)
                      · first
                        | exact trivial
                      clear hK K
                      try simp only [Act.put, List.setIfInBounds_toArray, List.set_cons_zero, List.set_cons_succ]
                      (refine wpAnyH_take (i := 28) (oi := { dst := some 123, op := Op.nilCheck (Operand.tmp 101), type := 0, pos := "ref.go:250", after := #[{ on := 3, ground := Ground.data }, { on := 0, ground := Ground.phase }, { on := 1, ground := Ground.phase }, { on := 2, ground := Ground.phase }, { on := 3, ground := Ground.phase }, { on := 4, ground := Ground.textOnly Departure.lateStores }, { on := 5, ground := Ground.textOnly Departure.lateStores }, { on := 6, ground := Ground.phase }, { on := 7, ground := Ground.phase }, { on := 8, ground := Ground.phase }, { on := 9, ground := Ground.phase }, { on := 10, ground := Ground.phase }, { on := 11, ground := Ground.phase }, { on := 12, ground := Ground.phase }, { on := 13, ground := Ground.phase }, { on := 14, ground := Ground.phase }, { on := 15, ground := Ground.textOnly Departure.lateStores }, { on := 16, ground := Ground.textOnly Departure.lateStoresUnsure }, { on := 17, ground := Ground.textOnly Departure.lateStores }, { on := 18, ground := Ground.phase }, { on := 19, ground := Ground.phase }, { on := 20, ground := Ground.phase }, { on := 21, ground := Ground.phase }, { on := 22, ground := Ground.phase }, { on := 23, ground := Ground.phase }, { on := 24, ground := Ground.phase }, { on := 25, ground := Ground.phase }, { on := 26, ground := Ground.phase }, { on := 27, ground := Ground.phase }], guard := none }) (v := ?_) rfl (by kernel_rfl) (by kernel_rfl) (by kernel_rfl) (fun _ _ _ h => h) (Or.inl ⟨by rfl, ?_⟩) (by assumption) ?_; rotate_left; · (intro w hSw; (try dsimp only at hSw); go_simp; (first | done | with_reducible rfl)))
                      try simp only [Act.put, List.setIfInBounds_toArray, List.set_cons_zero, List.set_cons_succ]
                      (refine wpAnyH_take (i := 29) (oi := { dst := some 124, op := Op.fieldAddr 72 (Operand.tmp 123) 4, type := 0, pos := "ref.go:250", after := #[{ on := 28, ground := Ground.data }, { on := 0, ground := Ground.phase }, { on := 1, ground := Ground.phase }, { on := 2, ground := Ground.phase }, { on := 3, ground := Ground.phase }, { on := 4, ground := Ground.textOnly Departure.lateStores }, { on := 5, ground := Ground.textOnly Departure.lateStores }, { on := 6, ground := Ground.phase }, { on := 7, ground := Ground.phase }, { on := 8, ground := Ground.phase }, { on := 9, ground := Ground.phase }, { on := 10, ground := Ground.phase }, { on := 11, ground := Ground.phase }, { on := 12, ground := Ground.phase }, { on := 13, ground := Ground.phase }, { on := 14, ground := Ground.phase }, { on := 15, ground := Ground.textOnly Departure.lateStores }, { on := 16, ground := Ground.textOnly Departure.lateStoresUnsure }, { on := 17, ground := Ground.textOnly Departure.lateStores }, { on := 18, ground := Ground.phase }, { on := 19, ground := Ground.phase }, { on := 20, ground := Ground.phase }, { on := 21, ground := Ground.phase }, { on := 22, ground := Ground.phase }, { on := 23, ground := Ground.phase }, { on := 24, ground := Ground.phase }, { on := 25, ground := Ground.phase }, { on := 26, ground := Ground.phase }, { on := 27, ground := Ground.phase }], guard := none }) (v := ?_) rfl (by kernel_rfl) (by kernel_rfl) (by kernel_rfl) (fun _ _ _ h => h) (Or.inl ⟨by rfl, ?_⟩) (by assumption) ?_; rotate_left; · (intro w hSw; (try dsimp only at hSw); go_simp; (first | done | with_reducible rfl)))
                      try simp only [Act.put, List.setIfInBounds_toArray, List.set_cons_zero, List.set_cons_succ]
                      refine wpAnyH_ready (rs := [30]) (by kernel_rfl) (by simp) ?_
                      refine (AllReadyH.cons (o := { dst := none, op := Op.store 38 (Operand.tmp 124) (Operand.const (Value.slice none 0 0)), type := 0, pos := "ref.go:250", after := #[{ on := 29, ground := Ground.data }, { on := 27, ground := Ground.chain }, { on := 0, ground := Ground.phase }, { on := 1, ground := Ground.phase }, { on := 2, ground := Ground.phase }, { on := 3, ground := Ground.phase }, { on := 4, ground := Ground.textOnly Departure.lateStores }, { on := 5, ground := Ground.textOnly Departure.lateStores }, { on := 6, ground := Ground.phase }, { on := 7, ground := Ground.phase }, { on := 8, ground := Ground.phase }, { on := 9, ground := Ground.phase }, { on := 10, ground := Ground.phase }, { on := 11, ground := Ground.phase }, { on := 12, ground := Ground.phase }, { on := 13, ground := Ground.phase }, { on := 14, ground := Ground.phase }, { on := 15, ground := Ground.textOnly Departure.lateStores }, { on := 16, ground := Ground.textOnly Departure.lateStoresUnsure }, { on := 17, ground := Ground.textOnly Departure.lateStores }, { on := 18, ground := Ground.phase }, { on := 19, ground := Ground.phase }, { on := 20, ground := Ground.phase }, { on := 21, ground := Ground.phase }, { on := 22, ground := Ground.phase }, { on := 23, ground := Ground.phase }, { on := 24, ground := Ground.phase }, { on := 25, ground := Ground.phase }, { on := 26, ground := Ground.phase }, { on := 27, ground := Ground.phase }], guard := none }) rfl (fun K hK => ?_) AllReadyH.nil)
                      go_simp
                      refine hK.out _ _ ?_ (fun hHeld => ?_)
                      · first
                        | exact trivial
                      clear hK K
                      try simp only [Act.put, List.setIfInBounds_toArray, List.set_cons_zero, List.set_cons_succ]
                      (refine wpAnyH_take (i := 31) (oi := { dst := some 125, op := Op.nilCheck (Operand.tmp 102), type := 0, pos := "ref.go:250", after := #[{ on := 4, ground := Ground.data }, { on := 0, ground := Ground.phase }, { on := 1, ground := Ground.phase }, { on := 2, ground := Ground.phase }, { on := 3, ground := Ground.phase }, { on := 4, ground := Ground.phase }, { on := 5, ground := Ground.textOnly Departure.lateStores }, { on := 6, ground := Ground.phase }, { on := 7, ground := Ground.phase }, { on := 8, ground := Ground.phase }, { on := 9, ground := Ground.phase }, { on := 10, ground := Ground.phase }, { on := 11, ground := Ground.phase }, { on := 12, ground := Ground.phase }, { on := 13, ground := Ground.phase }, { on := 14, ground := Ground.phase }, { on := 15, ground := Ground.phase }, { on := 16, ground := Ground.phase }, { on := 17, ground := Ground.phase }, { on := 18, ground := Ground.phase }, { on := 19, ground := Ground.phase }, { on := 20, ground := Ground.phase }, { on := 21, ground := Ground.phase }, { on := 22, ground := Ground.phase }, { on := 23, ground := Ground.phase }, { on := 24, ground := Ground.phase }, { on := 25, ground := Ground.phase }, { on := 26, ground := Ground.phase }, { on := 27, ground := Ground.phase }, { on := 28, ground := Ground.phase }, { on := 29, ground := Ground.phase }, { on := 30, ground := Ground.phase }], guard := none }) (v := ?_) rfl (by kernel_rfl) (by kernel_rfl) (by kernel_rfl) (fun _ _ _ h => h) (Or.inl ⟨by rfl, ?_⟩) (by assumption) ?_; rotate_left; · (intro w hSw; (try dsimp only at hSw); go_simp; (first | done | with_reducible rfl)))
                      try simp only [Act.put, List.setIfInBounds_toArray, List.set_cons_zero, List.set_cons_succ]
                      (refine wpAnyH_take (i := 32) (oi := { dst := some 126, op := Op.fieldAddr 72 (Operand.tmp 125) 5, type := 0, pos := "ref.go:250", after := #[{ on := 31, ground := Ground.data }, { on := 0, ground := Ground.phase }, { on := 1, ground := Ground.phase }, { on := 2, ground := Ground.phase }, { on := 3, ground := Ground.phase }, { on := 4, ground := Ground.phase }, { on := 5, ground := Ground.textOnly Departure.lateStores }, { on := 6, ground := Ground.phase }, { on := 7, ground := Ground.phase }, { on := 8, ground := Ground.phase }, { on := 9, ground := Ground.phase }, { on := 10, ground := Ground.phase }, { on := 11, ground := Ground.phase }, { on := 12, ground := Ground.phase }, { on := 13, ground := Ground.phase }, { on := 14, ground := Ground.phase }, { on := 15, ground := Ground.phase }, { on := 16, ground := Ground.phase }, { on := 17, ground := Ground.phase }, { on := 18, ground := Ground.phase }, { on := 19, ground := Ground.phase }, { on := 20, ground := Ground.phase }, { on := 21, ground := Ground.phase }, { on := 22, ground := Ground.phase }, { on := 23, ground := Ground.phase }, { on := 24, ground := Ground.phase }, { on := 25, ground := Ground.phase }, { on := 26, ground := Ground.phase }, { on := 27, ground := Ground.phase }, { on := 28, ground := Ground.phase }, { on := 29, ground := Ground.phase }, { on := 30, ground := Ground.phase }], guard := none }) (v := ?_) rfl (by kernel_rfl) (by kernel_rfl) (by kernel_rfl) (fun _ _ _ h => h) (Or.inl ⟨by rfl, ?_⟩) (by assumption) ?_; rotate_left; · (intro w hSw; (try dsimp only at hSw); go_simp; (first | done | with_reducible rfl)))
                      try simp only [Act.put, List.setIfInBounds_toArray, List.set_cons_zero, List.set_cons_succ]
                      refine wpAnyH_ready (rs := [33]) (by kernel_rfl) (by simp) ?_
                      refine (AllReadyH.cons (o := { dst := none, op := Op.store 3 (Operand.tmp 126) (Operand.tmp 116), type := 0, pos := "ref.go:250", after := #[{ on := 32, ground := Ground.data }, { on := 18, ground := Ground.data }, { on := 30, ground := Ground.chain }, { on := 0, ground := Ground.phase }, { on := 1, ground := Ground.phase }, { on := 2, ground := Ground.phase }, { on := 3, ground := Ground.phase }, { on := 4, ground := Ground.phase }, { on := 5, ground := Ground.textOnly Departure.lateStores }, { on := 6, ground := Ground.phase }, { on := 7, ground := Ground.phase }, { on := 8, ground := Ground.phase }, { on := 9, ground := Ground.phase }, { on := 10, ground := Ground.phase }, { on := 11, ground := Ground.phase }, { on := 12, ground := Ground.phase }, { on := 13, ground := Ground.phase }, { on := 14, ground := Ground.phase }, { on := 15, ground := Ground.phase }, { on := 16, ground := Ground.phase }, { on := 17, ground := Ground.phase }, { on := 18, ground := Ground.phase }, { on := 19, ground := Ground.phase }, { on := 20, ground := Ground.phase }, { on := 21, ground := Ground.phase }, { on := 22, ground := Ground.phase }, { on := 23, ground := Ground.phase }, { on := 24, ground := Ground.phase }, { on := 25, ground := Ground.phase }, { on := 26, ground := Ground.phase }, { on := 27, ground := Ground.phase }, { on := 28, ground := Ground.phase }, { on := 29, ground := Ground.phase }, { on := 30, ground := Ground.phase }], guard := none }) rfl (fun K hK => ?_) AllReadyH.nil)
                      go_simp
                      refine hK.out _ _ ?_ (fun hHeld => ?_)
                      · first
                        | exact trivial
                      clear hK K
                      try simp only [Act.put, List.setIfInBounds_toArray, List.set_cons_zero, List.set_cons_succ]
                      (refine wpAnyH_take (i := 34) (oi := { dst := some 127, op := Op.nilCheck (Operand.tmp 103), type := 0, pos := "ref.go:250", after := #[{ on := 5, ground := Ground.data }, { on := 0, ground := Ground.phase }, { on := 1, ground := Ground.phase }, { on := 2, ground := Ground.phase }, { on := 3, ground := Ground.phase }, { on := 4, ground := Ground.phase }, { on := 5, ground := Ground.phase }, { on := 6, ground := Ground.phase }, { on := 7, ground := Ground.phase }, { on := 8, ground := Ground.phase }, { on := 9, ground := Ground.phase }, { on := 10, ground := Ground.phase }, { on := 11, ground := Ground.phase }, { on := 12, ground := Ground.phase }, { on := 13, ground := Ground.phase }, { on := 14, ground := Ground.phase }, { on := 15, ground := Ground.phase }, { on := 16, ground := Ground.phase }, { on := 17, ground := Ground.phase }, { on := 18, ground := Ground.phase }, { on := 19, ground := Ground.phase }, { on := 20, ground := Ground.phase }, { on := 21, ground := Ground.phase }, { on := 22, ground := Ground.phase }, { on := 23, ground := Ground.phase }, { on := 24, ground := Ground.phase }, { on := 25, ground := Ground.phase }, { on := 26, ground := Ground.phase }, { on := 27, ground := Ground.phase }, { on := 28, ground := Ground.phase }, { on := 29, ground := Ground.phase }, { on := 30, ground := Ground.phase }, { on := 31, ground := Ground.phase }, { on := 32, ground := Ground.phase }, { on := 33, ground := Ground.phase }], guard := none }) (v := ?_) rfl (by kernel_rfl) (by kernel_rfl) (by kernel_rfl) (fun _ _ _ h => h) (Or.inl ⟨by rfl, ?_⟩) (by assumption) ?_; rotate_left; · (intro w hSw; (try dsimp only at hSw); go_simp; (first | done | with_reducible rfl)))
                      try simp only [Act.put, List.setIfInBounds_toArray, List.set_cons_zero, List.set_cons_succ]
                      (refine wpAnyH_take (i := 35) (oi := { dst := some 128, op := Op.fieldAddr 72 (Operand.tmp 127) 6, type := 0, pos := "ref.go:250", after := #[{ on := 34, ground := Ground.data }, { on := 0, ground := Ground.phase }, { on := 1, ground := Ground.phase }, { on := 2, ground := Ground.phase }, { on := 3, ground := Ground.phase }, { on := 4, ground := Ground.phase }, { on := 5, ground := Ground.phase }, { on := 6, ground := Ground.phase }, { on := 7, ground := Ground.phase }, { on := 8, ground := Ground.phase }, { on := 9, ground := Ground.phase }, { on := 10, ground := Ground.phase }, { on := 11, ground := Ground.phase }, { on := 12, ground := Ground.phase }, { on := 13, ground := Ground.phase }, { on := 14, ground := Ground.phase }, { on := 15, ground := Ground.phase }, { on := 16, ground := Ground.phase }, { on := 17, ground := Ground.phase }, { on := 18, ground := Ground.phase }, { on := 19, ground := Ground.phase }, { on := 20, ground := Ground.phase }, { on := 21, ground := Ground.phase }, { on := 22, ground := Ground.phase }, { on := 23, ground := Ground.phase }, { on := 24, ground := Ground.phase }, { on := 25, ground := Ground.phase }, { on := 26, ground := Ground.phase }, { on := 27, ground := Ground.phase }, { on := 28, ground := Ground.phase }, { on := 29, ground := Ground.phase }, { on := 30, ground := Ground.phase }, { on := 31, ground := Ground.phase }, { on := 32, ground := Ground.phase }, { on := 33, ground := Ground.phase }], guard := none }) (v := ?_) rfl (by kernel_rfl) (by kernel_rfl) (by kernel_rfl) (fun _ _ _ h => h) (Or.inl ⟨by rfl, ?_⟩) (by assumption) ?_; rotate_left; · (intro w hSw; (try dsimp only at hSw); go_simp; (first | done | with_reducible rfl)))
                      try simp only [Act.put, List.setIfInBounds_toArray, List.set_cons_zero, List.set_cons_succ]
                      refine wpAnyH_ready (rs := [36]) (by kernel_rfl) (by simp) ?_
                      refine (AllReadyH.cons (o := { dst := none, op := Op.store 4 (Operand.tmp 128) (Operand.const (Value.bool true)), type := 0, pos := "ref.go:250", after := #[{ on := 35, ground := Ground.data }, { on := 33, ground := Ground.chain }, { on := 0, ground := Ground.phase }, { on := 1, ground := Ground.phase }, { on := 2, ground := Ground.phase }, { on := 3, ground := Ground.phase }, { on := 4, ground := Ground.phase }, { on := 5, ground := Ground.phase }, { on := 6, ground := Ground.phase }, { on := 7, ground := Ground.phase }, { on := 8, ground := Ground.phase }, { on := 9, ground := Ground.phase }, { on := 10, ground := Ground.phase }, { on := 11, ground := Ground.phase }, { on := 12, ground := Ground.phase }, { on := 13, ground := Ground.phase }, { on := 14, ground := Ground.phase }, { on := 15, ground := Ground.phase }, { on := 16, ground := Ground.phase }, { on := 17, ground := Ground.phase }, { on := 18, ground := Ground.phase }, { on := 19, ground := Ground.phase }, { on := 20, ground := Ground.phase }, { on := 21, ground := Ground.phase }, { on := 22, ground := Ground.phase }, { on := 23, ground := Ground.phase }, { on := 24, ground := Ground.phase }, { on := 25, ground := Ground.phase }, { on := 26, ground := Ground.phase }, { on := 27, ground := Ground.phase }, { on := 28, ground := Ground.phase }, { on := 29, ground := Ground.phase }, { on := 30, ground := Ground.phase }, { on := 31, ground := Ground.phase }, { on := 32, ground := Ground.phase }, { on := 33, ground := Ground.phase }], guard := none }) rfl (fun K hK => ?_) AllReadyH.nil)
                      go_simp
                      refine hK.out _ _ ?_ (fun hHeld => ?_)
                      · first
                        | exact trivial
                      clear hK K
                      try simp only [Act.put, List.setIfInBounds_toArray, List.set_cons_zero, List.set_cons_succ]
                      refine wpAnyH_done (by kernel_rfl) ?_ _
                      go_wp2
                      go_ret
                      exact HE6.out
                    · go_simp
                      (go_at_call 49; ((with_reducible refine (CB.out _).mono ?_); rintro e w7 ⟨rfl, rfl⟩))
                      refine hK.out _ _ ?_ (fun hHeld => ?_)
                      · first
                        | exact trivial
                      clear hK K
                      try simp only [Act.put, List.setIfInBounds_toArray, List.set_cons_zero, List.set_cons_succ]
                      refine wpAnyH_ready (rs := [10]) (by kernel_rfl) (by simp) ?_
                      refine (AllReadyH.cons (o := { dst := some 108, op := Op.load 3 (Operand.tmp 107), type := 3, pos := "ref.go:250", after := #[{ on := 9, ground := Ground.data }], guard := none }) rfl (fun K hK => ?_) AllReadyH.nil)
                      go_simp
                      refine hK.out _ _ ?_ (fun hHeld => ?_)
                      · first
                        | exact trivial
                      clear hK K
                      try simp only [Act.put, List.setIfInBounds_toArray, List.set_cons_zero, List.set_cons_succ]
                      (refine wpAnyH_take (i := 11) (oi := { dst := some 109, op := Op.binOp BinOp.add 3 (Operand.tmp 108) (Operand.const (Value.int IntKind.i64 1)) 3, type := 3, pos := "ref.go:250", after := #[{ on := 10, ground := Ground.data }], guard := none }) (v := ?_) rfl (by kernel_rfl) (by kernel_rfl) (by kernel_rfl) (fun _ _ _ h => h) (Or.inl ⟨by rfl, ?_⟩) (by assumption) ?_; rotate_left; · (intro w hSw; (try dsimp only at hSw); go_simp; (first | done | with_reducible rfl)))
                      try simp only [Act.put, List.setIfInBounds_toArray, List.set_cons_zero, List.set_cons_succ]
                      (refine wpAnyH_take (i := 19) (oi := { dst := some 117, op := Op.nilCheck (Operand.tmp 98), type := 0, pos := "ref.go:250", after := #[{ on := 0, ground := Ground.data }, { on := 0, ground := Ground.phase }, { on := 1, ground := Ground.textOnly Departure.lateStores }, { on := 2, ground := Ground.textOnly Departure.lateStores }, { on := 3, ground := Ground.textOnly Departure.lateStores }, { on := 4, ground := Ground.textOnly Departure.lateStores }, { on := 5, ground := Ground.textOnly Departure.lateStores }, { on := 6, ground := Ground.phase }, { on := 7, ground := Ground.textOnly Departure.lateStores }, { on := 8, ground := Ground.textOnly Departure.lateStoresUnsure }, { on := 9, ground := Ground.textOnly Departure.lateStoresUnsure }, { on := 10, ground := Ground.phase }, { on := 11, ground := Ground.textOnly Departure.lateStoresUnsure }, { on := 12, ground := Ground.textOnly Departure.lateStores }, { on := 13, ground := Ground.textOnly Departure.lateStores }, { on := 14, ground := Ground.phase }, { on := 15, ground := Ground.textOnly Departure.lateStores }, { on := 16, ground := Ground.textOnly Departure.lateStoresUnsure }, { on := 17, ground := Ground.textOnly Departure.lateStores }, { on := 18, ground := Ground.phase }], guard := none }) (v := ?_) rfl (by kernel_rfl) (by kernel_rfl) (by kernel_rfl) (fun _ _ _ h => h) (Or.inl ⟨by rfl, ?_⟩) (by assumption) ?_; rotate_left; · (intro w hSw; (try dsimp only at hSw); go_simp; (first | done | with_reducible rfl)))
                      try simp only [Act.put, List.setIfInBounds_toArray, List.set_cons_zero, List.set_cons_succ]
                      (refine wpAnyH_take (i := 20) (oi := { dst := some 118, op := Op.fieldAddr 72 (Operand.tmp 117) 1, type := 0, pos := "ref.go:250", after := #[{ on := 19, ground := Ground.data }, { on := 0, ground := Ground.phase }, { on := 1, ground := Ground.textOnly Departure.lateStores }, { on := 2, ground := Ground.textOnly Departure.lateStores }, { on := 3, ground := Ground.textOnly Departure.lateStores }, { on := 4, ground := Ground.textOnly Departure.lateStores }, { on := 5, ground := Ground.textOnly Departure.lateStores }, { on := 6, ground := Ground.phase }, { on := 7, ground := Ground.textOnly Departure.lateStores }, { on := 8, ground := Ground.textOnly Departure.lateStoresUnsure }, { on := 9, ground := Ground.textOnly Departure.lateStoresUnsure }, { on := 10, ground := Ground.phase }, { on := 11, ground := Ground.textOnly Departure.lateStoresUnsure }, { on := 12, ground := Ground.textOnly Departure.lateStores }, { on := 13, ground := Ground.textOnly Departure.lateStores }, { on := 14, ground := Ground.phase }, { on := 15, ground := Ground.textOnly Departure.lateStores }, { on := 16, ground := Ground.textOnly Departure.lateStoresUnsure }, { on := 17, ground := Ground.textOnly Departure.lateStores }, { on := 18, ground := Ground.phase }], guard := none }) (v := ?_) rfl (by kernel_rfl) (by kernel_rfl) (by kernel_rfl) (fun _ _ _ h => h) (Or.inl ⟨by rfl, ?_⟩) (by assumption) ?_; rotate_left; · (intro w hSw; (try dsimp only at hSw); go_simp; (first | done | with_reducible rfl)))
                      try simp only [Act.put, List.setIfInBounds_toArray, List.set_cons_zero, List.set_cons_succ]
                      refine wpAnyH_ready (rs := [21]) (by kernel_rfl) (by simp) ?_
                      refine (AllReadyH.cons (o := { dst := none, op := Op.store 3 (Operand.tmp 118) (Operand.tmp 104), type := 0, pos := "ref.go:250", after := #[{ on := 20, ground := Ground.data }, { on := 6, ground := Ground.data }, { on := 18, ground := Ground.chain }, { on := 0, ground := Ground.phase }, { on := 1, ground := Ground.textOnly Departure.lateStores }, { on := 2, ground := Ground.textOnly Departure.lateStores }, { on := 3, ground := Ground.textOnly Departure.lateStores }, { on := 4, ground := Ground.textOnly Departure.lateStores }, { on := 5, ground := Ground.textOnly Departure.lateStores }, { on := 6, ground := Ground.phase }, { on := 7, ground := Ground.textOnly Departure.lateStores }, { on := 8, ground := Ground.textOnly Departure.lateStoresUnsure }, { on := 9, ground := Ground.textOnly Departure.lateStoresUnsure }, { on := 10, ground := Ground.phase }, { on := 11, ground := Ground.textOnly Departure.lateStoresUnsure }, { on := 12, ground := Ground.textOnly Departure.lateStores }, { on := 13, ground := Ground.textOnly Departure.lateStores }, { on := 14, ground := Ground.phase }, { on := 15, ground := Ground.textOnly Departure.lateStores }, { on := 16, ground := Ground.textOnly Departure.lateStoresUnsure }, { on := 17, ground := Ground.textOnly Departure.lateStores }, { on := 18, ground := Ground.phase }], guard := none }) rfl (fun K hK => ?_) AllReadyH.nil)
                      go_simp
                      refine hK.out _ _ ?_ (fun hHeld => ?_)
                      · first
                        | exact trivial
                      clear hK K
                      try simp only [Act.put, List.setIfInBounds_toArray, List.set_cons_zero, List.set_cons_succ]
                      (refine wpAnyH_take (i := 22) (oi := { dst := some 119, op := Op.nilCheck (Operand.tmp 99), type := 0, pos := "ref.go:250", after := #[{ on := 1, ground := Ground.data }, { on := 0, ground := Ground.phase }, { on := 1, ground := Ground.phase }, { on := 2, ground := Ground.textOnly Departure.lateStores }, { on := 3, ground := Ground.textOnly Departure.lateStores }, { on := 4, ground := Ground.textOnly Departure.lateStores }, { on := 5, ground := Ground.textOnly Departure.lateStores }, { on := 6, ground := Ground.phase }, { on := 7, ground := Ground.phase }, { on := 8, ground := Ground.phase }, { on := 9, ground := Ground.phase }, { on := 10, ground := Ground.phase }, { on := 11, ground := Ground.phase }, { on := 12, ground := Ground.textOnly Departure.lateStores }, { on := 13, ground := Ground.textOnly Departure.lateStores }, { on := 14, ground := Ground.phase }, { on := 15, ground := Ground.textOnly Departure.lateStores }, { on := 16, ground := Ground.textOnly Departure.lateStoresUnsure }, { on := 17, ground := Ground.textOnly Departure.lateStores }, { on := 18, ground := Ground.phase }, { on := 19, ground := Ground.phase }, { on := 20, ground := Ground.phase }, { on := 21, ground := Ground.phase }], guard := none }) (v := ?_) rfl (by kernel_rfl) (by kernel_rfl) (by kernel_rfl) (fun _ _ _ h => h) (Or.inl ⟨by rfl, ?_⟩) (by assumption) ?_; rotate_left; · (intro w hSw; (try dsimp only at hSw); go_simp; (first | done | with_reducible rfl)))
                      try simp only [Act.put, List.setIfInBounds_toArray, List.set_cons_zero, List.set_cons_succ]
                      (refine wpAnyH_take (i := 23) (oi := { dst := some 120, op := Op.fieldAddr 72 (Operand.tmp 119) 2, type := 0, pos := "ref.go:250", after := #[{ on := 22, ground := Ground.data }, { on := 0, ground := Ground.phase }, { on := 1, ground := Ground.phase }, { on := 2, ground := Ground.textOnly Departure.lateStores }, { on := 3, ground := Ground.textOnly Departure.lateStores }, { on := 4, ground := Ground.textOnly Departure.lateStores }, { on := 5, ground := Ground.textOnly Departure.lateStores }, { on := 6, ground := Ground.phase }, { on := 7, ground := Ground.phase }, { on := 8, ground := Ground.phase }, { on := 9, ground := Ground.phase }, { on := 10, ground := Ground.phase }, { on := 11, ground := Ground.phase }, { on := 12, ground := Ground.textOnly Departure.lateStores }, { on := 13, ground := Ground.textOnly Departure.lateStores }, { on := 14, ground := Ground.phase }, { on := 15, ground := Ground.textOnly Departure.lateStores }, { on := 16, ground := Ground.textOnly Departure.lateStoresUnsure }, { on := 17, ground := Ground.textOnly Departure.lateStores }, { on := 18, ground := Ground.phase }, { on := 19, ground := Ground.phase }, { on := 20, ground := Ground.phase }, { on := 21, ground := Ground.phase }], guard := none }) (v := ?_) rfl (by kernel_rfl) (by kernel_rfl) (by kernel_rfl) (fun _ _ _ h => h) (Or.inl ⟨by rfl, ?_⟩) (by assumption) ?_; rotate_left; · (intro w hSw; (try dsimp only at hSw); go_simp; (first | done | with_reducible rfl)))
                      try simp only [Act.put, List.setIfInBounds_toArray, List.set_cons_zero, List.set_cons_succ]
                      refine wpAnyH_ready (rs := [24]) (by kernel_rfl) (by simp) ?_
                      refine (AllReadyH.cons (o := { dst := none, op := Op.store 3 (Operand.tmp 120) (Operand.tmp 109), type := 0, pos := "ref.go:250", after := #[{ on := 23, ground := Ground.data }, { on := 11, ground := Ground.data }, { on := 21, ground := Ground.chain }, { on := 0, ground := Ground.phase }, { on := 1, ground := Ground.phase }, { on := 2, ground := Ground.textOnly Departure.lateStores }, { on := 3, ground := Ground.textOnly Departure.lateStores }, { on := 4, ground := Ground.textOnly Departure.lateStores }, { on := 5, ground := Ground.textOnly Departure.lateStores }, { on := 6, ground := Ground.phase }, { on := 7, ground := Ground.phase }, { on := 8, ground := Ground.phase }, { on := 9, ground := Ground.phase }, { on := 10, ground := Ground.phase }, { on := 11, ground := Ground.phase }, { on := 12, ground := Ground.textOnly Departure.lateStores }, { on := 13, ground := Ground.textOnly Departure.lateStores }, { on := 14, ground := Ground.phase }, { on := 15, ground := Ground.textOnly Departure.lateStores }, { on := 16, ground := Ground.textOnly Departure.lateStoresUnsure }, { on := 17, ground := Ground.textOnly Departure.lateStores }, { on := 18, ground := Ground.phase }, { on := 19, ground := Ground.phase }, { on := 20, ground := Ground.phase }, { on := 21, ground := Ground.phase }], guard := none }) rfl (fun K hK => ?_) AllReadyH.nil)
                      go_simp
                      refine hK.out _ _ ?_ (fun hHeld => ?_)
                      · first
                        | exact trivial
                      clear hK K
                      try simp only [Act.put, List.setIfInBounds_toArray, List.set_cons_zero, List.set_cons_succ]
                      (refine wpAnyH_take (i := 25) (oi := { dst := some 121, op := Op.nilCheck (Operand.tmp 100), type := 0, pos := "ref.go:250", after := #[{ on := 2, ground := Ground.data }, { on := 0, ground := Ground.phase }, { on := 1, ground := Ground.phase }, { on := 2, ground := Ground.phase }, { on := 3, ground := Ground.textOnly Departure.lateStores }, { on := 4, ground := Ground.textOnly Departure.lateStores }, { on := 5, ground := Ground.textOnly Departure.lateStores }, { on := 6, ground := Ground.phase }, { on := 7, ground := Ground.phase }, { on := 8, ground := Ground.phase }, { on := 9, ground := Ground.phase }, { on := 10, ground := Ground.phase }, { on := 11, ground := Ground.phase }, { on := 12, ground := Ground.phase }, { on := 13, ground := Ground.phase }, { on := 14, ground := Ground.phase }, { on := 15, ground := Ground.textOnly Departure.lateStores }, { on := 16, ground := Ground.textOnly Departure.lateStoresUnsure }, { on := 17, ground := Ground.textOnly Departure.lateStores }, { on := 18, ground := Ground.phase }, { on := 19, ground := Ground.phase }, { on := 20, ground := Ground.phase }, { on := 21, ground := Ground.phase }, { on := 22, ground := Ground.phase }, { on := 23, ground := Ground.phase }, { on := 24, ground := Ground.phase }], guard := none }) (v := ?_) rfl (by kernel_rfl) (by kernel_rfl) (by kernel_rfl) (fun _ _ _ h => h) (Or.inl ⟨by rfl, ?_⟩) (by assumption) ?_; rotate_left; · (intro w hSw; (try dsimp only at hSw); go_simp; (first | done | with_reducible rfl)))
                      try simp only [Act.put, List.setIfInBounds_toArray, List.set_cons_zero, List.set_cons_succ]
                      (refine wpAnyH_take (i := 26) (oi := { dst := some 122, op := Op.fieldAddr 72 (Operand.tmp 121) 3, type := 0, pos := "ref.go:250", after := #[{ on := 25, ground := Ground.data }, { on := 0, ground := Ground.phase }, { on := 1, ground := Ground.phase }, { on := 2, ground := Ground.phase }, { on := 3, ground := Ground.textOnly Departure.lateStores }, { on := 4, ground := Ground.textOnly Departure.lateStores }, { on := 5, ground := Ground.textOnly Departure.lateStores }, { on := 6, ground := Ground.phase }, { on := 7, ground := Ground.phase }, { on := 8, ground := Ground.phase }, { on := 9, ground := Ground.phase }, { on := 10, ground := Ground.phase }, { on := 11, ground := Ground.phase }, { on := 12, ground := Ground.phase }, { on := 13, ground := Ground.phase }, { on := 14, ground := Ground.phase }, { on := 15, ground := Ground.textOnly Departure.lateStores }, { on := 16, ground := Ground.textOnly Departure.lateStoresUnsure }, { on := 17, ground := Ground.textOnly Departure.lateStores }, { on := 18, ground := Ground.phase }, { on := 19, ground := Ground.phase }, { on := 20, ground := Ground.phase }, { on := 21, ground := Ground.phase }, { on := 22, ground := Ground.phase }, { on := 23, ground := Ground.phase }, { on := 24, ground := Ground.phase }], guard := none }) (v := ?_) rfl (by kernel_rfl) (by kernel_rfl) (by kernel_rfl) (fun _ _ _ h => h) (Or.inl ⟨by rfl, ?_⟩) (by assumption) ?_; rotate_left; · (intro w hSw; (try dsimp only at hSw); go_simp; (first | done | with_reducible rfl)))
                      try simp only [Act.put, List.setIfInBounds_toArray, List.set_cons_zero, List.set_cons_succ]
                      refine wpAnyH_ready (rs := [27]) (by kernel_rfl) (by simp) ?_
                      refine (AllReadyH.cons (o := { dst := none, op := Op.store 37 (Operand.tmp 122) (Operand.tmp 112), type := 0, pos := "ref.go:250", after := #[{ on := 26, ground := Ground.data }, { on := 14, ground := Ground.data }, { on := 24, ground := Ground.chain }, { on := 0, ground := Ground.phase }, { on := 1, ground := Ground.phase }, { on := 2, ground := Ground.phase }, { on := 3, ground := Ground.textOnly Departure.lateStores }, { on := 4, ground := Ground.textOnly Departure.lateStores }, { on := 5, ground := Ground.textOnly Departure.lateStores }, { on := 6, ground := Ground.phase }, { on := 7, ground := Ground.phase }, { on := 8, ground := Ground.phase }, { on := 9, ground := Ground.phase }, { on := 10, ground := Ground.phase }, { on := 11, ground := Ground.phase }, { on := 12, ground := Ground.phase }, { on := 13, ground := Ground.phase }, { on := 14, ground := Ground.phase }, { on := 15, ground := Ground.textOnly Departure.lateStores }, { on := 16, ground := Ground.textOnly Departure.lateStoresUnsure }, { on := 17, ground := Ground.textOnly Departure.lateStores }, { on := 18, ground := Ground.phase }, { on := 19, ground := Ground.phase }, { on := 20, ground := Ground.phase }, { on := 21, ground := Ground.phase }, { on := 22, ground := Ground.phase }, { on := 23, ground := Ground.phase }, { on := 24, ground := Ground.phase }], guard := none }) rfl (fun K hK => ?_) AllReadyH.nil)
                      go_simp
                      refine hK.out _ _ ?_ (fun hHeld => ?_)
                      · first
                        | exact trivial
                      clear hK K
                      try simp only [Act.put, List.setIfInBounds_toArray, List.set_cons_zero, List.set_cons_succ]
                      (refine wpAnyH_take (i := 28) (oi := { dst := some 123, op := Op.nilCheck (Operand.tmp 101), type := 0, pos := "ref.go:250", after := #[{ on := 3, ground := Ground.data }, { on := 0, ground := Ground.phase }, { on := 1, ground := Ground.phase }, { on := 2, ground := Ground.phase }, { on := 3, ground := Ground.phase }, { on := 4, ground := Ground.textOnly Departure.lateStores }, { on := 5, ground := Ground.textOnly Departure.lateStores }, { on := 6, ground := Ground.phase }, { on := 7, ground := Ground.phase }, { on := 8, ground := Ground.phase }, { on := 9, ground := Ground.phase }, { on := 10, ground := Ground.phase }, { on := 11, ground := Ground.phase }, { on := 12, ground := Ground.phase }, { on := 13, ground := Ground.phase }, { on := 14, ground := Ground.phase }, { on := 15, ground := Ground.textOnly Departure.lateStores }, { on := 16, ground := Ground.textOnly Departure.lateStoresUnsure }, { on := 17, ground := Ground.textOnly Departure.lateStores }, { on := 18, ground := Ground.phase }, { on := 19, ground := Ground.phase }, { on := 20, ground := Ground.phase }, { on := 21, ground := Ground.phase }, { on := 22, ground := Ground.phase }, { on := 23, ground := Ground.phase }, { on := 24, ground := Ground.phase }, { on := 25, ground := Ground.phase }, { on := 26, ground := Ground.phase }, { on := 27, ground := Ground.phase }], guard := none }) (v := ?_) rfl (by kernel_rfl) (by kernel_rfl) (by kernel_rfl) (fun _ _ _ h => h) (Or.inl ⟨by rfl, ?_⟩) (by assumption) ?_; rotate_left; · (intro w hSw; (try dsimp only at hSw); go_simp; (first | done | with_reducible rfl)))
                      try simp only [Act.put, List.setIfInBounds_toArray, List.set_cons_zero, List.set_cons_succ]
                      (refine wpAnyH_take (i := 29) (oi := { dst := some 124, op := Op.fieldAddr 72 (Operand.tmp 123) 4, type := 0, pos := "ref.go:250", after := #[{ on := 28, ground := Ground.data }, { on := 0, ground := Ground.phase }, { on := 1, ground := Ground.phase }, { on := 2, ground := Ground.phase }, { on := 3, ground := Ground.phase }, { on := 4, ground := Ground.textOnly Departure.lateStores }, { on := 5, ground := Ground.textOnly Departure.lateStores }, { on := 6, ground := Ground.phase }, { on := 7, ground := Ground.phase }, { on := 8, ground := Ground.phase }, { on := 9, ground := Ground.phase }, { on := 10, ground := Ground.phase }, { on := 11, ground := Ground.phase }, { on := 12, ground := Ground.phase }, { on := 13, ground := Ground.phase }, { on := 14, ground := Ground.phase }, { on := 15, ground := Ground.textOnly Departure.lateStores }, { on := 16, ground := Ground.textOnly Departure.lateStoresUnsure }, { on := 17, ground := Ground.textOnly Departure.lateStores }, { on := 18, ground := Ground.phase }, { on := 19, ground := Ground.phase }, { on := 20, ground := Ground.phase }, { on := 21, ground := Ground.phase }, { on := 22, ground := Ground.phase }, { on := 23, ground := Ground.phase }, { on := 24, ground := Ground.phase }, { on := 25, ground := Ground.phase }, { on := 26, ground := Ground.phase }, { on := 27, ground := Ground.phase }], guard := none }) (v := ?_) rfl (by kernel_rfl) (by kernel_rfl) (by kernel_rfl) (fun _ _ _ h => h) (Or.inl ⟨by rfl, ?_⟩) (by assumption) ?_; rotate_left; · (intro w hSw; (try dsimp only at hSw); go_simp; (first | done | with_reducible rfl)))
                      try simp only [Act.put, List.setIfInBounds_toArray, List.set_cons_zero, List.set_cons_succ]
                      refine wpAnyH_ready (rs := [30]) (by kernel_rfl) (by simp) ?_
                      refine (AllReadyH.cons (o := { dst := none, op := Op.store 38 (Operand.tmp 124) (Operand.const (Value.slice none 0 0)), type := 0, pos := "ref.go:250", after := #[{ on := 29, ground := Ground.data }, { on := 27, ground := Ground.chain }, { on := 0, ground := Ground.phase }, { on := 1, ground := Ground.phase }, { on := 2, ground := Ground.phase }, { on := 3, ground := Ground.phase }, { on := 4, ground := Ground.textOnly Departure.lateStores }, { on := 5, ground := Ground.textOnly Departure.lateStores }, { on := 6, ground := Ground.phase }, { on := 7, ground := Ground.phase }, { on := 8, ground := Ground.phase }, { on := 9, ground := Ground.phase }, { on := 10, ground := Ground.phase }, { on := 11, ground := Ground.phase }, { on := 12, ground := Ground.phase }, { on := 13, ground := Ground.phase }, { on := 14, ground := Ground.phase }, { on := 15, ground := Ground.textOnly Departure.lateStores }, { on := 16, ground := Ground.textOnly Departure.lateStoresUnsure }, { on := 17, ground := Ground.textOnly Departure.lateStores }, { on := 18, ground := Ground.phase }, { on := 19, ground := Ground.phase }, { on := 20, ground := Ground.phase }, { on := 21, ground := Ground.phase }, { on := 22, ground := Ground.phase }, { on := 23, ground := Ground.phase }, { on := 24, ground := Ground.phase }, { on := 25, ground := Ground.phase }, { on := 26, ground := Ground.phase }, { on := 27, ground := Ground.phase }], guard := none }) rfl (fun K hK => ?_) AllReadyH.nil)
                      go_simp
                      refine hK.out _ _ ?_ (fun hHeld => ?_)
                      · first
                        | exact trivial
                      clear hK K
                      try simp only [Act.put, List.setIfInBounds_toArray, List.set_cons_zero, List.set_cons_succ]
                      (refine wpAnyH_take (i := 31) (oi := { dst := some 125, op := Op.nilCheck (Operand.tmp 102), type := 0, pos := "ref.go:250", after := #[{ on := 4, ground := Ground.data }, { on := 0, ground := Ground.phase }, { on := 1, ground := Ground.phase }, { on := 2, ground := Ground.phase }, { on := 3, ground := Ground.phase }, { on := 4, ground := Ground.phase }, { on := 5, ground := Ground.textOnly Departure.lateStores }, { on := 6, ground := Ground.phase }, { on := 7, ground := Ground.phase }, { on := 8, ground := Ground.phase }, { on := 9, ground := Ground.phase }, { on := 10, ground := Ground.phase }, { on := 11, ground := Ground.phase }, { on := 12, ground := Ground.phase }, { on := 13, ground := Ground.phase }, { on := 14, ground := Ground.phase }, { on := 15, ground := Ground.phase }, { on := 16, ground := Ground.phase }, { on := 17, ground := Ground.phase }, { on := 18, ground := Ground.phase }, { on := 19, ground := Ground.phase }, { on := 20, ground := Ground.phase }, { on := 21, ground := Ground.phase }, { on := 22, ground := Ground.phase }, { on := 23, ground := Ground.phase }, { on := 24, ground := Ground.phase }, { on := 25, ground := Ground.phase }, { on := 26, ground := Ground.phase }, { on := 27, ground := Ground.phase }, { on := 28, ground := Ground.phase }, { on := 29, ground := Ground.phase }, { on := 30, ground := Ground.phase }], guard := none }) (v := ?_) rfl (by kernel_rfl) (by kernel_rfl) (by kernel_rfl) (fun _ _ _ h => h) (Or.inl ⟨by rfl, ?_⟩) (by assumption) ?_; rotate_left; · (intro w hSw; (try dsimp only at hSw); go_simp; (first | done | with_reducible rfl)))
                      try simp only [Act.put, List.setIfInBounds_toArray, List.set_cons_zero, List.set_cons_succ]
                      (refine wpAnyH_take (i := 32) (oi := { dst := some 126, op := Op.fieldAddr 72 (Operand.tmp 125) 5, type := 0, pos := "ref.go:250", after := #[{ on := 31, ground := Ground.data }, { on := 0, ground := Ground.phase }, { on := 1, ground := Ground.phase }, { on := 2, ground := Ground.phase }, { on := 3, ground := Ground.phase }, { on := 4, ground := Ground.phase }, { on := 5, ground := Ground.textOnly Departure.lateStores }, { on := 6, ground := Ground.phase }, { on := 7, ground := Ground.phase }, { on := 8, ground := Ground.phase }, { on := 9, ground := Ground.phase }, { on := 10, ground := Ground.phase }, { on := 11, ground := Ground.phase }, { on := 12, ground := Ground.phase }, { on := 13, ground := Ground.phase }, { on := 14, ground := Ground.phase }, { on := 15, ground := Ground.phase }, { on := 16, ground := Ground.phase }, { on := 17, ground := Ground.phase }, { on := 18, ground := Ground.phase }, { on := 19, ground := Ground.phase }, { on := 20, ground := Ground.phase }, { on := 21, ground := Ground.phase }, { on := 22, ground := Ground.phase }, { on := 23, ground := Ground.phase }, { on := 24, ground := Ground.phase }, { on := 25, ground := Ground.phase }, { on := 26, ground := Ground.phase }, { on := 27, ground := Ground.phase }, { on := 28, ground := Ground.phase }, { on := 29, ground := Ground.phase }, { on := 30, ground := Ground.phase }], guard := none }) (v := ?_) rfl (by kernel_rfl) (by kernel_rfl) (by kernel_rfl) (fun _ _ _ h => h) (Or.inl ⟨by rfl, ?_⟩) (by assumption) ?_; rotate_left; · (intro w hSw; (try dsimp only at hSw); go_simp; (first | done | with_reducible rfl)))
                      try simp only [Act.put, List.setIfInBounds_toArray, List.set_cons_zero, List.set_cons_succ]
                      refine wpAnyH_ready (rs := [33]) (by kernel_rfl) (by simp) ?_
                      refine (AllReadyH.cons (o := { dst := none, op := Op.store 3 (Operand.tmp 126) (Operand.tmp 116), type := 0, pos := "ref.go:250", after := #[{ on := 32, ground := Ground.data }, { on := 18, ground := Ground.data }, { on := 30, ground := Ground.chain }, { on := 0, ground := Ground.phase }, { on := 1, ground := Ground.phase }, { on := 2, ground := Ground.phase }, { on := 3, ground := Ground.phase }, { on := 4, ground := Ground.phase }, { on := 5, ground := Ground.textOnly Departure.lateStores }, { on := 6, ground := Ground.phase }, { on := 7, ground := Ground.phase }, { on := 8, ground := Ground.phase }, { on := 9, ground := Ground.phase }, { on := 10, ground := Ground.phase }, { on := 11, ground := Ground.phase }, { on := 12, ground := Ground.phase }, { on := 13, ground := Ground.phase }, { on := 14, ground := Ground.phase }, { on := 15, ground := Ground.phase }, { on := 16, ground := Ground.phase }, { on := 17, ground := Ground.phase }, { on := 18, ground := Ground.phase }, { on := 19, ground := Ground.phase }, { on := 20, ground := Ground.phase }, { on := 21, ground := Ground.phase }, { on := 22, ground := Ground.phase }, { on := 23, ground := Ground.phase }, { on := 24, ground := Ground.phase }, { on := 25, ground := Ground.phase }, { on := 26, ground := Ground.phase }, { on := 27, ground := Ground.phase }, { on := 28, ground := Ground.phase }, { on := 29, ground := Ground.phase }, { on := 30, ground := Ground.phase }], guard := none }) rfl (fun K hK => ?_) AllReadyH.nil)
                      go_simp
                      refine hK.out _ _ ?_ (fun hHeld => ?_)
                      · first
                        | exact trivial
                      clear hK K
                      try simp only [Act.put, List.setIfInBounds_toArray, List.set_cons_zero, List.set_cons_succ]
                      (refine wpAnyH_take (i := 34) (oi := { dst := some 127, op := Op.nilCheck (Operand.tmp 103), type := 0, pos := "ref.go:250", after := #[{ on := 5, ground := Ground.data }, { on := 0, ground := Ground.phase }, { on := 1, ground := Ground.phase }, { on := 2, ground := Ground.phase }, { on := 3, ground := Ground.phase }, { on := 4, ground := Ground.phase }, { on := 5, ground := Ground.phase }, { on := 6, ground := Ground.phase }, { on := 7, ground := Ground.phase }, { on := 8, ground := Ground.phase }, { on := 9, ground := Ground.phase }, { on := 10, ground := Ground.phase }, { on := 11, ground := Ground.phase }, { on := 12, ground := Ground.phase }, { on := 13, ground := Ground.phase }, { on := 14, ground := Ground.phase }, { on := 15, ground := Ground.phase }, { on := 16, ground := Ground.phase }, { on := 17, ground := Ground.phase }, { on := 18, ground := Ground.phase }, { on := 19, ground := Ground.phase }, { on := 20, ground := Ground.phase }, { on := 21, ground := Ground.phase }, { on := 22, ground := Ground.phase }, { on := 23, ground := Ground.phase }, { on := 24, ground := Ground.phase }, { on := 25, ground := Ground.phase }, { on := 26, ground := Ground.phase }, { on := 27, ground := Ground.phase }, { on := 28, ground := Ground.phase }, { on := 29, ground := Ground.phase }, { on := 30, ground := Ground.phase }, { on := 31, ground := Ground.phase }, { on := 32, ground := Ground.phase }, { on := 33, ground := Ground.phase }], guard := none }) (v := ?_) rfl (by kernel_rfl) (by kernel_rfl) (by kernel_rfl) (fun _ _ _ h => h) (Or.inl ⟨by rfl, ?_⟩) (by assumption) ?_; rotate_left; · (intro w hSw; (try dsimp only at hSw); go_simp; (first | done | with_reducible rfl)))
                      try simp only [Act.put, List.setIfInBounds_toArray, List.set_cons_zero, List.set_cons_succ]
                      (refine wpAnyH_take (i := 35) (oi := { dst := some 128, op := Op.fieldAddr 72 (Operand.tmp 127) 6, type := 0, pos := "ref.go:250", after := #[{ on := 34, ground := Ground.data }, { on := 0, ground := Ground.phase }, { on := 1, ground := Ground.phase }, { on := 2, ground := Ground.phase }, { on := 3, ground := Ground.phase }, { on := 4, ground := Ground.phase }, { on := 5, ground := Ground.phase }, { on := 6, ground := Ground.phase }, { on := 7, ground := Ground.phase }, { on := 8, ground := Ground.phase }, { on := 9, ground := Ground.phase }, { on := 10, ground := Ground.phase }, { on := 11, ground := Ground.phase }, { on := 12, ground := Ground.phase }, { on := 13, ground := Ground.phase }, { on := 14, ground := Ground.phase }, { on := 15, ground := Ground.phase }, { on := 16, ground := Ground.phase }, { on := 17, ground := Ground.phase }, { on := 18, ground := Ground.phase }, { on := 19, ground := Ground.phase }, { on := 20, ground := Ground.phase }, { on := 21, ground := Ground.phase }, { on := 22, ground := Ground.phase }, { on := 23, ground := Ground.phase }, { on := 24, ground := Ground.phase }, { on := 25, ground := Ground.phase }, { on := 26, ground := Ground.phase }, { on := 27, ground := Ground.phase }, { on := 28, ground := Ground.phase }, { on := 29, ground := Ground.phase }, { on := 30, ground := Ground.phase }, { on := 31, ground := Ground.phase }, { on := 32, ground := Ground.phase }, { on := 33, ground := Ground.phase }], guard := none }) (v := ?_) rfl (by kernel_rfl) (by kernel_rfl) (by kernel_rfl) (fun _ _ _ h => h) (Or.inl ⟨by rfl, ?_⟩) (by assumption) ?_; rotate_left; · (intro w hSw; (try dsimp only at hSw); go_simp; (first | done | with_reducible rfl)))
                      try simp only [Act.put, List.setIfInBounds_toArray, List.set_cons_zero, List.set_cons_succ]
                      refine wpAnyH_ready (rs := [36]) (by kernel_rfl) (by simp) ?_
                      refine (AllReadyH.cons (o := { dst := none, op := Op.store 4 (Operand.tmp 128) (Operand.const (Value.bool true)), type := 0, pos := "ref.go:250", after := #[{ on := 35, ground := Ground.data }, { on := 33, ground := Ground.chain }, { on := 0, ground := Ground.phase }, { on := 1, ground := Ground.phase }, { on := 2, ground := Ground.phase }, { on := 3, ground := Ground.phase }, { on := 4, ground := Ground.phase }, { on := 5, ground := Ground.phase }, { on := 6, ground := Ground.phase }, { on := 7, ground := Ground.phase }, { on := 8, ground := Ground.phase }, { on := 9, ground := Ground.phase }, { on := 10, ground := Ground.phase }, { on := 11, ground := Ground.phase }, { on := 12, ground := Ground.phase }, { on := 13, ground := Ground.phase }, { on := 14, ground := Ground.phase }, { on := 15, ground := Ground.phase }, { on := 16, ground := Ground.phase }, { on := 17, ground := Ground.phase }, { on := 18, ground := Ground.phase }, { on := 19, ground := Ground.phase }, { on := 20, ground := Ground.phase }, { on := 21, ground := Ground.phase }, { on := 22, ground := Ground.phase }, { on := 23, ground := Ground.phase }, { on := 24, ground := Ground.phase }, { on := 25, ground := Ground.phase }, { on := 26, ground := Ground.phase }, { on := 27, ground := Ground.phase }, { on := 28, ground := Ground.phase }, { on := 29, ground := Ground.phase }, { on := 30, ground := Ground.phase }, { on := 31, ground := Ground.phase }, { on := 32, ground := Ground.phase }, { on := 33, ground := Ground.phase }], guard := none }) rfl (fun K hK => ?_) AllReadyH.nil)
                      go_simp
                      refine hK.out _ _ ?_ (fun hHeld => ?_)
                      · first
                        | exact trivial
                      clear hK K
                      try simp only [Act.put, List.setIfInBounds_toArray, List.set_cons_zero, List.set_cons_succ]
                      refine wpAnyH_done (by kernel_rfl) ?_ _
                      go_wp2
                      go_ret
                      exact HE6.out
                  -- END22
                · have d9 : (r3 != 0) = true := bne_iff_ne.2 hr3
                  have HF9 : Hid (∀ e w', RPost FD q w (.int .i64 r3) s3 e w' → JRPost F lb q w (.int .i64 (lBegin s l p).1) (lBegin s l p).2.1 (lBegin s l p).2.2 e w') := fun e w' p => HFin.out r3 s3 _ _ p (by rw [← hrm]; unfold roomD; rw [HL3.out]) (by rw [HE2.out, if_neg (fun h => h rfl), if_pos hr3])
                  go_wp2_with (go_at_call 18; ((with_reducible refine (CS2.out _ HP3.out).mono ?_); rintro e w4 hp4; have HP4 := Lib.hid (HF9.out _ _ hp4); obtain ⟨he4, _, _⟩ := hp4; subst he4))
                  go_ret
                  exact HP4.out
              · have d8 : (r2 == 0) = false := by simpa using hr2
                have d9 : (r2 != 0) = true := bne_iff_ne.2 hr2
                have HF9 : Hid (JRPost F lb q w (.int .i64 (lBegin s l p).1) (lBegin s l p).2.1 (lBegin s l p).2.2 (.returned (.int .i64 r2)) w3) := HFin.out r2 s2 _ _ HP3.out (by rw [← hrm]; unfold roomD; rw [HL2.out]) (by rw [HE2.out, if_pos hr2])
                go_wp2
                go_ret
                exact HF9.out
            · have d8 : (r1 == 0) = false := by simpa using hr1
              have d9 : (r1 != 0) = true := bne_iff_ne.2 hr1
              have HF9 : Hid (∀ e w', RPost FD q w (.int .i64 r1) s1 e w' → JRPost F lb q w (.int .i64 (lBegin s l p).1) (lBegin s l p).2.1 (lBegin s l p).2.2 e w') := fun e w' p => HFin.out r1 s1 _ _ p (by rw [← hrm]; unfold roomD; rw [HL1.out]) (by rw [HE1.out, if_pos hr1])
              go_wp2_with (go_at_call 18; ((with_reducible refine CS1.out.mono ?_); rintro e w4 hp4; have HP4 := Lib.hid (HF9.out _ _ hp4); obtain ⟨he4, _, _⟩ := hp4; subst he4))
              go_ret
              exact HP4.out
end Go.Proofs.Ythnhhhfjgbgpgaa.NumK
namespace Go.Proofs.Ythnhhhfjgbgpgaa.NumK
open Go.RowKit

/-- A record more, in a row that was appended. -/
theorem RLM.push {w w6 w8 : World} {G : Nat → Prop} {lb q : Nat} {l : LS} {p : List UInt8} {x sv rv rv' : Value} {t : TypeId} {xs : List Value}
    (hf : ∀ k, G k → k < w.heap.size) (hl : G lb) (hr : w.rangeAt lb 0 (logR q l.half l.gen sv rv l.fin l.begun)) (ht : w.there lb 0 7) (hsv : SlB w 0 sv l.snap) (hsg : ∀ k, sv.ownBlock = some k → G k ∧ k ≠ lb)
    (hx1 : w.ownsRow 0 37 1 rv l.recs.length xs) (hxv : ∀ k, rv.ownBlock = some k → G k ∧ k ≠ lb) (hx2 : ∀ i, i < l.recs.length → ∃ y, xs[i]? = some y ∧ SlB w 0 y (l.recs.getD i []) ∧ ∀ k, y.ownBlock = some k → G k ∧ k ≠ lb)
    (g6 : Grew w w6) (hs : SlB w6 w.heap.size x p) (ho : w8.ownsRow 0 37 1 rv' (l.recs.length + 1) (xs ++ [x])) (hg : (w6.alloc (.cells #[x] t)).grownBy w8 rv.ownBlock)
    (hat : ∀ k, rv'.ownBlock = some k → rv.ownBlock = some k ∨ (w6.heap.size ≤ k ∧ k < w8.heap.size)) :
    RLM (w8.setCell ⟨lb, 4, none⟩ rv') (fun k => G k ∨ (w.heap.size ≤ k ∧ k < w8.heap.size)) lb q { l with recs := l.recs ++ [p] } ∧ Chg G w (w8.setCell ⟨lb, 4, none⟩ rv') := by
  have s6 := g6.size
  have s8 : w6.heap.size + 1 ≤ w8.heap.size := by have := hg.size; simp at this; omega
  have s9 : (w8.setCell ⟨lb, 4, none⟩ rv').heap.size = w8.heap.size := by simp [World.setCell]
  have ha : ∀ k, k < w.heap.size → (w6.alloc (.cells #[x] t)).heap[k]? = w.heap[k]? := fun k hk => by
    rw [Below.heap_alloc _ _ _ (by omega), g6.block k hk]
  have hb8 : ∀ k, k < w.heap.size → some k ≠ rv.ownBlock → w8.heap[k]? = w.heap[k]? := fun k hk hn => by
    rw [hg.block k (by simp; omega) hn]; exact ha k hk
  have hb9 : ∀ k, k ≠ lb → (w8.setCell ⟨lb, 4, none⟩ rv').heap[k]? = w8.heap[k]? := fun k hk => Below.heap_setCell _ _ _ _ hk
  have hbl := hb8 lb (hf lb hl) (fun e => (hxv lb e.symm).2 rfl)
  have hlb := hf lb hl
  refine ⟨⟨fun k hk => ?_, Or.inl hl, sv, rv', ?_, there_set (there_of ht hbl) _ _, ?_, fun k hk => ⟨Or.inl (hsg k hk).1, (hsg k hk).2⟩, ?_⟩, ?_⟩
  · rw [s9]
    rcases hk with hk | hk
    · have := hf k hk; omega
    · exact hk.2
  · have h1 := rangeAt_set (rangeAt_of hr hbl) 4 (by simp [logR]) rv'
    simpa [logR] using h1
  · refine hsv.of fun k hk => ?_
    rw [hb9 k (hsg k hk).2, hb8 k (hf k (hsg k hk).1) (fun e => own_ne hsv hx1 (by decide) k hk e.symm)]
  · have hrow : RowsG w8 (fun k => (G k ∨ (w.heap.size ≤ k ∧ k < w8.heap.size)) ∧ k ≠ lb) rv' (l.recs ++ [p]) := by
      refine RowsG.app (w := w6.alloc (.cells #[x] t)) (v := rv) (P := fun k => G k ∧ k ≠ lb) (xs := xs) (ownsRow_of hx1 fun k hk => ha k (hf k (hxv k hk).1)) (fun i hi => ?_) ((hs.mono (Nat.zero_le _)).keep (grew_alloc w6 #[x] t)) ho hg (fun k hk => ⟨Or.inl hk.1, hk.2⟩) (fun k hk => ?_) (fun k hk => ?_)
      · obtain ⟨y, hy, h1, h2⟩ := hx2 i hi
        exact ⟨y, hy, h1.of fun k hk => ha k (hf k (h2 k hk).1), h2⟩
      · have := World.ownsRow.lt hs k hk
        exact ⟨Or.inr ⟨this.1, by omega⟩, by omega⟩
      · rcases hat k hk with h1 | h1
        · exact ⟨Or.inl (hxv k h1).1, (hxv k h1).2⟩
        · exact ⟨Or.inr ⟨by omega, h1.2⟩, by omega⟩
    exact hrow.of fun k hk _ => hb9 k hk.2
  · have h1 : Chg G w w8 := by
      refine ⟨hg.os.trans g6.os, hg.tape.trans g6.tape, hg.output.trans g6.output, by omega, fun k hk hn => hb8 k hk (fun e => hn (hxv k e.symm).1)⟩
    exact h1.setCell ⟨lb, 4, none⟩ rv' (fun _ => hl)

/-- Its end set, all is done. -/
theorem rappend_end {F FD G G' : Nat → Prop} {lb q : Nat} {w w5 w9 : World} {sN : DS} {l : LS} {rs : List (List UInt8)} {fin : Nat} {r : Value} (hf : ∀ k, F k → k < w.heap.size) (hm : RLM w G lb q l) (hDG : ∀ k, FD k → F k ∧ ¬ G k) (hGF : ∀ k, G k → F k)
    (hc : Chg FD w w5) (hk : RK w5 (FX FD w w5) q sN) (hm9 : RLM w9 G' lb q { l with recs := rs }) (hG' : ∀ k, G' k → G k ∨ w5.heap.size ≤ k) (hc9 : Chg G w5 w9) (hok : LOK sN { l with recs := rs, fin := fin }) :
    JRPost F lb q w r sN { l with recs := rs, fin := fin } (.returned r) (w9.setCell ⟨lb, 5, none⟩ (.int .i64 (fin : Int))) := by
  have hlb := hm.fit lb hm.here
  obtain ⟨sv, rv, h1, h2, h3, h4, h5⟩ := hm9.ex
  have hC : Chg (fun k => k = lb) w9 (w9.setCell ⟨lb, 5, none⟩ (.int .i64 (fin : Int))) := (Chg.refl (fun k => k = lb) w9).setCell ⟨lb, 5, none⟩ _ (fun _ => rfl)
  have hR : (w9.setCell ⟨lb, 5, none⟩ (.int .i64 (fin : Int))).rangeAt lb 0 (logR q l.half l.gen sv rv fin l.begun) := by
    have := rangeAt_set h1 5 (by simp [logR]) (.int .i64 (fin : Int))
    simpa [logR] using this
  have hT : (w9.setCell ⟨lb, 5, none⟩ (.int .i64 (fin : Int))).there lb 0 7 := there_set h2 _ _
  have hsz : (w9.setCell ⟨lb, 5, none⟩ (.int .i64 (fin : Int))).heap.size = w9.heap.size := by simp [World.setCell]
  generalize w9.setCell ⟨lb, 5, none⟩ (.int .i64 (fin : Int)) = wE at *
  have s5 := hc.size
  have s9 := hc9.size
  have hGl : ∀ k, G k → k < w.heap.size := hm.fit
  have hcE : Chg G w5 wE := hc9.then hC (fun i _ he => by rw [he]; exact hm.here)
  have hcF : Chg F w wE := (hc.mono (fun k hk => (hDG k hk).1)).then hcE (fun i _ hi => hGF i hi)
  refine ⟨rfl, hcF, fx_lt hf hcF.size, hok, FX FD w w5, G', hk.chg hcE (fun k hk hg => ?_), ⟨fun k hk => by rw [hsz]; exact hm9.fit k hk, hm9.here, sv, rv, hR, hT, h3.of fun k hk => ?_, h4, h5.of fun k hk _ => ?_⟩, fun k hk => ?_, fun k hk => ?_⟩
  · rcases hk with hk | hk
    · exact (hDG k hk).2 hg
    · have := hGl k hg; omega
  · exact hC.block k (hm9.fit k (h4 k hk).1) (h4 k hk).2
  · exact hC.block k (hm9.fit k hk.1) hk.2
  · refine ⟨?_, fun hg => ?_⟩
    · rcases hk with hk | hk
      · exact Or.inl (hDG k hk).1
      · exact Or.inr ⟨hk.1, by omega⟩
    · rcases hG' k hg with h6 | h6
      · rcases hk with hk | hk
        · exact (hDG k hk).2 h6
        · have := hGl k h6; omega
      · have := fx_lt (fun k hk => hf k (hDG k hk).1) s5 k hk
        omega
  · rcases hG' k hk with h6 | h6
    · exact Or.inl (hGF k h6)
    · exact Or.inr ⟨by omega, by have := hm9.fit k hk; omega⟩
end Go.Proofs.Ythnhhhfjgbgpgaa.NumK
