/- journal: Append, the walk. -/
import Derived.Test.YthnhhhfjgbgpgaaRJnK
import Derived.StillTailTactics
import Derived.Test.YthnhhhfjgbgpgaaRDiskJ
import Derived.Test.YthnhhhfjgbgpgaaRMath
import Derived.Test.YthnhhhfjgbgpgaaRGrd
namespace Go.Proofs.Ythnhhhfjgbgpgaa.NumK
open Go.RowKit

set_option maxRecDepth 100000 in
set_option maxHeartbeats 4000000 in
theorem appendJ_go (F : Nat → Prop) (lb q : Nat) (s : DS) (l : LS) (ls : List (List UInt8)) (A : Option Addr) (n c : Nat) (w : World) (h : JK w F lb q s l) (hRS : RowsS (fun k => F k ∨ w.heap.size ≤ k) w A n ls) (hn : n ≤ 1000000)
    (hbg : l.begun = true) (hrf : refV (roomD s - l.fin) ls = 0) (hof : s.off = false) (hno : s.opn.length ≤ 500000) :
    Calls Try.prog 28 #[.pointer (some ⟨lb, 0, none⟩), .slice A n c] w (JPost F lb q w (.int .i64 (lAppend s l ls).1) (lAppend s l ls).2.1 (lAppend s l ls).2.2) := by
  have hB : ∀ w', Chg (fun k => F k ∨ w.heap.size ≤ k) w w' → RowsB w' A n ls := fun w' g => hRS.toB g
  have HRS := Lib.hid hRS
  have HJ := Lib.hid h
  obtain ⟨FD, G, hd, hm, hDG, hGF⟩ := h.ex
  obtain ⟨sv, rv, hr, ht, hsv, hsg, hrv⟩ := hm.ex
  obtain ⟨Asv, csv, rfl⟩ := SlB.form hsv
  obtain ⟨Arv, crv, rfl⟩ := hrv.form
  obtain ⟨c0, c1, c2, c3, c4, c5, c6⟩ := range7 hr
  have hlb : lb < w.heap.size := hm.fit lb hm.here
  have hfin := h.ok.fin
  have hhalf := h.ok.half
  have hfew := hd.ok.few
  have hroom : roomD s ≤ 32768 := by unfold roomD; omega
  have hE := lAppend_eq s l ls hfin
  rw [if_neg (by rw [hbg]; simp), if_neg (by rw [hrf]; exact fun h => h rfl), hof, if_neg (by simp)] at hE
  rw [hbg] at c1
  have hlen : ls.length = n := (hB w (Chg.refl _ _)).1
  have hsmall : (∀ r ∈ ls, r.length ≤ 65536) ∧ spanL ls ≤ roomD s - l.fin := by
    unfold refV at hrf
    by_cases h1 : ∃ r ∈ ls, 65536 < r.length
    · rw [if_pos h1] at hrf; omega
    · rw [if_neg h1] at hrf
      refine ⟨fun r hr => Classical.byContradiction fun hh => h1 ⟨r, hr, by omega⟩, ?_⟩
      by_cases h2 : roomD s - l.fin < spanL ls
      · rw [if_pos h2] at hrf; omega
      · omega
  have hra : w.rangeAt lb 2 [.int .i64 ((l.half * roomD s : Nat) : Int), .int .i64 (l.gen : Int), .slice Asv l.snap.length csv, .slice Arv l.recs.length crv, .int .i64 ((l.half * roomD s + l.fin : Nat) : Int)] := range5_of c2 c3 c4 c5 c6
  obtain ⟨fi, hfi⟩ : ∃ fi, fi = l.half * roomD s := ⟨_, rfl⟩
  have hfb : fi ≤ 32768 := by rw [hfi]; rcases (by omega : l.half = 0 ∨ l.half = 1) with hh | hh <;> rw [hh] <;> omega
  have hfN : fi + roomD s ≤ s.safe.length := by
    have : 2 * roomD s ≤ s.safe.length := by unfold roomD; omega
    rw [hfi]; rcases (by omega : l.half = 0 ∨ l.half = 1) with hh | hh <;> rw [hh] <;> omega
  rw [← hfi, Int.natCast_add] at hra
  rw [← hfi] at hE
  obtain ⟨hb, hlx⟩ := alloc_range w [.int .i64 (fi : Int), .int .i64 (l.gen : Int), .slice Asv l.snap.length csv, .slice Arv l.recs.length crv, .int .i64 ((fi : Int) + (l.fin : Int))] 78
  have ga := grew_alloc w #[.int .i64 (fi : Int), .int .i64 (l.gen : Int), .slice Asv l.snap.length csv, .slice Arv l.recs.length crv, .int .i64 ((fi : Int) + (l.fin : Int))] 78
  have SZ := Lib.hid (fun w' (g : Grew w w') => size_any FD lb q s w' (hd.grew g) ((grew_cell g (p := ⟨lb, 0, none⟩) hlb).trans c0))
  have RF := Lib.hid (fun w' (g : Grew w w') => refusesJ_any (roomD s - l.fin) A n c ls w' (hB w' g.chg) (by omega))
  have CO := Lib.hid (fun w' (g : Grew w w') => off_any FD q s w' (hd.grew g))
  rw [hof] at CO
  have HC0 : Hid (∀ w' : World, w'.heap[lb]? = w.heap[lb]? → w'.cell? ⟨lb, 0, none⟩ = some (.pointer (some ⟨q, 0, none⟩))) := fun w' e => (World.cell?_of_block (w := w) (a := ⟨lb, 0, none⟩) e).trans c0
  have e1 : ((roomD s - l.fin : Nat) : Int) = (fi : Int) + (roomD s : Int) - ((fi : Int) + (l.fin : Int)) := by omega
  have i1 : IntKind.i64.wrap ((fi : Int) + (roomD s : Int)) = (fi : Int) + (roomD s : Int) := by rw [IntKind.wrap_i64]; omega
  have i2 : IntKind.i64.wrap ((fi : Int) + (roomD s : Int) - ((fi : Int) + (l.fin : Int))) = (fi : Int) + (roomD s : Int) - ((fi : Int) + (l.fin : Int)) := by rw [IntKind.wrap_i64]; omega
  rw [hrf] at RF
  rw [e1] at RF
  obtain ⟨b0, b1, b2, b3, b4⟩ := range5 hb
  simp only [Nat.zero_add] at b1 b2 b3 b4
  have hsz1 : (w.alloc (.cells #[.int .i64 (fi : Int), .int .i64 (l.gen : Int), .slice Asv l.snap.length csv, .slice Arv l.recs.length crv, .int .i64 ((fi : Int) + (l.fin : Int))] 78)).heap.size = w.heap.size + 1 := by simp
  have HFI := Lib.hid hfi
  have HRL := Lib.hid hr
  have HTL := Lib.hid ht
  have HBG := Lib.hid hbg
  have HE := Lib.hid hE
  have HHB := Lib.hid hb
  have HHT : Hid (World.there _ w.heap.size 0 5) := hlx
  have HSM := Lib.hid hsmall
  have HAI : Hid (∀ w2 : World, Grew (w.alloc (.cells #[.int .i64 (fi : Int), .int .i64 (l.gen : Int), .slice Asv l.snap.length csv, .slice Arv l.recs.length crv, .int .i64 ((fi : Int) + (l.fin : Int))] 78)) w2 → AI w w2 F G lb w.heap.size q fi s l ls 0 Arv crv) := by
    intro w2 g
    have hsz2 := g.size
    have hbk : w2.heap[w.heap.size]? = (w.alloc (.cells #[.int .i64 (fi : Int), .int .i64 (l.gen : Int), .slice Asv l.snap.length csv, .slice Arv l.recs.length crv, .int .i64 ((fi : Int) + (l.fin : Int))] 78)).heap[w.heap.size]? := g.block _ (by omega)
    have gg := grew_trans ga g
    refine ⟨gg.chg, gg.block lb hlb, by omega, G, FD, .slice Asv l.snap.length csv, fun _ h => h, fun k hk => ⟨Or.inl hk, by have := hm.fit k hk; omega, by have := hm.fit k hk; omega⟩, hd.grew gg, fun k hk => ⟨Or.inl (hDG k hk).1, (hDG k hk).2, fun e => by have := hd.fit k hk; omega⟩, ?_, there_of hlx hbk, hsv.keep gg, hsg, ?_⟩
    · have := rangeAt_of hb hbk
      simpa [spanL] using this
    · have := hrv.of (w' := w2) (fun k hk hlt => gg.block k hlt)
      simpa using this
  clear hRS hE hr ht hsv hsg hrv h hrf hsmall c2 c3 c4 c5 c6 e1 hbg hfi hb hlx b1 b2 b3
  go_enter Try.func28, Try.ntmps28
  go_upto_region 4 with (first
    | (refine wpList_load_mid (by rfl) 78 _ (by rfl) lb 2 (by rfl) [.int .i64 (fi : Int), .int .i64 (l.gen : Int), .slice Asv l.snap.length csv, .slice Arv l.recs.length crv, .int .i64 ((fi : Int) + (l.fin : Int))] _ hra Try.underlying78 rfl (sizeHalf rfl) ?_))
  generalize w.alloc (.cells #[.int .i64 (fi : Int), .int .i64 (l.gen : Int), .slice Asv l.snap.length csv, .slice Arv l.recs.length crv, .int .i64 ((fi : Int) + (l.fin : Int))] 78) = w1 at *
  generalize hrm : roomD s = room at *
  go_quiet (first
    | (go_at_call 41; with_reducible exact quiet_keep (SZ.out _ (grew_drewN ga _)))
    | (go_at_call 45; with_reducible exact quiet_keep (RF.out _ (grew_drewN ga _))))
  have ga2 := grew_drewN ga nq
  have HA0 := Lib.hid (HAI.out _ (grew_drewN (grew_refl w1) nq))
  clear SZ RF HAI HHB HHT i1 i2 b0 b4
  generalize w1.drewN nq = w2 at *
  have g0 := HC0.out w2 HA0.out.lbk
  have CO2 := CO.out w2 ga2
  go_wp2_with (first
    | (go_at_call 39; ((with_reducible refine CO2.mono ?_); rintro e w3 ⟨rfl, rfl⟩)))
  clear CO CO2 g0 ga2 ga hsz1 hra
  have hGl := Lib.hid hm.fit
  have hlbG := Lib.hid hm.here
  have HDG := Lib.hid hDG
  have HGF := Lib.hid hGF
  have HB := Lib.hid hB
  have HLN := Lib.hid hlen
  have HFT := Lib.hid HJ.out.fit
  have HOKL := Lib.hid HJ.out.ok
  clear hm hd hDG hGF hB hlen HJ
  go_loopw [39] (fun v39 wr => ∃ (k : Nat) (Ar : Option Addr) (cr : Nat), v39 = .int .i64 k ∧ k ≤ n ∧ Hid ((appM s (fi + l.fin) l.gen (l.recs.length + 1) (ls.take k)).1 = 0) ∧ Hid (AI w wr F G lb w.heap.size q fi s l ls k Ar cr)) (fun v39 _ => n - (intOf v39).toNat)
  case atStart => exact ⟨0, Arv, crv, rfl, Nat.zero_le _, rfl, HA0.out⟩
  case round =>
    obtain ⟨k, Ar, cr, rfl, hk, HZ, HA⟩ := hrel
    clear HA0
    by_cases hlt : k < n
    · have a3 : (k : Int) < (n : Int) := by omega
      obtain ⟨b, o, rfl, hbw, hrs⟩ := HRS.out.2 (by omega)
      obtain ⟨A1, n1, cp1, hst, hA1, hn1, hm1⟩ := hrs k hlt
      have g0 := (hst wr HA.out.chg).1
      have hb1 := (hst wr HA.out.chg).2
      have hkl : k < ls.length := by rw [HLN.out]; exact hlt
      have hmem : ls.getD k [] ∈ ls := by
        rw [List.getD_eq_getElem?_getD, List.getElem?_eq_getElem hkl]
        exact List.getElem_mem _
      have hp65 := HSM.out.1 _ hmem
      have hpl := hb1.1
      obtain ⟨p, hp⟩ : ∃ p, ls.getD k [] = p := ⟨_, rfl⟩
      rw [hp] at hb1 hp65 hpl hst
      have HST := Lib.hid hst
      clear hrs hst
      have c0w := HC0.out wr HA.out.lbk
      have hAI := HA.out
      have hZ0 := HZ.out
      obtain ⟨chg, lbk, hlt2, P, Fk, sv, hGP, hP, hdk, hFk, hrng, hthr, hsv, hsg, hrow⟩ := hAI
      obtain ⟨Asv2, csv2, rfl⟩ := SlB.form hsv
      obtain ⟨m, hmm⟩ : ∃ m, m = l.recs.length + k := ⟨_, rfl⟩
      rw [← hmm] at hrng hrow
      have hm1b : m ≤ 100000 := by have := HOKL.out.few; have := HOKL.out.fin; have := spanL_ge ls; have := HSM.out.2; rw [hrm] at *; omega
      have hspk := spanL_take_le ls k
      have hopk := appM_opn s (fi + l.fin) l.gen (l.recs.length + 1) (ls.take k)
      have hspr := HSM.out.2
      have hokf := HOKL.out.fin
      have hgen := HOKL.out.gen
      rw [hrm] at hokf
      have hszw := chg.size
      have PU := put_any Fk w.heap.size q (appM s (fi + l.fin) l.gen (l.recs.length + 1) (ls.take k)).2 l.gen (m + 1) (fi + l.fin + spanL (ls.take k)) p A1 n1 cp1 (.int .i64 (fi : Int)) (.slice Asv2 l.snap.length csv2) (.slice Ar m cr) wr.drew (hdk.chg ((Chg.refl (fun _ => False) wr).drew) (fun _ _ h => h)) (fun hF => (hFk _ hF).2.2 rfl) hlt2
        ((World.rangeAt_drew _ _ _ _).2 hrng) ((World.there_drew _ _ _ _).2 hthr) (hb1.keep (grew_drew (grew_refl _))) hA1 hn1 hgen (by omega) hp65 (by omega) (by omega)
      rw [Int.natCast_add, show ((1 : Nat) : Int) = 1 from rfl] at PU
      have hmo : m + 1 = l.recs.length + 1 + k := by omega
      rw [hmo] at PU
      obtain ⟨z1, z2, hzz⟩ : ∃ z1 z2, putM (appM s (fi + l.fin) l.gen (l.recs.length + 1) (ls.take k)).2 (fi + l.fin + spanL (ls.take k)) l.gen (l.recs.length + 1 + k) p = (z1, z2) := ⟨_, _, rfl⟩
      have HZZ := Lib.hid hzz
      rw [hzz] at PU
      have HPU := Lib.hid PU
      have r3 := (range5 hrng).2.2.2.1
      simp only [Nat.zero_add] at r3
      have i3 : IntKind.i64.wrap ((m : Int) + 1) = (m : Int) + 1 := by rw [IntKind.wrap_i64]; omega
      have HMM := Lib.hid hmm
      clear PU hzz hmo hmm
      go_upto_region 12 with fail
      go_still_tail 9, (by kernel_rfl)
      change wpList _ _ _ _ _ wr.drew
      have htk1 : ls.take (k + 1) = ls.take k ++ [p] := by rw [take_snocR ls k hkl, hp]
      have hz1e : appM s (fi + l.fin) l.gen (l.recs.length + 1) (ls.take (k + 1)) = (z1, z2) := by
        rw [htk1, appM_snoc _ _ _ _ _ _ hZ0, List.length_take, Nat.min_eq_left (by omega)]; exact HZZ.out
      by_cases hz1 : z1 = 0
      · subst hz1
        go_upto_region 15 with (first
          | (go_at_call 48; ((with_reducible refine HPU.out.mono ?_); rintro e w4 ⟨rfl, hc4, hd4, ht4, hr4⟩)))
        have hr4' := hr4 trivial
        clear hr4
        have hc4F : Chg (fun i => F i ∨ w.heap.size ≤ i) w w4 := by
          refine chg.drew.then hc4 (fun i hi hh => ?_)
          rcases hh with hh | hh
          · rcases (hFk i hh).1 with h1 | h1
            · exact Or.inl h1
            · exact Or.inr h1.1
          · exact Or.inr (by omega)
        have hb4 := (HST.out w4 hc4F).2
        have CC := Lib.hid (fun w' (g : Grew w4 w') => copied_any A1 n1 cp1 p w' (hb4.keep g) hA1 (by omega))
        have r34 := (range5 hr4').2.2.2.1
        have t34 := (ht4 3 (by omega)).2
        simp only [Nat.zero_add] at r34 t34
        obtain ⟨xs, hx1, hxv, hx2⟩ := hrow
        have hlnm : (l.recs ++ ls.take k).length = m := by rw [List.length_append, List.length_take, HMM.out]; omega
        rw [hlnm] at hx1
        have hxm4 : w4.ownsRow 0 37 1 (.slice Ar m cr) m xs := ownsRow_of hx1 fun i hi => by
          have h1 := hP i (hxv i hi).1
          exact (hc4.block i (show i < wr.heap.size from h1.2.1) (fun hh => hh.elim (fun h2 => (hFk i h2).2.1 (hxv i hi).1) h1.2.2))
        obtain ⟨iS, hiS, hzS, hsS, hbS⟩ := info_parts infoSl
        have hH4 : w.heap.size < w4.heap.size := Nat.lt_of_lt_of_le hlt2 hc4.size
        have HW5 : Hid (∀ (w5 : World) (A2 : Option Addr) (c2 : Nat), Grew w4.drew w5 → w5.cell? ⟨w.heap.size, 3, none⟩ = some (.slice Ar m cr) ∧ w5.frozen? ⟨w.heap.size, 3, none⟩ = false ∧ (w5.alloc (.cells #[.slice A2 n1 c2] 37)).ownsRow 0 37 1 (.slice Ar m cr) m xs ∧
            (∀ j u, ([.slice A2 n1 c2] : List Value)[j]? = some u → (w5.alloc (.cells #[.slice A2 n1 c2] 37)).cell? ((⟨w5.heap.size, 0, none⟩ : Addr).add j) = some u) ∧ (∀ o, (w5.alloc o).cell? ⟨w.heap.size, 3, none⟩ = some (.slice Ar m cr)) ∧
            ∀ w6, (w5.alloc (.cells #[.slice A2 n1 c2] 37)).grownBy w6 (Value.slice Ar m cr).ownBlock → w6.cell? ⟨w.heap.size, 3, none⟩ = some (.slice Ar m cr) ∧ w6.frozen? ⟨w.heap.size, 3, none⟩ = false) := by
          intro w5 A2 c2 g
          have gg : Grew w4 w5 := grew_trans (grew_drew (grew_refl w4)) g
          have hbk := gg.block w.heap.size hH4
          have hl5 : w.heap.size < w5.heap.size := Nat.lt_of_lt_of_le hH4 gg.size
          have h3 := (World.cell?_of_block (w := w4) (a := ⟨w.heap.size, 3, none⟩) hbk).trans r34
          have h4 := (World.frozen?_of_block (w := w4) (a := ⟨w.heap.size, 3, none⟩) hbk).trans t34
          refine ⟨h3, h4, ownR_grew hxm4 (grew_trans gg (grew_alloc _ _ _)), fun j u hu => ?_, fun o => (World.cell?_alloc_lt _ _ _ hl5).trans h3, fun w6 hg => ?_⟩
          · match j, hu with
            | 0, hu =>
              simp at hu
              subst hu
              rw [addr_add]; simp
          · have hb6 : w6.heap[w.heap.size]? = w5.heap[w.heap.size]? := (hg.block w.heap.size (by simp; omega) (fun e => (hP _ (hxv _ e.symm).1).2.2 rfl)).trans (Below.heap_alloc _ _ _ hl5)
            exact ⟨(World.cell?_of_block (w := w5) (a := ⟨w.heap.size, 3, none⟩) hb6).trans h3, (World.frozen?_of_block (w := w5) (a := ⟨w.heap.size, 3, none⟩) hb6).trans h4⟩
        have hmx : m + 1 ≤ maxLen := by unfold maxLen; omega
        have hby : (m + 1) * 24 ≤ 140737488355328 := by omega
        have HF6 : Hid (∀ (w5 w6 : World) (A2 : Option Addr) (c2 g cap : Nat), Grew w4.drew w5 → SlB w5 w4.drew.heap.size (.slice A2 n1 c2) p → (w5.alloc (.cells #[.slice A2 n1 c2] 37)).grownBy w6 (Value.slice Ar m cr).ownBlock → w6.ownsRow 0 37 1 (.slice (some ⟨g, 0, none⟩) (m + 1) cap) (m + 1) (xs ++ [.slice A2 n1 c2]) → ((Value.slice Ar m cr).ownBlock = some g ∨ g = (w5.alloc (.cells #[.slice A2 n1 c2] 37)).heap.size) → g < w6.heap.size →
            AI w (w6.setCell ⟨w.heap.size, 3, none⟩ (.slice (some ⟨g, 0, none⟩) (m + 1) cap)) F G lb w.heap.size q fi s l ls (k + 1) (some ⟨g, 0, none⟩) cap) := by
          intro w5 w6 A2 c2 g cap hg5 hs5 hg6 ho6 hat6 hlt6
          obtain ⟨Fk4, hd4a, hd4b⟩ := hd4
          have hmm := HMM.out
          subst hmm
          have hp6 := AI.step (w := w) (wr := wr) (w2 := w4.drew) (w3 := w5) (w4 := w6) (F := F) (G := G) (Fk := Fk) (P := P) (lb := lb) (H := w.heap.size) (q := q) (fi := fi) (s := s) (l := l) (ls := ls) (j := k) (Arv := Ar) (Arv2 := some ⟨g, 0, none⟩) (crv := cr) (crv2 := cap) (x := .slice A2 n1 c2) (sv := .slice Asv2 l.snap.length csv2) (p := p) (xs := xs)
            HGF.out chg lbk hlbG.out hlt2 (Nat.le_refl _) hkl hp hGP hP hFk hZ0 (((Chg.refl (fun i => Fk i ∨ i = w.heap.size) wr).drew.trans hc4).drew) hGl.out ⟨Fk4, by rw [HZZ.out]; exact hd4a.chg ((Chg.refl (fun _ => False) w4).drew) (fun _ _ h => h), fun i hi => hd4b i hi⟩ ((World.there_drew _ _ _ _).2 ht4) ((World.rangeAt_drew _ _ _ _).2 (by rw [hpl]; exact hr4')) hsv hsg hx1 hxv (fun i hi => by rw [hlnm] at hi; exact hx2 i (by rw [hlnm]; exact hi)) hg5 hs5 ho6 hg6 (fun i hi => ?_)
          · exact hp6
          · have e1 : g = i := by simpa [Value.ownBlock] using hi
            subst e1
            rcases hat6 with h1 | h1
            · exact Or.inl h1
            · refine Or.inr ⟨?_, hlt6⟩
              rw [h1]; simp
        have HZ2 : Hid ((appM s (fi + l.fin) l.gen (l.recs.length + 1) (ls.take (k + 1))).1 = 0) := by show _ = _; rw [hz1e]
        clear HST hc4F hb4 hxm4
        go_region_law (first
          | (refine step_append_lies _ (by rfl) _ _ 38 (by rfl) 0 37 iS (.slice none 0 0) 1 24 Try.underlying38 hiS hzS hsS hbS rfl (by decide) (.slice Ar m cr) m xs (by rfl) hxo ⟨w5.heap.size, 0, none⟩ 1 1 [.slice A2 n1 c2] (by rfl) rfl hnews hone1 hone2 hmx hby (Nat.zero_le _) _ rfl ?_; intro g cap w6 ho6 hg6 hat6 hlt6; obtain ⟨r36, t36⟩ := hw6 w6 hg6)
          | (go_simp; go_at_call 46; ((with_reducible refine (CC.out _ (grew_drew (grew_refl _))).mono ?_); rintro e w5 ⟨hg5, A2, c2, rfl, ho5, hb5, hA5, -⟩; obtain ⟨k5, f5, hxo, hnews, k5a, hw6⟩ := HW5.out w5 A2 c2 hg5; have hone1 : ∀ u ∈ ([.slice A2 n1 c2] : List Value), u.oneCell' = true := (fun u hu => by rw [List.mem_singleton] at hu; rw [hu]; rfl); have hone2 : 0 < 1 := Nat.one_pos)))
        all_goals (
          have HA2 := Lib.hid (HF6.out w5 w6 A2 c2 g cap hg5 (by show World.ownsRow _ _ _ _ _ _ _; rw [hpl]; exact ho5) hg6 ho6 hat6 hlt6)
          clear HF6 HW5 hg5 ho5 hb5 hA5 k5 f5 hxo hnews k5a hw6 ho6 hg6 hat6 hlt6 r36 t36 hx1 hxv hx2 hc4 hd4 ht4 hr4' hdk hFk hrng hthr hsv hsg hGP hP chg hb1 HA HPU HZZ CC
          generalize w6.setCell ⟨w.heap.size, 3, none⟩ (.slice (some ⟨g, 0, none⟩) (m + 1) cap) = wz at *
          go_wp2
          go_roundw
          case rel => exact ⟨k + 1, _, _, by go_num, by omega, HZ2, HA2⟩
          case measure => simp only [intOf]; omega)
      · have d1 : (z1 != 0) = true := by simpa using hz1
        have HP : Hid (∀ w4, Chg (fun i => Fk i ∨ i = w.heap.size) wr.drew w4 → (∃ Fk2, DK w4 Fk2 q z2 ∧ ∀ i, Fk2 i → FX Fk wr.drew w4 i ∧ i ≠ w.heap.size) → JPost F lb q w (.int .i64 (lAppend s l ls).1) (lAppend s l ls).2.1 (lAppend s l ls).2.2 (.returned (.int .i64 z1)) w4) := by
          intro w4 hc4 ⟨Fk2, hd4, hF4⟩
          have hzl : appM s (fi + l.fin) l.gen (l.recs.length + 1) ls = (z1, z2) := by
            have h1 : ls = ls.take (k + 1) ++ ls.drop (k + 1) := (List.take_append_drop _ _).symm
            rw [h1, appM_stop _ _ _ _ _ _ (by rw [hz1e]; exact hz1), hz1e]
          have e2 : lAppend s l ls = (z1, z2, l) := by
            rw [HE.out, hzl, if_pos hz1]
          have hoff : z2.off = true := by
            have := wrL_off (s := s) (at' := fi + l.fin) (l := rowsL l.gen (l.recs.length + 1) ls) hof (by rw [rowsL_len]; omega) (by show (appM _ _ _ _ _).1 ≠ 0; rw [hzl]; exact hz1)
            have e3 : (appM s (fi + l.fin) l.gen (l.recs.length + 1) ls).2.off = true := this
            rw [hzl] at e3; exact e3
          have hs4 : wr.heap.size ≤ w4.heap.size := hc4.size
          rw [e2]
          refine ⟨rfl, (chg.drew.then hc4 (fun i hi hh => ?_) |>.then (Chg.refl (fun _ => False) w4) (fun _ _ h => h.elim)).then (Chg.refl (fun _ => False) w4) (fun _ _ h => h.elim) |> fun g => ⟨g.os, g.tape, g.output, g.size, fun i hi hn => g.block i hi (fun hh => hh.elim hn (fun h2 => by omega))⟩, ⟨Fk2, hd4, fun i hi => ?_⟩, fun h => by rw [hoff] at h; cases h⟩
          · rcases hh with hh | hh
            · rcases (hFk i hh).1 with h1 | h1
              · exact Or.inl h1
              · exact Or.inr h1.1
            · exact Or.inr (by omega)
          · rcases (hF4 i hi).1 with h1 | h1
            · rcases (hFk i h1).1 with h2 | h2
              · exact Or.inl h2
              · exact Or.inr ⟨h2.1, by omega⟩
            · have h3 : wr.heap.size ≤ i := h1.1
              exact Or.inr ⟨by omega, h1.2⟩
        clear hdk hFk hrow hsv hsg hGP hP chg lbk hrng hthr HZ HA HB HSM HE HZZ
        go_wp2_with (first
          | (go_at_call 48; ((with_reducible refine HPU.out.mono ?_); rintro e w4 ⟨rfl, hc4, hd4, -, -⟩)))
        go_ret
        exact HP.out w4 hc4 hd4
    · obtain rfl : k = n := by omega
      have HTK : Hid (ls.take k = ls) := by show _ = _; rw [List.take_of_length_le (by rw [HLN.out]; omega)]
      have hAI := HA.out
      have hZ0 := HZ.out
      obtain ⟨chg, lbk, hlt2, P, Fk, sv, hGP, hP, hdk, hFk, hrng, hthr, hsv, hsg, hrow⟩ := hAI
      obtain ⟨Asv2, csv2, rfl⟩ := SlB.form hsv
      have hsz := chg.size
      rw [HTK.out] at hdk hrng hrow hZ0
      have hlH : lb ≠ w.heap.size := by omega
      have hbl := lbk
      obtain ⟨hp1, hp2, hp3⟩ := log_put (d0 := .int .i64 (fi : Int)) (d1 := .int .i64 (l.gen : Int)) (d2 := .slice Asv2 l.snap.length csv2) (d3 := .slice Ar (l.recs.length + k) cr) (d4 := .int .i64 ((fi + l.fin + spanL ls : Nat) : Int)) (rangeAt_of HRL.out hbl) (there_of HTL.out hbl)
      have HP : Hid (JPost F lb q w (.int .i64 (lAppend s l ls).1) (lAppend s l ls).2.1 (lAppend s l ls).2.2 (.returned (.int .i64 0)) (wr.setCells lb 2 [.int .i64 (fi : Int), .int .i64 (l.gen : Int), .slice Asv2 l.snap.length csv2, .slice Ar (l.recs.length + k) cr, .int .i64 ((fi + l.fin + spanL ls : Nat) : Int)])) := by
        have hc6 : Chg (fun k => k = lb) wr (wr.setCells lb 2 [.int .i64 (fi : Int), .int .i64 (l.gen : Int), .slice Asv2 l.snap.length csv2, .slice Ar (l.recs.length + k) cr, .int .i64 ((fi + l.fin + spanL ls : Nat) : Int)]) := (Chg.refl (fun k => k = lb) wr).setCells lb 2 _ (fun _ => rfl)
        have h8 := hc6.size
        have e2 : lAppend s l ls = (0, (appM s (fi + l.fin) l.gen (l.recs.length + 1) ls).2, { l with recs := l.recs ++ ls, fin := l.fin + spanL ls }) := by
          rw [HE.out, if_neg (fun h => h hZ0)]
        have hPlb := hGP lb hlbG.out
        have hge := spanL_ge ls
        have hsm := HSM.out
        have hok := HOKL.out
        have hrr := appM_room s (fi + l.fin) l.gen (l.recs.length + 1) ls
        rw [hrm] at hrr
        show JPost _ _ _ _ _ _ _ _ _
        rw [e2]
        generalize wr.setCells lb 2 [.int .i64 (fi : Int), .int .i64 (l.gen : Int), .slice Asv2 l.snap.length csv2, .slice Ar (l.recs.length + k) cr, .int .i64 ((fi + l.fin + spanL ls : Nat) : Int)] = w6 at *
        refine jk_mk (N := fun k => (F k ∨ w.heap.size ≤ k) ∨ k = lb) (FD' := Fk) (G' := P) HFT.out ((chg.mono fun k hk => Or.inl hk).trans (hc6.mono fun k hk => Or.inr hk)) (fun i hi hN => ?_) (hdk.chg hc6 (fun i hi he => (hFk i hi).2.1 (he ▸ hPlb))) (fun i hi => ⟨?_, (hFk i hi).2.1⟩) ?_ ?_ (fun i hi => ?_)
        · rcases hN with (hN | hN) | hN
          · exact hN
          · omega
          · rw [hN]; exact HGF.out lb hlbG.out
        · rcases (hFk i hi).1 with h1 | h1
          · exact Or.inl h1
          · exact Or.inr ⟨h1.1, by omega⟩
        · refine ⟨hok.half, ?_, ?_, hok.gen, hok.snapS, fun r hr => ?_⟩
          · show l.fin + spanL ls ≤ _
            rw [hrr]; have := hok.fin; rw [hrm] at this; omega
          · show (l.recs ++ ls).length ≤ l.fin + spanL ls
            rw [List.length_append]; have := hok.few; omega
          · rcases List.mem_append.1 hr with h1 | h1
            · exact hok.recS r h1
            · exact hsm.1 r h1
        · refine ⟨fun i hi => by have := (hP i hi).2.1; omega, hPlb, .slice Asv2 l.snap.length csv2, .slice Ar (l.recs.length + k) cr, ?_, hp2, hsv.of fun i hi => ?_, fun i hi => ⟨hGP i (hsg i hi).1, (hsg i hi).2⟩, hrow.of fun i hi _ => hc6.block i (hP i hi.1).2.1 hi.2⟩
          · rw [hrr, ← HFI.out]
            show World.rangeAt w6 lb 0 (logC q l.begun fi l.gen _ _ (fi + (l.fin + spanL ls)))
            rw [← Nat.add_assoc]
            exact hp1
          · exact hc6.block i (hP i (hGP i (hsg i hi).1)).2.1 (hsg i hi).2
        · rcases (hP i hi).1 with h1 | h1
          · exact Or.inl (HGF.out i h1)
          · exact Or.inr ⟨h1, by have := (hP i hi).2.1; omega⟩
      have hone5 := one5 (a := .int .i64 (fi : Int)) (b := .int .i64 (l.gen : Int)) (c := .slice Asv2 l.snap.length csv2) (d := .slice Ar (l.recs.length + k) cr) (e := .int .i64 ((fi + l.fin + spanL ls : Nat) : Int)) rfl rfl rfl rfl rfl
      obtain ⟨csx, hcsx⟩ : ∃ cs : List Value, cs = [.int .i64 (fi : Int), .int .i64 (l.gen : Int), .slice Asv2 l.snap.length csv2, .slice Ar (l.recs.length + k) cr, .int .i64 ((fi + l.fin + spanL ls : Nat) : Int)] := ⟨_, rfl⟩
      have hcl : Hid (csx.length = 5) := by subst hcsx; rfl
      rw [← hcsx] at hrng HP hone5
      clear hcsx hp1 hp2 hdk hFk hrow hsv hsg hGP hP chg lbk hbl HTK HZ hZ0 HA HB HSM hthr
      go_wp2_with (first
        | (refine wpList_load_mid (by rfl) 78 _ (by rfl) w.heap.size 0 (by rfl) csx _ hrng Try.underlying78 rfl (sizeHalf hcl.out.symm) ?_)
        | (refine (wpList_store_cells (by rfl) 78 _ _ (by rfl) lb 2 csx (by rfl) (by rfl) 5 hcl.out hp3 (sizeHalf rfl) hone5 ?_)))
      go_ret
      exact HP.out
end Go.Proofs.Ythnhhhfjgbgpgaa.NumK
namespace Go.Proofs.Ythnhhhfjgbgpgaa.NumK
open Go.RowKit

/-! ### in the world -/
structure JI (N : Nat → Prop) (w0 w : World) (lb q : Nat) (s : DS) (l : LS) : Prop where
  ex : ∃ F, JK w F lb q s l ∧ ∀ k, F k → w0.heap.size ≤ k ∧ ¬ N k
  grew : Grew w0 w
  nlt : ∀ k, N k → k < w.heap.size
theorem JI.di {N : Nat → Prop} {w0 w : World} {lb q : Nat} {s : DS} {l : LS} (h : JI N w0 w lb q s l) : DI N w0 w q s := by
  obtain ⟨F, hk, hF⟩ := h.ex
  obtain ⟨FD, G, h1, h2, h3, h4⟩ := hk.ex
  exact ⟨⟨FD, h1, fun k hk => hF k (h3 k hk).1⟩, h.grew, h.nlt⟩
theorem JI.keep {N : Nat → Prop} {w0 w w' : World} {lb q : Nat} {s : DS} {l : LS} (h : JI N w0 w lb q s l) (g : Chg (fun k => N k ∧ w0.heap.size ≤ k) w w') : JI N w0 w' lb q s l := by
  obtain ⟨F, hk, hF⟩ := h.ex
  exact ⟨⟨F, hk.chg g (fun k hk hg => (hF k hk).2 hg.1), hF⟩, Chg.grew h.grew g (fun k hk => hk.2), fun k hk => Nat.lt_of_lt_of_le (h.nlt k hk) g.size⟩
theorem JI.grows {N : Nat → Prop} {w0 w w' : World} {lb q : Nat} {s : DS} {l : LS} (h : JI N w0 w lb q s l) (g : Grew w w') : JI N w0 w' lb q s l := h.keep g.chg
/-- What is new is not the log's: blocks from the heap's end on are the law's own. -/
theorem JI.beside {N N' : Nat → Prop} {w0 w w' : World} {lb q : Nat} {s : DS} {l : LS} (h : JI N w0 w lb q s l) (g : Grew w w') (hN : ∀ k, N' k → N k ∨ (w.heap.size ≤ k ∧ k < w'.heap.size)) : JI N' w0 w' lb q s l := by
  obtain ⟨F, hk, hF⟩ := h.ex
  refine ⟨⟨F, hk.grew g, fun k hk2 => ⟨(hF k hk2).1, fun hn => ?_⟩⟩, grew_trans h.grew g, fun k hk2 => ?_⟩
  · rcases hN k hn with h1 | h1
    · exact (hF k hk2).2 h1
    · have := hk.fit k hk2; omega
  · rcases hN k hk2 with h1 | h1
    · have := h.nlt k h1; have := g.size; omega
    · exact h1.2
theorem DI.besides {N N' : Nat → Prop} {w0 w w' : World} {q : Nat} {s : DS} (h : DI N w0 w q s) (g : Grew w w') (hN : ∀ k, N' k → N k ∨ (w.heap.size ≤ k ∧ k < w'.heap.size)) : DI N' w0 w' q s := by
  obtain ⟨F, hk, hF⟩ := h.ex
  refine ⟨⟨F, hk.grew g, fun k hk2 => ⟨(hF k hk2).1, fun hn => ?_⟩⟩, grew_trans h.grew g, fun k hk2 => ?_⟩
  · rcases hN k hn with h1 | h1
    · exact (hF k hk2).2 h1
    · have := hk.fit k hk2; omega
  · rcases hN k hk2 with h1 | h1
    · have := h.nlt k h1; have := g.size; omega
    · exact h1.2
theorem DI.less {N N' : Nat → Prop} {w0 w : World} {q : Nat} {s : DS} (h : DI N w0 w q s) (hN : ∀ k, N' k → N k) : DI N' w0 w q s := by
  obtain ⟨F, hk, hF⟩ := h.ex
  exact ⟨⟨F, hk, fun k hk => ⟨(hF k hk).1, fun hn => (hF k hk).2 (hN k hn)⟩⟩, h.grew, fun k hk => h.nlt k (hN k hk)⟩
/-- What a method of a log leaves. -/
def JStep (N : Nat → Prop) (w0 w : World) (lb q : Nat) (r : Value) (s : DS) (l : LS) (e : Ending) (w' : World) : Prop := e = .returned r ∧ DI N w0 w' q s ∧ Chg (Mine N w0) w w' ∧ (s.off = false → JI N w0 w' lb q s l)
theorem JI.step {N F : Nat → Prop} {w0 w w' : World} {lb q : Nat} {s' : DS} {l' : LS} {r : Value} {e : Ending} (hg : Grew w0 w) (hn : ∀ k, N k → k < w.heap.size) (hF : ∀ k, F k → w0.heap.size ≤ k ∧ ¬ N k) (p : JPost F lb q w r s' l' e w') : JStep N w0 w lb q r s' l' e w' := by
  obtain ⟨he, hc, ⟨FD, hd, hFD⟩, hj⟩ := p
  have hfx : ∀ k, FX F w w' k → w0.heap.size ≤ k ∧ ¬ N k := fun k hk => by
    rcases hk with hk | hk
    · exact hF k hk
    · exact ⟨Nat.le_trans hg.size hk.1, fun h => by have := hn k h; omega⟩
  have g2 : Grew w0 w' := Chg.grew hg hc (fun k hk => (hF k hk).1)
  have n2 : ∀ k, N k → k < w'.heap.size := fun k hk => Nat.lt_of_lt_of_le (hn k hk) hc.size
  exact ⟨he, ⟨⟨FD, hd, fun k hk => hfx k (hFD k hk)⟩, g2, n2⟩, hc.mono fun k hk => hF k hk, fun ho => ⟨⟨_, hj ho, hfx⟩, g2, n2⟩⟩
section
variable {N : Nat → Prop} {w0 w : World} {lb q : Nat} {s : DS} {l : LS}
theorem JI.begin (h : JI N w0 w lb q s l) (p : List UInt8) (A : Option Addr) (n c : Nat) (hp : Bys w A n p) (hA : A = none → c = 0) (hc : n ≤ c) (hAF : ∀ a, A = some a → 0 < n → a.block < w0.heap.size ∨ N a.block) (hcn : n ≤ 140737488355328) (hn : s.opn.length ≤ 500000) :
    Calls Try.prog 20 #[.pointer (some ⟨lb, 0, none⟩), .slice A n c] w (JStep N w0 w lb q (.int .i64 (lBegin s l p).1) (lBegin s l p).2.1 (lBegin s l p).2.2) := by
  obtain ⟨F, hk, hF⟩ := h.ex
  refine (beginJ_any F lb q s l p A n c w hk hp hA hc (fun a ha h0 hf => ?_) hcn hn).mono fun e w' p => JI.step h.grew h.nlt hF p
  rcases hAF a ha h0 with h1 | h1
  · have := (hF _ hf).1; omega
  · exact (hF _ hf).2 h1
theorem JI.append (h : JI N w0 w lb q s l) (ls : List (List UInt8)) (A : Option Addr) (n c : Nat) (hB : RowsS (Mine N w0) w A n ls) (hn : n ≤ 1000000) (hno : s.opn.length ≤ 500000) :
    Calls Try.prog 28 #[.pointer (some ⟨lb, 0, none⟩), .slice A n c] w (JStep N w0 w lb q (.int .i64 (lAppend s l ls).1) (lAppend s l ls).2.1 (lAppend s l ls).2.2) := by
  obtain ⟨F, hk, hF⟩ := h.ex
  by_cases hc : l.begun = false ∨ refV (roomD s - l.fin) ls ≠ 0 ∨ s.off = true
  · exact (appendJ_not F lb q s l ls A n c w hk (fun w' g => hB.toB g.chg) hn hc).mono fun e w' p => JI.step h.grew h.nlt hF p
  · have h1 : l.begun = true := by cases hb : l.begun with
      | true => rfl
      | false => exact absurd (Or.inl hb) hc
    have h2 : refV (roomD s - l.fin) ls = 0 := Classical.byContradiction fun hh => hc (Or.inr (Or.inl hh))
    have h3 : s.off = false := by cases hb : s.off with
      | false => rfl
      | true => exact absurd (Or.inr (Or.inr hb)) hc
    refine (appendJ_go F lb q s l ls A n c w hk ⟨hB.1, fun h0 => ?_⟩ hn h1 h2 h3 hno).mono fun e w' p => JI.step h.grew h.nlt hF p
    obtain ⟨b, o, e, hb, hr⟩ := hB.2 h0
    refine ⟨b, o, e, hb, fun j hj => ?_⟩
    obtain ⟨A1, n1, c1, g1, g2⟩ := hr j hj
    refine ⟨A1, n1, c1, fun w' g => g1 w' ⟨g.os, g.tape, g.output, g.size, fun i hi hN => g.block i hi fun hf => ?_⟩, g2⟩
    rcases hf with hf | hf
    · exact hN (hF i hf)
    · omega
theorem JI.sync (h : JI N w0 w lb q s l) (hn : s.opn.length ≤ 1000000) : Calls Try.prog 17 #[.pointer (some ⟨lb, 0, none⟩)] w (JStep N w0 w lb q (.int .i64 (dSync s).1) (dSync s).2 l) := by
  obtain ⟨F, hk, hF⟩ := h.ex
  exact (syncJ_any F lb q s l w hk hn).mono fun e w' p => JI.step h.grew h.nlt hF p
theorem JI.gen (h : JI N w0 w lb q s l) : Calls Try.prog 33 #[.pointer (some ⟨lb, 0, none⟩)] w fun e w' => e = .returned (.int .i64 (l.gen : Int)) ∧ w = w' := by
  obtain ⟨F, hk, hF⟩ := h.ex
  obtain ⟨FD, G, h1, h2, h3, h4⟩ := hk.ex
  exact gen_any h2
theorem JI.snap (h : JI N w0 w lb q s l) : Calls Try.prog 31 #[.pointer (some ⟨lb, 0, none⟩)] w (TwinBPost l.snap l.snap.length w) := by
  obtain ⟨F, hk, hF⟩ := h.ex
  obtain ⟨FD, G, h1, h2, h3, h4⟩ := hk.ex
  exact snap_any h2 hk.ok.snapS
theorem JI.recs (h : JI N w0 w lb q s l) : Calls Try.prog 32 #[.pointer (some ⟨lb, 0, none⟩)] w (RecsPost l.recs w) := by
  obtain ⟨F, hk, hF⟩ := h.ex
  obtain ⟨FD, G, h1, h2, h3, h4⟩ := hk.ex
  refine recs_any h2 ?_ hk.ok.recS
  have h5 := hk.ok.few
  have h6 := hk.ok.fin
  have h7 := h1.ok.few
  have : roomD s ≤ s.safe.length := by unfold roomD; omega
  omega
/-- Open, of a disk that may be opened. -/
theorem DI.openJ (h : DI N w0 w q s) (ho : lOpen s = 0) : Calls Try.prog 15 #[.pointer (some ⟨q, 0, none⟩)] w fun e w' => Grew w w' ∧ ∃ lb, e = .returned (.tuple #[.pointer (some ⟨lb, 0, none⟩), .int .i64 0]) ∧ JI N w0 w' lb q s (lPick s) := by
  obtain ⟨F, hd, hF⟩ := h.ex
  refine (openJ_any F q s w hd).mono fun e w' p => ?_
  obtain ⟨g, p | p⟩ := p
  · exact absurd ho p.1
  · obtain ⟨_, lb, he, hl, hj⟩ := p
    refine ⟨g, lb, he, ⟨_, hj, fun k hk => ?_⟩, grew_trans h.grew g, fun k hk => Nat.lt_of_lt_of_le (h.nlt k hk) g.size⟩
    rcases hk with hk | hk
    · exact hF k hk
    · exact ⟨Nat.le_trans h.grew.size hk.1, fun hn => by have := h.nlt k hn; omega⟩
end
/-- What came in stays for a log of the law's own. -/
theorem RowsB.stays {N : Nat → Prop} {w0 w : World} {A : Option Addr} {n : Nat} {ls : List (List UInt8)} (h : RowsB w0 A n ls) (g : Grew w0 w) : RowsS (Mine N w0) w A n ls :=
  ⟨h.1, fun hn => by
    obtain ⟨b, o, e, hb, hc⟩ := h.2 hn
    refine ⟨b, o, e, Nat.lt_of_lt_of_le hb g.size, fun j hj => ?_⟩
    obtain ⟨A1, n1, c1, h1, h2, h3, h4⟩ := hc j hj
    refine ⟨A1, n1, c1, fun w' c => ?_, h3, h4⟩
    have gw : Grew w0 w' := Chg.grew g c (fun k hk => hk.1)
    exact ⟨(grew_cell gw (p := ⟨b, o + j, none⟩) hb).trans h1, h2.keep gw⟩⟩

/-! ### in the model -/
def lgL (h g : Nat) (snap : List UInt8) (rs : List (List UInt8)) (b : Bool) : LS := ⟨h, g, snap, rs, spanL (snap :: rs), b⟩
/-- A log that stands: the power is on, nothing is armed. -/
structure LL (s : DS) (h g : Nat) (snap : List UInt8) (w r : List (List UInt8)) : Prop where
  on : s.off = false
  arm : s.armed = 0
  lg : LG s h g snap w r
  all : s.opn = wl (h * roomD s + spanL (snap :: w)) (rowsL g (w.length + 1) r)
theorem LL.opn {s : DS} {h g : Nat} {snap : List UInt8} {w r : List (List UInt8)} (L : LL s h g snap w r) : s.opn.length ≤ 32768 := by
  rw [L.all, wl_len, rowsL_len]
  have h1 := L.lg.fits
  have h2 := L.lg.big
  rw [← List.cons_append, spanL_append] at h1
  unfold roomD at h1
  omega
theorem dSync_len (s : DS) : (dSync s).2.safe.length = s.safe.length := by
  unfold dSync
  split
  · rfl
  · split
    · unfold dLast; split
      · rfl
      · split <;> rfl
    · show (applyL s.safe s.opn).length = _; rw [applyL_len]
theorem lBegin_len (s : DS) (l : LS) (snap : List UInt8) : (lBegin s l snap).2.1.safe.length = s.safe.length := by
  unfold lBegin
  split
  · rfl
  · split
    · rfl
    · split
      · rfl
      · dsimp only
        split
        · dsimp only; rw [wrL_keeps]
        · split
          · dsimp only; rw [dSync_len, wrL_keeps]
          · split
            · dsimp only; rw [wrL_keeps, dSync_len, wrL_keeps]
            · split
              · dsimp only; rw [dSync_len, wrL_keeps, dSync_len, wrL_keeps]
              · dsimp only; rw [dSync_len, wrL_keeps, dSync_len, wrL_keeps]
theorem LL.begin {s : DS} {l : LS} {snap : List UInt8} (ho : s.off = false) (hz : s.armed = 0) (hs : s.opn = []) (hb : s.safe.length ≤ 65536) (h2 : l.half < 2) (hg : (partOf s l.half).gen ≤ l.gen) (hg2 : l.gen < 1099511627776) (hp : snap.length ≤ 65536) (hr : nbk (snap.length + 21) ≤ roomD s) :
    ∃ s', lBegin s l snap = (0, s', lgL (1 - l.half) (l.gen + 1) snap [] true) ∧ LL s' (1 - l.half) (l.gen + 1) snap [] [] ∧ s'.opn = [] ∧ s'.safe.length = s.safe.length ∧ ∀ i, i < roomD s → s'.safe.getD (l.half * roomD s + i) blk0 = s.safe.getD (l.half * roomD s + i) blk0 := by
  obtain ⟨f1, f2, f3⟩ := begin_free h2 ho hz hg2 hp hr
  rcases begin_any h2 hs ho hb hg hg2 hp hr with h | h
  · obtain ⟨a1, a2, a3, a4, a5, a6, a7⟩ := h
    refine ⟨(lBegin s l snap).2.1, ?_, ⟨a2, f2, a5, ?_⟩, a3, ?_, a6⟩
    · rw [show lgL (1 - l.half) (l.gen + 1) snap [] true = (lBegin s l snap).2.2 by rw [a7]; simp [lgL, spanL], ← a1]
    · rw [a3]; rfl
    · exact lBegin_len s l snap
  · rw [f1] at h; exact absurd h.1 (by decide)
theorem LL.append {s : DS} {h g : Nat} {snap : List UInt8} {w r : List (List UInt8)} (L : LL s h g snap w r) (recs : List (List UInt8)) (hp : ∀ p ∈ recs, p.length ≤ 65536) (hf : spanL (snap :: (w ++ r)) + spanL recs ≤ roomD s) :
    ∃ s', lAppend s (lgL h g snap (w ++ r) true) recs = (0, s', lgL h g snap (w ++ (r ++ recs)) true) ∧ LL s' h g snap w (r ++ recs) ∧ s'.safe = s.safe := by
  obtain ⟨a1, a2, a3⟩ := L.lg.append L.all L.on recs hp hf
  have hfit : h * roomD s + spanL (snap :: (w ++ r)) + (rowsL g ((w ++ r).length + 1) recs).length ≤ s.safe.length := by
    rw [rowsL_len]
    have := L.lg.h2
    unfold roomD at *
    rcases (by omega : h = 0 ∨ h = 1) with rfl | rfl <;> omega
  have hz : (lAppend s (lgL h g snap (w ++ r) true) recs).1 = 0 ∧ (lAppend s (lgL h g snap (w ++ r) true) recs).2.1.armed = 0 ∧ (lAppend s (lgL h g snap (w ++ r) true) recs).2.1.safe = s.safe := by
    unfold lAppend lgL
    rw [if_neg (by simp), if_neg (fun ⟨x, h1, h2⟩ => by have := hp x h1; omega), if_neg (by dsimp only; omega), L.on, if_neg (by simp)]
    dsimp only
    rw [wrL_free L.on hfit L.arm]
    exact ⟨by rw [if_neg (by simp)], by rw [if_neg (by simp)]; exact L.arm, by rw [if_neg (by simp)]⟩
  rcases a3 with a3 | a3
  · refine ⟨(lAppend s (lgL h g snap (w ++ r) true) recs).2.1, ?_, ⟨a3.2.1, hz.2.1, a1, by have e := a3.2.2.1; rw [← a2] at e; exact e⟩, hz.2.2⟩
    rw [show lgL h g snap (w ++ (r ++ recs)) true = (lAppend s (lgL h g snap (w ++ r) true) recs).2.2 from a3.2.2.2.symm, ← hz.1]
  · exact absurd a3.1 (by show ¬ (lAppend s (lgL h g snap (w ++ r) true) recs).1 = 7; rw [hz.1]; decide)
/-- What does not fit. -/
theorem LL.full {s : DS} {h g : Nat} {snap : List UInt8} {rs : List (List UInt8)} (recs : List (List UInt8)) (hp : ∀ p ∈ recs, p.length ≤ 65536) (hf : roomD s < spanL (snap :: rs) + spanL recs) :
    lAppend s (lgL h g snap rs true) recs = (9, s, lgL h g snap rs true) := by
  unfold lAppend lgL
  rw [if_neg (by simp), if_neg (fun ⟨x, h1, h2⟩ => by have := hp x h1; omega), if_pos (by dsimp only; omega)]
theorem LL.sync {s : DS} {h g : Nat} {snap : List UInt8} {w r : List (List UInt8)} (L : LL s h g snap w r) :
    ∃ s', dSync s = (0, s') ∧ LL s' h g snap (w ++ r) [] ∧ s'.opn = [] ∧ s'.safe.length = s.safe.length ∧ s'.safe = applyL s.safe s.opn := by
  refine ⟨_, dSync_free L.on L.arm, ⟨L.on, L.arm, L.lg.sync L.all _ rfl rfl, rfl⟩, rfl, ?_, rfl⟩
  show (applyL s.safe s.opn).length = _
  rw [applyL_len]
theorem LL.clean {s : DS} {h g : Nat} {snap : List UInt8} {w r : List (List UInt8)} (L : LL s h g snap w r) (h0 : s.opn = []) (picks : List Int) : LL (dAfter s picks) h g snap w r ∧ (dAfter s picks).opn = [] ∧ (dAfter s picks).safe = s.safe := by
  obtain ⟨c1, c2⟩ := crash_clean picks h0
  exact ⟨⟨rfl, rfl, L.lg.same c1 (by rw [c2, h0]), by rw [c2, ← h0, dAfter_room]; exact L.all⟩, c2, c1⟩
theorem LL.pick {s : DS} {h g : Nat} {snap : List UInt8} {w r : List (List UInt8)} (L : LL s h g snap w r) : lPick s = lgL h g snap (w ++ r) false := L.lg.seen L.all
theorem lOpen_ok {s : DS} (h1 : s.off = false) (h2 : 4 ≤ s.safe.length) : lOpen s = 0 := by unfold lOpen; rw [h1, if_neg (by simp), if_neg (by omega)]
theorem dNew_len (n : Nat) : (dNew n).safe.length = n := by simp [dNew]
theorem LL.first (n : Nat) (snap : List UInt8) (hn : n ≤ 65536) (hp : snap.length ≤ 65536) (hr : nbk (snap.length + 21) ≤ n / 2) :
    ∃ s', lBegin (dNew n) (lPick (dNew n)) snap = (0, s', lgL 0 1 snap [] true) ∧ LL s' 0 1 snap [] [] ∧ s'.opn = [] ∧ s'.safe.length = n := by
  have hl := dNew_len n
  have h1 := lPick_part (dNew n)
  have hrm : roomD (dNew n) = n / 2 := by unfold roomD; rw [hl]
  obtain ⟨s', a1, a2, a3, a4, _⟩ := LL.begin (s := dNew n) (l := lPick (dNew n)) (snap := snap) rfl rfl rfl (by omega) (lPick_half _) (by rw [h1]; exact Nat.le_refl _) (by rw [lPick_new]; decide) hp (by rw [hrm]; exact hr)
  rw [lPick_new] at a1 a2
  refine ⟨s', by rw [lPick_new]; exact a1, a2, a3, by rw [a4, hl]⟩
end Go.Proofs.Ythnhhhfjgbgpgaa.NumK
namespace Go.Proofs.Ythnhhhfjgbgpgaa.NumK
open Go.RowKit

/-! ### steps with what is newly laid -/
theorem JI.less {N N' : Nat → Prop} {w0 w : World} {lb q : Nat} {s : DS} {l : LS} (h : JI N w0 w lb q s l) (hN : ∀ k, N' k → N k) : JI N' w0 w lb q s l := by
  obtain ⟨F, hk, hF⟩ := h.ex
  exact ⟨⟨F, hk, fun k hk => ⟨(hF k hk).1, fun hn => (hF k hk).2 (hN k hn)⟩⟩, h.grew, fun k hk => h.nlt k (hN k hk)⟩
def WithNew (N : Nat → Prop) (w w' : World) : Nat → Prop := fun k => N k ∨ (w.heap.size ≤ k ∧ k < w'.heap.size)
theorem JI.withNew {N : Nat → Prop} {w0 w w' : World} {lb q : Nat} {s : DS} {l : LS} (h : JI N w0 w lb q s l) (g : Grew w w') : JI (WithNew N w w') w0 w' lb q s l := h.beside g (fun _ h => h)
def JOut (N : Nat → Prop) (w0 : World) (lb q : Nat) (r : Int) (s : DS) (l : LS) (e : Ending) (w' : World) : Prop := e = .returned (.int .i64 r) ∧ JI N w0 w' lb q s l
theorem JI.begin' {N : Nat → Prop} {w0 w w' : World} {lb q : Nat} {s s1 : DS} {l l1 : LS} {r : Int} (h : JI N w0 w lb q s l) (g : Grew w w') (p : List UInt8) (A : Option Addr) (n c : Nat) (hp : Bys w' A n p) (hA : A = none → c = 0) (hc : n ≤ c)
    (hAF : ∀ a, A = some a → 0 < n → a.block < w0.heap.size ∨ WithNew N w w' a.block) (hcn : n ≤ 140737488355328) (hn : s.opn.length ≤ 500000) (e : lBegin s l p = (r, s1, l1)) (ho : s1.off = false) :
    Calls Try.prog 20 #[.pointer (some ⟨lb, 0, none⟩), .slice A n c] w' (JOut N w0 lb q r s1 l1) := by
  refine ((h.withNew g).begin p A n c hp hA hc hAF hcn hn).mono fun e2 w2 ⟨p1, p2, p3, p4⟩ => ?_
  rw [e] at p1 p4
  exact ⟨p1, (p4 ho).less fun k hk => Or.inl hk⟩
theorem JI.append' {N : Nat → Prop} {w0 w w' : World} {lb q : Nat} {s s1 : DS} {l l1 : LS} {r : Int} (h : JI N w0 w lb q s l) (g : Grew w w') (ls : List (List UInt8)) (A : Option Addr) (n c : Nat) (hB : RowsS (Mine (WithNew N w w') w0) w' A n ls) (hn : n ≤ 1000000) (hno : s.opn.length ≤ 500000)
    (e : lAppend s l ls = (r, s1, l1)) (ho : s1.off = false) :
    Calls Try.prog 28 #[.pointer (some ⟨lb, 0, none⟩), .slice A n c] w' (JOut N w0 lb q r s1 l1) := by
  refine ((h.withNew g).append ls A n c hB hn hno).mono fun e2 w2 ⟨p1, p2, p3, p4⟩ => ?_
  rw [e] at p1 p4
  exact ⟨p1, (p4 ho).less fun k hk => Or.inl hk⟩
theorem JI.sync' {N : Nat → Prop} {w0 w w' : World} {lb q : Nat} {s s1 : DS} {l : LS} {r : Int} (h : JI N w0 w lb q s l) (g : Grew w w') (hn : s.opn.length ≤ 1000000) (e : dSync s = (r, s1)) (ho : s1.off = false) :
    Calls Try.prog 17 #[.pointer (some ⟨lb, 0, none⟩)] w' (JOut N w0 lb q r s1 l) := by
  refine ((h.grows g).sync hn).mono fun e2 w2 ⟨p1, p2, p3, p4⟩ => ?_
  rw [e] at p1 p4
  exact ⟨p1, p4 ho⟩
/-- The same, and what of N is kept. -/
def JOutK (N : Nat → Prop) (w0 w : World) (lb q : Nat) (r : Int) (s : DS) (l : LS) (e : Ending) (w' : World) : Prop := e = .returned (.int .i64 r) ∧ JI N w0 w' lb q s l ∧ (∀ k, N k → w'.heap[k]? = w.heap[k]?) ∧ w.heap.size ≤ w'.heap.size
theorem JI.beginK {N : Nat → Prop} {w0 w w' : World} {lb q : Nat} {s s1 : DS} {l l1 : LS} {r : Int} (h : JI N w0 w lb q s l) (g : Grew w w') (p : List UInt8) (A : Option Addr) (n c : Nat) (hp : Bys w' A n p) (hA : A = none → c = 0) (hc : n ≤ c)
    (hAF : ∀ a, A = some a → 0 < n → a.block < w0.heap.size ∨ WithNew N w w' a.block) (hcn : n ≤ 140737488355328) (hn : s.opn.length ≤ 500000) (e : lBegin s l p = (r, s1, l1)) (ho : s1.off = false) :
    Calls Try.prog 20 #[.pointer (some ⟨lb, 0, none⟩), .slice A n c] w' (JOutK N w0 w lb q r s1 l1) := by
  refine ((h.withNew g).begin p A n c hp hA hc hAF hcn hn).mono fun e2 w2 ⟨p1, p2, p3, p4⟩ => ?_
  rw [e] at p1 p4
  exact ⟨p1, (p4 ho).less fun k hk => Or.inl hk, fun k hk => (p3.block k (Nat.lt_of_lt_of_le (h.nlt k hk) g.size) (fun hm => hm.2 (Or.inl hk))).trans (g.block k (h.nlt k hk)), Nat.le_trans g.size p3.size⟩
theorem JI.appendK {N : Nat → Prop} {w0 w w' : World} {lb q : Nat} {s s1 : DS} {l l1 : LS} {r : Int} (h : JI N w0 w lb q s l) (g : Grew w w') (ls : List (List UInt8)) (A : Option Addr) (n c : Nat) (hB : RowsS (Mine (WithNew N w w') w0) w' A n ls) (hn : n ≤ 1000000) (hno : s.opn.length ≤ 500000)
    (e : lAppend s l ls = (r, s1, l1)) (ho : s1.off = false) :
    Calls Try.prog 28 #[.pointer (some ⟨lb, 0, none⟩), .slice A n c] w' (JOutK N w0 w lb q r s1 l1) := by
  refine ((h.withNew g).append ls A n c hB hn hno).mono fun e2 w2 ⟨p1, p2, p3, p4⟩ => ?_
  rw [e] at p1 p4
  exact ⟨p1, (p4 ho).less fun k hk => Or.inl hk, fun k hk => (p3.block k (Nat.lt_of_lt_of_le (h.nlt k hk) g.size) (fun hm => hm.2 (Or.inl hk))).trans (g.block k (h.nlt k hk)), Nat.le_trans g.size p3.size⟩
theorem JI.syncK {N : Nat → Prop} {w0 w : World} {lb q : Nat} {s s1 : DS} {l : LS} {r : Int} (h : JI N w0 w lb q s l) (hn : s.opn.length ≤ 1000000) (e : dSync s = (r, s1)) (ho : s1.off = false) :
    Calls Try.prog 17 #[.pointer (some ⟨lb, 0, none⟩)] w (JOutK N w0 w lb q r s1 l) := by
  refine (h.sync hn).mono fun e2 w2 ⟨p1, p2, p3, p4⟩ => ?_
  rw [e] at p1 p4
  exact ⟨p1, p4 ho, fun k hk => p3.block k (h.nlt k hk) (fun hm => hm.2 hk), p3.size⟩
theorem rows1S {M : Nat → Prop} {w : World} {A1 : Option Addr} {n1 c1 : Nat} {l1 : List UInt8} (t : TypeId) (h1 : Bys w A1 n1 l1) (a1 : A1 = none → c1 = 0) (b1 : n1 ≤ c1) (d1 : n1 ≤ 9223372036854775807) (hM1 : ∀ a, A1 = some a → 0 < n1 → ¬ M a.block) (hM : ¬ M w.heap.size) :
    RowsS M (w.alloc (.cells #[.slice A1 n1 c1] t)) (some ⟨w.heap.size, 0, none⟩) 1 [l1] :=
  ⟨rfl, fun _ => ⟨_, _, rfl, by simp, fun j hj => by
    match j, hj with
    | 0, _ => exact ⟨A1, n1, c1, fun w' g => ⟨(g.cell (p := ⟨w.heap.size, 0 + 0, none⟩) (by simp) hM).trans (by simp), (h1.keep (grew_alloc _ _ _)).chg0 g hM1⟩, a1, b1, d1⟩⟩⟩
theorem rows2S {M : Nat → Prop} {w : World} {A1 A2 : Option Addr} {n1 c1 n2 c2 : Nat} {l1 l2 : List UInt8} (t : TypeId) (h1 : Bys w A1 n1 l1) (a1 : A1 = none → c1 = 0) (b1 : n1 ≤ c1) (d1 : n1 ≤ 9223372036854775807) (hM1 : ∀ a, A1 = some a → 0 < n1 → ¬ M a.block)
    (h2 : Bys w A2 n2 l2) (a2 : A2 = none → c2 = 0) (b2 : n2 ≤ c2) (d2 : n2 ≤ 9223372036854775807) (hM2 : ∀ a, A2 = some a → 0 < n2 → ¬ M a.block) (hM : ¬ M w.heap.size) :
    RowsS M (w.alloc (.cells #[.slice A1 n1 c1, .slice A2 n2 c2] t)) (some ⟨w.heap.size, 0, none⟩) 2 [l1, l2] :=
  ⟨rfl, fun _ => ⟨_, _, rfl, by simp, fun j hj => by
    match j, hj with
    | 0, _ => exact ⟨A1, n1, c1, fun w' g => ⟨(g.cell (p := ⟨w.heap.size, 0 + 0, none⟩) (by simp) hM).trans (by simp), (h1.keep (grew_alloc _ _ _)).chg0 g hM1⟩, a1, b1, d1⟩
    | 1, _ => exact ⟨A2, n2, c2, fun w' g => ⟨(g.cell (p := ⟨w.heap.size, 0 + 1, none⟩) (by simp) hM).trans (by simp), (h2.keep (grew_alloc _ _ _)).chg0 g hM2⟩, a2, b2, d2⟩⟩⟩
theorem bys1m (w : World) (c : UInt8) (t : TypeId) (x : Int) (m : Nat × Nat) (hx : x = (c.toNat : Int)) : Bys (w.alloc (.cells #[.int .u8 x] t m)) (some ⟨w.heap.size, 0, none⟩) 1 [c] :=
  ⟨rfl, fun _ => ⟨_, _, rfl, by simp, fun j hj => by
    rw [Nat.zero_add]
    refine (World.cell?_alloc_mark w _ _ _ j).trans ?_
    match j, hj with
    | 0, _ => simp [hx]⟩⟩
theorem Bys.old {w : World} {A : Option Addr} {n : Nat} {l : List UInt8} (h : Bys w A n l) : ∀ a, A = some a → 0 < n → a.block < w.heap.size := by
  intro a ha hn
  obtain ⟨b, o, e, hb, _⟩ := h.2 hn
  rw [ha] at e; cases e; exact hb
theorem ints_old {w : World} {A : Option Addr} {n : Nat} {l : List Int} (h : Ints w A n l) : ∀ a, A = some a → 0 < n → a.block < w.heap.size := by
  intro a ha hn
  obtain ⟨b, o, e, hb, _⟩ := h.2 hn
  rw [ha] at e; cases e; exact hb
def DOut (N : Nat → Prop) (w0 : World) (q : Nat) (s : DS) (e : Ending) (w' : World) : Prop := e = .returned (.tuple #[]) ∧ DI N w0 w' q s
/-- A crash by picks that came in. -/
theorem DI.crash' {N : Nat → Prop} {w0 w : World} {q : Nat} {s : DS} (h : DI N w0 w q s) (A : Option Addr) (pn pc : Nat) (zs : List Int) (hp : Ints w0 A pn zs) (hpn : pn ≤ 9223372036854775807) (hn : s.opn.length ≤ 1000000) :
    Calls Try.prog 9 #[.pointer (some ⟨q, 0, none⟩), .slice A pn pc] w (DOut N w0 q (dCrash s zs)) :=
  (h.crash A pn pc zs (hp.keep h.grew) (fun a ha h0 => Or.inl (ints_old hp a ha h0)) hpn hn).mono fun _ _ p => ⟨p.1, p.2.1⟩
theorem DI.start' {N : Nat → Prop} {w0 w : World} {q : Nat} {s : DS} {zs : List Int} (h : DI N w0 w q (dCrash s zs)) :
    Calls Try.prog 11 #[.pointer (some ⟨q, 0, none⟩)] w (DOut N w0 q (dAfter s zs)) :=
  (h.start (by show ([] : List (Nat × Blk)).length ≤ _; simp)).mono fun _ _ p => ⟨p.1, p.2.1⟩
/-- What is new since w is new since w0. -/
theorem DI.from {N : Nat → Prop} {w0 w w' : World} {q : Nat} {s : DS} (h : DI N w w' q s) (g : Grew w0 w) : DI N w0 w' q s := by
  obtain ⟨F, hd, hF⟩ := h.ex
  exact ⟨⟨F, hd, fun k hk => ⟨Nat.le_trans g.size (hF k hk).1, (hF k hk).2⟩⟩, grew_trans g h.grew, h.nlt⟩
theorem dAfter_len (s : DS) (zs : List Int) : (dAfter s zs).safe.length = s.safe.length := by rw [dAfter_eq]; show (crashL zs 0 s.safe s.opn).length = _; rw [crashL_len]
theorem spanL_few (ls : List (List UInt8)) (h : ∀ l ∈ ls, l.length ≤ 300) : spanL ls ≤ ls.length * 6 := by
  induction ls with
  | nil => simp [spanL]
  | cons p r ih =>
    have h1 := ih (fun l hl => h l (by simp [hl]))
    have h2 := h p (by simp)
    simp only [spanL, List.length_cons]
    unfold nbk
    omega
theorem lAppend_not (s : DS) (a g : Nat) (p : List UInt8) (rs ls : List (List UInt8)) : lAppend s (lgL a g p rs false) ls = (14, s, lgL a g p rs false) := by unfold lAppend lgL; rw [if_pos rfl]
theorem lAppend_not' (s : DS) (l : LS) (hb : l.begun = false) (ls : List (List UInt8)) : lAppend s l ls = (14, s, l) := by unfold lAppend; rw [if_pos hb]
/-- One byte as a record, on a log that has not begun: refused. -/
theorem JI.appendX {N : Nat → Prop} {w0 w : World} {lb q : Nat} {s : DS} {l : LS} (h : JI N w0 w lb q s l) (hb : l.begun = false) (ho : s.off = false) (hn : s.opn.length ≤ 500000) :
    Calls Try.prog 28 #[.pointer (some ⟨lb, 0, none⟩), .slice (some ⟨w.heap.size + 1, 0, none⟩) 1 1] ((w.alloc (.cells #[.int .u8 120] 5 (1, 2))).alloc (.cells #[.slice (some ⟨w.heap.size, 0, none⟩) 1 1] 37)) (JOut N w0 lb q 14 s l) := by
  have z1 : (w.alloc (.cells #[.int .u8 120] 5 (1, 2))).heap.size = w.heap.size + 1 := by simp
  have hM : ∀ (w3 : World) k, w.heap.size ≤ k → k < w3.heap.size → ¬ Mine (WithNew N w w3) w0 k := fun w3 k h1 h2 hm => hm.2 (Or.inr ⟨h1, h2⟩)
  have hr := rows1S (M := Mine (WithNew N w ((w.alloc (.cells #[.int .u8 120] 5 (1, 2))).alloc (.cells #[.slice (some ⟨w.heap.size, 0, none⟩) 1 1] 37))) w0) 37 (bys1m w 120 5 120 (1, 2) rfl) (c1 := 1) (fun h => by cases h) (by omega) (by omega) (fun a ha _ => by cases ha; exact hM _ _ (by simp) (by simp; omega)) (hM _ _ (by simp) (by simp))
  rw [z1] at hr
  exact h.append' (grew_trans (Below.alloc (Below.refl _ _) (Nat.le_refl _) _) (grew_alloc _ _ _)) [[120]] _ 1 1 hr (by omega) hn (lAppend_not' _ _ hb _) ho
section
variable {N : Nat → Prop} {w0 w : World} {lb q a g : Nat} {s : DS} {p : List UInt8} {rs : List (List UInt8)} {b : Bool}
theorem JI.genL (h : JI N w0 w lb q s (lgL a g p rs b)) : Calls Try.prog 33 #[.pointer (some ⟨lb, 0, none⟩)] w fun e w' => e = .returned (.int .i64 (g : Int)) ∧ w = w' := h.gen
theorem JI.snapL (h : JI N w0 w lb q s (lgL a g p rs b)) : Calls Try.prog 31 #[.pointer (some ⟨lb, 0, none⟩)] w (TwinBPost p p.length w) := h.snap
theorem JI.recsL (h : JI N w0 w lb q s (lgL a g p rs b)) : Calls Try.prog 32 #[.pointer (some ⟨lb, 0, none⟩)] w (RecsPost rs w) := h.recs
end
theorem bys_zeros (w : World) (N : Nat) (t : TypeId) : Bys (w.alloc (.cells (madeCells #[.int .u8 0] N) t)) (some ⟨w.heap.size, 0, none⟩) N (List.replicate N 0) := by
  refine ⟨by simp, fun _ => ⟨_, _, rfl, by simp, fun j hj => ?_⟩⟩
  have hs : (madeCells #[.int .u8 0] N).size = N := size_madeCells _ _
  simp [madeCells, hj, Nat.mod_one, List.getD]
def N0 : Nat → Prop := fun _ => False
theorem newD (n : Nat) (w : World) (h1 : 1 ≤ n) (h2 : n ≤ 65536) : Calls Try.prog 5 #[.int .i64 (n : Int)] w fun e w' => ∃ q, e = .returned (.tuple #[.pointer (some ⟨q, 0, none⟩), .int .i64 0]) ∧ DI N0 w w' q (dNew n) := by
  refine (new_any n w (by omega) (by omega)).mono fun e w' hp => ?_
  have hp' : NewPost n w e w' := hp
  obtain ⟨q, he, hd, hg⟩ := di_new (N := N0) (grew_refl w) (fun _ h => h.elim) hp'
  exact ⟨q, he, hd⟩
set_option maxRecDepth 100000 in
set_option maxHeartbeats 2000000 in
theorem wakes07_any (w : World) : Calls Try.prog 14 #[] w fun e w' => e = .returned (.bool true) ∧ Grew w w' := by
  obtain ⟨s1, e1, L1, o1, n1⟩ := LL.first 8 [115] (by omega) (by simp) (by decide)
  have r1 : roomD s1 = 4 := by unfold roomD; rw [n1]
  obtain ⟨s2, e2, L2, f2⟩ := L1.append [[97], [98]] (by simp) (by rw [r1]; decide)
  obtain ⟨s3, e3, L3, o3, n3, _⟩ := L2.sync
  have n2 : s2.safe.length = 8 := by rw [f2, n1]
  have CN : Hid (Calls Try.prog 5 #[.int .i64 8] w fun e w' => ∃ q, e = .returned (.tuple #[.pointer (some ⟨q, 0, none⟩), .int .i64 0]) ∧ DI N0 w w' q (dNew 8)) := newD 8 w (by omega) (by omega)
  have CO := Lib.hid (fun w1 q (h : DI N0 w w1 q (dNew 8)) => h.openJ (lOpen_ok rfl (by rw [dNew_len]; omega)))
  have CB : Hid (∀ w1 lb q, JI N0 w w1 lb q (dNew 8) (lPick (dNew 8)) → Calls Try.prog 20 #[.pointer (some ⟨lb, 0, none⟩), .slice (some ⟨w1.heap.size, 0, none⟩) 1 1] (w1.alloc (.cells #[.int .u8 115] 5 (1, 2))) (JOut N0 w lb q 0 s1 (lgL 0 1 [115] [] true))) := fun w1 lb q h =>
    h.begin' (Below.alloc (Below.refl _ _) (Nat.le_refl _) _) [115] _ 1 1 (bys1m _ _ _ _ _ rfl) (fun h => by cases h) (Nat.le_refl _) (fun a ha _ => by cases ha; exact Or.inr (Or.inr ⟨Nat.le_refl _, by simp⟩)) (by omega) (by simp [dNew]) e1 L1.on
  have CA : Hid (∀ w1 lb q, JI N0 w w1 lb q s1 (lgL 0 1 [115] [] true) → Calls Try.prog 28 #[.pointer (some ⟨lb, 0, none⟩), .slice (some ⟨w1.heap.size + 2, 0, none⟩) 2 2]
      (((w1.alloc (.cells #[.int .u8 97] 5 (1, 2))).alloc (.cells #[.int .u8 98] 5 (1, 2))).alloc (.cells #[.slice (some ⟨w1.heap.size, 0, none⟩) 1 1, .slice (some ⟨w1.heap.size + 1, 0, none⟩) 1 1] 37)) (JOut N0 w lb q 0 s2 (lgL 0 1 [115] [[97], [98]] true))) := fun w1 lb q h => by
    have z1 : (w1.alloc (.cells #[.int .u8 97] 5 (1, 2))).heap.size = w1.heap.size + 1 := by simp
    have z2 : ((w1.alloc (.cells #[.int .u8 97] 5 (1, 2))).alloc (.cells #[.int .u8 98] 5 (1, 2))).heap.size = w1.heap.size + 2 := by simp
    have b1 := (bys1m w1 97 5 97 (1, 2) rfl).keep (Below.alloc (Below.refl _ _) (Nat.le_refl _) (.cells #[.int .u8 98] 5 (1, 2)))
    have b2 := bys1m (w1.alloc (.cells #[.int .u8 97] 5 (1, 2))) 98 5 98 (1, 2) rfl
    rw [z1] at b2
    have g1 : Grew w1 ((w1.alloc (.cells #[.int .u8 97] 5 (1, 2))).alloc (.cells #[.int .u8 98] 5 (1, 2))) := grew_trans (Below.alloc (Below.refl _ _) (Nat.le_refl _) _) (Below.alloc (Below.refl _ _) (Nat.le_refl _) _)
    have hM : ∀ (w3 : World) k, w1.heap.size ≤ k → k < w3.heap.size → ¬ Mine (WithNew N0 w1 w3) w k := fun w3 k h1 h2 hm => hm.2 (Or.inr ⟨h1, h2⟩)
    have hr := rows2S (M := Mine (WithNew N0 w1 (((w1.alloc (.cells #[.int .u8 97] 5 (1, 2))).alloc (.cells #[.int .u8 98] 5 (1, 2))).alloc (.cells #[.slice (some ⟨w1.heap.size, 0, none⟩) 1 1, .slice (some ⟨w1.heap.size + 1, 0, none⟩) 1 1] 37))) w) 37 b1 (c1 := 1) (fun h => by cases h) (by omega) (by omega) (fun a ha _ => by cases ha; exact hM _ _ (by simp) (by simp; omega)) b2 (c2 := 1) (fun h => by cases h) (by omega) (by omega) (fun a ha _ => by cases ha; exact hM _ _ (by simp) (by simp))  (hM _ _ (by simp; omega) (by simp))
    rw [z2] at hr
    exact h.append' (grew_trans g1 (grew_alloc _ _ _)) [[97], [98]] _ 2 2 hr (by omega) (by rw [o1]; simp) e2 L2.on
  have CS := Lib.hid (fun w1 lb q (h : JI N0 w w1 lb q s2 (lgL 0 1 [115] [[97], [98]] true)) => h.sync' (grew_refl _) (by have := L2.opn; omega) e3 L3.on)
  have CO2 := Lib.hid (fun w1 q (h : DI N0 w w1 q s3) => h.openJ (lOpen_ok L3.on (by rw [n3, n2]; omega)))
  rw [L3.pick] at CO2
  have CG := Lib.hid (fun w1 lb q (h : JI N0 w w1 lb q s3 (lgL 0 1 [115] [[97], [98]] false)) => h.gen)
  have CR := Lib.hid (fun w1 lb q (h : JI N0 w w1 lb q s3 (lgL 0 1 [115] [[97], [98]] false)) => h.recs)
  clear e1 L1 o1 n1 r1 e2 L2 f2 e3 L3 o3 n3 n2
  go_enter Try.func14, Try.ntmps14
  go_upto_region 4 with (first
    | (go_at_call 5; ((with_reducible refine CN.out.mono ?_); rintro e w1 ⟨q, rfl, hd⟩; have D0 := Lib.hid hd; clear hd)))
  go_upto_region 5 with (first
    | (go_at_call 15; ((with_reducible refine (CO.out _ _ D0.out).mono ?_); rintro e w2 ⟨hg, lb, rfl, hj⟩; have J0 := Lib.hid hj; clear hj hg)))
  have m1 := run_mark w2 #[.int .u8 115] w2.heap.size 1 1 rfl
  go_upto_region 7 with (first
    | (go_at_call 20; ((with_reducible refine (CB.out _ _ _ J0.out).mono ?_); rintro e w3 ⟨rfl, hj⟩; have J1 := Lib.hid hj; clear hj; have m2 := run_mark w3 #[.int .u8 97] w3.heap.size 1 1 rfl; have m3 := run_mark (w3.alloc (.cells #[.int .u8 97] 5 (1, 2))) #[.int .u8 98] (w3.heap.size + 1) 1 1 (by simp)))
    | (go_at_call 28; ((with_reducible refine (CA.out _ _ _ J1.out).mono ?_); rintro e w4 ⟨rfl, hj⟩; have J2 := Lib.hid hj; clear hj))
    | (go_at_call 17; ((with_reducible refine (CS.out _ _ _ J2.out).mono ?_); rintro e w5 ⟨rfl, hj⟩; have J3 := Lib.hid hj; clear hj)))
  go_wp2_with (first
    | (go_at_call 15; ((with_reducible refine (CO2.out _ _ J3.out.di).mono ?_); rintro e w6 ⟨hg, lb2, rfl, hj⟩; have J4 := Lib.hid hj; clear hj hg))
    | (go_at_call 33; ((with_reducible refine (CG.out _ _ _ J4.out).mono ?_); rintro e w7 ⟨rfl, rfl⟩))
    | (go_at_call 32; ((with_reducible refine (CR.out _ _ _ J4.out).mono ?_); rintro e w8 ⟨hg8, v, rfl, hv⟩; obtain ⟨A, c, rfl, -⟩ := hv.toB; have G8 := Lib.hid (grew_trans J4.out.grew hg8); clear hg8 hv)))
  go_ret
  exact ⟨rfl, G8.out⟩
end Go.Proofs.Ythnhhhfjgbgpgaa.NumK
