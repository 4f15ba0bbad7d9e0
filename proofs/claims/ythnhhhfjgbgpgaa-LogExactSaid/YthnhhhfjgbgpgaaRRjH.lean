/- The document's journal: Append, the walk. -/
import Derived.Test.YthnhhhfjgbgpgaaRRjF
import Derived.Deep.AppendLies
namespace Go.Proofs.Ythnhhhfjgbgpgaa.NumK
open Go.RowKit

theorem getD_in (ls : List (List UInt8)) (k : Nat) (h : k < ls.length) : ls.getD k [] ∈ ls := by
  rw [List.getD_eq_getElem?_getD, List.getElem?_eq_getElem h]
  exact List.getElem_mem h

set_option maxRecDepth 100000 in
set_option maxHeartbeats 4000000 in
theorem rappend_any (F : Nat → Prop) (lb q : Nat) (s : DS) (l : LS) (ls : List (List UInt8)) (A : Option Addr) (n c : Nat) (w : World) (h : JR w F lb q s l) (hRS : RowsS (fun k => F k ∨ w.heap.size ≤ k) w A n ls) (hn : n ≤ 1000000) (hno : s.opn.length ≤ 500000) :
    Calls Try.prog 29 #[.pointer (some ⟨lb, 0, none⟩), .slice A n c] w (JRPost F lb q w (.int .i64 (lAppend s l ls).1) (lAppend s l ls).2.1 (lAppend s l ls).2.2) := by
  have HJ := Lib.hid h
  obtain ⟨FD, G, hd, hm, hDG, hGF⟩ := h.ex
  obtain ⟨sv, rv, hr, ht, hsv, hsg, hrv⟩ := hm.ex
  obtain ⟨Arv, crv, rfl⟩ := hrv.form
  obtain ⟨c0, c1, c2, c3, c4, c5, c6⟩ := range7 hr
  obtain ⟨hq, y0, y3⟩ := rk_off hd
  have hlb : lb < w.heap.size := hm.fit lb hm.here
  have hfin := h.ok.fin
  have hfew := h.ok.few
  have hhalf := h.ok.half
  have hgen := h.ok.gen
  have hfewD := hd.ok.few
  have hroom : roomD s ≤ 32768 := by unfold roomD; omega
  have hlen : ls.length = n := hRS.1
  have HPs : Hid (∀ r w', lAppend s l ls = (r, s, l) → Grew w w' → JRPost F lb q w (.int .i64 (lAppend s l ls).1) (lAppend s l ls).2.1 (lAppend s l ls).2.2 (.returned (.int .i64 r)) w') := by
    intro r w' e g
    rw [e]; exact jr_same h g
  cases hbg : l.begun with
  | false =>
    rw [hbg] at c6
    have HP := Lib.hid (HPs.out 14 w (by unfold lAppend; rw [if_pos hbg]) (grew_refl _))
    clear hd hm hr ht h hRS hsv hsg hrv hbg c0 c1 c2 c3 c4 c5 y0 y3
    go_enter Try.func29, Try.ntmps29
    go_wp2
    go_ret
    exact HP.out
  | true =>
    rw [hbg] at c6
    obtain ⟨fi, hfi⟩ : ∃ fi, fi = l.half * roomD s := ⟨_, rfl⟩
    have HL : Hid (lAppend s l ls = if ∃ r ∈ ls, 65536 < r.length then (5, s, l) else if roomD s < l.fin + spanL ls then (9, s, l) else if s.off then (7, s, l) else
        if (appM s (fi + l.fin) l.gen (l.recs.length + 1) ls).1 ≠ 0 then ((appM s (fi + l.fin) l.gen (l.recs.length + 1) ls).1, (appM s (fi + l.fin) l.gen (l.recs.length + 1) ls).2, l)
        else (0, (appM s (fi + l.fin) l.gen (l.recs.length + 1) ls).2, { l with recs := l.recs ++ ls, fin := l.fin + spanL ls })) := by
      show _ = _
      unfold lAppend appM
      rw [if_neg (by rw [hbg]; simp), hfi]
    have HFI := Lib.hid hfi
    have HROW : Hid (∀ k, k < n → ∃ b o A1 n1 c1, A = some ⟨b, o, none⟩ ∧ (∀ w', Chg (fun k => F k ∨ w.heap.size ≤ k) w w' → w'.cell? ⟨b, o + k, none⟩ = some (.slice A1 n1 c1) ∧ Bys w' A1 n1 (ls.getD k [])) ∧ (A1 = none → c1 = 0)) := fun k hk => by
      obtain ⟨b, o, e, _, hc⟩ := hRS.2 (by omega)
      obtain ⟨A1, n1, c1, h1, h2, _, _⟩ := hc k hk
      exact ⟨b, o, A1, n1, c1, e, h1, h2⟩
    have HLN := Lib.hid hlen
    have HDK := Lib.hid hd
    have HF := Lib.hid hd.fit
    have HNO := Lib.hid hno
    have HHALF := Lib.hid hhalf
    have HGEN := Lib.hid hgen
    have hrecs : l.recs.length ≤ 32768 := by omega
    have hfin2 : l.fin ≤ 32768 := by omega
    have CRM := Lib.hid (rroom_any FD G lb q s l w.drew (hd.grew (grew_drew (grew_refl _))) (hm.grew (grew_drew (grew_refl _))))
    have HCELL : Hid (∀ wr, Chg FD w wr → wr.cell? ⟨lb, 0, none⟩ = some (.pointer (some ⟨q, 0, none⟩)) ∧ wr.cell? ⟨lb, 1, none⟩ = some (.int .i64 (l.half : Int)) ∧ wr.cell? ⟨lb, 2, none⟩ = some (.int .i64 (l.gen : Int)) ∧ wr.cell? ⟨lb, 4, none⟩ = some (.slice Arv l.recs.length crv) ∧ wr.cell? ⟨lb, 5, none⟩ = some (.int .i64 (l.fin : Int))) := fun wr g => by
      have hn1 : ¬ FD lb := fun h => (hDG lb h).2 hm.here
      exact ⟨(g.cell (p := ⟨lb, 0, none⟩) hlb hn1).trans c0, (g.cell (p := ⟨lb, 1, none⟩) hlb hn1).trans c1, (g.cell (p := ⟨lb, 2, none⟩) hlb hn1).trans c2, (g.cell (p := ⟨lb, 4, none⟩) hlb hn1).trans c4, (g.cell (p := ⟨lb, 5, none⟩) hlb hn1).trans c5⟩
    have HDF : Hid (∀ wr, Chg FD w wr → Chg (fun k => F k ∨ w.heap.size ≤ k) w wr) := fun wr g => g.mono fun k hk => Or.inl (hDG k hk).1
    have y3d : w.drew.cell? ⟨q, 3, none⟩ = some (.bool s.off) := y3
    have hf2 : (l.fin : Int) + 0 = (l.fin : Int) := Int.add_zero _
    clear hr ht h hRS hsv hsg hrv hbg c1 c2 c3 c4 y0 y3 hd hfi hlen hno hhalf hgen hfewD hf2
    generalize hrm : roomD s = room at *
    go_enter Try.func29, Try.ntmps29
    go_wp2
    clear c6
    go_loopw [5, 6] (fun v5 v6 wr => ∃ k sp : Nat, v6 = .int .i64 k ∧ v5 = .int .i64 sp ∧ w = wr ∧ k ≤ n ∧ sp ≤ 1058 * k ∧ Hid (sp = spanL (ls.take k)) ∧ Hid (∀ j, j < k → (ls.getD j []).length ≤ 65536)) (fun _ v6 _ => n - (intOf v6).toNat)
    case atStart => exact ⟨0, 0, rfl, rfl, rfl, Nat.zero_le _, Nat.zero_le _, rfl, fun j hj => absurd hj (by omega)⟩
    case round =>
      obtain ⟨k, sp, rfl, rfl, rfl, hk, hsp, HSP, HS⟩ := hrel
      by_cases hlt : k < n
      · have a3 : (k : Int) < (n : Int) := by omega
        have a4 : (0 : Int) ≤ (k : Int) := by omega
        obtain ⟨b, o, A1, n1, c1', rfl, hst, hA1⟩ := HROW.out k hlt
        obtain ⟨g1, hb1⟩ := hst w (Chg.refl _ _)
        have hl1 := hb1.1
        have hin := getD_in ls k (by rw [HLN.out]; exact hlt)
        by_cases hlong : 65536 < n1
        · have d1 : (65536 : Int) < (n1 : Int) := by omega
          have HP := Lib.hid (HPs.out 5 w (by rw [HL.out, if_pos ⟨_, hin, by omega⟩]) (grew_refl _))
          clear hin hl1 hb1 hst HROW HL HS HSP
          go_wp2
          go_ret
          exact HP.out
        · have d1 : ¬ (65536 : Int) < (n1 : Int) := by omega
          obtain ⟨nb1, hnb1⟩ : ∃ nb1, nb1 = nbk (n1 + 21) := ⟨_, rfl⟩
          have hnb2 : nb1 ≤ 1058 := by rw [hnb1]; unfold nbk; omega
          obtain ⟨sp2, hsp2⟩ : ∃ sp2, sp2 = sp + nb1 := ⟨_, rfl⟩
          have HS2 : Hid (sp2 = spanL (ls.take (k + 1))) := by
            show _ = _
            rw [take_snocR ls k (by rw [HLN.out]; exact hlt), spanL_append, ← HSP.out, hsp2, hnb1]
            show sp + nbk (n1 + 21) = sp + (nbk ((ls.getD k []).length + 21) + 0)
            rw [hl1]; rfl
          have CB1 : Hid (Calls Try.prog 49 #[.int .i64 ((n1 : Int) + 21)] w fun e w' => e = .returned (.int .i64 (nb1 : Int)) ∧ w = w') := by
            have := rblocks_any (n1 + 21) (by omega) w
            rw [Int.natCast_add, ← hnb1] at this
            exact this
          have i1 : IntKind.i64.wrap ((n1 : Int) + 21) = (n1 : Int) + 21 := by rw [IntKind.wrap_i64]; omega
          have i2 : IntKind.i64.wrap ((sp : Int) + (nb1 : Int)) = (sp2 : Int) := by rw [IntKind.wrap_i64]; omega
          have HB2 : Hid (sp2 ≤ 1058 * (k + 1)) := by show _ ≤ _; omega
          have HK2 : Hid ((ls.getD k []).length ≤ 65536) := by show _ ≤ _; omega
          clear hin hl1 hb1 hst HL hnb1 hsp2
          go_wp2_with (go_at_call 49; ((with_reducible refine CB1.out.mono ?_); rintro e w1 ⟨rfl, rfl⟩))
          go_roundw
          case rel => exact ⟨k + 1, sp2, by go_num, (by first | rfl | trivial), (by first | rfl | trivial), by omega, HB2.out, HS2, fun j hj => by rcases (by omega : j < k ∨ j = k) with h | h; exact HS.out j h; rw [h]; exact HK2.out⟩
          case measure => simp only [intOf]; omega
      · obtain rfl : n = k := by omega
        have htk : ls.take n = ls := List.take_of_length_le (by have := HLN.out; omega)
        have hsp1 : sp = spanL ls := by rw [HSP.out, htk]
        have hsm : ¬ ∃ r ∈ ls, 65536 < r.length := by
          rintro ⟨r, hr, hlg⟩
          obtain ⟨j, hj, rfl⟩ := List.getElem_of_mem hr
          have := HS.out j (by have := HLN.out; omega)
          rw [List.getD_eq_getElem?_getD, List.getElem?_eq_getElem hj] at this
          simp at this; omega
        have HL2 : Hid (lAppend s l ls = if room < l.fin + sp then (9, s, l) else if s.off then (7, s, l) else
            if (appM s (fi + l.fin) l.gen (l.recs.length + 1) ls).1 ≠ 0 then ((appM s (fi + l.fin) l.gen (l.recs.length + 1) ls).1, (appM s (fi + l.fin) l.gen (l.recs.length + 1) ls).2, l)
            else (0, (appM s (fi + l.fin) l.gen (l.recs.length + 1) ls).2, { l with recs := l.recs ++ ls, fin := l.fin + sp })) := by
          show _ = _
          rw [HL.out, if_neg hsm, hsp1]
        have HSP1 := Lib.hid hsp1
        have i4 : IntKind.i64.wrap ((l.fin : Int) + (sp : Int)) = (l.fin : Int) + (sp : Int) := by rw [IntKind.wrap_i64]; omega
        have c0d : w.drew.cell? ⟨lb, 0, none⟩ = some (.pointer (some ⟨q, 0, none⟩)) := c0
        have c5d : w.drew.cell? ⟨lb, 5, none⟩ = some (.int .i64 (l.fin : Int)) := c5
        clear HL htk hsp1 hsm HSP
        by_cases hfull : room < l.fin + sp
        · have d2 : (room : Int) < (l.fin : Int) + (sp : Int) := by omega
          have HP := Lib.hid (HPs.out 9 w.drew (by rw [HL2.out, if_pos hfull]) (grew_drew (grew_refl _)))
          clear HL2 HS HROW HCELL
          go_upto_region 10 with fail
          go_region_held3 (fun w' => w'.cell? ⟨lb, 5, none⟩ = some (.int .i64 (l.fin : Int)))
            (first | exact c5d)
            (first
              | (go_at_call 50; ((with_reducible refine CRM.out.mono ?_); rintro e w1 ⟨rfl, rfl⟩)))
          go_wp2
          go_ret
          exact HP.out
        · have d2 : ¬ (room : Int) < (l.fin : Int) + (sp : Int) := by omega
          cases hof : s.off with
          | true =>
            rw [hof] at y3d
            have HP := Lib.hid (HPs.out 7 w.drew (by rw [HL2.out, if_neg hfull, hof]; rfl) (grew_drew (grew_refl _)))
            clear HL2 HS HROW HCELL hof
            go_upto_region 10 with fail
            go_region_held3 (fun w' => w'.cell? ⟨lb, 5, none⟩ = some (.int .i64 (l.fin : Int)))
              (first | exact c5d)
              (first
                | (go_at_call 50; ((with_reducible refine CRM.out.mono ?_); rintro e w1 ⟨rfl, rfl⟩)))
            generalize w.drew = wd at *
            go_wp2
            go_ret
            exact HP.out
          | false =>
            rw [hof] at y3d
            have HL3 : Hid (lAppend s l ls = if (appM s (fi + l.fin) l.gen (l.recs.length + 1) ls).1 ≠ 0 then ((appM s (fi + l.fin) l.gen (l.recs.length + 1) ls).1, (appM s (fi + l.fin) l.gen (l.recs.length + 1) ls).2, l)
                else (0, (appM s (fi + l.fin) l.gen (l.recs.length + 1) ls).2, { l with recs := l.recs ++ ls, fin := l.fin + sp })) := by
              show _ = _
              rw [HL2.out, if_neg hfull, hof]; rfl
            have HP0 : Hid (RPost FD q w (.int .i64 0) s (.returned (.int .i64 0)) w.drew) := rpost_grew HF.out (grew_drew (grew_refl _)) ⟨rfl, rk_same (HDK.out.grew (grew_drew (grew_refl _)))⟩
            have HFULL : Hid (l.fin + sp ≤ room) := by show _ ≤ _; omega
            clear HL2 hof HPs
            go_upto_region 10 with fail
            go_region_held3 (fun w' => w'.cell? ⟨lb, 5, none⟩ = some (.int .i64 (l.fin : Int)))
              (first | exact c5d)
              (first
                | (go_at_call 50; ((with_reducible refine CRM.out.mono ?_); rintro e w1 ⟨rfl, rfl⟩)))
            clear CRM
            generalize w.drew = wd at *
            go_wp2
            clear c0 c5 c0d c5d y3d i4 d2
            go_loopw [7, 8] (fun v7 v8 wr => ∃ j at1 : Nat, v8 = .int .i64 j ∧ v7 = .int .i64 at1 ∧ j ≤ n ∧ Hid (at1 = l.fin + spanL (ls.take j)) ∧ Hid ((appM s (fi + l.fin) l.gen (l.recs.length + 1) (ls.take j)).1 = 0) ∧ Hid (RPost FD q w (.int .i64 0) (appM s (fi + l.fin) l.gen (l.recs.length + 1) (ls.take j)).2 (.returned (.int .i64 0)) wr)) (fun _ v8 _ => n - (intOf v8).toNat)
            case atStart => exact ⟨0, l.fin, rfl, rfl, Nat.zero_le _, rfl, rfl, HP0⟩
            case round =>
              obtain ⟨j, at1, rfl, rfl, hj, HAT, HZ0, HP⟩ := hrel
              clear HP0
              by_cases hlt : j < n
              · have a3 : (j : Int) < (n : Int) := by omega
                have a4 : (0 : Int) ≤ (j : Int) := by omega
                have hjl : j < ls.length := by rw [HLN.out]; exact hlt
                obtain ⟨b, o, A1, n1, c1', rfl, hst, hA1⟩ := HROW.out j hlt
                have HST := Lib.hid hst
                have hcw := HDF.out wr HP.out.2.1
                obtain ⟨g1, hb1⟩ := hst wr hcw
                obtain ⟨c0, c1, c2, c4, c5⟩ := HCELL.out wr HP.out.2.1
                obtain ⟨p, hp⟩ : ∃ p, p = ls.getD j [] := ⟨_, rfl⟩
                rw [← hp] at hb1 HST
                have hl1 : p.length = n1 := hb1.1
                have hn1 : n1 ≤ 65536 := by have := HS.out j hlt; rw [← hp] at this; omega
                obtain ⟨nb1, hnb1⟩ : ∃ nb1, nb1 = nbk (n1 + 21) := ⟨_, rfl⟩
                have hnb2 : nb1 ≤ 1058 := by rw [hnb1]; unfold nbk; omega
                obtain ⟨at2, hat2⟩ : ∃ at2, at2 = at1 + nb1 := ⟨_, rfl⟩
                have HAT2 : Hid (at2 = l.fin + spanL (ls.take (j + 1))) := by
                  show _ = _
                  rw [take_snocR ls j hjl, spanL_append, hat2, HAT.out, hnb1, ← hp, Nat.add_assoc]
                  show _ + (_ + nbk (n1 + 21)) = _ + (_ + (nbk (p.length + 21) + 0))
                  rw [hl1]; rfl
                have hat1b : at2 ≤ 32768 := by
                  have h1 := spanL_take_le ls (j + 1)
                  have h2 := HAT2.out
                  have h3 := HFULL.out
                  have h4 := HSP1.out
                  omega
                obtain ⟨no1, hno1⟩ : ∃ no1, no1 = l.recs.length + 1 + j := ⟨_, rfl⟩
                obtain ⟨fr, hfr⟩ : ∃ fr, fr = frameB l.gen no1 p := ⟨_, rfl⟩
                have hfl : fr.length = n1 + 21 := by rw [hfr, frameB_len]; omega
                obtain ⟨sj, hsj⟩ : ∃ sj, sj = (appM s (fi + l.fin) l.gen (l.recs.length + 1) (ls.take j)).2 := ⟨_, rfl⟩
                obtain ⟨e1, s1, hws⟩ : ∃ e1 s1, appM s (fi + l.fin) l.gen (l.recs.length + 1) (ls.take (j + 1)) = (e1, s1) := ⟨_, _, rfl⟩
                have hdw : wrL sj (fi + at1) (rowL l.gen fr) = (e1, s1) := by
                  rw [← hws, take_snocR ls j hjl, appM_snoc _ _ _ _ _ _ HZ0.out, List.length_take, Nat.min_eq_left (Nat.le_of_lt hjl), ← hp, hfr, hsj, hno1, HAT.out, ← Nat.add_assoc]
                  rfl
                have hrmj : roomD sj = room := by rw [hsj, appM_room]; exact hrm
                have hopj : sj.opn.length ≤ 540000 := by
                  rw [hsj]
                  have h1 := appM_opn s (fi + l.fin) l.gen (l.recs.length + 1) (ls.take j)
                  have h2 := spanL_take_le ls j
                  have h3 := HFULL.out
                  have h4 := HSP1.out
                  have h5 := HNO.out
                  omega
                have HRm1 : Hid (roomD s1 = roomD s) := by have h1 := appM_room s (fi + l.fin) l.gen (l.recs.length + 1) (ls.take (j + 1)); rw [hws] at h1; exact h1
                rw [← hsj] at HP
                have CSEAL : Hid (∀ w', Chg FD w w' → Calls Try.prog 52 #[.int .i64 (l.gen : Int), .int .i64 (no1 : Int), .slice A1 n1 c1'] w' fun e w'' => Grew w' w'' ∧ ∃ A2 c2, e = .returned (.slice A2 (n1 + 21) c2) ∧ Bys w'' A2 (n1 + 21) fr ∧ ∀ a, A2 = some a → w'.heap.size ≤ a.block) := fun w' g => by
                  have h1 := refSeal_any l.gen no1 A1 n1 c1' p w' ((HST.out w' (HDF.out w' g)).2) hA1 HGEN.out (by omega) (by omega)
                  rw [← hfr] at h1
                  refine h1.mono fun e w'' ⟨g2, v, he, ho⟩ => ⟨g2, ?_⟩
                  obtain ⟨A2, c2, rfl, hb2, _⟩ := bys_of_own ho
                  refine ⟨A2, c2, he, hb2, fun a ha => ?_⟩
                  rcases ho.2 with ⟨e2, _⟩ | ⟨b, cap, cur, e2, hb, _⟩
                  · cases e2
                  · cases e2; cases ha; exact hb
                have CPUT : Hid (∀ w2 A2 c2, Grew wr.drew w2 → Bys w2 A2 (n1 + 21) fr → (∀ a, A2 = some a → wr.drew.heap.size ≤ a.block) → Calls Try.prog 51 #[.pointer (some ⟨q, 0, none⟩), .int .i64 (l.half : Int), .int .i64 (at1 : Int), .int .i64 (l.gen : Int), .slice A2 (n1 + 21) c2] w2 fun e w3 => RPost FD q w (.int .i64 e1) s1 e w3) := fun w2 A2 c2 hg2 hb2 hn2 => by
                  have hfit : ∀ i, FX FD w wr i → i < wr.heap.size := fx_lt HF.out HP.out.2.1.size
                  have h1 := rput_any (FX FD w wr) q sj l.half at1 l.gen fr A2 (n1 + 21) c2 w2 ((HP.out.2.2.grew (grew_drew (grew_refl _))).grew hg2) hb2 (fun a ha _ hh => by have h3 := hn2 a ha; have h4 := hfit _ hh; have h5 : wr.drew.heap.size = wr.heap.size := rfl; omega) (by omega) HHALF.out (by omega) (by have := HGEN.out; omega) (by omega)
                  rw [hrmj, ← HFI.out, hdw] at h1
                  refine h1.mono fun e w3 p => ?_
                  exact rp_mk HF.out HP.out.2.1.size (by have := hg2.size; exact this) (((HP.out.2.1.mono (fun i hi => Or.inl hi)).drew).trans hg2.chg) p
                have i5 : IntKind.i64.wrap ((l.recs.length : Int) + 1) = (l.recs.length : Int) + 1 := by rw [IntKind.wrap_i64]; omega
                have i6 : IntKind.i64.wrap ((l.recs.length : Int) + 1 + (j : Int)) = (no1 : Int) := by rw [IntKind.wrap_i64]; omega
                have i7 : IntKind.i64.wrap ((n1 : Int) + 21) = (n1 : Int) + 21 := by rw [IntKind.wrap_i64]; omega
                have i8 : IntKind.i64.wrap ((at1 : Int) + (nb1 : Int)) = (at2 : Int) := by rw [IntKind.wrap_i64]; omega
                have HPC : Hid (Chg FD w wr.drew) := HP.out.2.1.drew
                have CB1 : Hid (∀ w, Calls Try.prog 49 #[.int .i64 ((n1 : Int) + 21)] w fun e w' => e = .returned (.int .i64 (nb1 : Int)) ∧ w = w') := fun w => by
                  have := rblocks_any (n1 + 21) (by omega) w
                  rw [Int.natCast_add, ← hnb1] at this
                  exact this
                have HWS := Lib.hid hws
                clear hst hl1 hb1 hfl hfr hno1 hat2 hnb1 hdw hws hrmj hopj hsj hp hcw c5
                go_upto_region 18 with fail
                go_region_held3 (fun w' => w'.cell? ⟨lb, 0, none⟩ = some (.pointer (some ⟨q, 0, none⟩)) ∧ w'.cell? ⟨lb, 1, none⟩ = some (.int .i64 (l.half : Int)) ∧ w'.cell? ⟨lb, 2, none⟩ = some (.int .i64 (l.gen : Int)) ∧ w'.cell? ⟨lb, 4, none⟩ = some (.slice Arv l.recs.length crv) ∧ w'.cell? ⟨b, o + j, none⟩ = some (.slice A1 n1 c1'))
                  (first | exact ⟨c0, c1, c2, c4, g1⟩ | exact x0 | exact z0)
                  (first
                    | (go_at_call 52; ((with_reducible refine (CSEAL.out _ HPC.out).mono ?_); rintro e w2 ⟨hg2, A2, c2', rfl, hb2, hn2⟩; have HG2 := Lib.hid hg2; have HB2 := Lib.hid hb2; have HN2 := Lib.hid hn2; have hc2 := HPC.out.trans hg2.chg; have hx2 := HCELL.out w2 hc2; have x0 := And.intro hx2.1 (And.intro hx2.2.1 (And.intro hx2.2.2.1 (And.intro hx2.2.2.2.1 (HST.out w2 (HDF.out w2 hc2)).1))); clear hg2 hb2 hn2 hx2 hc2))
                    | (go_at_call 51; ((with_reducible refine (CPUT.out _ _ _ HG2.out HB2.out HN2.out).mono ?_); rintro e w3 hp3; obtain ⟨he3, hc3, hk3⟩ := hp3; subst he3; have HP3 : Hid (RPost FD q w (.int .i64 e1) s1 (.returned (.int .i64 e1)) w3) := ⟨rfl, hc3, hk3⟩; have hx3 := HCELL.out w3 hc3; have z0 := And.intro hx3.1 (And.intro hx3.2.1 (And.intro hx3.2.2.1 (And.intro hx3.2.2.2.1 (HST.out w3 (HDF.out w3 hc3)).1))); clear hc3 hk3 hx3)))
                have g1 := z0.2.2.2.2
                clear CSEAL CPUT c0 c1 c2 c4 x0 z0 HG2 HB2 HN2
                by_cases he : e1 = 0
                · subst he
                  go_wp2_with (go_at_call 49; ((with_reducible refine (CB1.out _).mono ?_); rintro e w4 ⟨rfl, rfl⟩))
                  go_roundw
                  case rel => exact ⟨j + 1, at2, by go_num, (by first | rfl | trivial), by omega, HAT2, by show _ = _; rw [HWS.out], by rw [HWS.out]; exact HP3⟩
                  case measure => simp only [intOf]; omega
                · have d9 : (e1 != 0) = true := bne_iff_ne.2 he
                  have HF9 : Hid (JRPost F lb q w (.int .i64 (lAppend s l ls).1) (lAppend s l ls).2.1 (lAppend s l ls).2.2 (.returned (.int .i64 e1)) w3) := by
                    have h1 : ls = ls.take (j + 1) ++ ls.drop (j + 1) := (List.take_append_drop _ _).symm
                    have h3 : appM s (fi + l.fin) l.gen (l.recs.length + 1) ls = (e1, s1) := by rw [h1, appM_stop _ _ _ _ _ _ (by rw [HWS.out]; exact he), HWS.out]
                    have h4 : lAppend s l ls = (e1, s1, l) := by rw [HL3.out, h3, if_pos he]
                    rw [h4]
                    exact jr_disk HJ.out.fit HJ.out.ok hm hDG hGF HP3.out HRm1.out
                  clear HRm1 HWS
                  go_wp2
                  go_ret
                  exact HF9.out
              · obtain rfl : n = j := by omega
                clear hlt
                have htk : ls.take n = ls := List.take_of_length_le (by have := HLN.out; omega)
                obtain ⟨sN, hsN⟩ : ∃ sN, sN = (appM s (fi + l.fin) l.gen (l.recs.length + 1) ls).2 := ⟨_, rfl⟩
                have hat : at1 = l.fin + sp := by rw [HAT.out, htk, ← HSP1.out]
                have HL4 : Hid (lAppend s l ls = (0, sN, { l with recs := l.recs ++ ls, fin := at1 })) := by
                  show _ = _
                  have hz := HZ0.out
                  rw [htk] at hz
                  rw [HL3.out, if_neg (fun h => h hz), hsN, hat]
                rw [htk, ← hsN] at HP
                have hrN : roomD sN = room := by rw [hsN, appM_room]; exact hrm
                have HLOK : Hid (LOK sN { l with recs := l.recs ++ ls, fin := at1 }) := by
                  have hok := HJ.out.ok
                  refine ⟨hok.half, ?_, ?_, hok.gen, hok.snapS, fun r hr => ?_⟩
                  · show at1 ≤ roomD sN
                    rw [hrN, hat]; exact HFULL.out
                  · show (l.recs ++ ls).length ≤ at1
                    have h1 := spanL_ge ls
                    have h2 := hok.few
                    have h3 := HSP1.out
                    rw [List.length_append]; omega
                  · rcases List.mem_append.1 hr with h1 | h1
                    · exact hok.recS r h1
                    · obtain ⟨i, hi, rfl⟩ := List.getElem_of_mem h1
                      have := HS.out i (by have := HLN.out; omega)
                      rw [List.getD_eq_getElem?_getD, List.getElem?_eq_getElem hi] at this
                      simpa using this
                have hat1b : at1 ≤ 32768 := by have := HFULL.out; omega
                have HM5 : Hid (RLM wr G lb q l) := hm.chg HP.out.2.1 (fun k hg hd => (hDG k hd).2 hg)
                have HEND : Hid (∀ G' wz, RLM wz G' lb q { l with recs := l.recs ++ ls } → (∀ k, G' k → G k ∨ wr.heap.size ≤ k) → Chg G wr wz → JRPost F lb q w (.int .i64 (lAppend s l ls).1) (lAppend s l ls).2.1 (lAppend s l ls).2.2 (.returned (.int .i64 0)) (wz.setCell ⟨lb, 5, none⟩ (.int .i64 (at1 : Int)))) := fun G' wz h1 h2 h3 => by
                  rw [HL4.out]
                  exact rappend_end HJ.out.fit hm hDG hGF HP.out.2.1 HP.out.2.2 h1 h2 h3 HLOK.out
                have HCW : Hid (∀ wz, Chg G wr wz → Chg (fun k => F k ∨ w.heap.size ≤ k) w wz) := fun wz g => (HDF.out wr HP.out.2.1).then g (fun i _ hi => Or.inl (hGF i hi))
                obtain ⟨w5, hw5⟩ : ∃ w5, w5 = wr := ⟨_, rfl⟩
                rw [← hw5] at HEND HCW HM5
                have HC0 : Hid (Chg G w5 wr) := by rw [hw5]; exact Chg.refl _ _
                have HM0 : Hid (RLM wr G lb q l) := by rw [← hw5]; exact HM5.out
                have HGLT : Hid (∀ k, G k → k < w5.heap.size) := HM5.out.fit
                clear HL4 HP HZ0 HAT hsN hrN hat htk HLOK HL3 HDK hw5 HM5
                go_wp2
                go_loopw [10] (fun v10 wz => ∃ j : Nat, v10 = .int .i64 j ∧ j ≤ n ∧ Hid (∃ G', RLM wz G' lb q { l with recs := l.recs ++ ls.take j } ∧ (∀ k, G k → G' k) ∧ ∀ k, G' k → G k ∨ w5.heap.size ≤ k) ∧ Hid (Chg G w5 wz)) (fun v10 _ => n - (intOf v10).toNat)
                case atStart => exact ⟨0, rfl, Nat.zero_le _, ⟨G, by rw [List.take_zero, List.append_nil]; exact HM0.out, fun k h => h, fun k h => Or.inl h⟩, HC0⟩
                case round =>
                  obtain ⟨j, rfl, hj, HM, HC⟩ := hrel
                  clear HM0 HC0
                  obtain ⟨G', hm', hGG, hG'⟩ := HM.out
                  obtain ⟨sv', rv', hr', ht', hsv', hsg', hrv'⟩ := hm'.ex
                  by_cases hlt : j < n
                  · have a3 : (j : Int) < (n : Int) := by omega
                    have a4 : (0 : Int) ≤ (j : Int) := by omega
                    have hjl : j < ls.length := by rw [HLN.out]; exact hlt
                    obtain ⟨b, o, A1, n1, c1', rfl, hst, hA1⟩ := HROW.out j hlt
                    obtain ⟨g1, hb1⟩ := hst wr (HCW.out wr HC.out)
                    obtain ⟨p, hp⟩ : ∃ p, p = ls.getD j [] := ⟨_, rfl⟩
                    rw [← hp] at hb1
                    have hl1 : p.length = n1 := hb1.1
                    have HN1 : Hid (n1 ≤ 65536) := by have := HS.out j hlt; rw [← hp] at this; show _ ≤ _; omega
                    obtain ⟨xs, hx1, hxv, hx2⟩ := hrv'
                    obtain ⟨m, hmm⟩ : ∃ m, m = l.recs.length + j := ⟨_, rfl⟩
                    have hlnm : (l.recs ++ ls.take j).length = m := by rw [List.length_append, List.length_take, hmm]; omega
                    have hmb : m ≤ 1100000 := by omega
                    have hx1' : wr.ownsRow 0 37 1 rv' m xs := by rw [← hlnm]; exact hx1
                    obtain ⟨Ar, cr, rfl⟩ := own_form hx1'
                    obtain ⟨_, _, _, _, e4, _, _⟩ := range7 hr'
                    have hlbz : lb < wr.heap.size := hm'.fit lb hm'.here
                    have hfr4 := (ht' 4 (by omega)).2
                    simp only [Nat.zero_add] at hfr4
                    obtain ⟨wz, hwz⟩ : ∃ wz, wz = wr := ⟨_, rfl⟩
                    have HA1 := Lib.hid hA1
                    have HBZ : Hid (Bys wr.drew A1 n1 p) := (hst wr.drew ((HCW.out wr HC.out).drew)).2 |> fun h => by rw [hp]; exact h
                    obtain ⟨iS, hiS, hzS, hsS, hbS⟩ := info_parts infoSl
                    have HW6 : Hid (∀ (w6 : World) (A2 : Option Addr) (c2 : Nat), Below wr.heap.size wr.drew w6 → w6.cell? ⟨lb, 4, none⟩ = some (.slice Ar m cr) ∧ (∀ o, (w6.alloc o).cell? ⟨lb, 4, none⟩ = some (.slice Ar m cr)) ∧ (w6.alloc (.cells #[.slice A2 n1 c2] 37)).ownsRow 0 37 1 (.slice Ar m cr) m xs ∧
                        (∀ j u, ([.slice A2 n1 c2] : List Value)[j]? = some u → (w6.alloc (.cells #[.slice A2 n1 c2] 37)).cell? ((⟨w6.heap.size, 0, none⟩ : Addr).add j) = some u) ∧
                        ∀ w8, (w6.alloc (.cells #[.slice A2 n1 c2] 37)).grownBy w8 (Value.slice Ar m cr).ownBlock → w8.cell? ⟨lb, 4, none⟩ = some (.slice Ar m cr) ∧ w8.frozen? ⟨lb, 4, none⟩ = false) := by
                      intro w6 A2 c2 g
                      have gg : Grew wr w6 := grew_trans (grew_drew (grew_refl wr)) g
                      have hbk := gg.block lb hlbz
                      have hl6 : lb < w6.heap.size := Nat.lt_of_lt_of_le hlbz gg.size
                      have h3 := (World.cell?_of_block (w := wr) (a := ⟨lb, 4, none⟩) hbk).trans e4
                      have h4 := (World.frozen?_of_block (w := wr) (a := ⟨lb, 4, none⟩) hbk).trans hfr4
                      refine ⟨h3, fun o => (World.cell?_alloc_lt _ _ _ hl6).trans h3, ownR_grew hx1' (grew_trans gg (grew_alloc _ _ _)), fun j u hu => ?_, fun w8 hg => ?_⟩
                      · match j, hu with
                        | 0, hu =>
                          simp at hu
                          subst hu
                          rw [addr_add]; simp
                      · have hb6 : w8.heap[lb]? = w6.heap[lb]? := (hg.block lb (by simp; omega) (fun e => (hxv lb e.symm).2 rfl)).trans (Below.heap_alloc _ _ _ hl6)
                        exact ⟨(World.cell?_of_block (w := w6) (a := ⟨lb, 4, none⟩) hb6).trans h3, (World.frozen?_of_block (w := w6) (a := ⟨lb, 4, none⟩) hb6).trans h4⟩
                    have hmx : m + 1 ≤ maxLen := by unfold maxLen; omega
                    have hby : (m + 1) * 24 ≤ 140737488355328 := by omega
                    have HF8 : Hid (∀ (w6 w8 : World) (A2 : Option Addr) (c2 g cap : Nat), Below wr.heap.size wr.drew w6 → w6.ownsRow wr.heap.size 5 1 (.slice A2 n1 c2) n1 (p.map byv) → (w6.alloc (.cells #[.slice A2 n1 c2] 37)).grownBy w8 (Value.slice Ar m cr).ownBlock → w8.ownsRow 0 37 1 (.slice (some ⟨g, 0, none⟩) (m + 1) cap) (m + 1) (xs ++ [.slice A2 n1 c2]) → ((Value.slice Ar m cr).ownBlock = some g ∨ g = (w6.alloc (.cells #[.slice A2 n1 c2] 37)).heap.size) → g < w8.heap.size →
                        Hid (∃ G', RLM (w8.setCell ⟨lb, 4, none⟩ (.slice (some ⟨g, 0, none⟩) (m + 1) cap)) G' lb q { l with recs := l.recs ++ ls.take (j + 1) } ∧ (∀ k, G k → G' k) ∧ ∀ k, G' k → G k ∨ w5.heap.size ≤ k) ∧ Hid (Chg G w5 (w8.setCell ⟨lb, 4, none⟩ (.slice (some ⟨g, 0, none⟩) (m + 1) cap)))) := by
                      intro w6 w8 A2 c2 g cap hb6 ho6 hg8 ho8 hat8 hlt8
                      have gg : Grew wr w6 := grew_trans (grew_drew (grew_refl wr)) hb6
                      obtain ⟨h1, h2⟩ := RLM.push (l := { l with recs := l.recs ++ ls.take j }) (G := G') (lb := lb) (q := q) (p := p) (x := .slice A2 n1 c2) (rv' := .slice (some ⟨g, 0, none⟩) (m + 1) cap) hm'.fit hm'.here hr' ht' hsv' hsg' hx1 hxv hx2 gg (by show World.ownsRow _ _ _ _ _ _ _; rw [hl1]; exact ho6) (by show World.ownsRow _ _ _ _ _ ((l.recs ++ ls.take j).length + 1) _; rw [hlnm]; exact ho8) hg8 (fun k hk => by
                        have e1 : g = k := by simpa [Value.ownBlock] using hk
                        subst e1
                        rcases hat8 with h1 | h1
                        · exact Or.inl h1
                        · refine Or.inr ⟨?_, hlt8⟩
                          rw [h1]; simp)
                      have hsz := HC.out.size
                      refine ⟨⟨fun k => G' k ∨ (wr.heap.size ≤ k ∧ k < w8.heap.size), ?_, fun k hk => Or.inl (hGG k hk), fun k hk => ?_⟩, ?_⟩
                      · have e2 : l.recs ++ ls.take (j + 1) = l.recs ++ ls.take j ++ [p] := by rw [take_snocR ls j hjl, ← hp, List.append_assoc]
                        rw [e2]
                        exact h1
                      · rcases hk with hk | hk
                        · exact hG' k hk
                        · exact Or.inr (by omega)
                      · exact HC.out.then h2 (fun i hi hk => (hG' i hk).resolve_right (by omega))
                    rw [← hwz] at HW6 HF8 HBZ e4 g1
                    have HWZ := Lib.hid hwz
                    clear hst hb1 hl1 hx1 hx2 hr' ht' hsv' hsg' hm' hGG hG' HM hp hmm hlnm hfr4 hx1' hxv hlbz
                    subst hwz
                    go_upto_region 26 with fail
                    -- REGION26
                    refine wp_region_held_drew (S := fun _ => True) (by kernel_rfl) trivial (fun hHeld => ?_)
                    (refine wpAnyH_take (i := 0) (oi := { dst := some 113, op := Op.move (Operand.tmp 0), type := 32, pos := "ref.go:281", after := #[], guard := none }) (v := ?_) rfl (by kernel_rfl) (by kernel_rfl) (by kernel_rfl) (fun _ _ _ h => h) (Or.inl ⟨by rfl, ?_⟩) (by assumption) ?_; rotate_left; · (intro w hSw; (try dsimp only at hSw); go_simp; (first | done | with_reducible rfl)))
                    try simp only [Act.put, List.setIfInBounds_toArray, List.set_cons_zero, List.set_cons_succ]
                    (refine wpAnyH_take (i := 1) (oi := { dst := some 114, op := Op.move (Operand.tmp 0), type := 32, pos := "ref.go:281", after := #[], guard := none }) (v := ?_) rfl (by kernel_rfl) (by kernel_rfl) (by kernel_rfl) (fun _ _ _ h => h) (Or.inl ⟨by rfl, ?_⟩) (by assumption) ?_; rotate_left; · (intro w hSw; (try dsimp only at hSw); go_simp; (first | done | with_reducible rfl)))
                    try simp only [Act.put, List.setIfInBounds_toArray, List.set_cons_zero, List.set_cons_succ]
                    (refine wpAnyH_take (i := 2) (oi := { dst := some 115, op := Op.nilCheck (Operand.tmp 114), type := 0, pos := "ref.go:281", after := #[{ on := 1, ground := Ground.data }], guard := none }) (v := ?_) rfl (by kernel_rfl) (by kernel_rfl) (by kernel_rfl) (fun _ _ _ h => h) (Or.inl ⟨by rfl, ?_⟩) (by assumption) ?_; rotate_left; · (intro w hSw; (try dsimp only at hSw); go_simp; (first | done | with_reducible rfl)))
                    try simp only [Act.put, List.setIfInBounds_toArray, List.set_cons_zero, List.set_cons_succ]
                    (refine wpAnyH_take (i := 3) (oi := { dst := some 116, op := Op.fieldAddr 72 (Operand.tmp 115) 4, type := 0, pos := "ref.go:281", after := #[{ on := 2, ground := Ground.data }], guard := none }) (v := ?_) rfl (by kernel_rfl) (by kernel_rfl) (by kernel_rfl) (fun _ _ _ h => h) (Or.inl ⟨by rfl, ?_⟩) (by assumption) ?_; rotate_left; · (intro w hSw; (try dsimp only at hSw); go_simp; (first | done | with_reducible rfl)))
                    try simp only [Act.put, List.setIfInBounds_toArray, List.set_cons_zero, List.set_cons_succ]
                    (refine wpAnyH_take (i := 5) (oi := { dst := some 118, op := Op.move (Operand.tmp 11), type := 37, pos := "ref.go:281", after := #[], guard := none }) (v := ?_) rfl (by kernel_rfl) (by kernel_rfl) (by kernel_rfl) (fun _ _ _ h => h) (Or.inl ⟨by rfl, ?_⟩) (by assumption) ?_; rotate_left; · (intro w hSw; (try dsimp only at hSw); go_simp; (first | done | with_reducible rfl)))
                    try simp only [Act.put, List.setIfInBounds_toArray, List.set_cons_zero, List.set_cons_succ]
                    (refine wpAnyH_take (i := 6) (oi := { dst := some 119, op := Op.move (Operand.tmp 1), type := 38, pos := "ref.go:281", after := #[], guard := none }) (v := ?_) rfl (by kernel_rfl) (by kernel_rfl) (by kernel_rfl) (fun _ _ _ h => h) (Or.inl ⟨by rfl, ?_⟩) (by assumption) ?_; rotate_left; · (intro w hSw; (try dsimp only at hSw); go_simp; (first | done | with_reducible rfl)))
                    try simp only [Act.put, List.setIfInBounds_toArray, List.set_cons_zero, List.set_cons_succ]
                    (refine wpAnyH_take (i := 7) (oi := { dst := some 120, op := Op.move (Operand.tmp 10), type := 3, pos := "ref.go:281", after := #[], guard := none }) (v := ?_) rfl (by kernel_rfl) (by kernel_rfl) (by kernel_rfl) (fun _ _ _ h => h) (Or.inl ⟨by rfl, ?_⟩) (by assumption) ?_; rotate_left; · (intro w hSw; (try dsimp only at hSw); go_simp; (first | done | with_reducible rfl)))
                    try simp only [Act.put, List.setIfInBounds_toArray, List.set_cons_zero, List.set_cons_succ]
                    (refine wpAnyH_take (i := 8) (oi := { dst := some 121, op := Op.indexAddr 38 (Operand.tmp 119) (Operand.tmp 120), type := 0, pos := "ref.go:281", after := #[{ on := 6, ground := Ground.data }, { on := 7, ground := Ground.data }], guard := none }) (v := ?_) rfl (by kernel_rfl) (by kernel_rfl) (by kernel_rfl) (fun _ _ _ h => h) (Or.inl ⟨by rfl, ?_⟩) (by assumption) ?_; rotate_left; · (intro w hSw; (try dsimp only at hSw); go_simp; (first | done | with_reducible rfl)))
                    try simp only [Act.put, List.setIfInBounds_toArray, List.set_cons_zero, List.set_cons_succ]
                    refine wpAnyH_ready (rs := [4, 9]) (by kernel_rfl) (by simp) ?_
                    refine (AllReadyH.cons (o := { dst := some 117, op := Op.load 38 (Operand.tmp 116), type := 38, pos := "ref.go:281", after := #[{ on := 3, ground := Ground.data }], guard := none }) rfl (fun K hK => ?_) (AllReadyH.cons (o := { dst := some 122, op := Op.load 37 (Operand.tmp 121), type := 37, pos := "ref.go:281", after := #[{ on := 8, ground := Ground.data }], guard := none }) rfl (fun K hK => ?_) AllReadyH.nil))
                    · go_simp
                      refine hK.out _ _ ?_ (fun hHeld => ?_)
                      · first
                        | exact trivial
                      clear hK K
                      try simp only [Act.put, List.setIfInBounds_toArray, List.set_cons_zero, List.set_cons_succ]
                      refine wpAnyH_ready (rs := [9]) (by kernel_rfl) (by simp) ?_
                      refine (AllReadyH.cons (o := { dst := some 122, op := Op.load 37 (Operand.tmp 121), type := 37, pos := "ref.go:281", after := #[{ on := 8, ground := Ground.data }], guard := none }) rfl (fun K hK => ?_) AllReadyH.nil)
                      go_simp
                      refine hK.out _ _ ?_ (fun hHeld => ?_)
                      · first
                        | exact trivial
                      clear hK K
                      try simp only [Act.put, List.setIfInBounds_toArray, List.set_cons_zero, List.set_cons_succ]
                      refine wpAnyH_ready (rs := [10]) (by kernel_rfl) (by simp) ?_
                      refine (AllReadyH.cons (o := { dst := some 123, op := Op.call { callee := Go.Callee.builtin Go.Builtin.append, args := #[Operand.tmp 118, Operand.tmp 122], argTypes := #[37, 37] }, type := 37, pos := "ref.go:281", after := #[{ on := 5, ground := Ground.data }, { on := 9, ground := Ground.data }], guard := none }) rfl (fun K hK => ?_) AllReadyH.nil)
                      (refine step_append_some rfl _ _ rfl wz.heap.size (.slice none 0 0) 0 [] rfl (World.ownsRow_nil _ _ _ _) A1 n1 c1' p rfl HA1.out HBZ.out (by have := HN1.out; omega) (Nat.le_refl _) ?_; intro v6 w6 ho6 hb6; rw [Nat.zero_add, List.nil_append] at ho6; obtain ⟨A6, c6, rfl⟩ := own_form ho6; obtain ⟨k4, k4a, hxo, hnews, hw8⟩ := HW6.out w6 A6 c6 hb6; have hone1 : ∀ u ∈ ([.slice A6 n1 c6] : List Value), u.oneCell' = true := (fun u hu => by rw [List.mem_singleton] at hu; rw [hu]; rfl); have hone2 : 0 < 1 := Nat.one_pos)
                      refine hK.out _ _ ?_ (fun hHeld => ?_)
                      · first
                        | exact trivial
                      clear hK K
                      try simp only [Act.put, List.setIfInBounds_toArray, List.set_cons_zero, List.set_cons_succ]
                      refine wpAnyH_ready (rs := [11]) (by kernel_rfl) (by simp) ?_
                      refine (AllReadyH.cons (o := { dst := some 124, op := Op.buildSlice 38 1 #[(0, Operand.tmp 123)], type := 38, pos := "ref.go:281", after := #[{ on := 10, ground := Ground.data }], guard := none }) rfl (fun K hK => ?_) AllReadyH.nil)
                      go_simp
                      refine hK.out _ _ ?_ (fun hHeld => ?_)
                      · first
                        | exact trivial
                      clear hK K
                      try simp only [Act.put, List.setIfInBounds_toArray, List.set_cons_zero, List.set_cons_succ]
                      refine wpAnyH_ready (rs := [12]) (by kernel_rfl) (by simp) ?_
                      refine (AllReadyH.cons (o := { dst := some 125, op := Op.call { callee := Go.Callee.builtin Go.Builtin.append, args := #[Operand.tmp 117, Operand.tmp 124], argTypes := #[38, 38] }, type := 38, pos := "ref.go:281", after := #[{ on := 4, ground := Ground.data }, { on := 11, ground := Ground.data }, { on := 10, ground := Ground.chain }], guard := none }) rfl (fun K hK => ?_) AllReadyH.nil)
                      (refine step_append_lies _ (by rfl) _ _ 38 (by rfl) 0 37 iS (.slice none 0 0) 1 24 Try.underlying38 hiS hzS hsS hbS rfl (by decide) (.slice Ar m cr) m xs (by rfl) hxo ⟨w6.heap.size, 0, none⟩ 1 1 [.slice A6 n1 c6] (by rfl) rfl hnews hone1 hone2 hmx hby (Nat.zero_le _) _ rfl ?_; intro g cap w8 ho8 hg8 hat8 hlt8; obtain ⟨r38, t38⟩ := hw8 w8 hg8; have HE8 := Lib.hid (HF8.out w6 w8 A6 c6 g cap hb6 ho6 hg8 ho8 hat8 hlt8))
                      refine hK.out _ _ ?_ (fun hHeld => ?_)
                      · first
                        | exact trivial
                      clear hK K
                      try simp only [Act.put, List.setIfInBounds_toArray, List.set_cons_zero, List.set_cons_succ]
                      (refine wpAnyH_take (i := 13) (oi := { dst := some 126, op := Op.nilCheck (Operand.tmp 113), type := 0, pos := "ref.go:281", after := #[{ on := 0, ground := Ground.data }, { on := 0, ground := Ground.phase }, { on := 1, ground := Ground.phase }, { on := 2, ground := Ground.phase }, { on := 3, ground := Ground.phase }, { on := 4, ground := Ground.phase }, { on := 5, ground := Ground.phase }, { on := 6, ground := Ground.phase }, { on := 7, ground := Ground.phase }, { on := 8, ground := Ground.phase }, { on := 9, ground := Ground.phase }, { on := 10, ground := Ground.phase }, { on := 11, ground := Ground.phase }, { on := 12, ground := Ground.phase }], guard := none }) (v := ?_) rfl (by kernel_rfl) (by kernel_rfl) (by kernel_rfl) (fun _ _ _ h => h) (Or.inl ⟨by rfl, ?_⟩) (by assumption) ?_; rotate_left; · (intro w hSw; (try dsimp only at hSw); go_simp; (first | done | with_reducible rfl)))
                      try simp only [Act.put, List.setIfInBounds_toArray, List.set_cons_zero, List.set_cons_succ]
                      (refine wpAnyH_take (i := 14) (oi := { dst := some 127, op := Op.fieldAddr 72 (Operand.tmp 126) 4, type := 0, pos := "ref.go:281", after := #[{ on := 13, ground := Ground.data }, { on := 0, ground := Ground.phase }, { on := 1, ground := Ground.phase }, { on := 2, ground := Ground.phase }, { on := 3, ground := Ground.phase }, { on := 4, ground := Ground.phase }, { on := 5, ground := Ground.phase }, { on := 6, ground := Ground.phase }, { on := 7, ground := Ground.phase }, { on := 8, ground := Ground.phase }, { on := 9, ground := Ground.phase }, { on := 10, ground := Ground.phase }, { on := 11, ground := Ground.phase }, { on := 12, ground := Ground.phase }], guard := none }) (v := ?_) rfl (by kernel_rfl) (by kernel_rfl) (by kernel_rfl) (fun _ _ _ h => h) (Or.inl ⟨by rfl, ?_⟩) (by assumption) ?_; rotate_left; · (intro w hSw; (try dsimp only at hSw); go_simp; (first | done | with_reducible rfl)))
                      try simp only [Act.put, List.setIfInBounds_toArray, List.set_cons_zero, List.set_cons_succ]
                      refine wpAnyH_ready (rs := [15]) (by kernel_rfl) (by simp) ?_
                      refine (AllReadyH.cons (o := { dst := none, op := Op.store 38 (Operand.tmp 127) (Operand.tmp 125), type := 0, pos := "ref.go:281", after := #[{ on := 14, ground := Ground.data }, { on := 12, ground := Ground.data }, { on := 12, ground := Ground.chain }, { on := 0, ground := Ground.phase }, { on := 1, ground := Ground.phase }, { on := 2, ground := Ground.phase }, { on := 3, ground := Ground.phase }, { on := 4, ground := Ground.phase }, { on := 5, ground := Ground.phase }, { on := 6, ground := Ground.phase }, { on := 7, ground := Ground.phase }, { on := 8, ground := Ground.phase }, { on := 9, ground := Ground.phase }, { on := 10, ground := Ground.phase }, { on := 11, ground := Ground.phase }, { on := 12, ground := Ground.phase }], guard := none }) rfl (fun K hK => ?_) AllReadyH.nil)
                      go_simp
                      refine hK.out _ _ ?_ (fun hHeld => ?_)
                      · first
                        | exact trivial
                      clear hK K
                      try simp only [Act.put, List.setIfInBounds_toArray, List.set_cons_zero, List.set_cons_succ]
                      refine wpAnyH_done (by kernel_rfl) ?_ _
                      clear ho6 hb6 k4 k4a hxo hnews hw8 hone1 hone2 ho8 hg8 hat8 hlt8 r38 t38
                      generalize w8.setCell ⟨lb, 4, none⟩ (.slice (some ⟨g, 0, none⟩) (m + 1) cap) = wE at *
                      go_wp2
                      go_roundw
                      case rel => exact ⟨j + 1, by go_num, by omega, HE8.out.1, HE8.out.2⟩
                      case measure => simp only [intOf]; omega
                    · go_simp
                      refine hK.out _ _ ?_ (fun hHeld => ?_)
                      · first
                        | exact trivial
                      clear hK K
                      try simp only [Act.put, List.setIfInBounds_toArray, List.set_cons_zero, List.set_cons_succ]
                      refine wpAnyH_ready (rs := [4, 10]) (by kernel_rfl) (by simp) ?_
                      refine (AllReadyH.cons (o := { dst := some 117, op := Op.load 38 (Operand.tmp 116), type := 38, pos := "ref.go:281", after := #[{ on := 3, ground := Ground.data }], guard := none }) rfl (fun K hK => ?_) (AllReadyH.cons (o := { dst := some 123, op := Op.call { callee := Go.Callee.builtin Go.Builtin.append, args := #[Operand.tmp 118, Operand.tmp 122], argTypes := #[37, 37] }, type := 37, pos := "ref.go:281", after := #[{ on := 5, ground := Ground.data }, { on := 9, ground := Ground.data }], guard := none }) rfl (fun K hK => ?_) AllReadyH.nil))
                      · go_simp
                        refine hK.out _ _ ?_ (fun hHeld => ?_)
                        · first
                          | exact trivial
                        clear hK K
                        try simp only [Act.put, List.setIfInBounds_toArray, List.set_cons_zero, List.set_cons_succ]
                        refine wpAnyH_ready (rs := [10]) (by kernel_rfl) (by simp) ?_
                        refine (AllReadyH.cons (o := { dst := some 123, op := Op.call { callee := Go.Callee.builtin Go.Builtin.append, args := #[Operand.tmp 118, Operand.tmp 122], argTypes := #[37, 37] }, type := 37, pos := "ref.go:281", after := #[{ on := 5, ground := Ground.data }, { on := 9, ground := Ground.data }], guard := none }) rfl (fun K hK => ?_) AllReadyH.nil)
                        (refine step_append_some rfl _ _ rfl wz.heap.size (.slice none 0 0) 0 [] rfl (World.ownsRow_nil _ _ _ _) A1 n1 c1' p rfl HA1.out HBZ.out (by have := HN1.out; omega) (Nat.le_refl _) ?_; intro v6 w6 ho6 hb6; rw [Nat.zero_add, List.nil_append] at ho6; obtain ⟨A6, c6, rfl⟩ := own_form ho6; obtain ⟨k4, k4a, hxo, hnews, hw8⟩ := HW6.out w6 A6 c6 hb6; have hone1 : ∀ u ∈ ([.slice A6 n1 c6] : List Value), u.oneCell' = true := (fun u hu => by rw [List.mem_singleton] at hu; rw [hu]; rfl); have hone2 : 0 < 1 := Nat.one_pos)
                        refine hK.out _ _ ?_ (fun hHeld => ?_)
                        · first
                          | exact trivial
                        clear hK K
                        try simp only [Act.put, List.setIfInBounds_toArray, List.set_cons_zero, List.set_cons_succ]
                        refine wpAnyH_ready (rs := [11]) (by kernel_rfl) (by simp) ?_
                        refine (AllReadyH.cons (o := { dst := some 124, op := Op.buildSlice 38 1 #[(0, Operand.tmp 123)], type := 38, pos := "ref.go:281", after := #[{ on := 10, ground := Ground.data }], guard := none }) rfl (fun K hK => ?_) AllReadyH.nil)
                        go_simp
                        refine hK.out _ _ ?_ (fun hHeld => ?_)
                        · first
                          | exact trivial
                        clear hK K
                        try simp only [Act.put, List.setIfInBounds_toArray, List.set_cons_zero, List.set_cons_succ]
                        refine wpAnyH_ready (rs := [12]) (by kernel_rfl) (by simp) ?_
                        refine (AllReadyH.cons (o := { dst := some 125, op := Op.call { callee := Go.Callee.builtin Go.Builtin.append, args := #[Operand.tmp 117, Operand.tmp 124], argTypes := #[38, 38] }, type := 38, pos := "ref.go:281", after := #[{ on := 4, ground := Ground.data }, { on := 11, ground := Ground.data }, { on := 10, ground := Ground.chain }], guard := none }) rfl (fun K hK => ?_) AllReadyH.nil)
                        (refine step_append_lies _ (by rfl) _ _ 38 (by rfl) 0 37 iS (.slice none 0 0) 1 24 Try.underlying38 hiS hzS hsS hbS rfl (by decide) (.slice Ar m cr) m xs (by rfl) hxo ⟨w6.heap.size, 0, none⟩ 1 1 [.slice A6 n1 c6] (by rfl) rfl hnews hone1 hone2 hmx hby (Nat.zero_le _) _ rfl ?_; intro g cap w8 ho8 hg8 hat8 hlt8; obtain ⟨r38, t38⟩ := hw8 w8 hg8; have HE8 := Lib.hid (HF8.out w6 w8 A6 c6 g cap hb6 ho6 hg8 ho8 hat8 hlt8))
                        refine hK.out _ _ ?_ (fun hHeld => ?_)
                        · first
                          | exact trivial
                        clear hK K
                        try simp only [Act.put, List.setIfInBounds_toArray, List.set_cons_zero, List.set_cons_succ]
                        (refine wpAnyH_take (i := 13) (oi := { dst := some 126, op := Op.nilCheck (Operand.tmp 113), type := 0, pos := "ref.go:281", after := #[{ on := 0, ground := Ground.data }, { on := 0, ground := Ground.phase }, { on := 1, ground := Ground.phase }, { on := 2, ground := Ground.phase }, { on := 3, ground := Ground.phase }, { on := 4, ground := Ground.phase }, { on := 5, ground := Ground.phase }, { on := 6, ground := Ground.phase }, { on := 7, ground := Ground.phase }, { on := 8, ground := Ground.phase }, { on := 9, ground := Ground.phase }, { on := 10, ground := Ground.phase }, { on := 11, ground := Ground.phase }, { on := 12, ground := Ground.phase }], guard := none }) (v := ?_) rfl (by kernel_rfl) (by kernel_rfl) (by kernel_rfl) (fun _ _ _ h => h) (Or.inl ⟨by rfl, ?_⟩) (by assumption) ?_; rotate_left; · (intro w hSw; (try dsimp only at hSw); go_simp; (first | done | with_reducible rfl)))
                        try simp only [Act.put, List.setIfInBounds_toArray, List.set_cons_zero, List.set_cons_succ]
                        (refine wpAnyH_take (i := 14) (oi := { dst := some 127, op := Op.fieldAddr 72 (Operand.tmp 126) 4, type := 0, pos := "ref.go:281", after := #[{ on := 13, ground := Ground.data }, { on := 0, ground := Ground.phase }, { on := 1, ground := Ground.phase }, { on := 2, ground := Ground.phase }, { on := 3, ground := Ground.phase }, { on := 4, ground := Ground.phase }, { on := 5, ground := Ground.phase }, { on := 6, ground := Ground.phase }, { on := 7, ground := Ground.phase }, { on := 8, ground := Ground.phase }, { on := 9, ground := Ground.phase }, { on := 10, ground := Ground.phase }, { on := 11, ground := Ground.phase }, { on := 12, ground := Ground.phase }], guard := none }) (v := ?_) rfl (by kernel_rfl) (by kernel_rfl) (by kernel_rfl) (fun _ _ _ h => h) (Or.inl ⟨by rfl, ?_⟩) (by assumption) ?_; rotate_left; · (intro w hSw; (try dsimp only at hSw); go_simp; (first | done | with_reducible rfl)))
                        try simp only [Act.put, List.setIfInBounds_toArray, List.set_cons_zero, List.set_cons_succ]
                        refine wpAnyH_ready (rs := [15]) (by kernel_rfl) (by simp) ?_
                        refine (AllReadyH.cons (o := { dst := none, op := Op.store 38 (Operand.tmp 127) (Operand.tmp 125), type := 0, pos := "ref.go:281", after := #[{ on := 14, ground := Ground.data }, { on := 12, ground := Ground.data }, { on := 12, ground := Ground.chain }, { on := 0, ground := Ground.phase }, { on := 1, ground := Ground.phase }, { on := 2, ground := Ground.phase }, { on := 3, ground := Ground.phase }, { on := 4, ground := Ground.phase }, { on := 5, ground := Ground.phase }, { on := 6, ground := Ground.phase }, { on := 7, ground := Ground.phase }, { on := 8, ground := Ground.phase }, { on := 9, ground := Ground.phase }, { on := 10, ground := Ground.phase }, { on := 11, ground := Ground.phase }, { on := 12, ground := Ground.phase }], guard := none }) rfl (fun K hK => ?_) AllReadyH.nil)
                        go_simp
                        refine hK.out _ _ ?_ (fun hHeld => ?_)
                        · first
                          | exact trivial
                        clear hK K
                        try simp only [Act.put, List.setIfInBounds_toArray, List.set_cons_zero, List.set_cons_succ]
                        refine wpAnyH_done (by kernel_rfl) ?_ _
                        clear ho6 hb6 k4 k4a hxo hnews hw8 hone1 hone2 ho8 hg8 hat8 hlt8 r38 t38
                        generalize w8.setCell ⟨lb, 4, none⟩ (.slice (some ⟨g, 0, none⟩) (m + 1) cap) = wE at *
                        go_wp2
                        go_roundw
                        case rel => exact ⟨j + 1, by go_num, by omega, HE8.out.1, HE8.out.2⟩
                        case measure => simp only [intOf]; omega
                      · (refine step_append_some rfl _ _ rfl wz.heap.size (.slice none 0 0) 0 [] rfl (World.ownsRow_nil _ _ _ _) A1 n1 c1' p rfl HA1.out HBZ.out (by have := HN1.out; omega) (Nat.le_refl _) ?_; intro v6 w6 ho6 hb6; rw [Nat.zero_add, List.nil_append] at ho6; obtain ⟨A6, c6, rfl⟩ := own_form ho6; obtain ⟨k4, k4a, hxo, hnews, hw8⟩ := HW6.out w6 A6 c6 hb6; have hone1 : ∀ u ∈ ([.slice A6 n1 c6] : List Value), u.oneCell' = true := (fun u hu => by rw [List.mem_singleton] at hu; rw [hu]; rfl); have hone2 : 0 < 1 := Nat.one_pos)
                        refine hK.out _ _ ?_ (fun hHeld => ?_)
                        · first
                          | exact trivial
                        clear hK K
                        try simp only [Act.put, List.setIfInBounds_toArray, List.set_cons_zero, List.set_cons_succ]
                        refine wpAnyH_ready (rs := [4, 11]) (by kernel_rfl) (by simp) ?_
                        refine (AllReadyH.cons (o := { dst := some 117, op := Op.load 38 (Operand.tmp 116), type := 38, pos := "ref.go:281", after := #[{ on := 3, ground := Ground.data }], guard := none }) rfl (fun K hK => ?_) (AllReadyH.cons (o := { dst := some 124, op := Op.buildSlice 38 1 #[(0, Operand.tmp 123)], type := 38, pos := "ref.go:281", after := #[{ on := 10, ground := Ground.data }], guard := none }) rfl (fun K hK => ?_) AllReadyH.nil))
                        · go_simp
                          refine hK.out _ _ ?_ (fun hHeld => ?_)
                          · first
                            | exact trivial
                          clear hK K
                          try simp only [Act.put, List.setIfInBounds_toArray, List.set_cons_zero, List.set_cons_succ]
                          refine wpAnyH_ready (rs := [11]) (by kernel_rfl) (by simp) ?_
                          refine (AllReadyH.cons (o := { dst := some 124, op := Op.buildSlice 38 1 #[(0, Operand.tmp 123)], type := 38, pos := "ref.go:281", after := #[{ on := 10, ground := Ground.data }], guard := none }) rfl (fun K hK => ?_) AllReadyH.nil)
                          go_simp
                          refine hK.out _ _ ?_ (fun hHeld => ?_)
                          · first
                            | exact trivial
                          clear hK K
                          try simp only [Act.put, List.setIfInBounds_toArray, List.set_cons_zero, List.set_cons_succ]
                          refine wpAnyH_ready (rs := [12]) (by kernel_rfl) (by simp) ?_
                          refine (AllReadyH.cons (o := { dst := some 125, op := Op.call { callee := Go.Callee.builtin Go.Builtin.append, args := #[Operand.tmp 117, Operand.tmp 124], argTypes := #[38, 38] }, type := 38, pos := "ref.go:281", after := #[{ on := 4, ground := Ground.data }, { on := 11, ground := Ground.data }, { on := 10, ground := Ground.chain }], guard := none }) rfl (fun K hK => ?_) AllReadyH.nil)
                          (refine step_append_lies _ (by rfl) _ _ 38 (by rfl) 0 37 iS (.slice none 0 0) 1 24 Try.underlying38 hiS hzS hsS hbS rfl (by decide) (.slice Ar m cr) m xs (by rfl) hxo ⟨w6.heap.size, 0, none⟩ 1 1 [.slice A6 n1 c6] (by rfl) rfl hnews hone1 hone2 hmx hby (Nat.zero_le _) _ rfl ?_; intro g cap w8 ho8 hg8 hat8 hlt8; obtain ⟨r38, t38⟩ := hw8 w8 hg8; have HE8 := Lib.hid (HF8.out w6 w8 A6 c6 g cap hb6 ho6 hg8 ho8 hat8 hlt8))
                          refine hK.out _ _ ?_ (fun hHeld => ?_)
                          · first
                            | exact trivial
                          clear hK K
                          try simp only [Act.put, List.setIfInBounds_toArray, List.set_cons_zero, List.set_cons_succ]
                          (refine wpAnyH_take (i := 13) (oi := { dst := some 126, op := Op.nilCheck (Operand.tmp 113), type := 0, pos := "ref.go:281", after := #[{ on := 0, ground := Ground.data }, { on := 0, ground := Ground.phase }, { on := 1, ground := Ground.phase }, { on := 2, ground := Ground.phase }, { on := 3, ground := Ground.phase }, { on := 4, ground := Ground.phase }, { on := 5, ground := Ground.phase }, { on := 6, ground := Ground.phase }, { on := 7, ground := Ground.phase }, { on := 8, ground := Ground.phase }, { on := 9, ground := Ground.phase }, { on := 10, ground := Ground.phase }, { on := 11, ground := Ground.phase }, { on := 12, ground := Ground.phase }], guard := none }) (v := ?_) rfl (by kernel_rfl) (by kernel_rfl) (by kernel_rfl) (fun _ _ _ h => h) (Or.inl ⟨by rfl, ?_⟩) (by assumption) ?_; rotate_left; · (intro w hSw; (try dsimp only at hSw); go_simp; (first | done | with_reducible rfl)))
                          try simp only [Act.put, List.setIfInBounds_toArray, List.set_cons_zero, List.set_cons_succ]
                          (refine wpAnyH_take (i := 14) (oi := { dst := some 127, op := Op.fieldAddr 72 (Operand.tmp 126) 4, type := 0, pos := "ref.go:281", after := #[{ on := 13, ground := Ground.data }, { on := 0, ground := Ground.phase }, { on := 1, ground := Ground.phase }, { on := 2, ground := Ground.phase }, { on := 3, ground := Ground.phase }, { on := 4, ground := Ground.phase }, { on := 5, ground := Ground.phase }, { on := 6, ground := Ground.phase }, { on := 7, ground := Ground.phase }, { on := 8, ground := Ground.phase }, { on := 9, ground := Ground.phase }, { on := 10, ground := Ground.phase }, { on := 11, ground := Ground.phase }, { on := 12, ground := Ground.phase }], guard := none }) (v := ?_) rfl (by kernel_rfl) (by kernel_rfl) (by kernel_rfl) (fun _ _ _ h => h) (Or.inl ⟨by rfl, ?_⟩) (by assumption) ?_; rotate_left; · (intro w hSw; (try dsimp only at hSw); go_simp; (first | done | with_reducible rfl)))
                          try simp only [Act.put, List.setIfInBounds_toArray, List.set_cons_zero, List.set_cons_succ]
                          refine wpAnyH_ready (rs := [15]) (by kernel_rfl) (by simp) ?_
                          refine (AllReadyH.cons (o := { dst := none, op := Op.store 38 (Operand.tmp 127) (Operand.tmp 125), type := 0, pos := "ref.go:281", after := #[{ on := 14, ground := Ground.data }, { on := 12, ground := Ground.data }, { on := 12, ground := Ground.chain }, { on := 0, ground := Ground.phase }, { on := 1, ground := Ground.phase }, { on := 2, ground := Ground.phase }, { on := 3, ground := Ground.phase }, { on := 4, ground := Ground.phase }, { on := 5, ground := Ground.phase }, { on := 6, ground := Ground.phase }, { on := 7, ground := Ground.phase }, { on := 8, ground := Ground.phase }, { on := 9, ground := Ground.phase }, { on := 10, ground := Ground.phase }, { on := 11, ground := Ground.phase }, { on := 12, ground := Ground.phase }], guard := none }) rfl (fun K hK => ?_) AllReadyH.nil)
                          go_simp
                          refine hK.out _ _ ?_ (fun hHeld => ?_)
                          · first
                            | exact trivial
                          clear hK K
                          try simp only [Act.put, List.setIfInBounds_toArray, List.set_cons_zero, List.set_cons_succ]
                          refine wpAnyH_done (by kernel_rfl) ?_ _
                          clear ho6 hb6 k4 k4a hxo hnews hw8 hone1 hone2 ho8 hg8 hat8 hlt8 r38 t38
                          generalize w8.setCell ⟨lb, 4, none⟩ (.slice (some ⟨g, 0, none⟩) (m + 1) cap) = wE at *
                          go_wp2
                          go_roundw
                          case rel => exact ⟨j + 1, by go_num, by omega, HE8.out.1, HE8.out.2⟩
                          case measure => simp only [intOf]; omega
                        · go_simp
                          refine hK.out _ _ ?_ (fun hHeld => ?_)
                          · first
                            | exact trivial
                          clear hK K
                          try simp only [Act.put, List.setIfInBounds_toArray, List.set_cons_zero, List.set_cons_succ]
                          refine wpAnyH_ready (rs := [4]) (by kernel_rfl) (by simp) ?_
                          refine (AllReadyH.cons (o := { dst := some 117, op := Op.load 38 (Operand.tmp 116), type := 38, pos := "ref.go:281", after := #[{ on := 3, ground := Ground.data }], guard := none }) rfl (fun K hK => ?_) AllReadyH.nil)
                          go_simp
                          refine hK.out _ _ ?_ (fun hHeld => ?_)
                          · first
                            | exact trivial
                          clear hK K
                          try simp only [Act.put, List.setIfInBounds_toArray, List.set_cons_zero, List.set_cons_succ]
                          refine wpAnyH_ready (rs := [12]) (by kernel_rfl) (by simp) ?_
                          refine (AllReadyH.cons (o := { dst := some 125, op := Op.call { callee := Go.Callee.builtin Go.Builtin.append, args := #[Operand.tmp 117, Operand.tmp 124], argTypes := #[38, 38] }, type := 38, pos := "ref.go:281", after := #[{ on := 4, ground := Ground.data }, { on := 11, ground := Ground.data }, { on := 10, ground := Ground.chain }], guard := none }) rfl (fun K hK => ?_) AllReadyH.nil)
                          (refine step_append_lies _ (by rfl) _ _ 38 (by rfl) 0 37 iS (.slice none 0 0) 1 24 Try.underlying38 hiS hzS hsS hbS rfl (by decide) (.slice Ar m cr) m xs (by rfl) hxo ⟨w6.heap.size, 0, none⟩ 1 1 [.slice A6 n1 c6] (by rfl) rfl hnews hone1 hone2 hmx hby (Nat.zero_le _) _ rfl ?_; intro g cap w8 ho8 hg8 hat8 hlt8; obtain ⟨r38, t38⟩ := hw8 w8 hg8; have HE8 := Lib.hid (HF8.out w6 w8 A6 c6 g cap hb6 ho6 hg8 ho8 hat8 hlt8))
                          refine hK.out _ _ ?_ (fun hHeld => ?_)
                          · first
                            | exact trivial
                          clear hK K
                          try simp only [Act.put, List.setIfInBounds_toArray, List.set_cons_zero, List.set_cons_succ]
                          (refine wpAnyH_take (i := 13) (oi := { dst := some 126, op := Op.nilCheck (Operand.tmp 113), type := 0, pos := "ref.go:281", after := #[{ on := 0, ground := Ground.data }, { on := 0, ground := Ground.phase }, { on := 1, ground := Ground.phase }, { on := 2, ground := Ground.phase }, { on := 3, ground := Ground.phase }, { on := 4, ground := Ground.phase }, { on := 5, ground := Ground.phase }, { on := 6, ground := Ground.phase }, { on := 7, ground := Ground.phase }, { on := 8, ground := Ground.phase }, { on := 9, ground := Ground.phase }, { on := 10, ground := Ground.phase }, { on := 11, ground := Ground.phase }, { on := 12, ground := Ground.phase }], guard := none }) (v := ?_) rfl (by kernel_rfl) (by kernel_rfl) (by kernel_rfl) (fun _ _ _ h => h) (Or.inl ⟨by rfl, ?_⟩) (by assumption) ?_; rotate_left; · (intro w hSw; (try dsimp only at hSw); go_simp; (first | done | with_reducible rfl)))
                          try simp only [Act.put, List.setIfInBounds_toArray, List.set_cons_zero, List.set_cons_succ]
                          (refine wpAnyH_take (i := 14) (oi := { dst := some 127, op := Op.fieldAddr 72 (Operand.tmp 126) 4, type := 0, pos := "ref.go:281", after := #[{ on := 13, ground := Ground.data }, { on := 0, ground := Ground.phase }, { on := 1, ground := Ground.phase }, { on := 2, ground := Ground.phase }, { on := 3, ground := Ground.phase }, { on := 4, ground := Ground.phase }, { on := 5, ground := Ground.phase }, { on := 6, ground := Ground.phase }, { on := 7, ground := Ground.phase }, { on := 8, ground := Ground.phase }, { on := 9, ground := Ground.phase }, { on := 10, ground := Ground.phase }, { on := 11, ground := Ground.phase }, { on := 12, ground := Ground.phase }], guard := none }) (v := ?_) rfl (by kernel_rfl) (by kernel_rfl) (by kernel_rfl) (fun _ _ _ h => h) (Or.inl ⟨by rfl, ?_⟩) (by assumption) ?_; rotate_left; · (intro w hSw; (try dsimp only at hSw); go_simp; (first | done | with_reducible rfl)))
                          try simp only [Act.put, List.setIfInBounds_toArray, List.set_cons_zero, List.set_cons_succ]
                          refine wpAnyH_ready (rs := [15]) (by kernel_rfl) (by simp) ?_
                          refine (AllReadyH.cons (o := { dst := none, op := Op.store 38 (Operand.tmp 127) (Operand.tmp 125), type := 0, pos := "ref.go:281", after := #[{ on := 14, ground := Ground.data }, { on := 12, ground := Ground.data }, { on := 12, ground := Ground.chain }, { on := 0, ground := Ground.phase }, { on := 1, ground := Ground.phase }, { on := 2, ground := Ground.phase }, { on := 3, ground := Ground.phase }, { on := 4, ground := Ground.phase }, { on := 5, ground := Ground.phase }, { on := 6, ground := Ground.phase }, { on := 7, ground := Ground.phase }, { on := 8, ground := Ground.phase }, { on := 9, ground := Ground.phase }, { on := 10, ground := Ground.phase }, { on := 11, ground := Ground.phase }, { on := 12, ground := Ground.phase }], guard := none }) rfl (fun K hK => ?_) AllReadyH.nil)
                          go_simp
                          refine hK.out _ _ ?_ (fun hHeld => ?_)
                          · first
                            | exact trivial
                          clear hK K
                          try simp only [Act.put, List.setIfInBounds_toArray, List.set_cons_zero, List.set_cons_succ]
                          refine wpAnyH_done (by kernel_rfl) ?_ _
                          clear ho6 hb6 k4 k4a hxo hnews hw8 hone1 hone2 ho8 hg8 hat8 hlt8 r38 t38
                          generalize w8.setCell ⟨lb, 4, none⟩ (.slice (some ⟨g, 0, none⟩) (m + 1) cap) = wE at *
                          go_wp2
                          go_roundw
                          case rel => exact ⟨j + 1, by go_num, by omega, HE8.out.1, HE8.out.2⟩
                          case measure => simp only [intOf]; omega
                    -- END26
                  · obtain rfl : n = j := by omega
                    have htk : ls.take n = ls := List.take_of_length_le (by have := HLN.out; omega)
                    rw [htk] at hm'
                    have HE9 := Lib.hid (HEND.out G' wr hm' hG' HC.out)
                    obtain ⟨_, _, _, _, _, e5, _⟩ := range7 hr'
                    have hfr5 := (ht' 5 (by omega)).2
                    simp only [Nat.zero_add] at hfr5
                    clear hr' ht' hsv' hsg' hrv' hm' hGG hG' HM HC HEND HCW HROW HS hlt
                    go_wp2
                    go_ret
                    exact HE9.out
end Go.Proofs.Ythnhhhfjgbgpgaa.NumK
