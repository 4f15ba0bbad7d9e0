/- journal: readHalf. -/
import Derived.Test.YthnhhhfjgbgpgaaRJnA
namespace Go.Proofs.Ythnhhhfjgbgpgaa.NumK
open Go.RowKit

def HalfPost (first : Nat) (t : Nat × List UInt8 × List (List UInt8) × Nat) (w : World) (e : Ending) (w' : World) : Prop :=
  Grew w w' ∧ ∃ sv rv, e = .returned (.agg #[.int .i64 (first : Int), .int .i64 (t.1 : Int), sv, rv, .int .i64 (t.2.2.2 : Int)]) ∧ SlB w' w.heap.size sv t.2.1 ∧ RowsO w' w.heap.size rv t.2.2.1
theorem infoHalf : (Try.prog.info? 78).map (fun i => (i.zero, i.size)) = some (some (.agg #[.int .i64 0, .int .i64 0, .slice none 0 0, .slice none 0 0, .int .i64 0]), 5) := by kernel_rfl
theorem sizeHalf {n : Nat} (h : 5 = n) : (Try.prog.info? 78).map (·.size) = some n := by subst h; exact (zero_of_info infoHalf).2
theorem partT_not {f : Nat → Blk} {limit first : Nat} (h : ∀ g k p n, rowAt f limit first = some (g, k, p, n) → ¬ (k = 0 ∧ 1 ≤ g)) : partT f limit first = (0, [], [], first) := by
  unfold partT
  cases e : rowAt f limit first with
  | none => rfl
  | some x =>
    obtain ⟨g, k, p, n⟩ := x
    dsimp only
    rw [if_neg (h g k p n e)]
theorem partT_is {f : Nat → Blk} {limit first g n : Nat} {p : List UInt8} {rs : List (List UInt8)} {e : Nat} (h : rowAt f limit first = some (g, 0, p, n)) (hg : 1 ≤ g) (hr : recsF f limit g limit (first + n) 1 = (rs, e)) : partT f limit first = (g, p, rs, e) := by
  unfold partT
  rw [h]
  dsimp only
  rw [if_pos ⟨rfl, hg⟩, hr]
theorem set3_half {w : World} {b : Nat} {c0 c1 c2 c3 c4 : Value} (h : w.rangeAt b 0 [c0, c1, c2, c3, c4]) (ht : w.there b 0 5) (x y z : Value) :
    (((w.setCell ⟨b, 1, none⟩ x).setCell ⟨b, 2, none⟩ y).setCell ⟨b, 4, none⟩ z).drew.rangeAt b 0 [c0, x, y, c3, z] ∧ (((w.setCell ⟨b, 1, none⟩ x).setCell ⟨b, 2, none⟩ y).setCell ⟨b, 4, none⟩ z).drew.there b 0 5 ∧ Chg (fun k => k = b) w (((w.setCell ⟨b, 1, none⟩ x).setCell ⟨b, 2, none⟩ y).setCell ⟨b, 4, none⟩ z).drew := by
  have h1 := rangeAt_set h 1 (by simp) x
  have h2 := rangeAt_set h1 2 (by simp) y
  have h3 := rangeAt_set h2 4 (by simp) z
  refine ⟨(World.rangeAt_drew _ _ _ _).2 ?_, (World.there_drew _ _ _ _).2 (there_set (there_set (there_set ht _ _) _ _) _ _), ?_⟩
  · simpa using h3
  · exact ((((Chg.refl (fun k => k = b) w).setCell ⟨b, 1, none⟩ x (fun _ => rfl)).setCell ⟨b, 2, none⟩ y (fun _ => rfl)).setCell ⟨b, 4, none⟩ z (fun _ => rfl)).drew
def cellN (w : World) (p : Addr) : Nat := match w.cell? p with | some (.int _ n) => n.toNat | _ => 0
theorem cellN_of {w : World} {p : Addr} {k : IntKind} {n : Nat} (h : w.cell? p = some (.int k (n : Int))) : cellN w p = n := by unfold cellN; rw [h]; rfl
/-- Behind an append to a row above: all that lies below stays. -/
theorem below_app {w4 w5 : World} {B n : Nat} {o : Obj} {v : Value} {base : Nat} {e : TypeId} {sz : Nat} {xs : List Value} (hown : w4.ownsRow base e sz v n xs) (hg : (w4.alloc o).grownBy w5 v.ownBlock) (hB : B ≤ base) : ∀ k, k < B → k < w4.heap.size → w5.heap[k]? = w4.heap[k]? := by
  intro k hk hs
  have h1 := hg.block k (by simp; omega) (fun e => by have := (hown.lt k e.symm).1; omega)
  rw [h1]
  exact Below.heap_alloc _ _ _ hs
theorem set2_half {w : World} {b : Nat} {c0 c1 c2 c3 c4 : Value} (h : w.rangeAt b 0 [c0, c1, c2, c3, c4]) (x z : Value) :
    ((w.setCell ⟨b, 3, none⟩ x).setCell ⟨b, 4, none⟩ z).rangeAt b 0 [c0, c1, c2, x, z] := by
  have h1 := rangeAt_set h 3 (by simp) x
  have h2 := rangeAt_set h1 4 (by simp) z
  simpa using h2
set_option maxRecDepth 100000 in
set_option maxHeartbeats 4000000 in
theorem readHalf_any (F : Nat → Prop) (q : Nat) (s : DS) (first limit : Nat) (w : World) (h : DK w F q s) (ho : s.off = false) (ha : first ≤ limit) (hl : limit ≤ s.safe.length) :
    Calls Try.prog 42 #[.pointer (some ⟨q, 0, none⟩), .int .i64 (first : Int), .int .i64 (limit : Int)] w (HalfPost first (partT s.see limit first) w) := by
  have hfew := h.ok.few
  have R0 := Lib.hid (fun w' (g : Grew w w') (k : Nat) (hk : k ≤ limit) => rowQ_any F q s k limit w' (h.grew g) ho hk hl)
  have R1 : Hid (∀ w', Grew w w' → Calls Try.prog 57 #[.pointer (some ⟨q, 0, none⟩), .int .i64 (first : Int), .int .i64 (limit : Int)] w' (RowQ (rowAt s.see limit first) w')) := fun w' g => R0.out w' g first ha
  clear h
  go_enter Try.func42, Try.ntmps42
  go_upto_region 3 with (first
    | (go_at_call 57; ((with_reducible refine (R1.out _ (grew_trans (grew_alloc _ _ _) (grew_alloc _ _ _))).mono ?_); rintro e w1 ⟨hg1, G, K, NB, A, n, c, ok, p, rfl, hok, hno, hsl⟩)))
  obtain ⟨hra, hta⟩ := alloc_range (w.alloc (.cells #[.int .i64 0, .int .i64 0, .slice none 0 0, .slice none 0 0, .int .i64 0] 78)) [.int .i64 (first : Int), .int .i64 0, .slice none 0 0, .slice none 0 0, .int .i64 (first : Int)] 78
  obtain ⟨-, htr⟩ := alloc_range w [.int .i64 0, .int .i64 0, .slice none 0 0, .slice none 0 0, .int .i64 0] 78
  obtain ⟨hrw, htw⟩ := alloc_range w1 [.int .i64 (G : Int), .int .i64 (K : Int), .slice A n c, .int .i64 (NB : Int)] 91
  have hsz1 : w.heap.size + 2 ≤ w1.heap.size := by have := hg1.size; simp at this; omega
  have hg2 := grew_alloc w1 #[.int .i64 (G : Int), .int .i64 (K : Int), .slice A n c, .int .i64 (NB : Int)] 91
  have HG := Lib.hid (grew_trans (grew_trans (grew_trans (grew_alloc w _ _) (grew_alloc _ _ _)) hg1) hg2)
  have hsz2 : (w1.alloc (.cells #[.int .i64 (G : Int), .int .i64 (K : Int), .slice A n c, .int .i64 (NB : Int)] 91)).heap.size = w1.heap.size + 1 := by simp
  have e1 : (w.alloc (.cells #[.int .i64 0, .int .i64 0, .slice none 0 0, .slice none 0 0, .int .i64 0] 78)).heap.size = w.heap.size + 1 := by simp
  rw [e1] at hra hta
  have hb1 := (grew_trans hg1 hg2).block (w.heap.size + 1) (by simp)
  have hb0 := (grew_trans (grew_trans (grew_alloc _ _ _) hg1) hg2).block w.heap.size (by simp)
  have HH := Lib.hid (rangeAt_of hra hb1)
  have HTH : Hid (World.there _ _ 0 5) := there_of hta hb1
  have HTR : Hid (World.there _ _ 0 5) := there_of htr hb0
  have HW := Lib.hid hrw
  have HTW : Hid (World.there _ _ 0 4) := htw
  have HSL : Hid (SlB (w1.alloc (.cells #[.int .i64 (G : Int), .int .i64 (K : Int), .slice A n c, .int .i64 (NB : Int)] 91)) (w.heap.size + 2) (.slice A n c) p) := by
    have := SlB.keep hsl hg2
    refine SlB.mono this ?_
    simp
  have HSB : Hid (∀ k, (Value.slice A n c).ownBlock = some k → k < w1.heap.size) := fun k hk => (World.ownsRow.lt hsl k hk).2
  have HOK := Lib.hid hok
  have HNO := Lib.hid hno
  clear hra hta htr hrw htw hg1 hg2 e1 hb1 hb0 hsl hok hno R1
  change Hid (World.rangeAt (w1.alloc (.cells #[.int .i64 (G : Int), .int .i64 (K : Int), .slice A n c, .int .i64 (NB : Int)] 91)) w1.heap.size 0 _) at HW
  generalize hw2 : w1.alloc (.cells #[.int .i64 (G : Int), .int .i64 (K : Int), .slice A n c, .int .i64 (NB : Int)] 91) = w2 at *
  generalize w1.heap.size = Rw at *
  clear hw2
  obtain ⟨r0, r1, r2, r3⟩ := range4 HW.out
  obtain ⟨t, ht⟩ : ∃ t, t = decide (ok = true ∧ K = 0 ∧ 1 ≤ G) := ⟨_, rfl⟩
  have Ht := Lib.hid ht
  clear ht
  go_cut [31] from 20 to 31 (fun s31 wx => s31 = .bool (!t) ∧ w2 = wx)
  case first =>
    cases ok with
    | false =>
      have hd : t = false := by rw [Ht.out]; exact decide_eq_false (by simp)
      subst hd
      go_wp2
      go_meet
      case rel => exact ⟨rfl, rfl⟩
    | true =>
      by_cases g1 : G < 1
      · have d1 : (G : Int) < 1 := by omega
        have hd : t = false := by rw [Ht.out]; exact decide_eq_false (by omega)
        subst hd
        go_wp2
        go_meet
        case rel => exact ⟨rfl, rfl⟩
      · have d1 : ¬ (G : Int) < 1 := by omega
        by_cases k0 : K = 0
        · have hd : t = true := by rw [Ht.out]; exact decide_eq_true ⟨rfl, k0, by omega⟩
          subst hd
          subst k0
          go_wp2
          go_meet
          case rel => exact ⟨rfl, rfl⟩
        · have hd : t = false := by rw [Ht.out]; exact decide_eq_false (fun h => k0 h.2.1)
          subst hd
          have d2 : ((K : Int) != 0) = true := by simp; omega
          go_wp2
          go_meet
          case rel => exact ⟨rfl, rfl⟩
  case rest =>
    obtain ⟨rfl, rfl⟩ := hcut
    cases t with
    | false =>
      have HP : Hid (partT s.see limit first = (0, [], [], first)) := partT_not (fun g k p n h => by
        have hn : ¬ (ok = true ∧ K = 0 ∧ 1 ≤ G) := of_decide_eq_false Ht.out.symm
        cases ok with
        | false => rw [HNO.out rfl] at h; cases h
        | true =>
          rw [HOK.out rfl] at h
          simp only [Option.some.injEq, Prod.mk.injEq] at h
          obtain ⟨rfl, rfl, _, _⟩ := h
          exact fun hc => hn ⟨rfl, hc.1, hc.2⟩)
      have HN : Hid (HalfPost first (partT s.see limit first) w (.returned (.agg ([.int .i64 (first : Int), .int .i64 0, .slice none 0 0, .slice none 0 0, .int .i64 (first : Int)] : List Value).toArray)) (w2.setCells w.heap.size 0 [.int .i64 (first : Int), .int .i64 0, .slice none 0 0, .slice none 0 0, .int .i64 (first : Int)])) := by
        show HalfPost _ _ _ _ _
        rw [HP.out]
        exact ⟨((Grew.chg (F := fun k => k = w.heap.size) HG.out).setCells _ _ _ (fun _ => rfl)).grew (grew_refl _) (fun k hk => by subst hk; exact Nat.le_refl _), _, _, rfl, SlB.nil _ _, RowsO.nil _ _⟩
      have HO : Hid ((w2.setCells w.heap.size 0 [.int .i64 (first : Int), .int .i64 0, .slice none 0 0, .slice none 0 0, .int .i64 (first : Int)]).rangeAt w.heap.size 0 [.int .i64 (first : Int), .int .i64 0, .slice none 0 0, .slice none 0 0, .int .i64 (first : Int)]) := World.rangeAt_setCells_same _ _ _ _ HTR.out
      clear HP Ht HOK HNO R0 HSL HSB
      obtain ⟨cs, hcs⟩ : ∃ cs : List Value, cs = [.int .i64 (first : Int), .int .i64 0, .slice none 0 0, .slice none 0 0, .int .i64 (first : Int)] := ⟨_, rfl⟩
      have hcl : Hid (cs.length = 5) := by subst hcs; rfl
      have hco : ∀ v ∈ cs, v.oneCell' = true := by subst hcs; exact one5 rfl rfl rfl rfl rfl
      rw [← hcs] at HN HO HH
      clear hcs
      go_wp2_with (first
        | (refine wpList_load_mid (by rfl) 78 _ (by rfl) (w.heap.size + 1) 0 (by rfl) cs _ HH.out Try.underlying78 rfl (sizeHalf hcl.out.symm) ?_)
        | (refine wpList_store_cells (by rfl) 78 _ _ (by rfl) w.heap.size 0 cs (by rfl) (by rfl) 5 hcl.out HTR.out (sizeHalf rfl) hco ?_))
      (try simp only [Exit.inBlock, Exit.then]); refine bodyPost_ret (results_cell_mid rfl _ _ w.heap.size cs _ rfl HO.out Try.underlying78 rfl (sizeHalf hcl.out.symm)) rfl ?_
      exact HN.out
    | true =>
      obtain ⟨rfl, rfl, hG1⟩ : ok = true ∧ K = 0 ∧ 1 ≤ G := of_decide_eq_true Ht.out.symm
      have hr0 := HOK.out rfl
      have hNB := rowAt_blocks hr0
      have hH : w.heap.size + 1 ≠ Rw := by omega
      have i1 : IntKind.i64.wrap ((first : Int) + (NB : Int)) = (first : Int) + (NB : Int) := by rw [IntKind.wrap_i64]; omega
      obtain ⟨b0, b1, b2, b3, b4⟩ := range5 HH.out
      have t1 := (HTH.out 1 (by omega)).2
      have t2 := (HTH.out 2 (by omega)).2
      have t4 := (HTH.out 4 (by omega)).2
      simp only [Nat.zero_add] at b1 b2 b3 b4 t1 t2 t4 r1 r2 r3
      go_upto_region 5 with (fail)
      go_cut [] from 20 to 43 (fun wx => wx.rangeAt (w.heap.size + 1) 0 [.int .i64 (first : Int), .int .i64 (G : Int), .slice A n c, .slice none 0 0, .int .i64 ((first : Int) + (NB : Int))] ∧ wx.there (w.heap.size + 1) 0 5 ∧ Chg (fun k => k = w.heap.size + 1) w2 wx)
      case first =>
        go_region
        go_wp2
        go_meet
        case rel => exact set3_half HH.out HTH.out _ _ _
      case rest =>
        obtain ⟨hH2, hth2, hC2⟩ := hcut
        have hW2 := rangeAt_of HW.out (hC2.block Rw (by omega) (by omega))
        have htw2 := there_of HTW.out (hC2.block Rw (by omega) (by omega))
        have HC2 : Hid (Chg (fun k => k = w.heap.size + 1 ∨ k = Rw) w2 wc) := hC2.mono fun k hk => Or.inl hk
        have HRI : Hid (RI s.see limit G (first + NB) [] (first + NB)) := RI.start hNB.2
        have e0 : (first : Int) + (NB : Int) = ((first + NB : Nat) : Int) := by omega
        rw [e0] at hH2
        have HH2 := Lib.hid hH2
        have HT2 := Lib.hid hth2
        have HTW2 := Lib.hid htw2
        clear hH2 hth2 htw2 hW2 hC2 HH HTH HW HTW r0 r1 r2 r3 b0 b1 b2 b3 b4 t1 t2 t4 i1 e0
        go_wp2
        go_loopw [] (fun wr => ∃ (e : Nat) (rs : List (List UInt8)) (rv : Value), Hid (RI s.see limit G (first + NB) rs e) ∧ Hid (wr.rangeAt (w.heap.size + 1) 0 [.int .i64 (first : Int), .int .i64 (G : Int), .slice A n c, rv, .int .i64 (e : Int)]) ∧ Hid (wr.there (w.heap.size + 1) 0 5) ∧ Hid (wr.there Rw 0 4) ∧ Hid (RowsO wr (Rw + 1) rv rs) ∧ Hid (Chg (fun k => k = w.heap.size + 1 ∨ k = Rw) w2 wr)) (fun wr => limit - cellN wr ⟨w.heap.size + 1, 4, none⟩)
        case atStart => exact ⟨_, _, _, HRI, HH2, HT2, HTW2, RowsO.nil _ _, HC2⟩
        case round =>
          obtain ⟨e, rs, rv, HI, HH, HTH, HTW, HRO, HC⟩ := hrel
          clear HRI HH2 HT2 HTW2 HC2
          have hGw : Grew w wr := Chg.grew HG.out HC.out (fun k hk => by omega)
          have hws := HC.out.size
          rw [hsz2] at hws
          have RQ := Lib.hid (R0.out wr hGw e HI.out.le)
          obtain ⟨b0, b1, b2, b3, b4⟩ := range5 HH.out
          simp only [Nat.zero_add] at b1 b2 b3 b4
          have hM := Lib.hid (cellN_of b4)
          have hHr : w.heap.size + 1 < wr.heap.size := by omega
          have hRr : Rw < wr.heap.size := by omega
          go_upto_region 7 with (first
            | (go_at_call 57; ((with_reducible refine RQ.out.mono ?_); rintro e' w3 ⟨hg3, G2, K2, NB2, A2, n2, c2, ok2, p2, rfl, hok2, hno2, hsl2⟩))
            | (refine wpList_store_cells (by rfl) 91 _ _ (by rfl) Rw 0 [.int .i64 (G2 : Int), .int .i64 (K2 : Int), .slice A2 n2 c2, .int .i64 (NB2 : Int)] (by rfl) (by rfl) 4 rfl (there_of HTW.out (hg3.block Rw hRr)) (sizeRow rfl) (one4 rfl rfl rfl rfl) ?_))
          have hc34 : Chg (fun k => k = Rw) w3 (w3.setCells Rw 0 [.int .i64 (G2 : Int), .int .i64 (K2 : Int), .slice A2 n2 c2, .int .i64 (NB2 : Int)]) := (Chg.refl _ _).setCells _ _ _ (fun _ => rfl)
          have hsl4 : SlB (w3.setCells Rw 0 [.int .i64 (G2 : Int), .int .i64 (K2 : Int), .slice A2 n2 c2, .int .i64 (NB2 : Int)]) (Rw + 1) (.slice A2 n2 c2) p2 :=
            (SlB.mono hsl2 hws).above (fun k hk1 hk2 => hc34.block k hk2 (by omega))
          have hro4 : RowsO (w3.setCells Rw 0 [.int .i64 (G2 : Int), .int .i64 (K2 : Int), .slice A2 n2 c2, .int .i64 (NB2 : Int)]) (Rw + 1) rv rs :=
            (HRO.out.keep hg3).above (fun k hk1 hk2 => hc34.block k hk2 (by omega))
          have hrw4 : (w3.setCells Rw 0 [.int .i64 (G2 : Int), .int .i64 (K2 : Int), .slice A2 n2 c2, .int .i64 (NB2 : Int)]).rangeAt Rw 0 [.int .i64 (G2 : Int), .int .i64 (K2 : Int), .slice A2 n2 c2, .int .i64 (NB2 : Int)] :=
            World.rangeAt_setCells_same _ _ _ _ (there_of HTW.out (hg3.block Rw hRr))
          have htw4 : (w3.setCells Rw 0 [.int .i64 (G2 : Int), .int .i64 (K2 : Int), .slice A2 n2 c2, .int .i64 (NB2 : Int)]).there Rw 0 4 := World.there_setCells (there_of HTW.out (hg3.block Rw hRr)) _ _ _
          have hbH := (hc34.block (w.heap.size + 1) (Nat.lt_of_lt_of_le hHr hg3.size) hH).trans (hg3.block _ hHr)
          have hh4 := rangeAt_of HH.out hbH
          have hth4 := there_of HTH.out hbH
          have hc4 := (HC.out.trans hg3.chg).trans (hc34.mono (G := fun k => k = w.heap.size + 1 ∨ k = Rw) (fun k hk => Or.inr hk))
          have hs4 : Rw + 1 ≤ (w3.setCells Rw 0 [.int .i64 (G2 : Int), .int .i64 (K2 : Int), .slice A2 n2 c2, .int .i64 (NB2 : Int)]).heap.size := by
            have := hc34.size; have := hg3.size; omega
          generalize w3.setCells Rw 0 [.int .i64 (G2 : Int), .int .i64 (K2 : Int), .slice A2 n2 c2, .int .i64 (NB2 : Int)] = w4 at *
          have HSL4 := Lib.hid hsl4
          have HRO4 := Lib.hid hro4
          have HH4 := Lib.hid hh4
          have HTH4 := Lib.hid hth4
          have HTW4 := Lib.hid htw4
          have HRW4 := Lib.hid hrw4
          have HC4 := Lib.hid hc4
          have HOK2 := Lib.hid hok2
          have HNO2 := Lib.hid hno2
          clear hc34 hsl4 hro4 hrw4 htw4 hbH hh4 hth4 hc4 hsl2 hok2 hno2 hg3 HRO HH HTH HTW HC RQ b0 b1 b2 b3 b4 hGw hws hHr hRr
          obtain ⟨r0, r1, r2, r3⟩ := range4 HRW4.out
          obtain ⟨b0, b1, b2, b3, b4⟩ := range5 HH4.out
          simp only [Nat.zero_add] at r1 r2 r3 b1 b2 b3 b4
          obtain ⟨Av, cv, rfl⟩ := HRO4.out.form
          obtain ⟨t2, ht2⟩ : ∃ t, t = decide (ok2 = true ∧ G2 = G ∧ K2 = rs.length + 1) := ⟨_, rfl⟩
          have Ht2 := Lib.hid ht2
          clear ht2
          have hrsl := HI.out.few
          have hel := HI.out.le
          have i2 : IntKind.i64.wrap ((rs.length : Int) + 1) = (rs.length : Int) + 1 := by rw [IntKind.wrap_i64]; omega
          go_cut [69] from 44 to 83 (fun s69 wx => s69 = .bool (!t2) ∧ w4 = wx)
          case first =>
            clear HSL4 HRO4 HH4 HTH4 HTW4 HRW4 HC4 HOK2 HNO2 HOK HNO hM HI R0 HSL HSB HG HTR Ht hr0
            cases ok2 with
            | false =>
              have hd : t2 = false := by rw [Ht2.out]; exact decide_eq_false (by simp)
              clear Ht2
              subst hd
              go_wp2
              go_meet
              case rel => exact ⟨rfl, rfl⟩
            | true =>
              by_cases g1 : G2 = G
              · by_cases k0 : K2 = rs.length + 1
                · have hd : t2 = true := by rw [Ht2.out]; exact decide_eq_true ⟨rfl, g1, k0⟩
                  clear Ht2
                  subst hd
                  subst g1
                  have d2 : ((K2 : Int) != (rs.length : Int) + 1) = false := by simp; omega
                  clear k0
                  generalize rs.length = m at *
                  go_wp2
                  go_meet
                  case rel => exact ⟨rfl, rfl⟩
                · have hd : t2 = false := by rw [Ht2.out]; exact decide_eq_false (fun h => k0 h.2.2)
                  clear Ht2
                  subst hd
                  subst g1
                  have d2 : ((K2 : Int) != (rs.length : Int) + 1) = true := by simp; omega
                  clear k0
                  generalize rs.length = m at *
                  go_wp2
                  go_meet
                  case rel => exact ⟨rfl, rfl⟩
              · have hd : t2 = false := by rw [Ht2.out]; exact decide_eq_false (fun h => g1 h.2.1)
                clear Ht2
                subst hd
                have d1 : ((G2 : Int) != (G : Int)) = true := by simp; omega
                clear g1
                generalize rs.length = m at *
                go_wp2
                go_meet
                case rel => exact ⟨rfl, rfl⟩
          case rest =>
            obtain ⟨rfl, rfl⟩ := hcut
            cases t2 with
            | false =>
              have hst := HI.out.stop (fun g2 k2 p3 nb h => by
                have hn : ¬ (ok2 = true ∧ G2 = G ∧ K2 = rs.length + 1) := of_decide_eq_false Ht2.out.symm
                cases ok2 with
                | false => rw [HNO2.out rfl] at h; cases h
                | true =>
                  rw [HOK2.out rfl] at h
                  simp only [Option.some.injEq, Prod.mk.injEq] at h
                  obtain ⟨rfl, rfl, _, _⟩ := h
                  exact fun hc => hn ⟨rfl, hc.1, hc.2⟩)
              have hpt := partT_is hr0 hG1 hst
              have HN : Hid (HalfPost first (partT s.see limit first) w (.returned (.agg ([.int .i64 (first : Int), .int .i64 (G : Int), .slice A n c, .slice Av rs.length cv, .int .i64 (e : Int)] : List Value).toArray)) (w4.setCells w.heap.size 0 [.int .i64 (first : Int), .int .i64 (G : Int), .slice A n c, .slice Av rs.length cv, .int .i64 (e : Int)])) := by
                show HalfPost _ _ _ _ _
                rw [hpt]
                have hcR : Chg (fun k => k = w.heap.size) w4 (w4.setCells w.heap.size 0 [.int .i64 (first : Int), .int .i64 (G : Int), .slice A n c, .slice Av rs.length cv, .int .i64 (e : Int)]) := (Chg.refl _ _).setCells _ _ _ (fun _ => rfl)
                refine ⟨Chg.grew (Chg.grew HG.out HC4.out (fun k hk => by omega)) hcR (fun k hk => by omega), _, _, rfl, ?_, ?_⟩
                · refine SlB.mono (HSL.out.of fun k hk => ?_) (by omega)
                  have h1 := HSB.out k hk
                  have h2 := (World.ownsRow.lt HSL.out k hk).1
                  have h3 := (World.ownsRow.lt HSL.out k hk).2
                  rw [hcR.block k (Nat.lt_of_lt_of_le h3 HC4.out.size) (by omega), HC4.out.block k h3 (by omega)]
                · exact RowsO.mono (HRO4.out.above fun k h1 h2 => hcR.block k h2 (by omega)) (by omega)
              have htr4 : w4.there w.heap.size 0 5 := there_of HTR.out (HC4.out.block w.heap.size (by omega) (by omega))
              have HO : Hid ((w4.setCells w.heap.size 0 [.int .i64 (first : Int), .int .i64 (G : Int), .slice A n c, .slice Av rs.length cv, .int .i64 (e : Int)]).rangeAt w.heap.size 0 [.int .i64 (first : Int), .int .i64 (G : Int), .slice A n c, .slice Av rs.length cv, .int .i64 (e : Int)]) := World.rangeAt_setCells_same _ _ _ _ htr4
              clear HSL4 HRO4 HTH4 HTW4 HRW4 HC4 HOK2 HNO2 HOK HNO hM HI R0 HSL HSB HG Ht hr0 hst hpt r0 r1 r2 r3 b0 b1 b2 b3 b4
              obtain ⟨cs, hcs⟩ : ∃ cs : List Value, cs = [.int .i64 (first : Int), .int .i64 (G : Int), .slice A n c, .slice Av rs.length cv, .int .i64 (e : Int)] := ⟨_, rfl⟩
              have hcl : Hid (cs.length = 5) := by subst hcs; rfl
              have hco : ∀ v ∈ cs, v.oneCell' = true := by subst hcs; exact one5 rfl rfl rfl rfl rfl
              rw [← hcs] at HN HO HH4
              clear hcs
              go_wp2_with (first
                | (refine wpList_load_mid (by rfl) 78 _ (by rfl) (w.heap.size + 1) 0 (by rfl) cs _ HH4.out Try.underlying78 rfl (sizeHalf hcl.out.symm) ?_)
                | (refine wpList_store_cells (by rfl) 78 _ _ (by rfl) w.heap.size 0 cs (by rfl) (by rfl) 5 hcl.out htr4 (sizeHalf rfl) hco ?_))
              (try simp only [Exit.inBlock, Exit.then]); refine bodyPost_ret (results_cell_mid rfl _ _ w.heap.size cs _ rfl HO.out Try.underlying78 rfl (sizeHalf hcl.out.symm)) rfl ?_
              exact HN.out
            | true =>
              obtain ⟨rfl, rfl, rfl⟩ : ok2 = true ∧ G2 = G ∧ K2 = rs.length + 1 := of_decide_eq_true Ht2.out.symm
              have hr2 := HOK2.out rfl
              have hnb2 := rowAt_blocks hr2
              have HI2 := Lib.hid (HI.out.step hr2)
              obtain ⟨xs, hx1, hx2⟩ := HRO4.out
              have HAp : Hid (∀ w5 v', (w4.alloc (.cells #[.slice A2 n2 c2] 37)).grownBy w5 (Value.slice Av rs.length cv).ownBlock → w5.ownsRow (Rw + 1) 37 1 v' (rs.length + 1) (xs ++ [.slice A2 n2 c2]) →
                  ∃ Av' cv', v' = .slice Av' (rs.length + 1) cv' ∧ w5.rangeAt (w.heap.size + 1) 0 [.int .i64 (first : Int), .int .i64 (G2 : Int), .slice A n c, .slice Av rs.length cv, .int .i64 (e : Int)] ∧ w5.there (w.heap.size + 1) 0 5 ∧ w5.there Rw 0 4 ∧ w5.rangeAt Rw 0 [.int .i64 (G2 : Int), .int .i64 ((rs.length + 1 : Nat) : Int), .slice A2 n2 c2, .int .i64 (NB2 : Int)] ∧ RowsO w5 (Rw + 1) v' (rs ++ [p2]) ∧ Chg (fun k => k = w.heap.size + 1 ∨ k = Rw) w2 w5 ∧ (w5.cell? ⟨w.heap.size + 1, 3, none⟩ = some (.slice Av rs.length cv) ∧ w5.frozen? ⟨w.heap.size + 1, 3, none⟩ = false ∧ w5.cell? ⟨w.heap.size + 1, 4, none⟩ = some (.int .i64 (e : Int)) ∧ w5.frozen? ⟨w.heap.size + 1, 4, none⟩ = false ∧ w5.cell? ⟨Rw, 3, none⟩ = some (.int .i64 (NB2 : Int)))) := by
                intro w5 v' hg ho5
                obtain ⟨Av', cv', rfl⟩ := own_form ho5
                have hbl := below_app hx1 hg (Nat.le_refl _)
                have hbH := hbl (w.heap.size + 1) (by omega) (by omega)
                have hbR := hbl Rw (by omega) (by omega)
                have ga := grew_alloc w4 #[.slice A2 n2 c2] 37
                refine ⟨Av', cv', rfl, rangeAt_of HH4.out hbH, there_of HTH4.out hbH, there_of HTW4.out hbR, rangeAt_of HRW4.out hbR, ?_, ?_, ?_⟩
                · exact RowsO.app (ownR_grew hx1 ga) (fun j hj => by obtain ⟨x, hx, hs⟩ := hx2 j hj; exact ⟨x, hx, hs.keep ga⟩) (HSL4.out.keep ga) ho5 hg
                · refine ⟨hg.os.trans HC4.out.os, hg.tape.trans HC4.out.tape, hg.output.trans HC4.out.output, Nat.le_trans HC4.out.size (Nat.le_trans ga.size hg.size), fun k hk hn => ?_⟩
                  rw [hbl k (by omega) (Nat.lt_of_lt_of_le hk HC4.out.size)]
                  exact HC4.out.block k hk hn
                · have d1 := range5 (rangeAt_of HH4.out hbH)
                  have d2 := there_of HTH4.out hbH
                  have d3 := range4 (rangeAt_of HRW4.out hbR)
                  have f3 := (d2 3 (by omega)).2
                  have f4 := (d2 4 (by omega)).2
                  simp only [Nat.zero_add] at d1 d3 f3 f4
                  exact ⟨d1.2.2.2.1, f3, d1.2.2.2.2, f4, d3.2.2.2⟩
              have hrsl := HI.out.few
              have HOx : Hid ((w4.alloc (.cells #[.slice A2 n2 c2] 37)).ownsRow (Rw + 1) 37 1 (.slice Av rs.length cv) rs.length xs) := ownR_grew hx1 (grew_alloc w4 #[.slice A2 n2 c2] 37)
              have hsa : Rw + 1 ≤ (w4.alloc (.cells #[.slice A2 n2 c2] 37)).heap.size := by simp; omega
              have hel2 := HI.out.le
              have HLm : Hid ((rs ++ [p2]).length = rs.length + 1) := by show _ = _; simp
              clear HSL4 HRO4 HTH4 HTW4 HOK2 HNO2 HOK HNO HI R0 HSL HSB HG HTR Ht hr0 hx1 hx2 hr2 HC4
              have hu0 : (w4.alloc (.cells #[.slice A2 n2 c2] 37)).cell? ⟨w4.heap.size, 0, none⟩ = some (.slice A2 n2 c2) := by simp
              have hbd : rs.length + 1 ≤ 1000000000 := by omega
              clear b0 b1 b2 b4 r0 r1 r3
              go_upto_region 10 with (at_builtin; refine (wpList_append_one rfl _ _ rfl (Rw + 1) _ rs.length xs rfl HOx.out w4.heap.size 1 (.slice A2 n2 c2) rfl hu0 rfl hbd hsa ?_); intro v' w5 ho5 hg5; obtain ⟨Av', cv', rfl, hh5, hth5, htw5, hrw5, hro5, hc5, d3, f3, d4, f4, d5⟩ := HAp.out w5 v' hg5 ho5; clear ho5 hg5)
              clear HAp HOx
              have HHE : Hid (((w5.setCell ⟨w.heap.size + 1, 3, none⟩ (.slice Av' (rs.length + 1) cv')).setCell ⟨w.heap.size + 1, 4, none⟩ (.int .i64 ((e : Int) + (NB2 : Int)))).rangeAt (w.heap.size + 1) 0 [.int .i64 (first : Int), .int .i64 (G2 : Int), .slice A n c, .slice Av' (rs.length + 1) cv', .int .i64 ((e : Int) + (NB2 : Int))]) := set2_half hh5 _ _
              have hce : Chg (fun k => k = w.heap.size + 1) w5 ((w5.setCell ⟨w.heap.size + 1, 3, none⟩ (.slice Av' (rs.length + 1) cv')).setCell ⟨w.heap.size + 1, 4, none⟩ (.int .i64 ((e : Int) + (NB2 : Int)))) :=
                ((Chg.refl (fun k => k = w.heap.size + 1) w5).setCell ⟨w.heap.size + 1, 3, none⟩ _ (fun _ => rfl)).setCell ⟨w.heap.size + 1, 4, none⟩ _ (fun _ => rfl)
              have HTE : Hid (((w5.setCell ⟨w.heap.size + 1, 3, none⟩ (.slice Av' (rs.length + 1) cv')).setCell ⟨w.heap.size + 1, 4, none⟩ (.int .i64 ((e : Int) + (NB2 : Int)))).there (w.heap.size + 1) 0 5) := there_set (there_set hth5 _ _) _ _
              have HTW5 : Hid (((w5.setCell ⟨w.heap.size + 1, 3, none⟩ (.slice Av' (rs.length + 1) cv')).setCell ⟨w.heap.size + 1, 4, none⟩ (.int .i64 ((e : Int) + (NB2 : Int)))).there Rw 0 4) := there_set (there_set htw5 _ _) _ _
              have HROE : Hid (RowsO ((w5.setCell ⟨w.heap.size + 1, 3, none⟩ (.slice Av' (rs.length + 1) cv')).setCell ⟨w.heap.size + 1, 4, none⟩ (.int .i64 ((e : Int) + (NB2 : Int)))) (Rw + 1) (.slice Av' (rs.length + 1) cv') (rs ++ [p2])) := hro5.above fun k h1 h2 => hce.block k h2 (by omega)
              have HCE : Hid (Chg (fun k => k = w.heap.size + 1 ∨ k = Rw) w2 ((w5.setCell ⟨w.heap.size + 1, 3, none⟩ (.slice Av' (rs.length + 1) cv')).setCell ⟨w.heap.size + 1, 4, none⟩ (.int .i64 ((e : Int) + (NB2 : Int))))) := hc5.trans (hce.mono fun k hk => Or.inl hk)
              have hM4 := (range5 HHE.out).2.2.2.2
              rw [← Int.natCast_add] at hM4
              have HM2 := Lib.hid (cellN_of hM4)
              rw [Int.natCast_add] at HM2
              have i3 : IntKind.i64.wrap ((e : Int) + (NB2 : Int)) = (e : Int) + (NB2 : Int) := by rw [IntKind.wrap_i64]; omega
              clear hM4 hce hro5 hth5 htw5 hh5 hrw5 hc5
              go_wp2
              go_roundw
              case rel => exact ⟨e + NB2, rs ++ [p2], _, HI2, by rw [Int.natCast_add]; exact HHE.out, HTE, HTW5, HROE, HCE⟩
              case measure =>
                have h1 := hM.out
                have h2 := HM2.out
                rw [h1, h2]
                omega
end Go.Proofs.Ythnhhhfjgbgpgaa.NumK
namespace Go.Proofs.Ythnhhhfjgbgpgaa.NumK
open Go.RowKit

/-! ### rows of slices in a set of blocks -/
def RowsG (w : World) (P : Nat → Prop) (v : Value) (ls : List (List UInt8)) : Prop :=
  ∃ xs : List Value, w.ownsRow 0 37 1 v ls.length xs ∧ (∀ k, v.ownBlock = some k → P k) ∧ ∀ j, j < ls.length → ∃ x, xs[j]? = some x ∧ SlB w 0 x (ls.getD j []) ∧ ∀ k, x.ownBlock = some k → P k
theorem RowsO.toG {w : World} {base : Nat} {v : Value} {ls : List (List UInt8)} {P : Nat → Prop} (h : RowsO w base v ls) (hP : ∀ k, base ≤ k → k < w.heap.size → P k) : RowsG w P v ls := by
  obtain ⟨xs, h1, h2⟩ := h
  refine ⟨xs, own_mono h1 (Nat.zero_le _), fun k hk => hP k (h1.lt k hk).1 (h1.lt k hk).2, fun j hj => ?_⟩
  obtain ⟨x, hx, hs⟩ := h2 j hj
  exact ⟨x, hx, hs.mono (Nat.zero_le _), fun k hk => hP k (World.ownsRow.lt hs k hk).1 (World.ownsRow.lt hs k hk).2⟩
theorem RowsG.of {w w' : World} {P : Nat → Prop} {v : Value} {ls : List (List UInt8)} (h : RowsG w P v ls) (hb : ∀ k, P k → k < w.heap.size → w'.heap[k]? = w.heap[k]?) : RowsG w' P v ls := by
  obtain ⟨xs, h1, h2, h3⟩ := h
  refine ⟨xs, ownsRow_of h1 (fun k hk => hb k (h2 k hk) (h1.lt k hk).2), h2, fun j hj => ?_⟩
  obtain ⟨x, hx, hs, hp⟩ := h3 j hj
  exact ⟨x, hx, hs.of fun k hk => hb k (hp k hk) (World.ownsRow.lt hs k hk).2, hp⟩
theorem RowsG.mono {w : World} {P Q : Nat → Prop} {v : Value} {ls : List (List UInt8)} (h : RowsG w P v ls) (hP : ∀ k, P k → Q k) : RowsG w Q v ls := by
  obtain ⟨xs, h1, h2, h3⟩ := h
  exact ⟨xs, h1, fun k hk => hP k (h2 k hk), fun j hj => by obtain ⟨x, hx, hs, hp⟩ := h3 j hj; exact ⟨x, hx, hs, fun k hk => hP k (hp k hk)⟩⟩
theorem RowsG.form {w : World} {P : Nat → Prop} {v : Value} {l : List (List UInt8)} (h : RowsG w P v l) : ∃ A c, v = .slice A l.length c := by
  obtain ⟨xs, h1, _⟩ := h
  exact own_form h1
theorem RowsG.nil (w : World) (P : Nat → Prop) : RowsG w P (.slice none 0 0) [] := ⟨[], World.ownsRow_nil _ _ _ _, (fun k hk => by cases hk), fun j hj => absurd hj (by simp)⟩
theorem RowsG.app {w w' : World} {P Q : Nat → Prop} {v v' x : Value} {ls : List (List UInt8)} {l : List UInt8} {xs : List Value} (h1 : w.ownsRow 0 37 1 v ls.length xs) (h2 : ∀ j, j < ls.length → ∃ x, xs[j]? = some x ∧ SlB w 0 x (ls.getD j []) ∧ ∀ k, x.ownBlock = some k → P k)
    (hx : SlB w 0 x l) (ho : w'.ownsRow 0 37 1 v' (ls.length + 1) (xs ++ [x])) (hg : w.grownBy w' v.ownBlock) (hPQ : ∀ k, P k → Q k) (hxQ : ∀ k, x.ownBlock = some k → Q k) (hv : ∀ k, v'.ownBlock = some k → Q k) : RowsG w' Q v' (ls ++ [l]) := by
  have hk : ∀ y m, SlB w 0 y m → SlB w' 0 y m := fun y m hy => hy.of fun k hk => hg.block k (World.ownsRow.lt hy k hk).2 (fun e => own_ne hy h1 (by decide) k hk e.symm)
  refine ⟨xs ++ [x], by rw [List.length_append]; exact ho, hv, fun j hj => ?_⟩
  have hl : xs.length = ls.length := by have := h1.1; simpa using this
  rw [List.length_append, List.length_singleton] at hj
  by_cases hc : j < ls.length
  · obtain ⟨y, hy, hs, hp⟩ := h2 j hc
    refine ⟨y, by rw [List.getElem?_append_left (by omega)]; exact hy, ?_, fun k hk => hPQ k (hp k hk)⟩
    have : (ls ++ [l]).getD j [] = ls.getD j [] := by simp only [List.getD_eq_getElem?_getD]; rw [List.getElem?_append_left hc]
    rw [this]; exact hk _ _ hs
  · have e : j = ls.length := by omega
    subst e
    refine ⟨x, by rw [← hl]; simp, ?_, hxQ⟩
    have : (ls ++ [l]).getD ls.length [] = l := by simp [List.getD_eq_getElem?_getD]
    rw [this]; exact hk _ _ hx

/-! ### a log in memory -/
def logC (q : Nat) (b : Bool) (first gen : Nat) (sv rv : Value) (fin : Nat) : List Value := [.pointer (some ⟨q, 0, none⟩), .bool b, .int .i64 (first : Int), .int .i64 (gen : Int), sv, rv, .int .i64 (fin : Int)]
structure LogM (w : World) (G : Nat → Prop) (lb q room : Nat) (l : LS) : Prop where
  fit : ∀ k, G k → k < w.heap.size
  here : G lb
  ex : ∃ sv rv, w.rangeAt lb 0 (logC q l.begun (l.half * room) l.gen sv rv (l.half * room + l.fin)) ∧ w.there lb 0 7 ∧ SlB w 0 sv l.snap ∧ (∀ k, sv.ownBlock = some k → G k ∧ k ≠ lb) ∧ RowsG w (fun k => G k ∧ k ≠ lb) rv l.recs
theorem LogM.of {w w' : World} {G : Nat → Prop} {lb q room : Nat} {l : LS} (h : LogM w G lb q room l) (hs : w.heap.size ≤ w'.heap.size) (hb : ∀ k, G k → w'.heap[k]? = w.heap[k]?) : LogM w' G lb q room l := by
  obtain ⟨sv, rv, h1, h2, h3, h4, h5⟩ := h.ex
  exact ⟨fun k hk => Nat.lt_of_lt_of_le (h.fit k hk) hs, h.here, sv, rv, rangeAt_of h1 (hb lb h.here), there_of h2 (hb lb h.here), h3.of fun k hk => hb k (h4 k hk).1, h4, h5.of fun k hk _ => hb k hk.1⟩
theorem LogM.chg {w w' : World} {G N : Nat → Prop} {lb q room : Nat} {l : LS} (h : LogM w G lb q room l) (g : Chg N w w') (hn : ∀ k, G k → ¬ N k) : LogM w' G lb q room l := h.of g.size fun k hk => g.block k (h.fit k hk) (hn k hk)
theorem LogM.grew {w w' : World} {G : Nat → Prop} {lb q room : Nat} {l : LS} (h : LogM w G lb q room l) (g : Grew w w') : LogM w' G lb q room l := h.of g.size fun k hk => g.block k (h.fit k hk)
theorem LogM.more {w : World} {G G2 : Nat → Prop} {lb q room : Nat} {l : LS} (h : LogM w G lb q room l) (hG : ∀ k, G k → G2 k) (hf : ∀ k, G2 k → k < w.heap.size) : LogM w G2 lb q room l := by
  obtain ⟨sv, rv, h1, h2, h3, h4, h5⟩ := h.ex
  exact ⟨hf, hG _ h.here, sv, rv, h1, h2, h3, fun k hk => ⟨hG k (h4 k hk).1, (h4 k hk).2⟩, h5.mono fun k hk => ⟨hG k hk.1, hk.2⟩⟩
theorem range7 {w : World} {b : Nat} {c0 c1 c2 c3 c4 c5 c6 : Value} (h : w.rangeAt b 0 [c0, c1, c2, c3, c4, c5, c6]) : w.cell? ⟨b, 0, none⟩ = some c0 ∧ w.cell? ⟨b, 1, none⟩ = some c1 ∧ w.cell? ⟨b, 2, none⟩ = some c2 ∧ w.cell? ⟨b, 3, none⟩ = some c3 ∧ w.cell? ⟨b, 4, none⟩ = some c4 ∧ w.cell? ⟨b, 5, none⟩ = some c5 ∧ w.cell? ⟨b, 6, none⟩ = some c6 := by
  have h0 := h 0 _ rfl
  have h1 := h 1 _ rfl
  have h2 := h 2 _ rfl
  have h3 := h 3 _ rfl
  have h4 := h 4 _ rfl
  have h5 := h 5 _ rfl
  have h6 := h 6 _ rfl
  simp only [Nat.zero_add] at h0 h1 h2 h3 h4 h5 h6
  exact ⟨h0, h1, h2, h3, h4, h5, h6⟩
/-- What a log is at all. -/
structure LOK (s : DS) (l : LS) : Prop where
  half : l.half < 2
  fin : l.fin ≤ roomD s
  few : l.recs.length ≤ l.fin
  gen : l.gen ≤ 1099511627776
  snapS : l.snap.length ≤ 65536
  recS : ∀ r ∈ l.recs, r.length ≤ 65536
/-- A disk and a log on it, in the blocks F. -/
structure JK (w : World) (F : Nat → Prop) (lb q : Nat) (s : DS) (l : LS) : Prop where
  fit : ∀ k, F k → k < w.heap.size
  ok : LOK s l
  ex : ∃ FD G, DK w FD q s ∧ LogM w G lb q (roomD s) l ∧ (∀ k, FD k → F k ∧ ¬ G k) ∧ ∀ k, G k → F k
theorem JK.chg {F N : Nat → Prop} {w w' : World} {lb q : Nat} {s : DS} {l : LS} (h : JK w F lb q s l) (g : Chg N w w') (hn : ∀ k, F k → ¬ N k) : JK w' F lb q s l := by
  obtain ⟨FD, G, h1, h2, h3, h4⟩ := h.ex
  exact ⟨fun k hk => Nat.lt_of_lt_of_le (h.fit k hk) g.size, h.ok, FD, G, h1.chg g (fun k hk => hn k (h3 k hk).1), h2.chg g (fun k hk => hn k (h4 k hk)), h3, h4⟩
theorem JK.grew {F : Nat → Prop} {w w' : World} {lb q : Nat} {s : DS} {l : LS} (h : JK w F lb q s l) (g : Grew w w') : JK w' F lb q s l := h.chg (N := fun _ => False) g.chg (fun _ _ h => h)

/-! ### what a log tells -/
theorem size_any (F : Nat → Prop) (lb q : Nat) (s : DS) (w : World) (h : DK w F q s) (c0 : w.cell? ⟨lb, 0, none⟩ = some (.pointer (some ⟨q, 0, none⟩))) :
    Calls Try.prog 41 #[.pointer (some ⟨lb, 0, none⟩)] w fun e w' => e = .returned (.int .i64 (roomD s : Int)) ∧ w = w' := by
  have CB := Lib.hid (blocks_any F q s w h)
  have HR : Hid (((s.safe.length : Int)).tdiv 2 = (roomD s : Int)) := by
    show _ = _; unfold roomD; rw [Int.tdiv_eq_ediv_of_nonneg (by omega)]; omega
  have hb := h.ok.few
  have hw : IntKind.i64.wrap (roomD s : Int) = (roomD s : Int) := by
    have : roomD s ≤ 65536 := by unfold roomD; omega
    rw [IntKind.wrap_i64]; omega
  have hr := HR.out
  clear h HR
  generalize roomD s = r at *
  generalize s.safe.length = n at *
  go_enter Try.func41, Try.ntmps41
  go_wp2_with (go_at_call 40; ((with_reducible refine CB.out.mono ?_); rintro e w1 ⟨rfl, rfl⟩))
  go_ret
  exact ⟨rfl, rfl⟩
section
variable {w : World} {G : Nat → Prop} {lb q room : Nat} {l : LS}
theorem gen_any (h : LogM w G lb q room l) : Calls Try.prog 33 #[.pointer (some ⟨lb, 0, none⟩)] w fun e w' => e = .returned (.int .i64 (l.gen : Int)) ∧ w = w' := by
  obtain ⟨sv, rv, h1, h2⟩ := h.ex
  obtain ⟨c0, c1, c2, c3, c4, c5, c6⟩ := range7 h1
  clear h1 h2 h
  go_enter Try.func33, Try.ntmps33
  go_wp2
  go_ret
  exact ⟨rfl, rfl⟩
theorem snap_any (h : LogM w G lb q room l) (hs : l.snap.length ≤ 65536) : Calls Try.prog 31 #[.pointer (some ⟨lb, 0, none⟩)] w (TwinBPost l.snap l.snap.length w) := by
  obtain ⟨sv, rv, h1, h2, h3, h4⟩ := h.ex
  obtain ⟨c0, c1, c2, c3, c4, c5, c6⟩ := range7 h1
  obtain ⟨A, c, rfl, hb, hA, -⟩ := bys_of_own h3
  have CC := Lib.hid (copied_any A l.snap.length c l.snap w hb hA (by omega))
  clear h1 h2 h3 h4 h hb hA hs
  go_enter Try.func31, Try.ntmps31
  go_wp2_with (go_at_call 46; ((with_reducible refine CC.out.mono ?_); rintro e w1 ⟨hg, A2, c2, rfl, h5⟩))
  go_ret
  exact ⟨hg, A2, c2, rfl, h5⟩
end
theorem RowsG.toB {w : World} {P : Nat → Prop} {v : Value} {ls : List (List UInt8)} (h : RowsG w P v ls) : ∃ A c, v = .slice A ls.length c ∧ RowsB w A ls.length ls ∧ (A = none → c = 0) ∧ ls.length ≤ c := by
  obtain ⟨xs, h1, h2, h3⟩ := h
  have hl : xs.length = ls.length := by have := h1.1; simpa using this
  rcases h1.2 with ⟨rfl, h0⟩ | ⟨g, cap, cur, rfl, _, hg, hc, _, _, ht⟩
  · rw [h0]
    exact ⟨none, 0, rfl, ⟨h0, fun h => absurd h (by omega)⟩, fun _ => rfl, Nat.le_refl _⟩
  · refine ⟨some ⟨g, 0, none⟩, cap, rfl, ⟨rfl, fun _ => ⟨g, 0, rfl, own_at_lt hg, fun j hj => ?_⟩⟩, (fun h => by cases h), hc⟩
    obtain ⟨x, hx, hs, _⟩ := h3 j hj
    obtain ⟨A1, c1, rfl, hb, hA, hn, hm, _⟩ := bys_own2 hs
    refine ⟨A1, _, c1, ?_, hb, hA, hn, by omega⟩
    rw [cell_of_row w g (0 + j) cur _ (0, 0) hg, Nat.zero_add]
    have e1 : (cur.toList.take (ls.length * 1))[j]? = cur[j]? := by rw [List.getElem?_take]; simp [hj]
    rw [← e1, ht, hx]
theorem RowsO.toB {w : World} {base : Nat} {v : Value} {ls : List (List UInt8)} (h : RowsO w base v ls) : ∃ A c, v = .slice A ls.length c ∧ RowsB w A ls.length ls ∧ (A = none → c = 0) ∧ ls.length ≤ c :=
  RowsG.toB (h.toG (P := fun _ => True) (fun _ _ _ => trivial))
theorem take_snocR (l : List (List UInt8)) (k : Nat) (hk : k < l.length) : l.take (k + 1) = l.take k ++ [l.getD k []] := by
  rw [List.take_succ_eq_append_getElem hk]
  simp [List.getD, hk]
def RecsPost (ls : List (List UInt8)) (w : World) (e : Ending) (w' : World) : Prop := Grew w w' ∧ ∃ v, e = .returned v ∧ RowsO w' w.heap.size v ls
set_option maxHeartbeats 2000000 in
theorem recs_any {w : World} {G : Nat → Prop} {lb q room : Nat} {l : LS} (h : LogM w G lb q room l) (hn : l.recs.length ≤ 1000000) (hr : ∀ r ∈ l.recs, r.length ≤ 65536) :
    Calls Try.prog 32 #[.pointer (some ⟨lb, 0, none⟩)] w (RecsPost l.recs w) := by
  obtain ⟨sv, rv, h1, h2, h3, h4, h5⟩ := h.ex
  obtain ⟨c0, c1, c2, c3, c4, c5, c6⟩ := range7 h1
  obtain ⟨A, c, rfl, hB, -, -⟩ := h5.toB
  have HB := Lib.hid hB
  have HR := Lib.hid hr
  have CC := Lib.hid (fun (A : Option Addr) (n c : Nat) l w hb hA hn => copied_any A n c l w hb hA hn)
  clear h1 h2 h3 h4 h5 h hB hr
  generalize l.recs = ls at *
  have HL : Hid (ls.length = ls.length) := rfl
  obtain ⟨n, hnn⟩ : ∃ n, n = ls.length := ⟨_, rfl⟩
  have HN := Lib.hid hnn
  rw [← hnn] at c5 hn HB
  clear hnn HL
  go_enter Try.func32, Try.ntmps32
  go_wp2
  go_loopw [3, 12] (fun v3 v12 wr => ∃ k : Nat, v12 = .int .i64 k ∧ k ≤ n ∧ Hid (RowsO wr w.heap.size v3 (ls.take k)) ∧ Hid (Grew w wr)) (fun _ v12 _ => n - (intOf v12).toNat)
  case atStart => exact ⟨0, rfl, by omega, by rw [List.take_zero]; exact RowsO.nil _ _, grew_refl _⟩
  case round =>
    obtain ⟨k, rfl, hk, HO, HG⟩ := hrel
    by_cases hlt : k < n
    · obtain ⟨b, o, A1, n1, cp1, rfl, g0, hb1, hA1, hn1, hm1⟩ := (HB.out.keep HG.out).at hlt
      have a3 : (k : Int) < (n : Int) := by omega
      have hmem : ls.getD k [] ∈ ls := by
        rw [List.getD_eq_getElem?_getD, List.getElem?_eq_getElem (by rw [← HN.out]; exact hlt)]
        exact List.getElem_mem _
      have hl1 := HR.out _ hmem
      have e1 := hb1.1
      have CK := Lib.hid (CC.out A1 n1 cp1 _ wr hb1 hA1 (by omega))
      have HS := Lib.hid (take_snocR ls k (by rw [← HN.out]; exact hlt))
      have HTL : Hid ((ls.take k).length = k) := by show _ = _; rw [List.length_take, ← HN.out]; omega
      clear hb1 hmem hl1 e1 hA1 hn1 hm1
      generalize ls.getD k [] = rk at *
      obtain ⟨xs, hx1, hx2⟩ := HO.out
      have HX1 := Lib.hid hx1
      have HX2 := Lib.hid hx2
      clear hx1 hx2
      rw [HTL.out] at HX1
      have hsz := HG.out.size
      have hbd : k + 1 ≤ 1000000000 := by omega
      have HAp : Hid (∀ w1 w2 A2 c2 v', Grew wr w1 → w1.ownsRow wr.heap.size 5 1 (.slice A2 n1 c2) n1 (rk.map byv) → rk.length = n1 → (w1.alloc (.cells #[.slice A2 n1 c2] 37)).grownBy w2 (u3).ownBlock → w2.ownsRow w.heap.size 37 1 v' (k + 1) (xs ++ [.slice A2 n1 c2]) → RowsO w2 w.heap.size v' (ls.take (k + 1)) ∧ Grew w w2) := by
        intro w1 w2 A2 c2 v' hg1 ho1 hl1 hg ho2
        have ga := grew_alloc w1 #[.slice A2 n1 c2] 37
        have hh := HX1.out
        rw [← HTL.out] at hh
        have ho2' := ho2
        have e2 : (ls.take k).length + 1 = k + 1 := by rw [HTL.out]
        rw [← e2] at ho2'
        have hsl : SlB w1 wr.heap.size (.slice A2 n1 c2) rk := by show World.ownsRow _ _ _ _ _ _ _; rw [hl1]; exact ho1
        refine ⟨?_, ?_⟩
        · rw [HS.out]
          exact RowsO.app (ownR_grew hh (grew_trans hg1 ga)) (fun j hj => by obtain ⟨x, hx, hs⟩ := HX2.out j hj; exact ⟨x, hx, hs.keep (grew_trans hg1 ga)⟩) ((hsl.mono hsz).keep ga) ho2' hg
        · have hgw := grew_trans (grew_trans HG.out hg1) ga
          exact ⟨hg.os.trans hgw.os, hg.tape.trans hgw.tape, hg.output.trans hgw.output, Nat.le_trans hgw.size hg.size, fun i hi => (hg.block i (Nat.lt_of_lt_of_le hi hgw.size) (fun e => by have := (HX1.out.lt i e.symm).1; omega)).trans (hgw.block i hi)⟩
      go_upto_region 5 with (fail)
      go_wp2_with (first
        | (go_at_call 46; ((with_reducible refine CK.out.mono ?_); rintro e w1 ⟨hg1, A2, c2, rfl, ho1, hb2, hA2, -⟩; have hxo := ownR_grew HX1.out (grew_trans hg1 (grew_alloc w1 #[.slice A2 n1 c2] 37)); have hcl : (w1.alloc (.cells #[.slice A2 n1 c2] 37)).cell? ⟨w1.heap.size, 0, none⟩ = some (.slice A2 n1 c2) := (by simp); have hba : w.heap.size ≤ (w1.alloc (.cells #[.slice A2 n1 c2] 37)).heap.size := Nat.le_trans hsz (Nat.le_trans hg1.size (grew_alloc w1 _ _).size)))
        | (at_builtin; refine (wpList_append_one rfl _ _ rfl w.heap.size _ k xs rfl hxo w1.heap.size 1 (.slice A2 n1 c2) rfl hcl rfl hbd hba ?_); intro v' w2 ho2 hg2; obtain ⟨hp1, hp2⟩ := HAp.out w1 w2 A2 c2 v' hg1 ho1 hb2.1 hg2 ho2; have HP1 := Lib.hid hp1; have HP2 := Lib.hid hp2; clear hp1 hp2 ho2 hg2))
      go_roundw
      case rel => exact ⟨k + 1, by go_num, by omega, HP1, HP2⟩
      case measure => simp only [intOf]; omega
    · obtain rfl : k = n := by omega
      have HF : Hid (ls.take k = ls) := by show _ = _; rw [List.take_of_length_le (by rw [← HN.out]; omega)]
      go_wp2
      go_ret
      exact ⟨HG.out, _, rfl, by have := HO.out; rw [HF.out] at this; exact this⟩
end Go.Proofs.Ythnhhhfjgbgpgaa.NumK
namespace Go.Proofs.Ythnhhhfjgbgpgaa.NumK
open Go.RowKit

theorem rowAt_small {f : Nat → Blk} {room at' g k nb : Nat} {p : List UInt8} (h : rowAt f room at' = some (g, k, p, nb)) : g ≤ 1099511627776 ∧ p.length ≤ 65536 := by
  unfold rowAt at h
  split at h
  · cases h
  · split at h
    · cases h
    · split at h
      · cases h
      · split at h
        · cases h
        · rename_i hf
          simp only [Option.some.injEq, Prod.mk.injEq] at h
          obtain ⟨rfl, rfl, rfl, rfl⟩ := h
          have := frs_some hf
          exact ⟨this.2.2.1, by rw [List.length_take]; omega⟩
def refV (room : Nat) (ls : List (List UInt8)) : Int := if ∃ r ∈ ls, 65536 < r.length then 5 else if room < spanL ls then 9 else 0
set_option maxHeartbeats 2000000 in
theorem refusesJ_any (room : Nat) (A : Option Addr) (n c : Nat) (ls : List (List UInt8)) (w : World) (h : RowsB w A n ls) (hn : n ≤ 140737488355328) :
    Calls Try.prog 45 #[.int .i64 (room : Int), .slice A n c] w fun e w' => e = .returned (.int .i64 (refV room ls)) ∧ w = w' := by
  have HB := Lib.hid h
  have HL := Lib.hid h.1
  have BF := Lib.hid (fun n hn w => blocksFor_any n hn w)
  clear h
  go_enter Try.func45, Try.ntmps45
  go_wp2
  go_loop [5, 10] (fun v5 v10 => ∃ k : Nat, v10 = .int .i64 k ∧ k ≤ n ∧ v5 = .int .i64 (spanL (ls.take k) : Int) ∧ spanL (ls.take k) ≤ 1058 * k ∧ Hid (∀ r ∈ ls.take k, r.length ≤ 65536)) (fun _ v10 => n - (intOf v10).toNat)
  case atStart => exact ⟨0, rfl, by omega, rfl, by simp [spanL], by show ∀ r ∈ _, _; simp⟩
  case round =>
    obtain ⟨k, rfl, hk, rfl, hsp, HA⟩ := hrel
    by_cases hlt : k < n
    · obtain ⟨b, o, A1, n1, cp1, rfl, g0, hb1, hA1, hn1, hm1⟩ := HB.out.at hlt
      have a3 : (k : Int) < (n : Int) := by omega
      have hmem : ls.getD k [] ∈ ls := by
        rw [List.getD_eq_getElem?_getD, List.getElem?_eq_getElem (by rw [HL.out]; exact hlt)]
        exact List.getElem_mem _
      have e1 := hb1.1
      have HS := Lib.hid (take_snocR ls k (by rw [HL.out]; exact hlt))
      have HT : Hid (spanL (ls.take (k + 1)) = spanL (ls.take k) + nbk (n1 + 21)) := by
        show _ = _
        rw [HS.out, spanL_append]; show _ + (nbk ((ls.getD k []).length + 21) + 0) = _; rw [e1]; rfl
      have HA2 : Hid (n1 ≤ 65536 → ∀ r ∈ ls.take (k + 1), r.length ≤ 65536) := by
        intro hle r hr
        rw [HS.out] at hr
        rcases List.mem_append.1 hr with hr | hr
        · exact HA.out r hr
        · rw [List.mem_singleton] at hr; rw [hr, e1]; exact hle
      have HF5 : Hid (65536 < n1 → refV room ls = 5) := fun hgt => by unfold refV; rw [if_pos ⟨_, hmem, by rw [e1]; exact hgt⟩]
      clear hb1 hmem e1 HS HA
      by_cases hbig : 65536 < n1
      · have j1 : (65536 : Int) < (n1 : Int) := by omega
        have HF := Lib.hid (HF5.out hbig)
        clear HF5 HA2 HT
        generalize spanL (ls.take k) = t at *
        go_wp2
        go_ret
        exact ⟨ret_i HF.out.symm, rfl⟩
      · have j1 : ¬ (65536 : Int) < (n1 : Int) := by omega
        have HA3 := Lib.hid (HA2.out (by omega))
        have B1 := Lib.hid (fun w => BF.out n1 (by omega) w)
        have hnb : nbk (n1 + 21) ≤ 1058 := by unfold nbk; omega
        have HT3 : Hid (spanL (ls.take (k + 1)) ≤ 1058 * (k + 1)) := by have := HT.out; show _ ≤ _; omega
        clear HF5 HA2
        generalize spanL (ls.take k) = t at *
        generalize nbk (n1 + 21) = nb at *
        have i1 : IntKind.i64.wrap ((t : Int) + (nb : Int)) = (t : Int) + (nb : Int) := by rw [IntKind.wrap_i64]; omega
        go_wp2_with (go_at_call 59; ((with_reducible refine (B1.out _).mono ?_); rintro e w1 ⟨rfl, rfl⟩))
        go_round
        case rel => exact ⟨k + 1, by go_num, by omega, by rw [HT.out, Int.natCast_add], HT3.out, HA3⟩
        case measure => simp only [intOf]; omega
    · obtain rfl : k = n := by omega
      have HT : Hid (ls.take k = ls) := by show _ = _; rw [List.take_of_length_le (by rw [HL.out]; omega)]
      have HA2 := HA.out
      rw [HT.out] at hsp HA2 ⊢
      have HF : Hid (refV room ls = if room < spanL ls then 9 else 0) := by
        show _ = _
        unfold refV
        rw [if_neg (fun ⟨r, h1, h2⟩ => by have := HA2 r h1; omega)]
      clear HA HA2 HT
      generalize spanL ls = t at *
      by_cases hf : room < t
      · have j1 : (room : Int) < (t : Int) := by omega
        rw [if_pos hf] at HF
        go_wp2
        go_ret
        exact ⟨ret_i HF.out.symm, rfl⟩
      · have j1 : ¬ (room : Int) < (t : Int) := by omega
        rw [if_neg hf] at HF
        go_wp2
        go_ret
        exact ⟨ret_i HF.out.symm, rfl⟩

/-! ### what a method leaves -/
def JPost (F : Nat → Prop) (lb q : Nat) (w : World) (r : Value) (s : DS) (l : LS) (e : Ending) (w' : World) : Prop :=
  e = .returned r ∧ Chg F w w' ∧ (∃ FD, DK w' FD q s ∧ ∀ k, FD k → FX F w w' k) ∧ (s.off = false → JK w' (FX F w w') lb q s l)
theorem LOK.room {s s' : DS} {l : LS} (h : LOK s l) (hr : roomD s' = roomD s) : LOK s' l := ⟨h.half, by rw [hr]; exact h.fin, h.few, h.gen, h.snapS, h.recS⟩
theorem fx_lt {F : Nat → Prop} {w w' : World} (hf : ∀ k, F k → k < w.heap.size) (hs : w.heap.size ≤ w'.heap.size) : ∀ k, FX F w w' k → k < w'.heap.size := by
  intro k hk
  rcases hk with hk | hk
  · exact Nat.lt_of_lt_of_le (hf k hk) hs
  · exact hk.2
/-- A step of the disk alone. -/
theorem jk_disk {F FD G : Nat → Prop} {lb q : Nat} {w w' : World} {s s' : DS} {l : LS} {r : Value} {e : Ending} (hf : ∀ k, F k → k < w.heap.size) (hok : LOK s l) (h2 : LogM w G lb q (roomD s) l) (h3 : ∀ k, FD k → F k ∧ ¬ G k) (h4 : ∀ k, G k → F k)
    (hr : roomD s' = roomD s) (p : DPost FD q w r s' e w') : JPost F lb q w r s' l e w' := by
  obtain ⟨he, hc, hd⟩ := p
  have hfx : ∀ k, FX FD w w' k → FX F w w' k := fun k hk => hk.imp (fun h => (h3 k h).1) id
  refine ⟨he, hc.mono fun k hk => (h3 k hk).1, ⟨_, hd, hfx⟩, fun _ => ⟨fx_lt hf hc.size, hok.room hr, FX FD w w', G, hd, by rw [hr]; exact h2.chg hc (fun k hg hn => (h3 k hn).2 hg), fun k hk => ⟨hfx k hk, fun hg => ?_⟩, fun k hk => Or.inl (h4 k hk)⟩⟩
  rcases hk with hk | hk
  · exact (h3 k hk).2 hg
  · have := h2.fit k hg; omega
theorem roomD_sync (s : DS) : roomD (dSync s).2 = roomD s := by
  unfold dSync
  split
  · rfl
  · split
    · unfold dLast; split
      · rfl
      · split <;> rfl
    · unfold roomD; show (applyL s.safe s.opn).length / 2 = _; rw [applyL_len]
theorem syncJ_any (F : Nat → Prop) (lb q : Nat) (s : DS) (l : LS) (w : World) (h : JK w F lb q s l) (hn : s.opn.length ≤ 1000000) :
    Calls Try.prog 17 #[.pointer (some ⟨lb, 0, none⟩)] w (JPost F lb q w (.int .i64 (dSync s).1) (dSync s).2 l) := by
  obtain ⟨FD, G, h1, h2, h3, h4⟩ := h.ex
  obtain ⟨sv, rv, g1, -⟩ := h2.ex
  obtain ⟨c0, c1, c2, c3, c4, c5, c6⟩ := range7 g1
  have CS := Lib.hid (sync_any FD q s w h1 hn)
  have HP : Hid (∀ e w', DPost FD q w (.int .i64 (dSync s).1) (dSync s).2 e w' → JPost F lb q w (.int .i64 (dSync s).1) (dSync s).2 l e w') := fun e w' p => jk_disk h.fit h.ok h2 h3 h4 (roomD_sync s) p
  clear g1 h1 h2 h3 h4 h hn c1 c2 c3 c4 c5 c6
  generalize (dSync s).1 = r at *
  generalize (dSync s).2 = s2 at *
  go_enter Try.func17, Try.ntmps17
  go_wp2_with (go_at_call 27; ((with_reducible refine CS.out.mono ?_); rintro e w1 ⟨rfl, hp⟩; have H1 := Lib.hid (HP.out _ _ ⟨rfl, hp⟩); clear hp))
  go_ret
  exact H1.out

/-! ### what a half holds -/
theorem recsF_bounds {f : Nat → Blk} {room g : Nat} (n at' k : Nat) (ha : at' ≤ room) : (recsF f room g n at' k).1.length + at' ≤ (recsF f room g n at' k).2 ∧ (recsF f room g n at' k).2 ≤ room ∧ ∀ r ∈ (recsF f room g n at' k).1, r.length ≤ 65536 := by
  induction n generalizing at' k with
  | zero => exact ⟨by simp [recsF], ha, by simp [recsF]⟩
  | succ n ih =>
    unfold recsF
    cases e : rowAt f room at' with
    | none => exact ⟨by simp, ha, by simp⟩
    | some x =>
      obtain ⟨g2, k2, p, nb⟩ := x
      have hb := rowAt_blocks e
      dsimp only
      split
      · obtain ⟨i1, i2, i3⟩ := ih (at' + nb) (k + 1) (by omega)
        refine ⟨by simp only [List.length_cons]; omega, i2, fun r hr => ?_⟩
        rcases List.mem_cons.1 hr with rfl | hr
        · exact (rowAt_small e).2
        · exact i3 r hr
      · exact ⟨by simp, ha, by simp⟩
theorem partOf_ok (s : DS) (h : Nat) (h2 : h < 2) : LOK s (partOf s h) := by
  unfold partOf partF
  cases e : rowAt (halfF s h) (roomD s) 0 with
  | none => exact ⟨h2, Nat.zero_le _, Nat.le_refl _, Nat.zero_le _, by simp, by simp⟩
  | some x =>
    obtain ⟨g, k, p, nb⟩ := x
    have hb := rowAt_blocks e
    dsimp only
    by_cases hc : k = 0 ∧ 1 ≤ g
    · rw [if_pos hc]
      obtain ⟨i1, i2, i3⟩ := recsF_bounds (f := halfF s h) (g := g) (roomD s) nb 1 (by omega : nb ≤ roomD s)
      exact ⟨h2, i2, by dsimp only; omega, (rowAt_small e).1, (rowAt_small e).2, i3⟩
    · rw [if_neg hc]
      exact ⟨h2, Nat.zero_le _, Nat.le_refl _, Nat.zero_le _, by simp, by simp⟩
theorem lPick_ok (s : DS) : LOK s (lPick s) := by
  unfold lPick
  split
  · exact partOf_ok s 0 (by omega)
  · exact partOf_ok s 1 (by omega)
end Go.Proofs.Ythnhhhfjgbgpgaa.NumK
namespace Go.Proofs.Ythnhhhfjgbgpgaa.NumK
open Go.RowKit

/-- What Open tells of a disk. -/
def OpenPost (F : Nat → Prop) (q : Nat) (s : DS) (w : World) (e : Ending) (w' : World) : Prop :=
  Grew w w' ∧ ((lOpen s ≠ 0 ∧ e = .returned (.tuple #[.pointer none, .int .i64 (lOpen s)])) ∨
    (lOpen s = 0 ∧ ∃ lb, e = .returned (.tuple #[.pointer (some ⟨lb, 0, none⟩), .int .i64 0]) ∧ w.heap.size ≤ lb ∧ JK w' (FX F w w') lb q s (lPick s)))
theorem openJ_end {F : Nat → Prop} {q : Nat} {s : DS} {w w' : World} {lb h : Nat} {sv rv : Value} (hd : DK w F q s) (h2 : h < 2) (ho : lOpen s = 0) (hp : lPick s = partOf s h) (g : Grew w w') (hl : w.heap.size ≤ lb) (hlt : lb < w'.heap.size)
    (h1 : w'.rangeAt lb 0 (logC q false (h * roomD s) (partOf s h).gen sv rv (h * roomD s + (partOf s h).fin))) (ht : w'.there lb 0 7) (hs : SlB w' (lb + 1) sv (partOf s h).snap) (hr : RowsO w' (lb + 1) rv (partOf s h).recs) :
    OpenPost F q s w (.returned (.tuple #[.pointer (some ⟨lb, 0, none⟩), .int .i64 0])) w' := by
  refine ⟨g, Or.inr ⟨ho, lb, rfl, hl, ?_⟩⟩
  rw [hp]
  refine ⟨fx_lt hd.fit g.size, partOf_ok s h h2, F, fun k => w.heap.size ≤ k ∧ k < w'.heap.size, hd.grew g, ⟨fun k hk => hk.2, ⟨hl, hlt⟩, sv, rv, ?_, ht, hs.mono (Nat.zero_le _), fun k hk => ?_, hr.toG fun k hk1 hk2 => ⟨⟨by omega, hk2⟩, by omega⟩⟩, fun k hk => ⟨Or.inl hk, fun hg => ?_⟩, fun k hk => Or.inr hk⟩
  · have hb : (partOf s h).begun = false := by
      unfold partOf
      cases partF (halfF s h) (roomD s) with
      | none => rfl
      | some x => rfl
    rw [hb, partOf_half]
    exact h1
  · have := World.ownsRow.lt hs k hk
    exact ⟨⟨by omega, this.2⟩, by omega⟩
  · have := hd.fit k hk; omega
/-- The half of a log is stored whole. -/
theorem log_put {w : World} {b : Nat} {c0 c1 c2 c3 c4 c5 c6 d0 d1 d2 d3 d4 : Value} (h : w.rangeAt b 0 [c0, c1, c2, c3, c4, c5, c6]) (ht : w.there b 0 7) :
    (w.setCells b 2 [d0, d1, d2, d3, d4]).rangeAt b 0 [c0, c1, d0, d1, d2, d3, d4] ∧ (w.setCells b 2 [d0, d1, d2, d3, d4]).there b 0 7 ∧ w.there b 2 5 := by
  have ht2 : w.there b 2 5 := fun j hj => by
    have := ht (2 + j) (by omega)
    rwa [Nat.zero_add] at this
  have hs := World.rangeAt_setCells_same w b 2 [d0, d1, d2, d3, d4] ht2
  refine ⟨fun j v hv => ?_, World.there_setCells ht _ _ _, ht2⟩
  match j, hv with
  | 0, hv => rw [World.cell?_setCells_out _ _ _ _ _ (fun _ _ => Or.inl (by show 0 + 0 < 2; omega))]; rw [← hv]; exact h 0 _ rfl
  | 1, hv => rw [World.cell?_setCells_out _ _ _ _ _ (fun _ _ => Or.inl (by show 0 + 1 < 2; omega))]; rw [← hv]; exact h 1 _ rfl
  | 2, hv => rw [← hv]; exact hs 0 _ rfl
  | 3, hv => rw [← hv]; exact hs 1 _ rfl
  | 4, hv => rw [← hv]; exact hs 2 _ rfl
  | 5, hv => rw [← hv]; exact hs 3 _ rfl
  | 6, hv => rw [← hv]; exact hs 4 _ rfl
set_option maxRecDepth 100000 in
set_option maxHeartbeats 4000000 in
theorem openJ_any (F : Nat → Prop) (q : Nat) (s : DS) (w : World) (h : DK w F q s) :
    Calls Try.prog 15 #[.pointer (some ⟨q, 0, none⟩)] w (OpenPost F q s w) := by
  have CO := Lib.hid (off_any F q s w h)
  have CB := Lib.hid (blocks_any F q s w h)
  cases hoff : s.off with
  | true =>
    rw [hoff] at CO
    have HP : Hid (OpenPost F q s w (.returned (.tuple #[.pointer none, .int .i64 7])) w) := ⟨grew_refl _, Or.inl ⟨by unfold lOpen; rw [hoff]; simp, by unfold lOpen; rw [hoff]; rfl⟩⟩
    clear h
    go_enter Try.func15, Try.ntmps15
    go_wp2_with (go_at_call 39; ((with_reducible refine CO.out.mono ?_); rintro e w1 ⟨rfl, rfl⟩))
    go_ret2
    exact HP.out
  | false =>
    rw [hoff] at CO
    by_cases h4 : s.safe.length < 4
    · have j1 : (s.safe.length : Int) < 4 := by omega
      have HP : Hid (OpenPost F q s w (.returned (.tuple #[.pointer none, .int .i64 3])) w) := ⟨grew_refl _, Or.inl ⟨by unfold lOpen; rw [hoff, if_neg (by simp), if_pos h4]; decide, by unfold lOpen; rw [hoff, if_neg (by simp), if_pos h4]⟩⟩
      clear h h4
      generalize s.safe.length = n at *
      go_enter Try.func15, Try.ntmps15
      go_wp2_with (first
        | (go_at_call 39; ((with_reducible refine CO.out.mono ?_); rintro e w1 ⟨rfl, rfl⟩))
        | (go_at_call 40; ((with_reducible refine CB.out.mono ?_); rintro e w1 ⟨rfl, rfl⟩)))
      go_ret2
      exact HP.out
    · have j1 : ¬ (s.safe.length : Int) < 4 := by omega
      have hO : lOpen s = 0 := by unfold lOpen; rw [hoff, if_neg (by simp), if_neg h4]
      have hfew := h.ok.few
      have hroom : roomD s ≤ 32768 := by unfold roomD; omega
      have hroom2 : 2 * roomD s ≤ s.safe.length := by unfold roomD; omega
      have SZ : Hid (∀ w', Grew w w' → w'.cell? ⟨w.heap.size, 0, none⟩ = some (.pointer (some ⟨q, 0, none⟩)) → Calls Try.prog 41 #[.pointer (some ⟨w.heap.size, 0, none⟩)] w' fun e w2 => e = .returned (.int .i64 (roomD s : Int)) ∧ w' = w2) := fun w' g hc => size_any F _ q s w' (h.grew g) hc
      have R0 := Lib.hid (fun w' (g : Grew w w') => readHalf_any F q s 0 (roomD s) w' (h.grew g) hoff (by omega) (by omega))
      have R1 := Lib.hid (fun w' (g : Grew w w') => readHalf_any F q s (roomD s) (2 * roomD s) w' (h.grew g) hoff (by omega) (by omega))
      have p0 := partT_half s 0
      have p1 := partT_half s 1
      simp only [Nat.zero_mul, Nat.zero_add] at p0
      rw [Nat.one_mul, show roomD s + roomD s = 2 * roomD s by omega] at p1
      rw [p0] at R0
      rw [p1] at R1
      rw [Int.natCast_mul, show ((2 : Nat) : Int) = 2 from rfl] at R1
      have i1 : IntKind.i64.wrap (2 * (roomD s : Int)) = 2 * (roomD s : Int) := by rw [IntKind.wrap_i64]; omega
      go_enter Try.func15, Try.ntmps15
      have HE0 := Lib.hid (fun w' sv rv hp g hl hlt h1 ht hs hr => openJ_end (F := F) (q := q) (s := s) (w := w) (w' := w') (lb := w.heap.size) (h := 0) (sv := sv) (rv := rv) h (by omega) hO hp g hl hlt h1 ht hs hr)
      have HE1 := Lib.hid (fun w' sv rv hp g hl hlt h1 ht hs hr => openJ_end (F := F) (q := q) (s := s) (w := w) (w' := w') (lb := w.heap.size) (h := 1) (sv := sv) (rv := rv) h (by omega) hO hp g hl hlt h1 ht hs hr)
      simp only [Nat.zero_mul, Nat.zero_add] at HE0
      simp only [Nat.one_mul] at HE1
      have HPk : Hid (lPick s = if (partOf s 1).gen ≤ (partOf s 0).gen ∧ 0 < (partOf s 0).gen then partOf s 0 else partOf s 1) := rfl
      rw [show ((0 : Nat) : Int) = 0 from rfl] at R0
      obtain ⟨hra, hta⟩ := alloc_range w [.pointer (some ⟨q, 0, none⟩), .bool false, .int .i64 0, .int .i64 0, .slice none 0 0, .slice none 0 0, .int .i64 0] 80
      have hca : (w.alloc (.cells #[.pointer (some ⟨q, 0, none⟩), .bool false, .int .i64 0, .int .i64 0, .slice none 0 0, .slice none 0 0, .int .i64 0] 80)).cell? ⟨w.heap.size, 0, none⟩ = some (.pointer (some ⟨q, 0, none⟩)) := by simp
      have SZ1 := Lib.hid (SZ.out _ (grew_alloc _ _ _) hca)
      have hlt1 : w.heap.size < (w.alloc (.cells #[.pointer (some ⟨q, 0, none⟩), .bool false, .int .i64 0, .int .i64 0, .slice none 0 0, .slice none 0 0, .int .i64 0] 80)).heap.size := by simp
      have hsz1 : w.heap.size + 1 = (w.alloc (.cells #[.pointer (some ⟨q, 0, none⟩), .bool false, .int .i64 0, .int .i64 0, .slice none 0 0, .slice none 0 0, .int .i64 0] 80)).heap.size := by simp
      have hga := grew_alloc w #[.pointer (some ⟨q, 0, none⟩), .bool false, .int .i64 0, .int .i64 0, .slice none 0 0, .slice none 0 0, .int .i64 0] 80
      have HRA := Lib.hid hra
      have HTA : Hid (World.there _ _ 0 7) := hta
      have CBB := CB
      clear hra hta h SZ p0 p1 CB hca h4
      generalize s.safe.length = n at *
      generalize partOf s 0 = P0 at *
      generalize partOf s 1 = P1 at *
      generalize roomD s = room at *
      go_upto_region 7 with (first
        | (go_at_call 39; ((with_reducible refine CO.out.mono ?_); rintro e w1 ⟨rfl, rfl⟩))
        | (go_at_call 40; ((with_reducible refine CBB.out.mono ?_); rintro e w1 ⟨rfl, rfl⟩))
        | (go_at_call 41; ((with_reducible refine SZ1.out.mono ?_); rintro e w1 ⟨rfl, rfl⟩)))
      generalize w.alloc (.cells #[.pointer (some ⟨q, 0, none⟩), .bool false, .int .i64 0, .int .i64 0, .slice none 0 0, .slice none 0 0, .int .i64 0] 80) = w1 at *
      change Hid (World.rangeAt w1 w.heap.size 0 [.pointer (some ⟨q, 0, none⟩), .bool false, .int .i64 0, .int .i64 0, .slice none 0 0, .slice none 0 0, .int .i64 0]) at HRA
      have R01 := Lib.hid (R0.out w1 hga)
      go_upto_region 8 with (first
        | (go_at_call 42; ((with_reducible refine R01.out.mono ?_); rintro e w2 ⟨hg2, sv, rv, rfl, hs0, hr0⟩; obtain ⟨Asv, csv, rfl⟩ := SlB.form hs0; obtain ⟨Arv, crv, rfl⟩ := RowsO.form hr0; have hb1 := hg2.block w.heap.size hlt1; obtain ⟨hrp, htp, htp2⟩ := log_put (d0 := .int .i64 0) (d1 := .int .i64 (P0.gen : Int)) (d2 := .slice Asv P0.snap.length csv) (d3 := .slice Arv P0.recs.length crv) (d4 := .int .i64 (P0.fin : Int)) (rangeAt_of HRA.out hb1) (there_of HTA.out hb1)))
        | (refine wpList_store_cells (by rfl) 78 _ _ (by rfl) w.heap.size 2 _ (by rfl) (by rfl) 5 rfl htp2 (sizeHalf rfl) (one5 rfl rfl rfl rfl rfl) ?_))
      have hc3 : Chg (fun k => k = w.heap.size) w2 (w2.setCells w.heap.size 2 [.int .i64 0, .int .i64 (P0.gen : Int), .slice Asv P0.snap.length csv, .slice Arv P0.recs.length crv, .int .i64 (P0.fin : Int)]) := (Chg.refl _ _).setCells _ _ _ (fun _ => rfl)
      have hS0 : SlB (w2.setCells w.heap.size 2 [.int .i64 0, .int .i64 (P0.gen : Int), .slice Asv P0.snap.length csv, .slice Arv P0.recs.length crv, .int .i64 (P0.fin : Int)]) (w.heap.size + 1) (.slice Asv P0.snap.length csv) P0.snap :=
        SlB.above (SlB.mono hs0 (by omega)) (fun k h1 h2 => hc3.block k h2 (by omega))
      have hR0 : RowsO (w2.setCells w.heap.size 2 [.int .i64 0, .int .i64 (P0.gen : Int), .slice Asv P0.snap.length csv, .slice Arv P0.recs.length crv, .int .i64 (P0.fin : Int)]) (w.heap.size + 1) (.slice Arv P0.recs.length crv) P0.recs :=
        RowsO.above (RowsO.mono hr0 (by omega)) (fun k h1 h2 => hc3.block k h2 (by omega))
      have hG3 : Grew w (w2.setCells w.heap.size 2 [.int .i64 0, .int .i64 (P0.gen : Int), .slice Asv P0.snap.length csv, .slice Arv P0.recs.length crv, .int .i64 (P0.fin : Int)]) := Chg.grew (grew_trans hga hg2) hc3 (fun k hk => by omega)
      have hl3 : w.heap.size < (w2.setCells w.heap.size 2 [.int .i64 0, .int .i64 (P0.gen : Int), .slice Asv P0.snap.length csv, .slice Arv P0.recs.length crv, .int .i64 (P0.fin : Int)]).heap.size := by have := hg2.size; have := hc3.size; omega
      have HRP := Lib.hid hrp
      have HTP := Lib.hid htp
      clear hrp htp hc3 hs0 hr0 hb1 hg2 hga hsz1 hlt1 HRA HTA R01 SZ1
      generalize w2.setCells w.heap.size 2 [.int .i64 0, .int .i64 (P0.gen : Int), .slice Asv P0.snap.length csv, .slice Arv P0.recs.length crv, .int .i64 (P0.fin : Int)] = w3 at *
      have HS0 := Lib.hid hS0
      have HR0 := Lib.hid hR0
      clear hS0 hR0
      have R13 := Lib.hid (R1.out w3 hG3)
      go_upto_region 9 with (first
        | (go_at_call 42; ((with_reducible refine R13.out.mono ?_); rintro e w4 ⟨hg4, sv1, rv1, rfl, hs1, hr1⟩; obtain ⟨Asv1, csv1, rfl⟩ := SlB.form hs1; obtain ⟨Arv1, crv1, rfl⟩ := RowsO.form hr1)))
      obtain ⟨hrb, -⟩ := alloc_range w4 [.int .i64 (room : Int), .int .i64 (P1.gen : Int), .slice Asv1 P1.snap.length csv1, .slice Arv1 P1.recs.length crv1, .int .i64 ((room : Int) + (P1.fin : Int))] 78
      have hg45 := grew_alloc w4 #[.int .i64 (room : Int), .int .i64 (P1.gen : Int), .slice Asv1 P1.snap.length csv1, .slice Arv1 P1.recs.length crv1, .int .i64 ((room : Int) + (P1.fin : Int))] 78
      have hB : w.heap.size < w4.heap.size := Nat.lt_of_lt_of_le hl3 hg4.size
      have hg35 := grew_trans hg4 hg45
      have hbb := hg35.block w.heap.size hl3
      have hR5 := rangeAt_of HRP.out hbb
      have hT5 := there_of HTP.out hbb
      have hS05 := HS0.out.keep hg35
      have hR05 := HR0.out.keep hg35
      have hS15 := (hs1.keep hg45).mono (base2 := w.heap.size + 1) (by omega)
      have hR15 := (hr1.keep hg45).mono (base2 := w.heap.size + 1) (by omega)
      have hG5 := grew_trans hG3 hg35
      have hl5 := Nat.lt_of_lt_of_le hl3 hg35.size
      clear hg4 hg45 hg35 hbb hs1 hr1 HRP HTP HS0 HR0 hG3 hl3 R13
      change World.rangeAt (w4.alloc (.cells #[.int .i64 (room : Int), .int .i64 (P1.gen : Int), .slice Asv1 P1.snap.length csv1, .slice Arv1 P1.recs.length crv1, .int .i64 ((room : Int) + (P1.fin : Int))] 78)) w4.heap.size 0 [.int .i64 (room : Int), .int .i64 (P1.gen : Int), .slice Asv1 P1.snap.length csv1, .slice Arv1 P1.recs.length crv1, .int .i64 ((room : Int) + (P1.fin : Int))] at hrb
      generalize w4.alloc (.cells #[.int .i64 (room : Int), .int .i64 (P1.gen : Int), .slice Asv1 P1.snap.length csv1, .slice Arv1 P1.recs.length crv1, .int .i64 ((room : Int) + (P1.fin : Int))] 78) = w5 at *
      generalize w4.heap.size = B at *
      obtain ⟨c0, c1, c2, c3, c4, c5, c6⟩ := range7 hR5
      obtain ⟨b0, b1, b2, b3, b4⟩ := range5 hrb
      simp only [Nat.zero_add] at b1 b2 b3 b4
      -- the first half
      have HF0 : Hid (P1.gen ≤ P0.gen ∧ 0 < P0.gen → ∀ n, OpenPost F q s w (.returned (.tuple #[.pointer (some ⟨w.heap.size, 0, none⟩), .int .i64 0])) (w5.drewN n)) := by
        intro hc n
        have gd := grew_drewN (grew_refl w5) n
        refine HE0.out _ (.slice Asv P0.snap.length csv) (.slice Arv P0.recs.length crv) (by rw [HPk.out, if_pos hc]) (grew_trans hG5 gd) (Nat.le_refl _) (Nat.lt_of_lt_of_le hl5 gd.size) (rangeAt_of hR5 (gd.block _ hl5)) (there_of hT5 (gd.block _ hl5)) (hS05.keep gd) (hR05.keep gd)
      obtain ⟨hl1, ht1, ht2⟩ := log_put (d0 := .int .i64 (room : Int)) (d1 := .int .i64 (P1.gen : Int)) (d2 := .slice Asv1 P1.snap.length csv1) (d3 := .slice Arv1 P1.recs.length crv1) (d4 := .int .i64 ((room : Int) + (P1.fin : Int))) hR5 hT5
      have HF1 : Hid (¬ (P1.gen ≤ P0.gen ∧ 0 < P0.gen) → ∀ n, OpenPost F q s w (.returned (.tuple #[.pointer (some ⟨w.heap.size, 0, none⟩), .int .i64 0])) ((w5.drewN n).setCells w.heap.size 2 [.int .i64 (room : Int), .int .i64 (P1.gen : Int), .slice Asv1 P1.snap.length csv1, .slice Arv1 P1.recs.length crv1, .int .i64 ((room : Int) + (P1.fin : Int))])) := by
        intro hc n
        have gd := grew_drewN (grew_refl w5) n
        obtain ⟨hl1, ht1, ht2⟩ := log_put (d0 := .int .i64 (room : Int)) (d1 := .int .i64 (P1.gen : Int)) (d2 := .slice Asv1 P1.snap.length csv1) (d3 := .slice Arv1 P1.recs.length crv1) (d4 := .int .i64 ((room : Int) + (P1.fin : Int))) (rangeAt_of hR5 (gd.block _ hl5)) (there_of hT5 (gd.block _ hl5))
        have hcc : Chg (fun k => k = w.heap.size) (w5.drewN n) ((w5.drewN n).setCells w.heap.size 2 [.int .i64 (room : Int), .int .i64 (P1.gen : Int), .slice Asv1 P1.snap.length csv1, .slice Arv1 P1.recs.length crv1, .int .i64 ((room : Int) + (P1.fin : Int))]) := (Chg.refl _ _).setCells _ _ _ (fun _ => rfl)
        refine HE1.out _ (.slice Asv1 P1.snap.length csv1) (.slice Arv1 P1.recs.length crv1) (by rw [HPk.out, if_neg hc]) (Chg.grew (grew_trans hG5 gd) hcc (fun k hk => by omega)) (Nat.le_refl _) (Nat.lt_of_lt_of_le (Nat.lt_of_lt_of_le hl5 gd.size) hcc.size) (by rw [← Int.natCast_add] at hl1 ⊢; exact hl1) ht1 ((hS15.keep gd).above fun k h1 h2 => hcc.block k h2 (by omega)) ((hR15.keep gd).above fun k h1 h2 => hcc.block k h2 (by omega))
      have HT2 : Hid (∀ n, (w5.drewN n).there w.heap.size 2 5) := fun n => there_of ht2 ((grew_drewN (grew_refl w5) n).block _ hl5)
      have HRB : Hid (∀ n, (w5.drewN n).rangeAt B 0 [.int .i64 (room : Int), .int .i64 (P1.gen : Int), .slice Asv1 P1.snap.length csv1, .slice Arv1 P1.recs.length crv1, .int .i64 ((room : Int) + (P1.fin : Int))]) := fun n => rangeAt_of hrb ((grew_drewN (grew_refl w5) n).block _ (World.block_lt_of_cell? w5 _ b0))
      clear HE0 HE1 HPk hS05 hR05 hS15 hR15 hG5 hR5 hT5 hl1 ht1 ht2 hrb c0 c1 c2 c4 c5 c6 b0 b2 b3 b4 R0 R1
      by_cases hz : P0.gen = 0
      · have HF := Lib.hid (HF1.out (by omega))
        rw [hz] at c3
        clear hz
        go_quiet (fail)
        have HN := Lib.hid (HF.out nq)
        have hrb2 := HRB.out nq
        have ht2 := HT2.out nq
        clear HF0 HF1 HF HT2 HRB c3 b1
        generalize w5.drewN nq = w6 at *
        go_wp2_with (first
          | (refine wpList_load_mid (by rfl) 78 _ (by rfl) B 0 (by rfl) [.int .i64 (room : Int), .int .i64 (P1.gen : Int), .slice Asv1 P1.snap.length csv1, .slice Arv1 P1.recs.length crv1, .int .i64 ((room : Int) + (P1.fin : Int))] _ hrb2 Try.underlying78 rfl (sizeHalf rfl) ?_)
          | (refine wpList_store_cells (by rfl) 78 _ _ (by rfl) w.heap.size 2 [.int .i64 (room : Int), .int .i64 (P1.gen : Int), .slice Asv1 P1.snap.length csv1, .slice Arv1 P1.recs.length crv1, .int .i64 ((room : Int) + (P1.fin : Int))] (by rfl) (by rfl) 5 rfl ht2 (sizeHalf rfl) (one5 rfl rfl rfl rfl rfl) ?_))
        go_ret2
        exact HN.out
      · have d0 : ((P0.gen : Int) == 0) = false := by simp; omega
        by_cases hg : P0.gen < P1.gen
        · have HF := Lib.hid (HF1.out (by omega))
          have d1 : (P0.gen : Int) < (P1.gen : Int) := by omega
          clear hz hg
          go_quiet (fail)
          have HN := Lib.hid (HF.out nq)
          have hrb2 := HRB.out nq
          have ht2 := HT2.out nq
          clear HF0 HF1 HF HT2 HRB c3 b1
          generalize w5.drewN nq = w6 at *
          go_wp2_with (first
            | (refine wpList_load_mid (by rfl) 78 _ (by rfl) B 0 (by rfl) [.int .i64 (room : Int), .int .i64 (P1.gen : Int), .slice Asv1 P1.snap.length csv1, .slice Arv1 P1.recs.length crv1, .int .i64 ((room : Int) + (P1.fin : Int))] _ hrb2 Try.underlying78 rfl (sizeHalf rfl) ?_)
            | (refine wpList_store_cells (by rfl) 78 _ _ (by rfl) w.heap.size 2 [.int .i64 (room : Int), .int .i64 (P1.gen : Int), .slice Asv1 P1.snap.length csv1, .slice Arv1 P1.recs.length crv1, .int .i64 ((room : Int) + (P1.fin : Int))] (by rfl) (by rfl) 5 rfl ht2 (sizeHalf rfl) (one5 rfl rfl rfl rfl rfl) ?_))
          go_ret2
          exact HN.out
        · have HF := Lib.hid (HF0.out (by omega))
          have d1 : ¬ (P0.gen : Int) < (P1.gen : Int) := by omega
          clear hz hg
          go_quiet (fail)
          have HN := Lib.hid (HF.out nq)
          clear HF0 HF1 HF HT2 HRB c3 b1
          generalize w5.drewN nq = w6 at *
          go_wp2
          go_ret2
          exact HN.out
end Go.Proofs.Ythnhhhfjgbgpgaa.NumK
