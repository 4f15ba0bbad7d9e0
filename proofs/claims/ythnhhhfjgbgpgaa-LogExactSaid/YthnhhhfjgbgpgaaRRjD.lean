/- The document's journal: Part. -/
import Derived.Test.YthnhhhfjgbgpgaaRRjC
import Derived.Test.YthnhhhfjgbgpgaaRJnD
namespace Go.Proofs.Ythnhhhfjgbgpgaa.NumK
open Go.RowKit

/-! ### a log of the document's, in memory -/
def logR (q half gen : Nat) (sv rv : Value) (fin : Nat) (b : Bool) : List Value := [.pointer (some ⟨q, 0, none⟩), .int .i64 (half : Int), .int .i64 (gen : Int), sv, rv, .int .i64 (fin : Int), .bool b]
structure RLM (w : World) (G : Nat → Prop) (lb q : Nat) (l : LS) : Prop where
  fit : ∀ k, G k → k < w.heap.size
  here : G lb
  ex : ∃ sv rv, w.rangeAt lb 0 (logR q l.half l.gen sv rv l.fin l.begun) ∧ w.there lb 0 7 ∧ SlB w 0 sv l.snap ∧ (∀ k, sv.ownBlock = some k → G k ∧ k ≠ lb) ∧ RowsG w (fun k => G k ∧ k ≠ lb) rv l.recs
theorem RLM.of {w w' : World} {G : Nat → Prop} {lb q : Nat} {l : LS} (h : RLM w G lb q l) (hs : w.heap.size ≤ w'.heap.size) (hb : ∀ k, G k → w'.heap[k]? = w.heap[k]?) : RLM w' G lb q l := by
  obtain ⟨sv, rv, h1, h2, h3, h4, h5⟩ := h.ex
  exact ⟨fun k hk => Nat.lt_of_lt_of_le (h.fit k hk) hs, h.here, sv, rv, rangeAt_of h1 (hb lb h.here), there_of h2 (hb lb h.here), h3.of fun k hk => hb k (h4 k hk).1, h4, h5.of fun k hk _ => hb k hk.1⟩
theorem RLM.chg {w w' : World} {G N : Nat → Prop} {lb q : Nat} {l : LS} (h : RLM w G lb q l) (g : Chg N w w') (hn : ∀ k, G k → ¬ N k) : RLM w' G lb q l := h.of g.size fun k hk => g.block k (h.fit k hk) (hn k hk)
theorem RLM.grew {w w' : World} {G : Nat → Prop} {lb q : Nat} {l : LS} (h : RLM w G lb q l) (g : Grew w w') : RLM w' G lb q l := h.of g.size fun k hk => g.block k (h.fit k hk)
theorem RLM.more {w : World} {G G2 : Nat → Prop} {lb q : Nat} {l : LS} (h : RLM w G lb q l) (hG : ∀ k, G k → G2 k) (hf : ∀ k, G2 k → k < w.heap.size) : RLM w G2 lb q l := by
  obtain ⟨sv, rv, h1, h2, h3, h4, h5⟩ := h.ex
  exact ⟨hf, hG _ h.here, sv, rv, h1, h2, h3, fun k hk => ⟨hG k (h4 k hk).1, (h4 k hk).2⟩, h5.mono fun k hk => ⟨hG k hk.1, hk.2⟩⟩

theorem partOf_none {s : DS} {hf : Nat} (h : ∀ g k p n, rowAt (halfF s hf) (roomD s) 0 = some (g, k, p, n) → ¬ (k = 0 ∧ 1 ≤ g)) : partOf s hf = ⟨hf, 0, [], [], 0, false⟩ := by
  have : partF (halfF s hf) (roomD s) = none := by
    unfold partF
    cases e : rowAt (halfF s hf) (roomD s) 0 with
    | none => rfl
    | some x =>
      obtain ⟨g, k, p, n⟩ := x
      dsimp only
      rw [if_neg (h g k p n e)]
  unfold partOf
  rw [this]
theorem partOf_some {s : DS} {hf g n : Nat} {p : List UInt8} {rs : List (List UInt8)} {e : Nat} (h : rowAt (halfF s hf) (roomD s) 0 = some (g, 0, p, n)) (hg : 1 ≤ g) (hr : recsF (halfF s hf) (roomD s) g (roomD s) n 1 = (rs, e)) : partOf s hf = ⟨hf, g, p, rs, e, false⟩ := by
  have : partF (halfF s hf) (roomD s) = some (g, p, rs, e) := by
    unfold partF
    rw [h]
    dsimp only
    rw [if_pos ⟨rfl, hg⟩, hr]
  unfold partOf
  rw [this]

def RPartPost (q : Nat) (l : LS) (w : World) (e : Ending) (w' : World) : Prop :=
  Grew w w' ∧ ∃ lb, w.heap.size ≤ lb ∧ e = .returned (.pointer (some ⟨lb, 0, none⟩)) ∧ RLM w' (fun k => w.heap.size ≤ k ∧ k < w'.heap.size) lb q l

theorem rpart_mk {w w' : World} {q : Nat} {l : LS} {sv rv : Value} (hg : Grew w w') (hlt : w.heap.size < w'.heap.size) (h1 : w'.rangeAt w.heap.size 0 (logR q l.half l.gen sv rv l.fin l.begun)) (h2 : w'.there w.heap.size 0 7)
    (h3 : SlB w' (w.heap.size + 1) sv l.snap) (h4 : RowsO w' (w.heap.size + 1) rv l.recs) : RPartPost q l w (.returned (.pointer (some ⟨w.heap.size, 0, none⟩))) w' :=
  ⟨hg, w.heap.size, Nat.le_refl _, rfl, fun k hk => hk.2, ⟨Nat.le_refl _, hlt⟩, sv, rv, h1, h2, SlB.mono h3 (Nat.zero_le _), fun k hk => by
    obtain ⟨a, b⟩ := World.ownsRow.lt h3 k hk
    exact ⟨⟨by omega, b⟩, by omega⟩, h4.toG fun k a b => ⟨⟨by omega, b⟩, by omega⟩⟩

theorem set3_log {w : World} {b : Nat} {c0 c1 c2 c3 c4 c5 c6 : Value} (h : w.rangeAt b 0 [c0, c1, c2, c3, c4, c5, c6]) (x y z : Value) :
    (((w.setCell ⟨b, 2, none⟩ x).setCell ⟨b, 3, none⟩ y).setCell ⟨b, 5, none⟩ z).rangeAt b 0 [c0, c1, x, y, c4, z, c6] := by
  have h1 := rangeAt_set h 2 (by simp) x
  have h2 := rangeAt_set h1 3 (by simp) y
  have h3 := rangeAt_set h2 5 (by simp) z
  simpa using h3
theorem set2_log {w : World} {b : Nat} {c0 c1 c2 c3 c4 c5 c6 : Value} (h : w.rangeAt b 0 [c0, c1, c2, c3, c4, c5, c6]) (x z : Value) :
    ((w.setCell ⟨b, 4, none⟩ x).setCell ⟨b, 5, none⟩ z).rangeAt b 0 [c0, c1, c2, c3, x, z, c6] := by
  have h1 := rangeAt_set h 4 (by simp) x
  have h2 := rangeAt_set h1 5 (by simp) z
  simpa using h2

set_option maxRecDepth 100000 in
set_option maxHeartbeats 4000000 in
theorem rpart_any (F : Nat → Prop) (q : Nat) (s : DS) (hf : Nat) (w : World) (h : RK w F q s) (h2 : hf < 2) (hop : s.opn.length ≤ 1000000) :
    Calls Try.prog 43 #[.pointer (some ⟨q, 0, none⟩), .int .i64 (hf : Int)] w (RPartPost q (partOf s hf) w) := by
  have hfew := h.ok.few
  have hrm : roomD s ≤ 32768 := by unfold roomD; omega
  have R0 := Lib.hid (fun w' (g : Grew w w') (k : Nat) (hk : k ≤ 32768) => rrow_any F q s hf k w' (h.grew g) h2 (by omega) hop)
  have R1 : Hid (∀ w', Grew w w' → Calls Try.prog 58 #[.pointer (some ⟨q, 0, none⟩), .int .i64 (hf : Int), .int .i64 0] w' (RRowPost (rowAt (halfF s hf) (roomD s) 0) w')) := fun w' g => R0.out w' g 0 (by omega)
  clear h hop
  obtain ⟨hra, hta⟩ := alloc_range w [.pointer (some ⟨q, 0, none⟩), .int .i64 (hf : Int), .int .i64 0, .slice none 0 0, .slice none 0 0, .int .i64 0, .bool false] 72
  have HRA := Lib.hid hra
  have HTA : Hid (World.there _ _ 0 7) := hta
  clear hra hta
  have hPN := Lib.hid (fun h => partOf_none (s := s) (hf := hf) h)
  have HN0 : Hid (∀ w', Grew (w.alloc (.cells #[.pointer (some ⟨q, 0, none⟩), .int .i64 (hf : Int), .int .i64 0, .slice none 0 0, .slice none 0 0, .int .i64 0, .bool false] 72)) w' → partOf s hf = ⟨hf, 0, [], [], 0, false⟩ → RPartPost q (partOf s hf) w (.returned (.pointer (some ⟨w.heap.size, 0, none⟩))) w') := fun w' g hp => by
    rw [hp]
    have hlt : w.heap.size < w'.heap.size := by have := g.size; simp at this; omega
    exact rpart_mk (l := ⟨hf, 0, [], [], 0, false⟩) (grew_trans (grew_alloc _ _ _) g) hlt (rangeAt_of HRA.out (g.block _ (by simp))) (there_of HTA.out (g.block _ (by simp))) (SlB.nil _ _) (RowsO.nil _ _)
  cases hr0 : rowAt (halfF s hf) (roomD s) 0 with
  | none =>
    have hp := hPN.out (fun g k p n h => by rw [hr0] at h; cases h)
    have C1 : Hid (∀ w', Grew w w' → Calls Try.prog 58 #[.pointer (some ⟨q, 0, none⟩), .int .i64 (hf : Int), .int .i64 0] w' fun e w'' => ∃ (a b c : Int) (v : Value), e = .returned (.tuple #[.int .i64 a, .int .i64 b, v, .int .i64 c, .bool false]) ∧ Grew w' w'') := fun w' g => (R1.out w' g).mono fun e w'' ⟨hg, hor⟩ => by
      rcases hor with ⟨_, a, b, c, v, he⟩ | ⟨g2, k, p, nb, v, hr, _⟩
      · exact ⟨a, b, c, v, he, hg⟩
      · rw [hr0] at hr; cases hr
    have HN := Lib.hid (fun w' g => HN0.out w' g hp)
    clear HN0 R0 R1 hp hr0 hPN HRA HTA
    go_enter Try.func43, Try.ntmps43
    go_wp2_with (go_at_call 58; ((with_reducible refine (C1.out _ (grew_alloc _ _ _)).mono ?_); rintro e w1 ⟨a, b, c, v, rfl, hg⟩; have HG1 := Lib.hid hg; clear hg))
    go_ret
    exact HN.out _ HG1.out
  | some x =>
    obtain ⟨G, K, p, NB⟩ := x
    have C1 : Hid (∀ w', Grew w w' → Calls Try.prog 58 #[.pointer (some ⟨q, 0, none⟩), .int .i64 (hf : Int), .int .i64 0] w' fun e w'' => ∃ (A1 : Option Addr) (n1 : Nat), e = .returned (.tuple #[.int .i64 (G : Int), .int .i64 (K : Int), .slice A1 p.length n1, .int .i64 (NB : Int), .bool true]) ∧ SlB w'' w'.heap.size (.slice A1 p.length n1) p ∧ Grew w' w'') := fun w' g => (R1.out w' g).mono fun e w'' ⟨hg, hor⟩ => by
      rcases hor with ⟨hr, _⟩ | ⟨g2, k, p2, nb, v, hr, he, ho⟩
      · rw [hr0] at hr; cases hr
      · rw [hr0] at hr
        simp only [Option.some.injEq, Prod.mk.injEq] at hr
        obtain ⟨rfl, rfl, rfl, rfl⟩ := hr
        obtain ⟨A1, n1, rfl⟩ := SlB.form ho
        exact ⟨A1, n1, he, ho, hg⟩
    by_cases hk : K = 0 ∧ 1 ≤ G
    · obtain ⟨rfl, hG1⟩ := hk
      have d1 : ¬ (G : Int) < 1 := by omega
      have hNB := rowAt_blocks hr0
      have HRI : Hid (RI (halfF s hf) (roomD s) G NB [] NB) := RI.start (by omega)
      have HPS := Lib.hid (fun rs e (h : recsF (halfF s hf) (roomD s) G (roomD s) NB 1 = (rs, e)) => partOf_some (s := s) (hf := hf) hr0 hG1 h)
      clear HN0 R1 hr0 hPN hG1
      obtain ⟨lb, hlb⟩ : ∃ lb, lb = w.heap.size := ⟨_, rfl⟩
      have HLB := Lib.hid hlb
      clear hlb
      go_enter Try.func43, Try.ntmps43
      go_upto_region 3 with (go_at_call 58; ((with_reducible refine (C1.out _ (grew_alloc _ _ _)).mono ?_); rintro e w1 ⟨A1, n1, rfl, hsl, hg⟩; have hr1 := rangeAt_of HRA.out (hg.block _ (by simp)); have ht1 := there_of HTA.out (hg.block _ (by simp)); rw [← HLB.out] at hr1 ht1 ⊢; obtain ⟨c0, c1, c2, c3, c4, c5, c6⟩ := range7 hr1; have f2 := (ht1 2 (by omega)).2; have f3 := (ht1 3 (by omega)).2; have f5 := (ht1 5 (by omega)).2; simp only [Nat.zero_add] at f2 f3 f5; have HR1 := Lib.hid hr1; have HT1 : Hid (w1.there lb 0 7) := ht1; have HSL := Lib.hid hsl; have HG1 := Lib.hid hg; clear hg hsl hr1 ht1))
      go_upto_region 5 with (fail)
      go_wp2
      generalize Value.slice A1 p.length n1 = v at *
      have hs1 : lb + 1 ≤ w1.heap.size := by have := HG1.out.size; have := HLB.out; simp at *; omega
      have hsl1 : SlB w1 (lb + 1) v p := by have := HSL.out; simp at this; rw [← HLB.out] at this; exact this
      have hC : Chg (fun k => k = lb) w1 (((w1.setCell ⟨lb, 2, none⟩ (.int .i64 (G : Int))).setCell ⟨lb, 3, none⟩ v).setCell ⟨lb, 5, none⟩ (.int .i64 (NB : Int))) := (((Chg.refl (fun k => k = lb) w1).setCell ⟨lb, 2, none⟩ _ (fun _ => rfl)).setCell ⟨lb, 3, none⟩ _ (fun _ => rfl)).setCell ⟨lb, 5, none⟩ _ (fun _ => rfl)
      have HH2 : Hid ((((w1.setCell ⟨lb, 2, none⟩ (.int .i64 (G : Int))).setCell ⟨lb, 3, none⟩ v).setCell ⟨lb, 5, none⟩ (.int .i64 (NB : Int))).rangeAt lb 0 (logR q hf G v (.slice none 0 0) NB false)) := set3_log HR1.out _ _ _
      have HT2 : Hid ((((w1.setCell ⟨lb, 2, none⟩ (.int .i64 (G : Int))).setCell ⟨lb, 3, none⟩ v).setCell ⟨lb, 5, none⟩ (.int .i64 (NB : Int))).there lb 0 7) := there_set (there_set (there_set HT1.out _ _) _ _) _ _
      have HSL2 : Hid (SlB (((w1.setCell ⟨lb, 2, none⟩ (.int .i64 (G : Int))).setCell ⟨lb, 3, none⟩ v).setCell ⟨lb, 5, none⟩ (.int .i64 (NB : Int))) (lb + 1) v p) := hsl1.above fun k h1 h2 => hC.block k h2 (by omega)
      have HG2 : Hid (Grew w (((w1.setCell ⟨lb, 2, none⟩ (.int .i64 (G : Int))).setCell ⟨lb, 3, none⟩ v).setCell ⟨lb, 5, none⟩ (.int .i64 (NB : Int)))) := Chg.grew (grew_trans (grew_alloc _ _ _) HG1.out) hC (fun k hk => by have := HLB.out; omega)
      have hs2 : lb + 1 ≤ (((w1.setCell ⟨lb, 2, none⟩ (.int .i64 (G : Int))).setCell ⟨lb, 3, none⟩ v).setCell ⟨lb, 5, none⟩ (.int .i64 (NB : Int))).heap.size := Nat.le_trans hs1 hC.size
      clear c0 c1 c2 c3 c4 c5 c6 f2 f3 f5 HR1 HT1 HSL hC hsl1 hs1 HG1 HRA HTA C1 d1
      generalize ((w1.setCell ⟨lb, 2, none⟩ (.int .i64 (G : Int))).setCell ⟨lb, 3, none⟩ v).setCell ⟨lb, 5, none⟩ (.int .i64 (NB : Int)) = w2 at *
      go_loopw [] (fun wr => ∃ (e : Nat) (rs : List (List UInt8)) (rv : Value), Hid (RI (halfF s hf) (roomD s) G NB rs e) ∧ Hid (wr.rangeAt lb 0 (logR q hf G v rv e false)) ∧ Hid (wr.there lb 0 7) ∧ Hid (RowsO wr w2.heap.size rv rs) ∧ Hid (Chg (fun k => k = lb) w2 wr)) (fun wr => roomD s - cellN wr ⟨lb, 5, none⟩)
      case atStart => exact ⟨_, _, _, HRI, HH2, HT2, RowsO.nil _ _, Chg.refl _ _⟩
      case round =>
        obtain ⟨e, rs, rv, HI, HH, HT, HRO, HC⟩ := hrel
        clear HRI HH2 HT2
        have hGw : Grew w wr := Chg.grew HG2.out HC.out (fun k hk => by have := HLB.out; omega)
        have hws := HC.out.size
        have hel := HI.out.le
        have RQ := Lib.hid (R0.out wr hGw e (by omega))
        have hHr : lb < wr.heap.size := by omega
        have HFin : Hid (∀ w', Grew wr w' → (∀ g2 k2 p2 nb, rowAt (halfF s hf) (roomD s) e = some (g2, k2, p2, nb) → ¬ (g2 = G ∧ k2 = rs.length + 1)) → RPartPost q (partOf s hf) w (.returned (.pointer (some ⟨lb, 0, none⟩))) w') := fun w' g hst => by
          rw [HPS.out rs e (HI.out.stop hst)]
          have hb := g.block lb hHr
          have := rpart_mk (l := ⟨hf, G, p, rs, e, false⟩) (grew_trans hGw g) (by have := g.size; have := HLB.out; omega) (by rw [← HLB.out]; exact rangeAt_of HH.out hb) (by rw [← HLB.out]; exact there_of HT.out hb)
            (by rw [← HLB.out]; exact (HSL2.out.above (fun k h1 h2 => HC.out.block k h2 (by omega))).keep g) (by rw [← HLB.out]; exact (HRO.out.mono hs2).keep g)
          rw [← HLB.out] at this
          exact this
        obtain ⟨c0, c1, c2, c3, c4, c5, c6⟩ := range7 HH.out
        have hM := Lib.hid (cellN_of c5)
        cases hre : rowAt (halfF s hf) (roomD s) e with
        | none =>
          have C2 : Hid (Calls Try.prog 58 #[.pointer (some ⟨q, 0, none⟩), .int .i64 (hf : Int), .int .i64 (e : Int)] wr fun e' w'' => ∃ (a b c : Int) (v : Value), e' = .returned (.tuple #[.int .i64 a, .int .i64 b, v, .int .i64 c, .bool false]) ∧ Grew wr w'') := RQ.out.mono fun e' w'' ⟨hg, hor⟩ => by
            rcases hor with ⟨_, a, b, c, v, he⟩ | ⟨g2, k, p, nb, v, hr, _⟩
            · exact ⟨a, b, c, v, he, hg⟩
            · rw [hre] at hr; cases hr
          have HF := Lib.hid (fun w' g => HFin.out w' g (fun g2 k2 p2 nb h => by rw [hre] at h; cases h))
          clear HFin RQ hre R0 HI HH HT HRO HC HPS HG2 HSL2 hM hGw
          go_wp2_with (go_at_call 58; ((with_reducible refine C2.out.mono ?_); rintro e' w3 ⟨a, b, c, v, rfl, hg⟩; have HG3 := Lib.hid hg; clear hg))
          go_ret
          exact HF.out _ HG3.out
        | some x =>
          obtain ⟨G2, K2, p2, NB2⟩ := x
          have C2 : Hid (Calls Try.prog 58 #[.pointer (some ⟨q, 0, none⟩), .int .i64 (hf : Int), .int .i64 (e : Int)] wr fun e' w'' => ∃ (A2 : Option Addr) (c2 : Nat), e' = .returned (.tuple #[.int .i64 (G2 : Int), .int .i64 (K2 : Int), .slice A2 p2.length c2, .int .i64 (NB2 : Int), .bool true]) ∧ SlB w'' wr.heap.size (.slice A2 p2.length c2) p2 ∧ Grew wr w'') := RQ.out.mono fun e' w'' ⟨hg, hor⟩ => by
            rcases hor with ⟨hr, _⟩ | ⟨g2, k, p3, nb, v, hr, he, ho⟩
            · rw [hre] at hr; cases hr
            · rw [hre] at hr
              simp only [Option.some.injEq, Prod.mk.injEq] at hr
              obtain ⟨rfl, rfl, rfl, rfl⟩ := hr
              obtain ⟨A2, c2, rfl⟩ := SlB.form ho
              exact ⟨A2, c2, he, ho, hg⟩
          have hrsl := HI.out.few
          obtain ⟨Av, cv, rfl⟩ := HRO.out.form
          have i2 : IntKind.i64.wrap ((rs.length : Int) + 1) = (rs.length : Int) + 1 := by rw [IntKind.wrap_i64]; omega
          by_cases hgk : G2 = G ∧ K2 = rs.length + 1
          · obtain ⟨rfl, rfl⟩ := hgk
            have HI2 := Lib.hid (HI.out.step hre)
            have hnb2 := rowAt_blocks hre
            have hlt2 := rowAt_lt hre
            obtain ⟨xs, hx1, hx2⟩ := HRO.out
            have HX1 := Lib.hid hx1
            have HX2 := Lib.hid hx2
            have hbd : rs.length + 1 ≤ 1000000000 := by omega
            clear HFin RQ hre R0 HPS HI hx1 hx2
            go_upto_region 9 with (go_at_call 58; ((with_reducible refine C2.out.mono ?_); rintro e' w3 ⟨A2, c2', rfl, hsl2, hg⟩; have c4' := (grew_cell hg (p := ⟨lb, 4, none⟩) hHr).trans c4; have HG3 := Lib.hid hg; have HS2 := Lib.hid hsl2; clear hg hsl2))
            have hw3 := HG3.out.size
            have hb3 := HG3.out.block lb hHr
            have HH3 := Lib.hid (rangeAt_of HH.out hb3)
            have HT3 : Hid (w3.there lb 0 7) := there_of HT.out hb3
            have hx1' := ownR_grew HX1.out HG3.out
            have hx2' : ∀ j, j < rs.length → ∃ x, xs[j]? = some x ∧ SlB w3 w2.heap.size x (rs.getD j []) := fun j hj => by obtain ⟨x, hx, hs⟩ := HX2.out j hj; exact ⟨x, hx, hs.keep HG3.out⟩
            have hsl3 : SlB w3 w2.heap.size (.slice A2 p2.length c2') p2 := SlB.mono HS2.out hws
            have HC3 := Lib.hid (HC.out.trans HG3.out.chg)
            have ga := grew_alloc w3 #[.slice A2 p2.length c2'] 37
            have HAp : Hid (∀ w5 v', (w3.alloc (.cells #[.slice A2 p2.length c2'] 37)).grownBy w5 (Value.slice Av rs.length cv).ownBlock → w5.ownsRow w2.heap.size 37 1 v' (rs.length + 1) (xs ++ [.slice A2 p2.length c2']) → ∃ Av' cv', v' = .slice Av' (rs.length + 1) cv' ∧ w5.rangeAt lb 0 (logR q hf G2 v (.slice Av rs.length cv) e false) ∧ w5.there lb 0 7 ∧ RowsO w5 w2.heap.size v' (rs ++ [p2]) ∧ Chg (fun k => k = lb) w2 w5 ∧ (w5.cell? ⟨lb, 4, none⟩ = some (.slice Av rs.length cv) ∧ w5.frozen? ⟨lb, 4, none⟩ = false ∧ w5.cell? ⟨lb, 5, none⟩ = some (.int .i64 (e : Int)) ∧ w5.frozen? ⟨lb, 5, none⟩ = false)) := by
              intro w5 v' hg ho5
              obtain ⟨Av', cv', rfl⟩ := own_form ho5
              have hbl := below_app hx1' hg (Nat.le_refl _)
              have hbH := hbl lb (by omega) (by omega)
              refine ⟨Av', cv', rfl, rangeAt_of HH3.out hbH, there_of HT3.out hbH, ?_, ?_, ?_⟩
              · exact RowsO.app (ownR_grew hx1' ga) (fun j hj => by obtain ⟨x, hx, hs⟩ := hx2' j hj; exact ⟨x, hx, hs.keep ga⟩) (hsl3.keep ga) ho5 hg
              · refine ⟨hg.os.trans HC3.out.os, hg.tape.trans HC3.out.tape, hg.output.trans HC3.out.output, Nat.le_trans HC3.out.size (Nat.le_trans ga.size hg.size), fun k hk hn => ?_⟩
                rw [hbl k hk (Nat.lt_of_lt_of_le hk HC3.out.size)]
                exact HC3.out.block k hk hn
              · have d1 := range7 (rangeAt_of HH3.out hbH)
                have d2 := there_of HT3.out hbH
                have f4 := (d2 4 (by omega)).2
                have f5 := (d2 5 (by omega)).2
                simp only [Nat.zero_add] at f4 f5
                exact ⟨d1.2.2.2.2.1, f4, d1.2.2.2.2.2.1, f5⟩
            have HOx : Hid ((w3.alloc (.cells #[.slice A2 p2.length c2'] 37)).ownsRow w2.heap.size 37 1 (.slice Av rs.length cv) rs.length xs) := ownR_grew hx1' ga
            have hsa : w2.heap.size ≤ (w3.alloc (.cells #[.slice A2 p2.length c2'] 37)).heap.size := by simp; omega
            have hu0 : (w3.alloc (.cells #[.slice A2 p2.length c2'] 37)).cell? ⟨w3.heap.size, 0, none⟩ = some (.slice A2 p2.length c2') := by simp
            clear HX1 HX2 hx1' hx2' hsl3 ga HH3 HT3 HC3 HS2 c0 c1 c2 c3 c4 c5 c6 HH HT HRO HC hb3 i2 C2
            go_upto_region 10 with (at_builtin; refine (wpList_append_one rfl _ _ rfl w2.heap.size _ rs.length xs rfl HOx.out w3.heap.size 1 (.slice A2 p2.length c2') rfl hu0 rfl hbd hsa ?_); intro v' w5 ho5 hg5; obtain ⟨Av', cv', rfl, hh5, hth5, hro5, hc5, d4, f4, d5, f5⟩ := HAp.out w5 v' hg5 ho5; clear ho5 hg5)
            clear HAp HOx
            have HHE : Hid (((w5.setCell ⟨lb, 4, none⟩ (.slice Av' (rs.length + 1) cv')).setCell ⟨lb, 5, none⟩ (.int .i64 ((e : Int) + (NB2 : Int)))).rangeAt lb 0 [.pointer (some ⟨q, 0, none⟩), .int .i64 (hf : Int), .int .i64 (G2 : Int), v, .slice Av' (rs.length + 1) cv', .int .i64 ((e : Int) + (NB2 : Int)), .bool false]) := set2_log hh5 _ _
            have hce : Chg (fun k => k = lb) w5 ((w5.setCell ⟨lb, 4, none⟩ (.slice Av' (rs.length + 1) cv')).setCell ⟨lb, 5, none⟩ (.int .i64 ((e : Int) + (NB2 : Int)))) := ((Chg.refl (fun k => k = lb) w5).setCell ⟨lb, 4, none⟩ _ (fun _ => rfl)).setCell ⟨lb, 5, none⟩ _ (fun _ => rfl)
            have HTE : Hid (((w5.setCell ⟨lb, 4, none⟩ (.slice Av' (rs.length + 1) cv')).setCell ⟨lb, 5, none⟩ (.int .i64 ((e : Int) + (NB2 : Int)))).there lb 0 7) := there_set (there_set hth5 _ _) _ _
            have HROE : Hid (RowsO ((w5.setCell ⟨lb, 4, none⟩ (.slice Av' (rs.length + 1) cv')).setCell ⟨lb, 5, none⟩ (.int .i64 ((e : Int) + (NB2 : Int)))) w2.heap.size (.slice Av' (rs.length + 1) cv') (rs ++ [p2])) := hro5.above fun k h1 h2 => hce.block k h2 (by omega)
            have HCE : Hid (Chg (fun k => k = lb) w2 ((w5.setCell ⟨lb, 4, none⟩ (.slice Av' (rs.length + 1) cv')).setCell ⟨lb, 5, none⟩ (.int .i64 ((e : Int) + (NB2 : Int))))) := hc5.trans hce
            have hM4 := (range7 HHE.out).2.2.2.2.2.1
            rw [← Int.natCast_add] at hM4
            have HM2 := Lib.hid (cellN_of hM4)
            rw [Int.natCast_add] at HM2
            have i3 : IntKind.i64.wrap ((e : Int) + (NB2 : Int)) = (e : Int) + (NB2 : Int) := by rw [IntKind.wrap_i64]; omega
            clear hM4 hce hro5 hth5 hh5 hc5
            go_wp2
            go_roundw
            case rel => exact ⟨e + NB2, rs ++ [p2], _, HI2, by unfold logR; rw [Int.natCast_add]; exact HHE.out, HTE, HROE, HCE⟩
            case measure =>
              have h1 := hM.out
              have h2 := HM2.out
              rw [h1, h2]
              omega
          · have HF := Lib.hid (fun w' g => HFin.out w' g (fun g2 k2 p3 nb h => by
              rw [hre] at h
              simp only [Option.some.injEq, Prod.mk.injEq] at h
              obtain ⟨rfl, rfl, _⟩ := h
              exact hgk))
            clear HFin RQ hre R0 HI HH HT HRO HC HPS HG2 HSL2 hM hGw
            by_cases g1 : G2 = G
            · have d2 : ((K2 : Int) != (rs.length : Int) + 1) = true := by simp; omega
              subst g1
              clear hgk
              generalize rs.length = m at *
              go_wp2_with (go_at_call 58; ((with_reducible refine C2.out.mono ?_); rintro e' w3 ⟨A2, c2', rfl, _, hg⟩; have HG3 := Lib.hid hg; have c4' := (grew_cell hg (p := ⟨lb, 4, none⟩) hHr).trans c4; clear hg))
              go_ret
              exact HF.out _ HG3.out
            · have d2 : ((G2 : Int) != (G : Int)) = true := by simp; omega
              clear hgk g1
              generalize rs.length = m at *
              go_wp2_with (go_at_call 58; ((with_reducible refine C2.out.mono ?_); rintro e' w3 ⟨A2, c2', rfl, _, hg⟩; have HG3 := Lib.hid hg; clear hg))
              go_ret
              exact HF.out _ HG3.out
    · have hp := hPN.out (fun g k p2 n h => by
        rw [hr0] at h
        simp only [Option.some.injEq, Prod.mk.injEq] at h
        obtain ⟨rfl, rfl, _⟩ := h
        exact hk)
      have HN := Lib.hid (fun w' g => HN0.out w' g hp)
      clear HN0 R0 R1 hp hr0 hPN HRA HTA
      by_cases k0 : K = 0
      · subst k0
        have d1 : (G : Int) < 1 := by omega
        clear hk
        go_enter Try.func43, Try.ntmps43
        go_wp2_with (go_at_call 58; ((with_reducible refine (C1.out _ (grew_alloc _ _ _)).mono ?_); rintro e w1 ⟨A1, n1, rfl, _, hg⟩; have HG1 := Lib.hid hg; clear hg))
        go_ret
        exact HN.out _ HG1.out
      · have d1 : ((K : Int) != 0) = true := by simp; omega
        clear hk k0
        go_enter Try.func43, Try.ntmps43
        go_wp2_with (go_at_call 58; ((with_reducible refine (C1.out _ (grew_alloc _ _ _)).mono ?_); rintro e w1 ⟨A1, n1, rfl, _, hg⟩; have HG1 := Lib.hid hg; clear hg))
        go_ret
        exact HN.out _ HG1.out
end Go.Proofs.Ythnhhhfjgbgpgaa.NumK
namespace Go.Proofs.Ythnhhhfjgbgpgaa.NumK
open Go.RowKit

theorem RLM.cells {w : World} {G : Nat → Prop} {lb q : Nat} {l : LS} (h : RLM w G lb q l) : lb < w.heap.size ∧ w.cell? ⟨lb, 0, none⟩ = some (.pointer (some ⟨q, 0, none⟩)) ∧ w.cell? ⟨lb, 1, none⟩ = some (.int .i64 (l.half : Int)) ∧ w.cell? ⟨lb, 2, none⟩ = some (.int .i64 (l.gen : Int)) ∧ w.cell? ⟨lb, 5, none⟩ = some (.int .i64 (l.fin : Int)) ∧ w.cell? ⟨lb, 6, none⟩ = some (.bool l.begun) := by
  obtain ⟨sv, rv, h1, _⟩ := h.ex
  obtain ⟨c0, c1, c2, c3, c4, c5, c6⟩ := range7 h1
  exact ⟨h.fit _ h.here, c0, c1, c2, c5, c6⟩

def ROpenPost (s : DS) (q : Nat) (w : World) (e : Ending) (w' : World) : Prop :=
  Grew w w' ∧ ((lOpen s ≠ 0 ∧ e = .returned (.tuple #[.pointer none, .int .i64 (lOpen s)])) ∨
    (lOpen s = 0 ∧ ∃ lb, w.heap.size ≤ lb ∧ e = .returned (.tuple #[.pointer (some ⟨lb, 0, none⟩), .int .i64 0]) ∧ RLM w' (fun k => w.heap.size ≤ k ∧ k < w'.heap.size) lb q (lPick s)))

theorem rk_off {F : Nat → Prop} {q : Nat} {s : DS} {w : World} (h : RK w F q s) : q < w.heap.size ∧ w.cell? ⟨q, 0, none⟩ = some (.int .i64 (s.safe.length : Int)) ∧ w.cell? ⟨q, 3, none⟩ = some (.bool s.off) := by
  obtain ⟨Y, v, L, H, _⟩ := h.ex
  exact ⟨H.lt, H.c0, H.c3⟩

set_option maxRecDepth 100000 in
set_option maxHeartbeats 4000000 in
theorem ropen_any (F : Nat → Prop) (q : Nat) (s : DS) (w : World) (h : RK w F q s) (hop : s.opn.length ≤ 1000000) :
    Calls Try.prog 16 #[.pointer (some ⟨q, 0, none⟩)] w (ROpenPost s q w) := by
  obtain ⟨hq, c0, c3⟩ := rk_off h
  cases ho : s.off with
  | true =>
    have e1 : lOpen s = 7 := by unfold lOpen; rw [ho]; rfl
    have HP : Hid (ROpenPost s q w (.returned (.tuple #[.pointer none, .int .i64 7])) w) := ⟨grew_refl _, Or.inl ⟨by rw [e1]; decide, by rw [e1]⟩⟩
    rw [ho] at c3
    clear h hop e1
    go_enter Try.func16, Try.ntmps16
    go_wp2
    go_ret2
    exact HP.out
  | false =>
    rw [ho] at c3
    by_cases h4 : s.safe.length < 4
    · have e1 : lOpen s = 3 := by unfold lOpen; rw [ho, if_pos h4]; rfl
      have HP : Hid (ROpenPost s q w (.returned (.tuple #[.pointer none, .int .i64 3])) w) := ⟨grew_refl _, Or.inl ⟨by rw [e1]; decide, by rw [e1]⟩⟩
      have d1 : (s.safe.length : Int) < 4 := by omega
      clear h hop e1 h4
      generalize s.safe.length = n at *
      go_enter Try.func16, Try.ntmps16
      go_wp2
      go_ret2
      exact HP.out
    · have e1 : lOpen s = 0 := by unfold lOpen; rw [ho, if_neg h4]; rfl
      have d1 : ¬ (s.safe.length : Int) < 4 := by omega
      have C0 : Hid (∀ w', Grew w w' → Calls Try.prog 43 #[.pointer (some ⟨q, 0, none⟩), .int .i64 0] w' (RPartPost q (partOf s 0) w')) := fun w' g => rpart_any F q s 0 w' (h.grew g) (by omega) hop
      have C1 : Hid (∀ w', Grew w w' → Calls Try.prog 43 #[.pointer (some ⟨q, 0, none⟩), .int .i64 1] w' (RPartPost q (partOf s 1) w')) := fun w' g => rpart_any F q s 1 w' (h.grew g) (by omega) hop
      have HA : Hid (∀ w1 w2 lb, Grew w w1 → Grew w1 w2 → w.heap.size ≤ lb → RLM w2 (fun k => w.heap.size ≤ k ∧ k < w1.heap.size) lb q (partOf s 0) → ((partOf s 1).gen ≤ (partOf s 0).gen ∧ 0 < (partOf s 0).gen) → ROpenPost s q w (.returned (.tuple #[.pointer (some ⟨lb, 0, none⟩), .int .i64 0])) w2) := fun w1 w2 lb g1 g2 hl hr hc => by
        refine ⟨grew_trans g1 g2, Or.inr ⟨e1, lb, hl, rfl, ?_⟩⟩
        have : lPick s = partOf s 0 := by unfold lPick; rw [if_pos hc]
        rw [this]
        exact hr.more (fun k hk => ⟨hk.1, Nat.lt_of_lt_of_le hk.2 g2.size⟩) (fun k hk => hk.2)
      have HB : Hid (∀ w1 w2 lb, Grew w w1 → Grew w1 w2 → w1.heap.size ≤ lb → RLM w2 (fun k => w1.heap.size ≤ k ∧ k < w2.heap.size) lb q (partOf s 1) → ¬ ((partOf s 1).gen ≤ (partOf s 0).gen ∧ 0 < (partOf s 0).gen) → ROpenPost s q w (.returned (.tuple #[.pointer (some ⟨lb, 0, none⟩), .int .i64 0])) w2) := fun w1 w2 lb g1 g2 hl hr hc => by
        refine ⟨grew_trans g1 g2, Or.inr ⟨e1, lb, Nat.le_trans g1.size hl, rfl, ?_⟩⟩
        have : lPick s = partOf s 1 := by unfold lPick; rw [if_neg hc]
        rw [this]
        exact hr.more (fun k hk => ⟨Nat.le_trans g1.size hk.1, hk.2⟩) (fun k hk => hk.2)
      clear h hop e1 h4 ho
      generalize s.safe.length = n at *
      go_enter Try.func16, Try.ntmps16
      go_upto_region 5 with (fail)
      go_upto_region 6 with (first
        | (go_at_call 43; ((with_reducible refine (C0.out _ (grew_refl _)).mono ?_); rintro e w1 ⟨hg1, lbA, hlA, rfl, hrA⟩; have G1 := Lib.hid hg1; have HLA := Lib.hid hlA; have RA := Lib.hid hrA; clear hg1 hlA hrA C0))
        | (go_at_call 43; ((with_reducible refine (C1.out _ G1.out).mono ?_); rintro e w2 ⟨hg2, lbB, hlB, rfl, hrB⟩; have G2 := Lib.hid hg2; have HLB := Lib.hid hlB; have RB := Lib.hid hrB; clear hg2 hlB hrB)))
      have RA2 := Lib.hid (RA.out.grew G2.out)
      obtain ⟨_, _, _, a2, _, _⟩ := RA2.out.cells
      obtain ⟨_, _, _, b2, _, _⟩ := RB.out.cells
      have HA1 := Lib.hid (fun n => HA.out w1 (w2.drewN n) lbA G1.out (grew_drewN G2.out n) HLA.out (RA2.out.grew (grew_drewN (grew_refl _) n)))
      have HB1 := Lib.hid (fun n => HB.out w1 (w2.drewN n) lbB G1.out (grew_drewN G2.out n) HLB.out ((RB.out.grew (grew_drewN (grew_refl _) n)).more (fun k hk => hk) (fun k hk => hk.2)))
      clear HA HB C1 RA RB RA2 G1 HLA HLB
      generalize (partOf s 0).gen = ga at *
      generalize (partOf s 1).gen = gb at *
      by_cases hle : gb ≤ ga
      · have d1 : (gb : Int) ≤ (ga : Int) := by omega
        by_cases hp : 0 < ga
        · have HF := Lib.hid (fun n => HA1.out n ⟨hle, hp⟩)
          clear HA1 HB1
          go_quiet (fail)
          go_wp2
          go_ret2
          exact HF.out _
        · have HF := Lib.hid (fun n => HB1.out n (fun h => hp h.2))
          clear HA1 HB1
          go_quiet (fail)
          go_wp2
          go_ret2
          exact HF.out _
      · have d1 : ¬ (gb : Int) ≤ (ga : Int) := by omega
        have HF := Lib.hid (fun n => HB1.out n (fun h => hle h.1))
        clear HA1 HB1
        go_quiet (fail)
        go_wp2
        go_ret2
        exact HF.out _

theorem room_tdiv (s : DS) : ((s.safe.length : Int)).tdiv 2 = (roomD s : Int) := by unfold roomD; rw [Int.tdiv_eq_ediv_of_nonneg (by omega)]; omega
theorem rroom_any (F G : Nat → Prop) (lb q : Nat) (s : DS) (l : LS) (w : World) (h : RK w F q s) (hl : RLM w G lb q l) : Calls Try.prog 50 #[.pointer (some ⟨lb, 0, none⟩)] w fun e w' => e = .returned (.int .i64 (roomD s : Int)) ∧ w = w' := by
  obtain ⟨_, c0, _⟩ := hl.cells
  obtain ⟨_, d0, _⟩ := rk_off h
  have hfew := h.ok.few
  have t1 := room_tdiv s
  have t2 : IntKind.i64.wrap (roomD s : Int) = (roomD s : Int) := by rw [IntKind.wrap_i64]; unfold roomD; omega
  clear h hl
  generalize roomD s = room at *
  generalize s.safe.length = n at *
  go_enter Try.func50, Try.ntmps50
  go_wp2
  go_ret
  exact ⟨rfl, rfl⟩
end Go.Proofs.Ythnhhhfjgbgpgaa.NumK
