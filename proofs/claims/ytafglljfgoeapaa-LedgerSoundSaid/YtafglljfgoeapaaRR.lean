/- The reference's Post. -/
import Derived.Test.YtafglljfgoeapaaRP
import Derived.Test.YtafglljfgoeapaaRQ
namespace Go.Proofs.Ytafglljfgoeapaa.NumK
open Go.RowKit
set_option linter.unusedVariables false

theorem Own2.turn {w w' : World} {b M : Nat} {v0 v1 : Value} (h : Own2 w b v0 v1) (t : Turn M w w') (hne : b ≠ M) : Own2 w' b v0 v1 :=
  ⟨(t.cell (p := ⟨b, 0, none⟩) h.lt hne).trans h.c0, (t.cell (p := ⟨b, 1, none⟩) h.lt hne).trans h.c1, (t.frozen (p := ⟨b, 0, none⟩) h.lt hne).trans h.f0, (t.frozen (p := ⟨b, 1, none⟩) h.lt hne).trans h.f1, Nat.lt_of_lt_of_le h.lt t.size⟩
theorem pb_keep {w2 W2 wr : World} {M b i : Nat} {v : Value} (g : Grew w2 W2) (hT : Turn M W2 wr) (hb : b < w2.heap.size) (hne : b ≠ M) (hc : w2.cell? ⟨b, i, none⟩ = some v) : wr.cell? ⟨b, i, none⟩ = some v :=
  (hT.cell (p := ⟨b, i, none⟩) (Nat.lt_of_lt_of_le hb g.size) hne).trans ((grew_cell g (p := ⟨b, i, none⟩) hb).trans hc)
theorem ownI_one (w : World) (n : Int) (t : TypeId) (base : Nat) (hb : base ≤ w.heap.size) : OwnE enInt (w.alloc (.cells #[.int .i64 n] t)) base t (.slice (some ⟨w.heap.size, 0, none⟩) 1 1) [n] :=
  ⟨by simp [enInt], .inr ⟨w.heap.size, 1, #[.int .i64 n], rfl, hb, heap_alloc_new w _, Nat.le_refl _, by unfold maxLen; omega, by simp [enInt], by simp [enInt]⟩⟩
theorem box3 (w : World) (last : Int) (A : Option Addr) (n c : Nat) (t : TypeId) {w1 : World} (hg : Grew (((w.alloc (.cells #[.int .i64 last, .slice A n c] t)).alloc (.cells #[.int .i64 0, .slice none 0 0] t)).alloc (.cells #[.int .i64 0, .slice none 0 0] t)) w1) :
    w1.cell? ⟨w.heap.size, 0, none⟩ = some (.int .i64 last) ∧ w1.cell? ⟨w.heap.size, 1, none⟩ = some (.slice A n c) ∧ Own2 w1 (w.heap.size + 1) (.int .i64 0) (.slice none 0 0) ∧ w1.cell? ⟨w.heap.size + 1 + 1, 0, none⟩ = some (.int .i64 0) ∧ w1.cell? ⟨w.heap.size + 1 + 1, 1, none⟩ = some (.slice none 0 0) ∧ w.heap.size + 1 + 1 < w1.heap.size ∧ Grew w w1 := by
  obtain ⟨t1, t2, t3, t4⟩ := three_new w #[.int .i64 last, .slice A n c] #[.int .i64 0, .slice none 0 0] #[.int .i64 0, .slice none 0 0] t t t
  have hs : (((w.alloc (.cells #[.int .i64 last, .slice A n c] t)).alloc (.cells #[.int .i64 0, .slice none 0 0] t)).alloc (.cells #[.int .i64 0, .slice none 0 0] t)).heap.size = w.heap.size + 1 + 1 + 1 := by simp
  have hl := hg.size
  rw [hs] at hl
  refine ⟨(grew_cell hg (p := ⟨w.heap.size, 0, none⟩) (by show w.heap.size < _; omega)).trans (t1 0), (grew_cell hg (p := ⟨w.heap.size, 1, none⟩) (by show w.heap.size < _; omega)).trans (t1 1), ?_,
    (grew_cell hg (p := ⟨w.heap.size + 1 + 1, 0, none⟩) (by show w.heap.size + 1 + 1 < _; omega)).trans (t3 0), (grew_cell hg (p := ⟨w.heap.size + 1 + 1, 1, none⟩) (by show w.heap.size + 1 + 1 < _; omega)).trans (t3 1), by omega, grew_trans (grew_trans (grew_alloc _ _ _) (grew_trans (grew_alloc _ _ _) (grew_alloc _ _ _))) hg⟩
  exact Own2.keep ⟨t2 0, t2 1, t4 _ _ (by omega) (by omega), t4 _ _ (by omega) (by omega), by omega⟩ hg

theorem Turn.below {M : Nat} {a b c : World} (h : Turn M a b) (g : Below a.heap.size b c) : Turn M a c :=
  ⟨g.os.trans h.os, g.tape.trans h.tape, g.output.trans h.output, Nat.le_trans h.size g.size, fun k hk hne => (g.block k hk).trans (h.block k hk hne)⟩
theorem Own2.below {w w' : World} {base b : Nat} {v0 v1 : Value} (h : Own2 w b v0 v1) (g : Below base w w') (hb : b < base) : Own2 w' b v0 v1 :=
  ⟨(Below.cell g (p := ⟨b, 0, none⟩) hb).trans h.c0, (Below.cell g (p := ⟨b, 1, none⟩) hb).trans h.c1, (Below.frozen g (p := ⟨b, 0, none⟩) hb).trans h.f0, (Below.frozen g (p := ⟨b, 1, none⟩) hb).trans h.f1, Nat.lt_of_lt_of_le h.lt g.size⟩
theorem Own2.set1 {w : World} {b : Nat} {v0 v1 : Value} (h : Own2 w b v0 v1) (u1 : Value) : Own2 (w.setCell ⟨b, 1, none⟩ u1) b v0 u1 :=
  ⟨(World.cell?_setCell_other _ _ _ _ (by intro e; simp at e)).trans h.c0, World.cell?_setCell_same _ _ _ h.c1, by rw [World.frozen?_setCell]; exact h.f0, by rw [World.frozen?_setCell]; exact h.f1, by simp [World.setCell]; exact h.lt⟩
theorem keep3g {w w' : World} {g p : Nat} {a b c : Value} (r : Grew w w') (hg : g < w.heap.size) (h : w.cell? ⟨g, p, none⟩ = some a ∧ w.cell? ⟨g, p + 1, none⟩ = some b ∧ w.cell? ⟨g, p + 2, none⟩ = some c) : w'.cell? ⟨g, p, none⟩ = some a ∧ w'.cell? ⟨g, p + 1, none⟩ = some b ∧ w'.cell? ⟨g, p + 2, none⟩ = some c :=
  ⟨(grew_cell r (p := ⟨g, p, none⟩) hg).trans h.1, (grew_cell r (p := ⟨g, p + 1, none⟩) hg).trans h.2.1, (grew_cell r (p := ⟨g, p + 2, none⟩) hg).trans h.2.2⟩
theorem keep3b {w w' : World} {base g p : Nat} {a b c : Value} (r : Below base w w') (hg : g < base) (h : w.cell? ⟨g, p, none⟩ = some a ∧ w.cell? ⟨g, p + 1, none⟩ = some b ∧ w.cell? ⟨g, p + 2, none⟩ = some c) : w'.cell? ⟨g, p, none⟩ = some a ∧ w'.cell? ⟨g, p + 1, none⟩ = some b ∧ w'.cell? ⟨g, p + 2, none⟩ = some c :=
  ⟨(Below.cell r (p := ⟨g, p, none⟩) hg).trans h.1, (Below.cell r (p := ⟨g, p + 1, none⟩) hg).trans h.2.1, (Below.cell r (p := ⟨g, p + 2, none⟩) hg).trans h.2.2⟩
theorem keep3s {w : World} {g p M i : Nat} {a b c v : Value} (hg : g ≠ M) (h : w.cell? ⟨g, p, none⟩ = some a ∧ w.cell? ⟨g, p + 1, none⟩ = some b ∧ w.cell? ⟨g, p + 2, none⟩ = some c) : (w.setCell ⟨M, i, none⟩ v).cell? ⟨g, p, none⟩ = some a ∧ (w.setCell ⟨M, i, none⟩ v).cell? ⟨g, p + 1, none⟩ = some b ∧ (w.setCell ⟨M, i, none⟩ v).cell? ⟨g, p + 2, none⟩ = some c :=
  ⟨(World.cell?_setCell_other _ _ _ _ (by intro e; simp only [Addr.mk.injEq] at e; omega)).trans h.1, (World.cell?_setCell_other _ _ _ _ (by intro e; simp only [Addr.mk.injEq] at e; omega)).trans h.2.1, (World.cell?_setCell_other _ _ _ _ (by intro e; simp only [Addr.mk.injEq] at e; omega)).trans h.2.2⟩

/-- Does one of the first k accounts stand below its floor? -/
def lowL (f : Ac → Int) (k : Nat) : Bool := (allK.take k).any fun a => decide (f a < floorB a)
theorem lowL_succ (f : Ac → Int) (k : Nat) (h : k < 108) : lowL f (k + 1) = (lowL f k || decide (f (allK.getD k ac0) < floorB (allK.getD k ac0))) := by
  unfold lowL
  rw [take_snoc allK k ac0 (by rw [allK_len]; exact h), List.any_append]; simp
theorem rp_big {l m : List Lg} (k : Nat) (hk : k < 108) (h : isMoney (sumA (l ++ m) (allK.getD k ac0)) = false) : addE l m = 1 := by
  unfold addE
  rw [if_neg]
  intro h2
  have := List.all_eq_true.1 h2 _ (allK_getD k hk)
  rw [h] at this; cases this
theorem rp_end {l m : List Lg} (h : ∀ k, k < 108 → isMoney (sumA (l ++ m) (allK.getD k ac0)) = true) : addE l m = if lowL (sumA (l ++ m)) 108 then 13 else 0 := by
  unfold addE lowL
  rw [if_pos, List.take_of_length_le (by rw [allK_len]; exact Nat.le_refl _)]
  · by_cases hl : (allK.any fun a => decide (sumA (l ++ m) a < floorB a)) = true
    · rw [if_pos hl, if_neg]
      intro h2
      obtain ⟨a, ha, h3⟩ := List.any_eq_true.1 hl
      have := List.all_eq_true.1 h2 a ha
      simp only [decide_eq_true_eq] at this h3
      omega
    · rw [if_neg hl, if_pos]
      rw [List.all_eq_true]
      intro a ha
      have : ¬ sumA (l ++ m) a < floorB a := fun h3 => hl (List.any_eq_true.2 ⟨a, ha, by simpa using h3⟩)
      simp only [decide_eq_true_eq]; omega
  · rw [List.all_eq_true]
    intro a ha
    obtain ⟨i, hi, rfl⟩ := List.getElem_of_mem ha
    have := h i (by rw [allK_len] at hi; exact hi)
    rwa [show allK.getD i ac0 = allK[i] by simp [List.getD, hi]] at this

set_option maxRecDepth 100000 in
set_option maxHeartbeats 8000000 in
theorem rpost_any (last id : Int) (A B : Option Addr) (n c m d : Nat) (l ls : List Lg) (w : World) (h : RowE enLg w A n l) (h2 : RowE enLg w B m ls) (hB : B = none → d = 0) (hn : n ≤ 90000) (hm : m ≤ 90000) :
    Calls Try.prog 16 #[ldV last A n c, .int .i64 id, .slice B m d] w (PostP last l id ls w) := by
  have HI := Lib.hid h
  have HJ := Lib.hid h2
  have HL2 := Lib.hid h2.len
  have CC := fun w h => rledger_any last A n c l w h hn
  have CD := fun w h => refCheck_any B m d ls w h (by omega)
  clear h h2 hB
  have CO := fun (y : Ac) w h => rof_any last A n c l y.1 y.2.1 y.2.2 w h (by omega)
  unfold ldV at CO
  unfold ldV
  unfold ldV at CC
  by_cases hb : ledgerB last l = true
  · rw [hb] at CC
    by_cases h1 : id < 1
    · have HE := Lib.hid (postE_2 (m := ls) hb (Or.inl h1))
      clear CD CO hb
      go_enter Try.func16, Try.ntmps16
      go_wp2_with (go_at_call 11; ((with_reducible refine (CC _ (HI.out.keep (grew_trans (grew_alloc _ _ _) (grew_trans (grew_alloc _ _ _) (grew_alloc _ _ _))))).mono ?_); rintro e w1 ⟨rfl, hg⟩; obtain ⟨d0, d1, ho1, n0, n1, hsz1, hg1⟩ := box3 w last A n c _ hg; have HO1 := Lib.hid ho1; obtain ⟨e0, e1, f0, f1, lt⟩ := HO1.out; have HG1 := Lib.hid hg1; clear hg hg1 ho1 CC))
      have K := HO1.out.set (.int .i64 0) (.slice none 0 0)
      have r0 := K.c0
      have r1 := K.c1
      refine bodyPost_ret (v := .tuple #[.agg #[.int .i64 0, .slice none 0 0], .int .i64 3]) (by simp [results, Try.results16, go_sem, r0, r1]) rfl ?_
      exact postP_no HE.out (by decide) (grew_set (grew_set HG1.out _ (by show _ ≤ w.heap.size + 1; omega)) _ (by show _ ≤ w.heap.size + 1; omega))
    · by_cases h2 : 1099511627776 < id
      · have HE := Lib.hid (postE_2 (m := ls) hb (Or.inr h2))
        clear CD CO hb
        go_enter Try.func16, Try.ntmps16
        go_wp2_with (go_at_call 11; ((with_reducible refine (CC _ (HI.out.keep (grew_trans (grew_alloc _ _ _) (grew_trans (grew_alloc _ _ _) (grew_alloc _ _ _))))).mono ?_); rintro e w1 ⟨rfl, hg⟩; obtain ⟨d0, d1, ho1, n0, n1, hsz1, hg1⟩ := box3 w last A n c _ hg; have HO1 := Lib.hid ho1; obtain ⟨e0, e1, f0, f1, lt⟩ := HO1.out; have HG1 := Lib.hid hg1; clear hg hg1 ho1 CC))
        have K := HO1.out.set (.int .i64 0) (.slice none 0 0)
        have r0 := K.c0
        have r1 := K.c1
        refine bodyPost_ret (v := .tuple #[.agg #[.int .i64 0, .slice none 0 0], .int .i64 3]) (by simp [results, Try.results16, go_sem, r0, r1]) rfl ?_
        exact postP_no HE.out (by decide) (grew_set (grew_set HG1.out _ (by show _ ≤ w.heap.size + 1; omega)) _ (by show _ ≤ w.heap.size + 1; omega))
      · have h12 : ¬ (id < 1 ∨ 1099511627776 < id) := by omega
        by_cases h3 : id ≤ last
        · have HE := Lib.hid (postE_3 (m := ls) hb h12 h3)
          clear CD CO hb h12
          go_enter Try.func16, Try.ntmps16
          go_wp2_with (go_at_call 11; ((with_reducible refine (CC _ (HI.out.keep (grew_trans (grew_alloc _ _ _) (grew_trans (grew_alloc _ _ _) (grew_alloc _ _ _))))).mono ?_); rintro e w1 ⟨rfl, hg⟩; obtain ⟨d0, d1, ho1, n0, n1, hsz1, hg1⟩ := box3 w last A n c _ hg; have HO1 := Lib.hid ho1; obtain ⟨e0, e1, f0, f1, lt⟩ := HO1.out; have HG1 := Lib.hid hg1; clear hg hg1 ho1 CC))
          have K := HO1.out.set (.int .i64 0) (.slice none 0 0)
          have r0 := K.c0
          have r1 := K.c1
          refine bodyPost_ret (v := .tuple #[.agg #[.int .i64 0, .slice none 0 0], .int .i64 18]) (by simp [results, Try.results16, go_sem, r0, r1]) rfl ?_
          exact postP_no HE.out (by decide) (grew_set (grew_set HG1.out _ (by show _ ≤ w.heap.size + 1; omega)) _ (by show _ ≤ w.heap.size + 1; omega))
        · by_cases h4 : checkE ls = 0
          · have HE5 := Lib.hid (postE_5 hb h12 h3 h4)
            rw [h4] at CD
            have HRL := Lib.hid (ledger_parts hb).2.1
            have HMS := Lib.hid (check_zero.1 h4).2.2.1
            have HF : Hid (∀ a, ofL l a + sumA ls a = sumA (l ++ ls) a) := fun a => by rw [sumA_append, ofL_sum (rightB_parts HRL.out).2]
            have HBIG := Lib.hid (@rp_big l ls)
            have HEND := Lib.hid (@rp_end l ls)
            have CA : ∀ (w : World) (N : Nat), w.heap.size = N → Calls Try.prog 38 #[.slice (some ⟨N, 0, none⟩) 6 6] (w.alloc (.cells #[.int .i64 1, .int .i64 2, .int .i64 3, .int .i64 4, .int .i64 5, .int .i64 6] 3)) fun e w' => ∃ g c, e = .returned (.slice (some ⟨g, 0, none⟩) 108 c) ∧ w.heap.size ≤ g ∧ RowE enAc w' (some ⟨g, 0, none⟩) 108 allK ∧ Grew w w' := by
              intro w N hN
              refine (r8all_any (some ⟨N, 0, none⟩) 6 6 [1, 2, 3, 4, 5, 6] _ (ints6' w 1 2 3 4 5 6 _ N hN) (by omega)).mono ?_
              rintro e w' ⟨v, rfl, ho, hg⟩
              have hl : (allL [1, 2, 3, 4, 5, 6]).length = 108 := allK_len
              obtain ⟨A, c, e, hs⟩ := ho.slab
              obtain ⟨A', c', e', hr, _⟩ := ho.form
              rw [e] at e'
              cases e'
              rw [hl] at hs
              rcases hs with hs | ⟨g, rfl, hgb, _⟩
              · cases hs
              · rw [hl] at hr e
                exact ⟨g, c, by rw [e], by simp at hgb; omega, hr, own_back hg⟩
            clear hb h12 h4
            go_enter Try.func16, Try.ntmps16
            go_wp2_with (first
              | (go_at_call 11; ((with_reducible refine (CC _ (HI.out.keep (grew_trans (grew_alloc _ _ _) (grew_trans (grew_alloc _ _ _) (grew_alloc _ _ _))))).mono ?_); rintro e w1 ⟨rfl, hg⟩; obtain ⟨d0, d1, ho1, n0, n1, hsz1, hg1⟩ := box3 w last A n c _ hg; have HO1 := Lib.hid ho1; obtain ⟨e0, e1, f0, f1, lt⟩ := HO1.out; have HG1 := Lib.hid hg1; clear hg hg1 ho1 CC))
              | (go_at_call 37; ((with_reducible refine (CD _ (HJ.out.keep HG1.out)).mono ?_); rintro e w2 ⟨rfl, hg⟩; have HO2 := Lib.hid (HO1.out.keep hg); clear e0 e1 f0 f1 lt; obtain ⟨e0, e1, f0, f1, lt⟩ := HO2.out; have d0' : w2.cell? ⟨w.heap.size, 0, none⟩ = some (.int .i64 last) := (grew_cell hg (p := ⟨w.heap.size, 0, none⟩) (by show w.heap.size < _; omega)).trans d0; have d1' : w2.cell? ⟨w.heap.size, 1, none⟩ = some (.slice A n c) := (grew_cell hg (p := ⟨w.heap.size, 1, none⟩) (by show w.heap.size < _; omega)).trans d1; have n0' : w2.cell? ⟨w.heap.size + 1 + 1, 0, none⟩ = some (.int .i64 0) := (grew_cell hg (p := ⟨w.heap.size + 1 + 1, 0, none⟩) hsz1).trans n0; have n1' : w2.cell? ⟨w.heap.size + 1 + 1, 1, none⟩ = some (.slice none 0 0) := (grew_cell hg (p := ⟨w.heap.size + 1 + 1, 1, none⟩) hsz1).trans n1; have hsz2 : w.heap.size + 1 + 1 < w2.heap.size := Nat.lt_of_lt_of_le hsz1 hg.size; clear d0 d1 n0 n1 hsz1; have HG2 := Lib.hid (grew_trans HG1.out hg); clear hg CD))
              | (go_at_call 38; go_loud ((with_reducible refine (CA _ _ (by simp)).mono ?_); rintro e W2 ⟨gA, cA, rfl, hgA, hr, hg⟩; have HALL := Lib.hid hr; have HGA : Hid (w2.heap.size < gA) := (by show _ < _; simp at hgA; omega); have HW2 := Lib.hid hg; clear hr hg hgA CA)))
            have HGW : Hid (Grew w W2) := grew_trans HG2.out (grew_trans (grew_alloc _ _ _) HW2.out)
            have HWM : Hid (Grew w2 W2) := grew_trans (grew_alloc _ _ _) HW2.out
            have HM0 : Hid (Own2 W2 w2.heap.size (.int .i64 id) (.slice none 0 0)) := (Own2.new w2 _ _ 24 _ rfl).keep HW2.out
            have HBX : Hid (∀ wr, Turn w2.heap.size W2 wr → wr.cell? ⟨w.heap.size, 0, none⟩ = some (.int .i64 last) ∧ wr.cell? ⟨w.heap.size, 1, none⟩ = some (.slice A n c) ∧ Own2 wr (w.heap.size + 1) (.int .i64 0) (.slice none 0 0) ∧ wr.cell? ⟨w.heap.size + 1 + 1, 0, none⟩ = some (.int .i64 0) ∧ wr.cell? ⟨w.heap.size + 1 + 1, 1, none⟩ = some (.slice none 0 0) ∧ Grew w wr) := fun wr hT =>
              ⟨pb_keep HWM.out hT (by omega) (by omega) d0', pb_keep HWM.out hT (by omega) (by omega) d1', (HO2.out.keep HWM.out).turn hT (by omega), pb_keep HWM.out hT (by omega) (by omega) n0', pb_keep HWM.out hT (by omega) (by omega) n1', Turn.new HGW.out hT (by omega)⟩
            have HAX : Hid (∀ wr, Turn w2.heap.size W2 wr → ∀ k, k < 108 → wr.cell? ⟨gA, k * 3, none⟩ = some (.int .i64 (allK.getD k ac0).1) ∧ wr.cell? ⟨gA, k * 3 + 1, none⟩ = some (.int .i64 (allK.getD k ac0).2.1) ∧ wr.cell? ⟨gA, k * 3 + 2, none⟩ = some (.int .i64 (allK.getD k ac0).2.2) ∧ gA < wr.heap.size) := fun wr hT k hk => by
              obtain ⟨b', o', e, hb', z1, z2, z3⟩ := HALL.out.ac hk
              cases e
              rw [Nat.zero_add] at z1 z2 z3
              have hne := HGA.out
              exact ⟨(hT.cell (p := ⟨gA, k * 3, none⟩) hb' (by show gA ≠ _; omega)).trans z1, (hT.cell (p := ⟨gA, k * 3 + 1, none⟩) hb' (by show gA ≠ _; omega)).trans z2, (hT.cell (p := ⟨gA, k * 3 + 2, none⟩) hb' (by show gA ≠ _; omega)).trans z3, Nat.lt_of_lt_of_le hb' hT.size⟩
            have HGL : Hid (gA < W2.heap.size) := by
              obtain ⟨b', o', e, hb', _⟩ := HALL.out.ac (j := 0) (by omega)
              cases e; exact hb'
            have HGN : Hid (gA ≠ w2.heap.size) := by have := HGA.out; show _ ≠ _; omega
            have HMW : Hid (w2.heap.size < W2.heap.size) := HM0.out.lt
            have HSM : Hid (w.heap.size + 1 < w2.heap.size) := (by show _ < _; omega)
            clear d0' d1' n0' n1' e0 e1 f0 f1 lt HO2 HO1 hsz2 HG1 HG2 HW2 HALL HGA HWM
            generalize w2.heap.size = M at *
            go_loopw [11, 13] (fun v11 v13 wr => ∃ k : Nat, ∃ vb : Value, v13 = .int .i64 k ∧ k ≤ 108 ∧ v11 = .bool (lowL (sumA (l ++ ls)) k) ∧ Hid (Turn M W2 wr) ∧ Hid (Own2 wr M (.int .i64 id) vb) ∧ Hid (OwnE enLg wr W2.heap.size 64 vb (joinF (sumA (l ++ ls)) k)) ∧ Hid (∀ i, i < k → isMoney (sumA (l ++ ls) (allK.getD i ac0)) = true)) (fun _ v13 _ => 108 - (intOf v13).toNat)
            case atStart => exact ⟨0, _, rfl, by omega, rfl, Turn.refl _ _, HM0.out, OwnE.nil enLg _ _ _, (by intro i hi; omega)⟩
            case round =>
              obtain ⟨k, vb, rfl, hk, rfl, HT, HM, HO, HK⟩ := hrel
              obtain ⟨p0, p1, hp6, p80, p81, hgw⟩ := HBX.out wr HT.out
              have HP6 := Lib.hid hp6
              have HG0 := Lib.hid hgw
              clear hp6 hgw
              generalize wr = wo at *
              by_cases hlt : k < 108
              · have hax := fun w' (g : Grew wo w') => HAX.out w' (HT.out.grew g) k hlt
                have hbx := fun w' (g : Grew wo w') => HBX.out w' (HT.out.grew g)
                have hno := HBIG.out k hlt
                have hF := HF.out (allK.getD k ac0)
                have hJ := joinF_succ (sumA (l ++ ls)) k hlt
                have hJN := joinF_len (sumA (l ++ ls)) k
                have hlo := lowL_succ (sumA (l ++ ls)) k hlt
                have hkk : isMoney (sumA (l ++ ls) (allK.getD k ac0)) = true → ∀ i, i < k + 1 → isMoney (sumA (l ++ ls) (allK.getD i ac0)) = true := fun h i hi => by
                  rcases Nat.lt_or_ge i k with h1 | h1
                  · exact HK.out i h1
                  · obtain rfl : i = k := by omega
                    exact h
                have i1 : (k : Int) < 108 := by omega
                have i0 : (0 : Int) ≤ (k : Int) := by omega
                have CO1 := CO (allK.getD k ac0)
                have CFL := fun w => refFloor_any (allK.getD k ac0).1 (allK.getD k ac0).2.1 (allK.getD k ac0).2.2 w
                rw [show floorA (allK.getD k ac0).1 (allK.getD k ac0).2.1 (allK.getD k ac0).2.2 = floorB (allK.getD k ac0) from rfl] at CFL
                generalize allK.getD k ac0 = y at *
                rw [show ofL l (y.1, y.2.1, y.2.2) = ofL l y from rfl] at CO1
                have hob : -9223372036854775808 ≤ ofL l y ∧ ofL l y ≤ 9223372036854775807 := by
                  rw [ofL_sum (rightB_parts HRL.out).2]
                  have := (sumA_money HRL.out y).1
                  rw [isMoney_iff] at this; omega
                have HOB := Lib.hid hob
                generalize ofL l y = oy at *
                generalize sumA (l ++ ls) y = s at *
                generalize floorB y = fl at *
                have HAX1 := Lib.hid hax
                have HBX1 := Lib.hid hbx
                have HNO := Lib.hid hno
                have HFY := Lib.hid hF
                have HJJ := Lib.hid hJ
                have HJN := Lib.hid hJN
                have HLO := Lib.hid hlo
                have HKK := Lib.hid hkk
                clear hax hbx hno hF hJ hJN hlo hkk hob HBIG HEND HK CO
                unfold acV at CO1 CFL
                have HS : Hid (∀ w', Grew wo w' → w'.cell? ⟨w.heap.size, 0, none⟩ = some (.int .i64 last) ∧ w'.cell? ⟨w.heap.size, 1, none⟩ = some (.slice A n c) ∧ w'.cell? ⟨gA, k * 3, none⟩ = some (.int .i64 y.1) ∧ w'.cell? ⟨gA, k * 3 + 1, none⟩ = some (.int .i64 y.2.1) ∧ w'.cell? ⟨gA, k * 3 + 2, none⟩ = some (.int .i64 y.2.2)) := fun w' g =>
                  ⟨(HBX1.out w' g).1, (HBX1.out w' g).2.1, (HAX1.out w' g).1, (HAX1.out w' g).2.1, (HAX1.out w' g).2.2.1⟩
                clear p0 p1 p80 p81
                go_wp2
                go_region_held3 (fun w' => w'.cell? ⟨w.heap.size, 0, none⟩ = some (.int .i64 last) ∧ w'.cell? ⟨w.heap.size, 1, none⟩ = some (.slice A n c) ∧ w'.cell? ⟨gA, k * 3, none⟩ = some (.int .i64 y.1) ∧ w'.cell? ⟨gA, k * 3 + 1, none⟩ = some (.int .i64 y.2.1) ∧ w'.cell? ⟨gA, k * 3 + 2, none⟩ = some (.int .i64 y.2.2))
                  (first
                    | (with_reducible exact HS.out _ (grew_drew (grew_refl _)))
                    | (with_reducible exact HS.out _ (grew_trans (grew_drew (grew_refl _)) hg5))
                    | (with_reducible exact HS.out _ (grew_trans (grew_trans (grew_drew (grew_refl _)) hg5) (grew_alloc _ _ _)))
                    | (trace_state; fail))
                  ((go_at_call 14; refine (CO1 _ (HI.out.keep (grew_trans HG0.out (grew_drew (grew_refl _))))).mono ?_; rintro e w5 ⟨rfl, hg5⟩))
                have HO5 : Hid (OwnE enInt (w5.alloc (.cells #[.int .i64 oy] 3)) wo.heap.size 3 (.slice (some ⟨w5.heap.size, 0, none⟩) 1 1) (oy :: amts (fun x => decide (x.1 = y)) (ls.take 0))) := ownI_one _ _ _ _ hg5.size
                have HG5 : Hid (Grew wo (w5.alloc (.cells #[.int .i64 oy] 3))) := grew_trans (grew_trans (grew_drew (grew_refl _)) hg5) (grew_alloc _ _ _)
                clear hg5 CO1
                generalize w5.heap.size = g5 at *
                generalize w5.alloc (.cells #[.int .i64 oy] 3) = w6 at *
                go_wp2
                go_loopw [14, 15] (fun v14 v15 wx => ∃ j : Nat, v15 = .int .i64 j ∧ j ≤ m ∧ Hid (OwnE enInt wx wo.heap.size 3 v14 (oy :: amts (fun x => decide (x.1 = y)) (ls.take j))) ∧ Hid (Grew wo wx)) (fun _ v15 _ => m - (intOf v15).toNat)
                case atStart => exact ⟨0, rfl, by omega, HO5.out, HG5.out⟩
                case round =>
                  clear HO5 HG5
                  obtain ⟨j, rfl, hj, HN, HG2⟩ := hrel
                  by_cases hjn : j < m
                  · have hjl : j < ls.length := by rw [HL2.out]; exact hjn
                    obtain ⟨b, o, rfl, hb, a1, a2, a3, a4⟩ := (HJ.out.keep (grew_trans HG0.out HG2.out)).lg hjn
                    have HA := Lib.hid (amts_snoc (fun x => decide (x.1 = y)) ls j hjl)
                    have HAL : Hid ((amts (fun x => decide (x.1 = y)) (ls.take j)).length ≤ 90000) := by show _ ≤ _; have := amts_len (fun x => decide (x.1 = y)) (ls.take j); rw [List.length_take] at this; omega
                    have i2 : (j : Int) < (m : Int) := by omega
                    have i3 : (0 : Int) ≤ (j : Int) := by omega
                    have HSZ : Hid (wo.heap.size ≤ wr.heap.size) := HG2.out.size
                    generalize ls.getD j lg0 = x at *
                    have x1 : ∀ p : GrewTo wr, p.to.cell? ⟨b, o + j * 4, none⟩ = _ := fun p => (grew_cell p.h (p := ⟨b, o + j * 4, none⟩) hb).trans a1
                    have x2 : ∀ p : GrewTo wr, p.to.cell? ⟨b, o + j * 4 + 1, none⟩ = _ := fun p => (grew_cell p.h (p := ⟨b, o + j * 4 + 1, none⟩) hb).trans a2
                    have x3 : ∀ p : GrewTo wr, p.to.cell? ⟨b, o + j * 4 + 2, none⟩ = _ := fun p => (grew_cell p.h (p := ⟨b, o + j * 4 + 2, none⟩) hb).trans a3
                    have y1 : ∀ p : GrewTo wr, p.to.cell? ⟨gA, k * 3, none⟩ = _ := fun p => (HAX1.out _ (grew_trans HG2.out p.h)).1
                    have y2 : ∀ p : GrewTo wr, p.to.cell? ⟨gA, k * 3 + 1, none⟩ = _ := fun p => (HAX1.out _ (grew_trans HG2.out p.h)).2.1
                    have y3 : ∀ p : GrewTo wr, p.to.cell? ⟨gA, k * 3 + 2, none⟩ = _ := fun p => (HAX1.out _ (grew_trans HG2.out p.h)).2.2.1
                    have CS := fun w => same_any x.1.1 x.1.2.1 x.1.2.2 y.1 y.2.1 y.2.2 w
                    rw [sameA_iff] at CS
                    have HB := Lib.hid hb
                    have HA4 := Lib.hid a4
                    unfold acV at CS
                    clear a1 a2 a3 a4 hb CFL
                    by_cases hc : x.1 = y
                    · have HA1 : Hid (oy :: amts (fun x => decide (x.1 = y)) (ls.take (j + 1)) = (oy :: amts (fun x => decide (x.1 = y)) (ls.take j)) ++ [x.2]) := by show _ = _; rw [HA.out, if_pos (by simpa using hc)]; rfl
                      rw [decide_eq_true hc] at CS
                      clear HA hc
                      generalize x.2 = q4 at *
                      generalize x.1.1 = q1 at *
                      generalize x.1.2.1 = q2 at *
                      generalize x.1.2.2 = q3 at *
                      go_wp2_with fail
                      refine wp_region_grew (by kernel_rfl) (by kernel_rfl) ?_
                      repeat (go_big_quiet_step (with_reducible exact calls_grew (CS _)))
                      refine wpQuiet_nil ?_
                      intro w5 hw'
                      have hg5 := grew_of hw'
                      have a5 : w5.cell? ⟨b, o + j * 4 + 3, none⟩ = some (.int .i64 q4) := (grew_cell hg5 (p := ⟨b, o + j * 4 + 3, none⟩) HB.out).trans HA4.out
                      have HG5 := Lib.hid hg5
                      clear hw' hg5 x1 x2 x3 y1 y2 y3 CS
                      go_wp2_with (at_builtin; refine (wpList_append_E rfl _ _ 28 3 (.int .i64 0) 8 rfl Try.underlying28 info_int1 rfl wo.heap.size _ _ rfl ((HN.out.keep HG5.out).keep (grew_alloc _ _ _)) _ 1 1 [q4] rfl (by intro h; cases h) (rowI_one _ _ _ _ rfl) (by have := HAL.out; simp only [List.length_cons]; unfold maxLen; omega) (by have := HAL.out; simp only [List.length_cons]; omega) (Nat.le_trans (Nat.le_trans HSZ.out HG5.out.size) (grew_alloc w5 _ _).size) ?_); intro v6 w6 hv hb6; rw [← HA1.out] at hv; have HV6 := Lib.hid hv; have HG6 : Hid (Grew wo w6) := Below.trans (grew_trans HG2.out (grew_trans HG5.out (grew_alloc _ _ _))) hb6; clear hv hb6)
                      go_roundw
                      case rel => exact ⟨j + 1, by go_num, by omega, HV6.out, HG6.out⟩
                      case measure => simp only [intOf]; omega
                    · have HA1 : Hid (amts (fun x => decide (x.1 = y)) (ls.take (j + 1)) = amts (fun x => decide (x.1 = y)) (ls.take j)) := by show _ = _; rw [HA.out, if_neg (by simpa using hc), List.append_nil]
                      rw [← HA1.out] at HN
                      rw [decide_eq_false hc] at CS
                      clear HA hc HA1
                      generalize x.2 = q4 at *
                      generalize x.1.1 = q1 at *
                      generalize x.1.2.1 = q2 at *
                      generalize x.1.2.2 = q3 at *
                      go_wp2_with fail
                      refine wp_region_grew (by kernel_rfl) (by kernel_rfl) ?_
                      repeat (go_big_quiet_step (with_reducible exact calls_grew (CS _)))
                      refine wpQuiet_nil ?_
                      intro w5 hw'
                      have HG5 := Lib.hid (grew_of hw')
                      clear hw' x1 x2 x3 y1 y2 y3 CS
                      go_wp2
                      go_roundw
                      case rel => exact ⟨j + 1, by go_num, by omega, HN.out.keep HG5.out, grew_trans HG2.out HG5.out⟩
                      case measure => simp only [intOf]; omega
                  · obtain rfl : j = m := by omega
                    rw [List.take_of_length_le (by rw [HL2.out]; exact Nat.le_refl _)] at HN
                    obtain ⟨A3, c3, rfl, hr3, _⟩ := HN.out.form
                    have CD := add_any A3 _ c3 _ wr (ints_of_E hr3) (fun z hz => by
                      rcases List.mem_cons.1 hz with rfl | hz
                      · exact HOB.out
                      · exact amts_in _ ls HMS.out z hz) (by have := amts_len (fun x => decide (x.1 = y)) ls; rw [HL2.out] at this; simp only [List.length_cons]; omega)
                    rw [List.sum_cons, amts_A, HFY.out] at CD
                    generalize (oy :: amts (fun x => decide (x.1 = y)) ls).length = N3 at *
                    clear hr3 HN
                    cases hmm : isMoney s
                    · have HE := Lib.hid (HE5.out.trans (HNO.out hmm))
                      rw [hmm, intV_out hmm] at CD
                      clear hmm HNO HKK HJJ HLO CFL
                      go_wp2_with (go_at_call 39; ((with_reducible refine CD.mono ?_); rintro e w7 ⟨rfl, hg⟩; obtain ⟨-, -, hp6, p80, p81, hg7⟩ := HBX1.out _ (grew_trans HG2.out hg); have HP7 := Lib.hid hp6; obtain ⟨e0, e1, f0, f1, lt⟩ := HP7.out; have HG7 := Lib.hid hg7; clear hg hg7 hp6 CD))
                      have K := HP7.out.set (.int .i64 0) (.slice none 0 0)
                      have r0 := K.c0
                      have r1 := K.c1
                      refine bodyPost_ret (v := .tuple #[.agg #[.int .i64 0, .slice none 0 0], .int .i64 1]) (by simp [results, Try.results16, go_sem, r0, r1]) rfl ?_
                      exact postP_no HE.out (by decide) (grew_set (grew_set HG7.out _ (by show _ ≤ w.heap.size + 1; omega)) _ (by show _ ≤ w.heap.size + 1; omega))
                    · have HKK2 := Lib.hid (HKK.out hmm)
                      rw [hmm, intV_in hmm] at CD
                      clear hmm HNO HKK
                      obtain ⟨A9, c9, rfl, -⟩ := HO.out.form
                      have HMX : Hid (∀ w', Grew wr w' → Own2 w' M (.int .i64 id) (.slice A9 (joinF (sumA (l ++ ls)) k).length c9) ∧ OwnE enLg w' W2.heap.size 64 (.slice A9 (joinF (sumA (l ++ ls)) k).length c9) (joinF (sumA (l ++ ls)) k) ∧ Turn M W2 w') := fun w' g => ⟨HM.out.keep (grew_trans HG2.out g), HO.out.keep (grew_trans HG2.out g), HT.out.grew (grew_trans HG2.out g)⟩
                      have HAX2 : Hid (∀ w', Grew wr w' → w'.cell? ⟨gA, k * 3, none⟩ = some (.int .i64 y.1) ∧ w'.cell? ⟨gA, k * 3 + 1, none⟩ = some (.int .i64 y.2.1) ∧ w'.cell? ⟨gA, k * 3 + 2, none⟩ = some (.int .i64 y.2.2)) := fun w' g => ⟨(HAX1.out w' (grew_trans HG2.out g)).1, (HAX1.out w' (grew_trans HG2.out g)).2.1, (HAX1.out w' (grew_trans HG2.out g)).2.2.1⟩
                      have HSW : Hid (W2.heap.size ≤ wr.heap.size) := Nat.le_trans HT.out.size HG2.out.size
                      clear HM HO HAX1 HBX1 HS HP6 HG0 HT HG2
                      generalize joinF (sumA (l ++ ls)) k = JF at *
                      generalize lowL (sumA (l ++ ls)) k = lo at *
                      obtain ⟨y1, y2, y3⟩ := y
                      dsimp only at HAX2 CFL
                      cases lo
                      · by_cases h0 : s = 0
                        · have HLO2 : Hid (lowL (sumA (l ++ ls)) (k + 1) = decide (s < fl)) := by show _ = _; rw [HLO.out]; rfl
                          clear HLO
                          have HJ0 : Hid (joinF (sumA (l ++ ls)) (k + 1) = JF) := by show _ = _; rw [HJJ.out, if_pos h0, List.append_nil]
                          subst h0
                          clear HJJ
                          go_wp2_with (first
                            | (go_at_call 39; ((with_reducible refine CD.mono ?_); rintro e w7 ⟨rfl, hg⟩; obtain ⟨z1, z2, z3⟩ := HAX2.out w7 hg; have HG7 := Lib.hid hg; clear hg CD))
                            | (go_at_call 30; ((with_reducible refine (CFL _).mono ?_); rintro e w8 ⟨rfl, hg⟩; clear z1 z2 z3; have HG8 := Lib.hid (grew_trans HG7.out hg); obtain ⟨z1, z2, z3⟩ := HAX2.out w8 HG8.out; clear hg CFL)))
                          obtain ⟨hm9, ho9, ht9⟩ := HMX.out _ HG8.out
                          rw [← HJ0.out] at ho9
                          go_roundw
                          case rel => exact ⟨k + 1, _, by go_num, by omega, by rw [HLO2.out], ht9, by rw [← HJ0.out] at hm9; exact hm9, by exact ho9, HKK2.out⟩
                          case measure => simp only [intOf]; omega
                        · have HLO2 : Hid (lowL (sumA (l ++ ls)) (k + 1) = decide (s < fl)) := by show _ = _; rw [HLO.out]; rfl
                          clear HLO
                          have HJ1 : Hid (joinF (sumA (l ++ ls)) (k + 1) = JF ++ [((y1, y2, y3), s)]) := by show _ = _; rw [HJJ.out, if_neg h0]
                          have d0 : (s != 0) = true := by simpa using h0
                          clear HJJ h0
                          go_wp2_with (first
                            | (go_at_call 39; ((with_reducible refine CD.mono ?_); rintro e w7 ⟨rfl, hg⟩; obtain ⟨z1, z2, z3⟩ := HAX2.out w7 hg; have HG7 := Lib.hid hg; clear hg CD))
                            | (go_at_call 30; ((with_reducible refine (CFL _).mono ?_); rintro e w8 ⟨rfl, hg⟩; clear z1 z2 z3; have HG8 := Lib.hid (grew_trans HG7.out hg); obtain ⟨z1, z2, z3⟩ := HAX2.out w8 HG8.out; clear hg CFL)))
                          have hm1 := (HMX.out _ HG8.out).1.c1
                          have hml := (HMX.out _ HG8.out).1.lt
                          refine wp_region_held_drew (S := fun w' => w'.cell? ⟨gA, k * 3, none⟩ = some (.int .i64 y1) ∧ w'.cell? ⟨gA, k * 3 + 1, none⟩ = some (.int .i64 y2) ∧ w'.cell? ⟨gA, k * 3 + 2, none⟩ = some (.int .i64 y3)) (by kernel_rfl) ⟨z1, z2, z3⟩ (fun hHeld => ?_)
                          (refine wpAnyH_take (i := 0) (oi := { dst := some 102, op := Op.fieldAddr 24 (Operand.tmp 10) 1, type := 0, pos := "ref.go:246", after := #[], guard := none }) (v := ?_) rfl (by kernel_rfl) (by kernel_rfl) (by kernel_rfl) (fun _ _ _ h => h) (Or.inl ⟨by rfl, ?_⟩) (by assumption) ?_; rotate_left; · (intro w hSw; (try dsimp only at hSw); go_simp; (first | done | with_reducible rfl)))
                          try simp only [Act.put, List.setIfInBounds_toArray, List.set_cons_zero, List.set_cons_succ]
                          (refine wpAnyH_take (i := 2) (oi := { dst := some 104, op := Op.move (Operand.tmp 12), type := 72, pos := "ref.go:246", after := #[], guard := none }) (v := ?_) rfl (by kernel_rfl) (by kernel_rfl) (by kernel_rfl) (fun _ _ _ h => h) (Or.inl ⟨by rfl, ?_⟩) (by assumption) ?_; rotate_left; · (intro w hSw; (try dsimp only at hSw); go_simp; (first | done | with_reducible rfl)))
                          try simp only [Act.put, List.setIfInBounds_toArray, List.set_cons_zero, List.set_cons_succ]
                          (refine wpAnyH_take (i := 3) (oi := { dst := some 105, op := Op.move (Operand.tmp 13), type := 3, pos := "ref.go:246", after := #[], guard := none }) (v := ?_) rfl (by kernel_rfl) (by kernel_rfl) (by kernel_rfl) (fun _ _ _ h => h) (Or.inl ⟨by rfl, ?_⟩) (by assumption) ?_; rotate_left; · (intro w hSw; (try dsimp only at hSw); go_simp; (first | done | with_reducible rfl)))
                          try simp only [Act.put, List.setIfInBounds_toArray, List.set_cons_zero, List.set_cons_succ]
                          (refine wpAnyH_take (i := 4) (oi := { dst := some 106, op := Op.indexAddr 72 (Operand.tmp 104) (Operand.tmp 105), type := 0, pos := "ref.go:246", after := #[{ on := 2, ground := Ground.data }, { on := 3, ground := Ground.data }], guard := none }) (v := ?_) rfl (by kernel_rfl) (by kernel_rfl) (by kernel_rfl) (fun _ _ _ h => h) (Or.inl ⟨by rfl, ?_⟩) (by assumption) ?_; rotate_left; · (intro w hSw; (try dsimp only at hSw); go_simp; (first | done | with_reducible rfl)))
                          try simp only [Act.put, List.setIfInBounds_toArray, List.set_cons_zero, List.set_cons_succ]
                          (refine wpAnyH_take (i := 5) (oi := { dst := some 107, op := Op.load 27 (Operand.tmp 106), type := 27, pos := "ref.go:246", after := #[{ on := 4, ground := Ground.data }], guard := none }) (v := ?_) rfl (by kernel_rfl) (by kernel_rfl) (by kernel_rfl) (fun _ _ _ h => h) (Or.inl ⟨by rfl, ?_⟩) (by assumption) ?_; rotate_left; · (intro w hSw; (try dsimp only at hSw); go_simp; (first | done | with_reducible rfl)))
                          try simp only [Act.put, List.setIfInBounds_toArray, List.set_cons_zero, List.set_cons_succ]
                          (refine wpAnyH_take (i := 6) (oi := { dst := some 108, op := Op.move (Operand.tmp 16), type := 3, pos := "ref.go:246", after := #[], guard := none }) (v := ?_) rfl (by kernel_rfl) (by kernel_rfl) (by kernel_rfl) (fun _ _ _ h => h) (Or.inl ⟨by rfl, ?_⟩) (by assumption) ?_; rotate_left; · (intro w hSw; (try dsimp only at hSw); go_simp; (first | done | with_reducible rfl)))
                          try simp only [Act.put, List.setIfInBounds_toArray, List.set_cons_zero, List.set_cons_succ]
                          (refine wpAnyH_take (i := 7) (oi := { dst := some 109, op := Op.build 64 #[(0, Operand.tmp 107), (1, Operand.tmp 108)], type := 64, pos := "ref.go:246", after := #[{ on := 5, ground := Ground.data }, { on := 6, ground := Ground.data }], guard := none }) (v := ?_) rfl (by kernel_rfl) (by kernel_rfl) (by kernel_rfl) (fun _ _ _ h => h) (Or.inl ⟨by rfl, ?_⟩) (by assumption) ?_; rotate_left; · (intro w hSw; (try dsimp only at hSw); go_simp; (first | done | with_reducible rfl)))
                          try simp only [Act.put, List.setIfInBounds_toArray, List.set_cons_zero, List.set_cons_succ]
                          refine wpAnyH_ready (rs := [1, 8]) (by kernel_rfl) (by simp) ?_
                          refine (AllReadyH.cons (o := { dst := some 103, op := Op.load 22 (Operand.tmp 102), type := 22, pos := "ref.go:246", after := #[{ on := 0, ground := Ground.data }], guard := none }) rfl (fun K hK => ?_) (AllReadyH.cons (o := { dst := some 110, op := Op.buildSlice 22 1 #[(0, Operand.tmp 109)], type := 22, pos := "ref.go:246", after := #[{ on := 7, ground := Ground.data }], guard := none }) rfl (fun K hK => ?_) AllReadyH.nil))
                          · go_simp
                            refine hK.out _ _ ?_ (fun hHeld => ?_)
                            · first
                              | exact hHeld
                            clear hK K
                            try simp only [Act.put, List.setIfInBounds_toArray, List.set_cons_zero, List.set_cons_succ]
                            refine wpAnyH_ready (rs := [8]) (by kernel_rfl) (by simp) ?_
                            refine (AllReadyH.cons (o := { dst := some 110, op := Op.buildSlice 22 1 #[(0, Operand.tmp 109)], type := 22, pos := "ref.go:246", after := #[{ on := 7, ground := Ground.data }], guard := none }) rfl (fun K hK => ?_) AllReadyH.nil)
                            go_simp
                            refine hK.out _ _ ?_ (fun hHeld => ?_)
                            · first
                              | exact keep3g (grew_drew (grew_alloc _ _ _)) (Nat.lt_of_lt_of_le HGL.out (Nat.le_trans HSW.out HG8.out.size)) hHeld
                            clear hK K
                            try simp only [Act.put, List.setIfInBounds_toArray, List.set_cons_zero, List.set_cons_succ]
                            refine wpAnyH_ready (rs := [9]) (by kernel_rfl) (by simp) ?_
                            refine (AllReadyH.cons (o := { dst := some 111, op := Op.call { callee := Callee.builtin Builtin.append, args := #[Operand.tmp 103, Operand.tmp 110], argTypes := #[22, 22] }, type := 22, pos := "ref.go:246", after := #[{ on := 1, ground := Ground.data }, { on := 8, ground := Ground.data }], guard := none }) rfl (fun K hK => ?_) AllReadyH.nil)
                            (refine step_append_E rfl _ _ 22 64 (legV 0 0 0 0) 32 rfl Try.underlying22 info_bal rfl W2.heap.size _ JF (by rfl) (HMX.out _ (grew_trans HG8.out (grew_drew (grew_alloc _ _ _)))).2.1 _ 1 1 [((y1, y2, y3), s)] (by rfl) (by intro h; cases h) ((rowL_one _ _ _ _ _ _ _ rfl).keep (grew_drew (grew_refl _))) (by have := HJN.out; unfold maxLen; omega) (by have := HJN.out; omega) (Nat.le_trans HSW.out (Nat.le_trans HG8.out.size (grew_drew (grew_alloc _ _ _)).size)) ?_; intro v9 w9 hv hb9; rw [← HJ1.out] at hv; obtain ⟨A10, c10, rfl, -⟩ := hv.form; have HV9 := Lib.hid hv; have hM9 := Own2.below (HMX.out _ (grew_trans HG8.out (grew_drew (grew_alloc _ _ _)))).1 hb9 HMW.out; have HM9 := Lib.hid hM9; have HT9 := Lib.hid (Turn.below (HMX.out _ (grew_trans HG8.out (grew_drew (grew_alloc _ _ _)))).2.2 hb9); obtain ⟨-, s1, -, s3, s5⟩ := hM9; have hz9 := keep3b hb9 HGL.out hHeld; clear hv)
                            refine hK.out _ _ ?_ (fun hHeld => ?_)
                            · first
                              | exact hz9
                            clear hK K
                            try simp only [Act.put, List.setIfInBounds_toArray, List.set_cons_zero, List.set_cons_succ]
                            (refine wpAnyH_take (i := 10) (oi := { dst := some 112, op := Op.fieldAddr 24 (Operand.tmp 10) 1, type := 0, pos := "ref.go:246", after := #[{ on := 0, ground := Ground.phase }, { on := 1, ground := Ground.phase }, { on := 2, ground := Ground.phase }, { on := 3, ground := Ground.phase }, { on := 4, ground := Ground.phase }, { on := 5, ground := Ground.phase }, { on := 6, ground := Ground.phase }, { on := 7, ground := Ground.phase }, { on := 8, ground := Ground.phase }, { on := 9, ground := Ground.phase }], guard := none }) (v := ?_) rfl (by kernel_rfl) (by kernel_rfl) (by kernel_rfl) (fun _ _ _ h => h) (Or.inl ⟨by rfl, ?_⟩) (by assumption) ?_; rotate_left; · (intro w hSw; (try dsimp only at hSw); go_simp; (first | done | with_reducible rfl)))
                            try simp only [Act.put, List.setIfInBounds_toArray, List.set_cons_zero, List.set_cons_succ]
                            refine wpAnyH_ready (rs := [11]) (by kernel_rfl) (by simp) ?_
                            refine (AllReadyH.cons (o := { dst := none, op := Op.store 22 (Operand.tmp 112) (Operand.tmp 111), type := 0, pos := "ref.go:246", after := #[{ on := 10, ground := Ground.data }, { on := 9, ground := Ground.data }, { on := 9, ground := Ground.chain }, { on := 0, ground := Ground.phase }, { on := 1, ground := Ground.phase }, { on := 2, ground := Ground.phase }, { on := 3, ground := Ground.phase }, { on := 4, ground := Ground.phase }, { on := 5, ground := Ground.phase }, { on := 6, ground := Ground.phase }, { on := 7, ground := Ground.phase }, { on := 8, ground := Ground.phase }, { on := 9, ground := Ground.phase }], guard := none }) rfl (fun K hK => ?_) AllReadyH.nil)
                            go_simp
                            refine hK.out _ _ ?_ (fun hHeld => ?_)
                            · first
                              | exact keep3s HGN.out hHeld
                            clear hK K
                            try simp only [Act.put, List.setIfInBounds_toArray, List.set_cons_zero, List.set_cons_succ]
                            refine wpAnyH_done (by kernel_rfl) ?_ _
                            clear hHeld
                            go_wp2
                            go_roundw
                            case rel => exact ⟨k + 1, _, by go_num, by omega, by rw [HLO2.out], HT9.out.setCell _ _, HM9.out.set1 _, HV9.out.set _ _ _ HMW.out, HKK2.out⟩
                            case measure => simp only [intOf]; omega
                          · go_simp
                            refine hK.out _ _ ?_ (fun hHeld => ?_)
                            · first
                              | exact keep3g (grew_drew (grew_alloc _ _ _)) (Nat.lt_of_lt_of_le HGL.out (Nat.le_trans HSW.out HG8.out.size)) hHeld
                            clear hK K
                            try simp only [Act.put, List.setIfInBounds_toArray, List.set_cons_zero, List.set_cons_succ]
                            refine wpAnyH_ready (rs := [1]) (by kernel_rfl) (by simp) ?_
                            refine (AllReadyH.cons (o := { dst := some 103, op := Op.load 22 (Operand.tmp 102), type := 22, pos := "ref.go:246", after := #[{ on := 0, ground := Ground.data }], guard := none }) rfl (fun K hK => ?_) AllReadyH.nil)
                            go_simp
                            refine hK.out _ _ ?_ (fun hHeld => ?_)
                            · first
                              | exact hHeld
                            clear hK K
                            try simp only [Act.put, List.setIfInBounds_toArray, List.set_cons_zero, List.set_cons_succ]
                            refine wpAnyH_ready (rs := [9]) (by kernel_rfl) (by simp) ?_
                            refine (AllReadyH.cons (o := { dst := some 111, op := Op.call { callee := Callee.builtin Builtin.append, args := #[Operand.tmp 103, Operand.tmp 110], argTypes := #[22, 22] }, type := 22, pos := "ref.go:246", after := #[{ on := 1, ground := Ground.data }, { on := 8, ground := Ground.data }], guard := none }) rfl (fun K hK => ?_) AllReadyH.nil)
                            (refine step_append_E rfl _ _ 22 64 (legV 0 0 0 0) 32 rfl Try.underlying22 info_bal rfl W2.heap.size _ JF (by rfl) (HMX.out _ (grew_trans HG8.out (grew_drew (grew_alloc _ _ _)))).2.1 _ 1 1 [((y1, y2, y3), s)] (by rfl) (by intro h; cases h) ((rowL_one _ _ _ _ _ _ _ rfl).keep (grew_drew (grew_refl _))) (by have := HJN.out; unfold maxLen; omega) (by have := HJN.out; omega) (Nat.le_trans HSW.out (Nat.le_trans HG8.out.size (grew_drew (grew_alloc _ _ _)).size)) ?_; intro v9 w9 hv hb9; rw [← HJ1.out] at hv; obtain ⟨A10, c10, rfl, -⟩ := hv.form; have HV9 := Lib.hid hv; have hM9 := Own2.below (HMX.out _ (grew_trans HG8.out (grew_drew (grew_alloc _ _ _)))).1 hb9 HMW.out; have HM9 := Lib.hid hM9; have HT9 := Lib.hid (Turn.below (HMX.out _ (grew_trans HG8.out (grew_drew (grew_alloc _ _ _)))).2.2 hb9); obtain ⟨-, s1, -, s3, s5⟩ := hM9; have hz9 := keep3b hb9 HGL.out hHeld; clear hv)
                            refine hK.out _ _ ?_ (fun hHeld => ?_)
                            · first
                              | exact hz9
                            clear hK K
                            try simp only [Act.put, List.setIfInBounds_toArray, List.set_cons_zero, List.set_cons_succ]
                            (refine wpAnyH_take (i := 10) (oi := { dst := some 112, op := Op.fieldAddr 24 (Operand.tmp 10) 1, type := 0, pos := "ref.go:246", after := #[{ on := 0, ground := Ground.phase }, { on := 1, ground := Ground.phase }, { on := 2, ground := Ground.phase }, { on := 3, ground := Ground.phase }, { on := 4, ground := Ground.phase }, { on := 5, ground := Ground.phase }, { on := 6, ground := Ground.phase }, { on := 7, ground := Ground.phase }, { on := 8, ground := Ground.phase }, { on := 9, ground := Ground.phase }], guard := none }) (v := ?_) rfl (by kernel_rfl) (by kernel_rfl) (by kernel_rfl) (fun _ _ _ h => h) (Or.inl ⟨by rfl, ?_⟩) (by assumption) ?_; rotate_left; · (intro w hSw; (try dsimp only at hSw); go_simp; (first | done | with_reducible rfl)))
                            try simp only [Act.put, List.setIfInBounds_toArray, List.set_cons_zero, List.set_cons_succ]
                            refine wpAnyH_ready (rs := [11]) (by kernel_rfl) (by simp) ?_
                            refine (AllReadyH.cons (o := { dst := none, op := Op.store 22 (Operand.tmp 112) (Operand.tmp 111), type := 0, pos := "ref.go:246", after := #[{ on := 10, ground := Ground.data }, { on := 9, ground := Ground.data }, { on := 9, ground := Ground.chain }, { on := 0, ground := Ground.phase }, { on := 1, ground := Ground.phase }, { on := 2, ground := Ground.phase }, { on := 3, ground := Ground.phase }, { on := 4, ground := Ground.phase }, { on := 5, ground := Ground.phase }, { on := 6, ground := Ground.phase }, { on := 7, ground := Ground.phase }, { on := 8, ground := Ground.phase }, { on := 9, ground := Ground.phase }], guard := none }) rfl (fun K hK => ?_) AllReadyH.nil)
                            go_simp
                            refine hK.out _ _ ?_ (fun hHeld => ?_)
                            · first
                              | exact keep3s HGN.out hHeld
                            clear hK K
                            try simp only [Act.put, List.setIfInBounds_toArray, List.set_cons_zero, List.set_cons_succ]
                            refine wpAnyH_done (by kernel_rfl) ?_ _
                            clear hHeld
                            go_wp2
                            go_roundw
                            case rel => exact ⟨k + 1, _, by go_num, by omega, by rw [HLO2.out], HT9.out.setCell _ _, HM9.out.set1 _, HV9.out.set _ _ _ HMW.out, HKK2.out⟩
                            case measure => simp only [intOf]; omega
                      · by_cases h0 : s = 0
                        · have HLO2 : Hid (lowL (sumA (l ++ ls)) (k + 1) = true) := by show _ = _; rw [HLO.out]; rfl
                          clear HLO CFL
                          have HJ0 : Hid (joinF (sumA (l ++ ls)) (k + 1) = JF) := by show _ = _; rw [HJJ.out, if_pos h0, List.append_nil]
                          subst h0
                          clear HJJ
                          go_wp2_with (first
                            | (go_at_call 39; ((with_reducible refine CD.mono ?_); rintro e w7 ⟨rfl, hg⟩; obtain ⟨z1, z2, z3⟩ := HAX2.out w7 hg; have HG7 := Lib.hid hg; clear hg CD)))
                          obtain ⟨hm9, ho9, ht9⟩ := HMX.out _ HG7.out
                          rw [← HJ0.out] at ho9
                          go_roundw
                          case rel => exact ⟨k + 1, _, by go_num, by omega, by rw [HLO2.out], ht9, by rw [← HJ0.out] at hm9; exact hm9, by exact ho9, HKK2.out⟩
                          case measure => simp only [intOf]; omega
                        · have HLO2 : Hid (lowL (sumA (l ++ ls)) (k + 1) = true) := by show _ = _; rw [HLO.out]; rfl
                          clear HLO CFL
                          have HJ1 : Hid (joinF (sumA (l ++ ls)) (k + 1) = JF ++ [((y1, y2, y3), s)]) := by show _ = _; rw [HJJ.out, if_neg h0]
                          have d0 : (s != 0) = true := by simpa using h0
                          clear HJJ h0
                          go_wp2_with (first
                            | (go_at_call 39; ((with_reducible refine CD.mono ?_); rintro e w7 ⟨rfl, hg⟩; obtain ⟨z1, z2, z3⟩ := HAX2.out w7 hg; have HG7 := Lib.hid hg; clear hg CD)))
                          have hm1 := (HMX.out _ HG7.out).1.c1
                          have hml := (HMX.out _ HG7.out).1.lt
                          refine wp_region_held_drew (S := fun w' => w'.cell? ⟨gA, k * 3, none⟩ = some (.int .i64 y1) ∧ w'.cell? ⟨gA, k * 3 + 1, none⟩ = some (.int .i64 y2) ∧ w'.cell? ⟨gA, k * 3 + 2, none⟩ = some (.int .i64 y3)) (by kernel_rfl) ⟨z1, z2, z3⟩ (fun hHeld => ?_)
                          (refine wpAnyH_take (i := 0) (oi := { dst := some 102, op := Op.fieldAddr 24 (Operand.tmp 10) 1, type := 0, pos := "ref.go:246", after := #[], guard := none }) (v := ?_) rfl (by kernel_rfl) (by kernel_rfl) (by kernel_rfl) (fun _ _ _ h => h) (Or.inl ⟨by rfl, ?_⟩) (by assumption) ?_; rotate_left; · (intro w hSw; (try dsimp only at hSw); go_simp; (first | done | with_reducible rfl)))
                          try simp only [Act.put, List.setIfInBounds_toArray, List.set_cons_zero, List.set_cons_succ]
                          (refine wpAnyH_take (i := 2) (oi := { dst := some 104, op := Op.move (Operand.tmp 12), type := 72, pos := "ref.go:246", after := #[], guard := none }) (v := ?_) rfl (by kernel_rfl) (by kernel_rfl) (by kernel_rfl) (fun _ _ _ h => h) (Or.inl ⟨by rfl, ?_⟩) (by assumption) ?_; rotate_left; · (intro w hSw; (try dsimp only at hSw); go_simp; (first | done | with_reducible rfl)))
                          try simp only [Act.put, List.setIfInBounds_toArray, List.set_cons_zero, List.set_cons_succ]
                          (refine wpAnyH_take (i := 3) (oi := { dst := some 105, op := Op.move (Operand.tmp 13), type := 3, pos := "ref.go:246", after := #[], guard := none }) (v := ?_) rfl (by kernel_rfl) (by kernel_rfl) (by kernel_rfl) (fun _ _ _ h => h) (Or.inl ⟨by rfl, ?_⟩) (by assumption) ?_; rotate_left; · (intro w hSw; (try dsimp only at hSw); go_simp; (first | done | with_reducible rfl)))
                          try simp only [Act.put, List.setIfInBounds_toArray, List.set_cons_zero, List.set_cons_succ]
                          (refine wpAnyH_take (i := 4) (oi := { dst := some 106, op := Op.indexAddr 72 (Operand.tmp 104) (Operand.tmp 105), type := 0, pos := "ref.go:246", after := #[{ on := 2, ground := Ground.data }, { on := 3, ground := Ground.data }], guard := none }) (v := ?_) rfl (by kernel_rfl) (by kernel_rfl) (by kernel_rfl) (fun _ _ _ h => h) (Or.inl ⟨by rfl, ?_⟩) (by assumption) ?_; rotate_left; · (intro w hSw; (try dsimp only at hSw); go_simp; (first | done | with_reducible rfl)))
                          try simp only [Act.put, List.setIfInBounds_toArray, List.set_cons_zero, List.set_cons_succ]
                          (refine wpAnyH_take (i := 5) (oi := { dst := some 107, op := Op.load 27 (Operand.tmp 106), type := 27, pos := "ref.go:246", after := #[{ on := 4, ground := Ground.data }], guard := none }) (v := ?_) rfl (by kernel_rfl) (by kernel_rfl) (by kernel_rfl) (fun _ _ _ h => h) (Or.inl ⟨by rfl, ?_⟩) (by assumption) ?_; rotate_left; · (intro w hSw; (try dsimp only at hSw); go_simp; (first | done | with_reducible rfl)))
                          try simp only [Act.put, List.setIfInBounds_toArray, List.set_cons_zero, List.set_cons_succ]
                          (refine wpAnyH_take (i := 6) (oi := { dst := some 108, op := Op.move (Operand.tmp 16), type := 3, pos := "ref.go:246", after := #[], guard := none }) (v := ?_) rfl (by kernel_rfl) (by kernel_rfl) (by kernel_rfl) (fun _ _ _ h => h) (Or.inl ⟨by rfl, ?_⟩) (by assumption) ?_; rotate_left; · (intro w hSw; (try dsimp only at hSw); go_simp; (first | done | with_reducible rfl)))
                          try simp only [Act.put, List.setIfInBounds_toArray, List.set_cons_zero, List.set_cons_succ]
                          (refine wpAnyH_take (i := 7) (oi := { dst := some 109, op := Op.build 64 #[(0, Operand.tmp 107), (1, Operand.tmp 108)], type := 64, pos := "ref.go:246", after := #[{ on := 5, ground := Ground.data }, { on := 6, ground := Ground.data }], guard := none }) (v := ?_) rfl (by kernel_rfl) (by kernel_rfl) (by kernel_rfl) (fun _ _ _ h => h) (Or.inl ⟨by rfl, ?_⟩) (by assumption) ?_; rotate_left; · (intro w hSw; (try dsimp only at hSw); go_simp; (first | done | with_reducible rfl)))
                          try simp only [Act.put, List.setIfInBounds_toArray, List.set_cons_zero, List.set_cons_succ]
                          refine wpAnyH_ready (rs := [1, 8]) (by kernel_rfl) (by simp) ?_
                          refine (AllReadyH.cons (o := { dst := some 103, op := Op.load 22 (Operand.tmp 102), type := 22, pos := "ref.go:246", after := #[{ on := 0, ground := Ground.data }], guard := none }) rfl (fun K hK => ?_) (AllReadyH.cons (o := { dst := some 110, op := Op.buildSlice 22 1 #[(0, Operand.tmp 109)], type := 22, pos := "ref.go:246", after := #[{ on := 7, ground := Ground.data }], guard := none }) rfl (fun K hK => ?_) AllReadyH.nil))
                          · go_simp
                            refine hK.out _ _ ?_ (fun hHeld => ?_)
                            · first
                              | exact hHeld
                            clear hK K
                            try simp only [Act.put, List.setIfInBounds_toArray, List.set_cons_zero, List.set_cons_succ]
                            refine wpAnyH_ready (rs := [8]) (by kernel_rfl) (by simp) ?_
                            refine (AllReadyH.cons (o := { dst := some 110, op := Op.buildSlice 22 1 #[(0, Operand.tmp 109)], type := 22, pos := "ref.go:246", after := #[{ on := 7, ground := Ground.data }], guard := none }) rfl (fun K hK => ?_) AllReadyH.nil)
                            go_simp
                            refine hK.out _ _ ?_ (fun hHeld => ?_)
                            · first
                              | exact keep3g (grew_drew (grew_alloc _ _ _)) (Nat.lt_of_lt_of_le HGL.out (Nat.le_trans HSW.out HG7.out.size)) hHeld
                            clear hK K
                            try simp only [Act.put, List.setIfInBounds_toArray, List.set_cons_zero, List.set_cons_succ]
                            refine wpAnyH_ready (rs := [9]) (by kernel_rfl) (by simp) ?_
                            refine (AllReadyH.cons (o := { dst := some 111, op := Op.call { callee := Callee.builtin Builtin.append, args := #[Operand.tmp 103, Operand.tmp 110], argTypes := #[22, 22] }, type := 22, pos := "ref.go:246", after := #[{ on := 1, ground := Ground.data }, { on := 8, ground := Ground.data }], guard := none }) rfl (fun K hK => ?_) AllReadyH.nil)
                            (refine step_append_E rfl _ _ 22 64 (legV 0 0 0 0) 32 rfl Try.underlying22 info_bal rfl W2.heap.size _ JF (by rfl) (HMX.out _ (grew_trans HG7.out (grew_drew (grew_alloc _ _ _)))).2.1 _ 1 1 [((y1, y2, y3), s)] (by rfl) (by intro h; cases h) ((rowL_one _ _ _ _ _ _ _ rfl).keep (grew_drew (grew_refl _))) (by have := HJN.out; unfold maxLen; omega) (by have := HJN.out; omega) (Nat.le_trans HSW.out (Nat.le_trans HG7.out.size (grew_drew (grew_alloc _ _ _)).size)) ?_; intro v9 w9 hv hb9; rw [← HJ1.out] at hv; obtain ⟨A10, c10, rfl, -⟩ := hv.form; have HV9 := Lib.hid hv; have hM9 := Own2.below (HMX.out _ (grew_trans HG7.out (grew_drew (grew_alloc _ _ _)))).1 hb9 HMW.out; have HM9 := Lib.hid hM9; have HT9 := Lib.hid (Turn.below (HMX.out _ (grew_trans HG7.out (grew_drew (grew_alloc _ _ _)))).2.2 hb9); obtain ⟨-, s1, -, s3, s5⟩ := hM9; have hz9 := keep3b hb9 HGL.out hHeld; clear hv)
                            refine hK.out _ _ ?_ (fun hHeld => ?_)
                            · first
                              | exact hz9
                            clear hK K
                            try simp only [Act.put, List.setIfInBounds_toArray, List.set_cons_zero, List.set_cons_succ]
                            (refine wpAnyH_take (i := 10) (oi := { dst := some 112, op := Op.fieldAddr 24 (Operand.tmp 10) 1, type := 0, pos := "ref.go:246", after := #[{ on := 0, ground := Ground.phase }, { on := 1, ground := Ground.phase }, { on := 2, ground := Ground.phase }, { on := 3, ground := Ground.phase }, { on := 4, ground := Ground.phase }, { on := 5, ground := Ground.phase }, { on := 6, ground := Ground.phase }, { on := 7, ground := Ground.phase }, { on := 8, ground := Ground.phase }, { on := 9, ground := Ground.phase }], guard := none }) (v := ?_) rfl (by kernel_rfl) (by kernel_rfl) (by kernel_rfl) (fun _ _ _ h => h) (Or.inl ⟨by rfl, ?_⟩) (by assumption) ?_; rotate_left; · (intro w hSw; (try dsimp only at hSw); go_simp; (first | done | with_reducible rfl)))
                            try simp only [Act.put, List.setIfInBounds_toArray, List.set_cons_zero, List.set_cons_succ]
                            refine wpAnyH_ready (rs := [11]) (by kernel_rfl) (by simp) ?_
                            refine (AllReadyH.cons (o := { dst := none, op := Op.store 22 (Operand.tmp 112) (Operand.tmp 111), type := 0, pos := "ref.go:246", after := #[{ on := 10, ground := Ground.data }, { on := 9, ground := Ground.data }, { on := 9, ground := Ground.chain }, { on := 0, ground := Ground.phase }, { on := 1, ground := Ground.phase }, { on := 2, ground := Ground.phase }, { on := 3, ground := Ground.phase }, { on := 4, ground := Ground.phase }, { on := 5, ground := Ground.phase }, { on := 6, ground := Ground.phase }, { on := 7, ground := Ground.phase }, { on := 8, ground := Ground.phase }, { on := 9, ground := Ground.phase }], guard := none }) rfl (fun K hK => ?_) AllReadyH.nil)
                            go_simp
                            refine hK.out _ _ ?_ (fun hHeld => ?_)
                            · first
                              | exact keep3s HGN.out hHeld
                            clear hK K
                            try simp only [Act.put, List.setIfInBounds_toArray, List.set_cons_zero, List.set_cons_succ]
                            refine wpAnyH_done (by kernel_rfl) ?_ _
                            clear hHeld
                            go_wp2
                            go_roundw
                            case rel => exact ⟨k + 1, _, by go_num, by omega, by rw [HLO2.out], HT9.out.setCell _ _, HM9.out.set1 _, HV9.out.set _ _ _ HMW.out, HKK2.out⟩
                            case measure => simp only [intOf]; omega
                          · go_simp
                            refine hK.out _ _ ?_ (fun hHeld => ?_)
                            · first
                              | exact keep3g (grew_drew (grew_alloc _ _ _)) (Nat.lt_of_lt_of_le HGL.out (Nat.le_trans HSW.out HG7.out.size)) hHeld
                            clear hK K
                            try simp only [Act.put, List.setIfInBounds_toArray, List.set_cons_zero, List.set_cons_succ]
                            refine wpAnyH_ready (rs := [1]) (by kernel_rfl) (by simp) ?_
                            refine (AllReadyH.cons (o := { dst := some 103, op := Op.load 22 (Operand.tmp 102), type := 22, pos := "ref.go:246", after := #[{ on := 0, ground := Ground.data }], guard := none }) rfl (fun K hK => ?_) AllReadyH.nil)
                            go_simp
                            refine hK.out _ _ ?_ (fun hHeld => ?_)
                            · first
                              | exact hHeld
                            clear hK K
                            try simp only [Act.put, List.setIfInBounds_toArray, List.set_cons_zero, List.set_cons_succ]
                            refine wpAnyH_ready (rs := [9]) (by kernel_rfl) (by simp) ?_
                            refine (AllReadyH.cons (o := { dst := some 111, op := Op.call { callee := Callee.builtin Builtin.append, args := #[Operand.tmp 103, Operand.tmp 110], argTypes := #[22, 22] }, type := 22, pos := "ref.go:246", after := #[{ on := 1, ground := Ground.data }, { on := 8, ground := Ground.data }], guard := none }) rfl (fun K hK => ?_) AllReadyH.nil)
                            (refine step_append_E rfl _ _ 22 64 (legV 0 0 0 0) 32 rfl Try.underlying22 info_bal rfl W2.heap.size _ JF (by rfl) (HMX.out _ (grew_trans HG7.out (grew_drew (grew_alloc _ _ _)))).2.1 _ 1 1 [((y1, y2, y3), s)] (by rfl) (by intro h; cases h) ((rowL_one _ _ _ _ _ _ _ rfl).keep (grew_drew (grew_refl _))) (by have := HJN.out; unfold maxLen; omega) (by have := HJN.out; omega) (Nat.le_trans HSW.out (Nat.le_trans HG7.out.size (grew_drew (grew_alloc _ _ _)).size)) ?_; intro v9 w9 hv hb9; rw [← HJ1.out] at hv; obtain ⟨A10, c10, rfl, -⟩ := hv.form; have HV9 := Lib.hid hv; have hM9 := Own2.below (HMX.out _ (grew_trans HG7.out (grew_drew (grew_alloc _ _ _)))).1 hb9 HMW.out; have HM9 := Lib.hid hM9; have HT9 := Lib.hid (Turn.below (HMX.out _ (grew_trans HG7.out (grew_drew (grew_alloc _ _ _)))).2.2 hb9); obtain ⟨-, s1, -, s3, s5⟩ := hM9; have hz9 := keep3b hb9 HGL.out hHeld; clear hv)
                            refine hK.out _ _ ?_ (fun hHeld => ?_)
                            · first
                              | exact hz9
                            clear hK K
                            try simp only [Act.put, List.setIfInBounds_toArray, List.set_cons_zero, List.set_cons_succ]
                            (refine wpAnyH_take (i := 10) (oi := { dst := some 112, op := Op.fieldAddr 24 (Operand.tmp 10) 1, type := 0, pos := "ref.go:246", after := #[{ on := 0, ground := Ground.phase }, { on := 1, ground := Ground.phase }, { on := 2, ground := Ground.phase }, { on := 3, ground := Ground.phase }, { on := 4, ground := Ground.phase }, { on := 5, ground := Ground.phase }, { on := 6, ground := Ground.phase }, { on := 7, ground := Ground.phase }, { on := 8, ground := Ground.phase }, { on := 9, ground := Ground.phase }], guard := none }) (v := ?_) rfl (by kernel_rfl) (by kernel_rfl) (by kernel_rfl) (fun _ _ _ h => h) (Or.inl ⟨by rfl, ?_⟩) (by assumption) ?_; rotate_left; · (intro w hSw; (try dsimp only at hSw); go_simp; (first | done | with_reducible rfl)))
                            try simp only [Act.put, List.setIfInBounds_toArray, List.set_cons_zero, List.set_cons_succ]
                            refine wpAnyH_ready (rs := [11]) (by kernel_rfl) (by simp) ?_
                            refine (AllReadyH.cons (o := { dst := none, op := Op.store 22 (Operand.tmp 112) (Operand.tmp 111), type := 0, pos := "ref.go:246", after := #[{ on := 10, ground := Ground.data }, { on := 9, ground := Ground.data }, { on := 9, ground := Ground.chain }, { on := 0, ground := Ground.phase }, { on := 1, ground := Ground.phase }, { on := 2, ground := Ground.phase }, { on := 3, ground := Ground.phase }, { on := 4, ground := Ground.phase }, { on := 5, ground := Ground.phase }, { on := 6, ground := Ground.phase }, { on := 7, ground := Ground.phase }, { on := 8, ground := Ground.phase }, { on := 9, ground := Ground.phase }], guard := none }) rfl (fun K hK => ?_) AllReadyH.nil)
                            go_simp
                            refine hK.out _ _ ?_ (fun hHeld => ?_)
                            · first
                              | exact keep3s HGN.out hHeld
                            clear hK K
                            try simp only [Act.put, List.setIfInBounds_toArray, List.set_cons_zero, List.set_cons_succ]
                            refine wpAnyH_done (by kernel_rfl) ?_ _
                            clear hHeld
                            go_wp2
                            go_roundw
                            case rel => exact ⟨k + 1, _, by go_num, by omega, by rw [HLO2.out], HT9.out.setCell _ _, HM9.out.set1 _, HV9.out.set _ _ _ HMW.out, HKK2.out⟩
                            case measure => simp only [intOf]; omega
              · obtain rfl : k = 108 := by omega
                have HV := Lib.hid (HE5.out.trans (HEND.out HK.out))
                obtain ⟨A9, c9, rfl, -⟩ := HO.out.form
                obtain ⟨e0, e1, f0, f1, lt⟩ := HP6.out
                obtain ⟨m0, m1, mf0, mf1, mlt⟩ := HM.out
                clear HBIG HEND HK CO
                cases hlo : lowL (sumA (l ++ ls)) 108
                · have HE : Hid (postE last l id ls = 0) := by have := HV.out; rw [hlo] at this; exact this
                  have HAL : Hid (joinF (sumA (l ++ ls)) 108 = addL l ls) := by show _ = _; unfold addL; rw [if_pos (HE5.out.symm.trans HE.out)]
                  rw [HAL.out] at HO m1
                  clear hlo HV
                  go_wp2
                  have K := HP6.out.set (.int .i64 id) (.slice A9 (addL l ls).length c9)
                  have r0 := K.c0
                  have r1 := K.c1
                  refine bodyPost_ret (v := .tuple #[.agg #[.int .i64 id, .slice A9 (addL l ls).length c9], .int .i64 0]) (by simp [results, Try.results16, go_sem, r0, r1]) rfl ?_
                  have hb1 : w.heap.size + 1 < W2.heap.size := Nat.lt_trans HSM.out HMW.out
                  exact postP_yes HE.out (((HO.out.set (w.heap.size + 1) 0 _ hb1).set (w.heap.size + 1) 1 _ hb1).mono HGW.out.size) (grew_set (grew_set HG0.out _ (by show _ ≤ w.heap.size + 1; omega)) _ (by show _ ≤ w.heap.size + 1; omega))
                · have HE : Hid (postE last l id ls = 13) := by have := HV.out; rw [hlo] at this; exact this
                  clear hlo HV
                  go_wp2
                  have K := HP6.out.set (.int .i64 0) (.slice none 0 0)
                  have r0 := K.c0
                  have r1 := K.c1
                  refine bodyPost_ret (v := .tuple #[.agg #[.int .i64 0, .slice none 0 0], .int .i64 13]) (by simp [results, Try.results16, go_sem, r0, r1]) rfl ?_
                  exact postP_no HE.out (by decide) (grew_set (grew_set HG0.out _ (by show _ ≤ w.heap.size + 1; omega)) _ (by show _ ≤ w.heap.size + 1; omega))
          · have HE := Lib.hid (postE_4 hb h12 h3 h4)
            generalize checkE ls = ce at *
            have d4 : (ce != 0) = true := by simpa using h4
            have HNZ := Lib.hid h4
            clear hb h12 h4 CO
            go_enter Try.func16, Try.ntmps16
            go_wp2_with (first
              | (go_at_call 11; ((with_reducible refine (CC _ (HI.out.keep (grew_trans (grew_alloc _ _ _) (grew_trans (grew_alloc _ _ _) (grew_alloc _ _ _))))).mono ?_); rintro e w1 ⟨rfl, hg⟩; obtain ⟨d0, d1, ho1, n0, n1, hsz1, hg1⟩ := box3 w last A n c _ hg; have HO1 := Lib.hid ho1; obtain ⟨e0, e1, f0, f1, lt⟩ := HO1.out; have HG1 := Lib.hid hg1; clear hg hg1 ho1 CC))
              | (go_at_call 37; ((with_reducible refine (CD _ (HJ.out.keep HG1.out)).mono ?_); rintro e w2 ⟨rfl, hg⟩; have HO2 := Lib.hid (HO1.out.keep hg); clear e0 e1 f0 f1 lt; obtain ⟨e0, e1, f0, f1, lt⟩ := HO2.out; have d0' : w2.cell? ⟨w.heap.size, 0, none⟩ = some (.int .i64 last) := (grew_cell hg (p := ⟨w.heap.size, 0, none⟩) (by show w.heap.size < _; omega)).trans d0; have d1' : w2.cell? ⟨w.heap.size, 1, none⟩ = some (.slice A n c) := (grew_cell hg (p := ⟨w.heap.size, 1, none⟩) (by show w.heap.size < _; omega)).trans d1; have n0' : w2.cell? ⟨w.heap.size + 1 + 1, 0, none⟩ = some (.int .i64 0) := (grew_cell hg (p := ⟨w.heap.size + 1 + 1, 0, none⟩) hsz1).trans n0; have n1' : w2.cell? ⟨w.heap.size + 1 + 1, 1, none⟩ = some (.slice none 0 0) := (grew_cell hg (p := ⟨w.heap.size + 1 + 1, 1, none⟩) hsz1).trans n1; have hsz2 : w.heap.size + 1 + 1 < w2.heap.size := Nat.lt_of_lt_of_le hsz1 hg.size; clear d0 d1 n0 n1 hsz1; have HG2 := Lib.hid (grew_trans HG1.out hg); clear hg CD)))
            have K := HO2.out.set (.int .i64 0) (.slice none 0 0)
            have r0 := K.c0
            have r1 := K.c1
            refine bodyPost_ret (v := .tuple #[.agg #[.int .i64 0, .slice none 0 0], .int .i64 ce]) (by simp [results, Try.results16, go_sem, r0, r1]) rfl ?_
            exact postP_no HE.out HNZ.out (grew_set (grew_set HG2.out _ (by show _ ≤ w.heap.size + 1; omega)) _ (by show _ ≤ w.heap.size + 1; omega))
  · rw [Bool.not_eq_true] at hb
    have HE := Lib.hid (postE_1 (id := id) (m := ls) (by rw [hb]; decide))
    rw [hb] at CC
    clear CD CO hb
    go_enter Try.func16, Try.ntmps16
    go_wp2_with (go_at_call 11; ((with_reducible refine (CC _ (HI.out.keep (grew_trans (grew_alloc _ _ _) (grew_trans (grew_alloc _ _ _) (grew_alloc _ _ _))))).mono ?_); rintro e w1 ⟨rfl, hg⟩; obtain ⟨d0, d1, ho1, n0, n1, hsz1, hg1⟩ := box3 w last A n c _ hg; have HO1 := Lib.hid ho1; obtain ⟨e0, e1, f0, f1, lt⟩ := HO1.out; have HG1 := Lib.hid hg1; clear hg hg1 ho1 CC))
    have K := HO1.out.set (.int .i64 0) (.slice none 0 0)
    have r0 := K.c0
    have r1 := K.c1
    refine bodyPost_ret (v := .tuple #[.agg #[.int .i64 0, .slice none 0 0], .int .i64 14]) (by simp [results, Try.results16, go_sem, r0, r1]) rfl ?_
    exact postP_no HE.out (by decide) (grew_set (grew_set HG1.out _ (by show _ ≤ w.heap.size + 1; omega)) _ (by show _ ≤ w.heap.size + 1; omega))
end Go.Proofs.Ytafglljfgoeapaa.NumK
