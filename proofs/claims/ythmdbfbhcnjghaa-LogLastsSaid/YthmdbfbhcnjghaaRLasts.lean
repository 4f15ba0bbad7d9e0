/- LogLasts: its model, life by life. -/
import Derived.Test.YthmdbfbhcnjghaaRJnN
import Derived.Test.YthmdbfbhcnjghaaRGrd
import Derived.Test.YthmdbfbhcnjghaaRFrame
import Derived.Deep.AppendLies
namespace Go.Proofs.Ythmdbfbhcnjghaa.NumK
open Go.RowKit

theorem dArm_same (s : DS) (n : Int) : (dArm s n).safe = s.safe ∧ (dArm s n).opn = s.opn ∧ (dArm s n).off = s.off := by
  unfold dArm
  split
  · exact ⟨rfl, rfl, rfl⟩
  · exact ⟨rfl, rfl, rfl⟩
theorem lBegin_opn (s : DS) (l : LS) (snap : List UInt8) : (lBegin s l snap).2.1.opn.length ≤ s.opn.length + roomD s + nbk (snap.length + 21) := by
  have h1 := wrL_opn s ((1 - l.half) * roomD s) (List.replicate (roomD s) blk0)
  rw [List.length_replicate] at h1
  unfold lBegin
  split
  · dsimp only; omega
  · split
    · dsimp only; omega
    · split
      · dsimp only; omega
      · dsimp only
        split
        · dsimp only; omega
        · have h2 := dSync_opn (wrL s ((1 - l.half) * roomD s) (List.replicate (roomD s) blk0)).2
          split
          · dsimp only; omega
          · have h3 := wrL_opn (dSync (wrL s ((1 - l.half) * roomD s) (List.replicate (roomD s) blk0)).2).2 ((1 - l.half) * roomD s) (rowL (l.gen + 1) (frameB (l.gen + 1) 0 snap))
            rw [rowL_len] at h3
            split
            · dsimp only; omega
            · have h4 := dSync_opn (wrL (dSync (wrL s ((1 - l.half) * roomD s) (List.replicate (roomD s) blk0)).2).2 ((1 - l.half) * roomD s) (rowL (l.gen + 1) (frameB (l.gen + 1) 0 snap))).2
              split
              · dsimp only; omega
              · dsimp only; omega
theorem LG.opnLen {s : DS} {h g : Nat} {snap : List UInt8} {w r : List (List UInt8)} (L : LG s h g snap w r) : s.opn.length ≤ 32768 := by
  obtain ⟨j, e⟩ := L.opn
  rw [e, wl_len, List.length_take, rowsL_len]
  have h1 := L.fits
  have h2 := L.big
  rw [← List.cons_append, spanL_append] at h1
  unfold roomD at h1
  omega
/-- Between two lives. -/
structure BL (s : DS) (i : Nat) : Prop where
  on : s.off = false
  opn : s.opn = []
  len : s.safe.length = 400
  gen : (lPick s).gen ≤ i
theorem bl_new : BL (dNew 400) 0 := ⟨rfl, rfl, dNew_len 400, by rw [lPick_new]; decide⟩
theorem bl_begin {s : DS} {i : Nat} (h : BL s i) (hi : i ≤ 12) (arm : Int) (snap : List UInt8) (hp : snap.length ≤ 300) :
    (∃ s1 a g, lBegin (dArm s arm) (lPick s) snap = (0, s1, lgL a g snap [] true) ∧ s1.off = false ∧ s1.opn = [] ∧ LG s1 a g snap [] [] ∧ s1.safe.length = 400 ∧ g ≤ i + 1) ∨
    (∃ s1 l1, lBegin (dArm s arm) (lPick s) snap = (7, s1, l1) ∧ s1.off = true ∧ s1.safe.length = 400 ∧ s1.opn.length ≤ 1000 ∧ ∀ picks, lPick (dAfter s1 picks) = lPick s ∨ ∃ a g, lPick (dAfter s1 picks) = lgL a g snap [] false ∧ g ≤ i + 1) := by
  obtain ⟨q1, q2, q3⟩ := dArm_same s arm
  have hpk : lPick (dArm s arm) = lPick s := lPick_same q1 q2
  have hrm : roomD (dArm s arm) = 200 := by unfold roomD; rw [q1, h.len]
  have hlen := lBegin_len (dArm s arm) (lPick s) snap
  rw [q1, h.len] at hlen
  have hopn := lBegin_opn (dArm s arm) (lPick s) snap
  rw [q2, h.opn, hrm] at hopn
  have hpp := lPick_part (dArm s arm)
  rw [hpk] at hpp
  have hg := h.gen
  rcases begin_any (s := dArm s arm) (l := lPick s) (snap := snap) (lPick_half s) (by rw [q2, h.opn]) (by rw [q3, h.on]) (by rw [q1, h.len]; omega) (by rw [hpp]; exact Nat.le_refl _) (by omega) (by omega) (by rw [hrm]; unfold nbk; omega) with b | b
  · obtain ⟨a1, a2, a3, a4, a5, a6, a7⟩ := b
    refine Or.inl ⟨(lBegin (dArm s arm) (lPick s) snap).2.1, 1 - (lPick s).half, (lPick s).gen + 1, ?_, a2, a3, a5, hlen, by omega⟩
    rw [show lgL (1 - (lPick s).half) ((lPick s).gen + 1) snap [] true = (lBegin (dArm s arm) (lPick s) snap).2.2 by rw [a7]; simp [lgL, spanL], ← a1]
  · obtain ⟨a1, a2, a3⟩ := b
    refine Or.inr ⟨(lBegin (dArm s arm) (lPick s) snap).2.1, (lBegin (dArm s arm) (lPick s) snap).2.2, by rw [← a1], a2, hlen, ?_, fun picks => ?_⟩
    · have : nbk (snap.length + 21) ≤ 6 := by unfold nbk; omega
      simp only [List.length_nil] at hopn
      omega
    · rcases a3 (by rw [hpk]) picks with c | c
      · exact Or.inl (by rw [c, hpk])
      · exact Or.inr ⟨1 - (lPick s).half, (lPick s).gen + 1, by rw [c]; simp [lgL, spanL], by omega⟩
theorem bl_after {s : DS} {i : Nat} (h : s.safe.length = 400) (picks : List Int) (hg : (lPick (dAfter s picks)).gen ≤ i) : BL (dAfter s picks) i := ⟨rfl, rfl, by rw [dAfter_len, h], hg⟩
theorem lAppend_safe (s : DS) (l : LS) (recs : List (List UInt8)) : (lAppend s l recs).2.1.safe = s.safe := by
  unfold lAppend
  split
  · rfl
  · split
    · rfl
    · split
      · rfl
      · split
        · rfl
        · dsimp only
          split
          · dsimp only; rw [wrL_keeps]
          · dsimp only; rw [wrL_keeps]
/-- Behind k records that were to last, e being what the last call told. -/
structure LA (s : DS) (a g : Nat) (snap : List UInt8) (ls : List (List UInt8)) (k : Nat) (e : Int) : Prop where
  lg : LG s a g snap [] (ls.take k)
  len : s.safe.length = 400
  ok : (e = 0 ∧ s.off = false ∧ s.opn = wl (a * roomD s + spanL [snap]) (rowsL g 1 (ls.take k))) ∨ (e = 7 ∧ s.off = true)
theorem spanL_take_few (ls : List (List UInt8)) (hl : ls.length ≤ 20) (h3 : ∀ l ∈ ls, l.length ≤ 300) : spanL ls ≤ 120 := by
  have := spanL_few ls h3
  omega
theorem la_step {s : DS} {a g : Nat} {snap : List UInt8} {ls : List (List UInt8)} {k : Nat} (h : LA s a g snap ls k 0) (hk : k < ls.length) (hp : snap.length ≤ 300) (hl : ls.length ≤ 20) (h3 : ∀ l ∈ ls, l.length ≤ 300) :
    ∃ e s' l', lAppend s (lgL a g snap (ls.take k) true) [ls.getD k []] = (e, s', l') ∧ LA s' a g snap ls (k + 1) e ∧ (e = 0 → l' = lgL a g snap (ls.take (k + 1)) true) := by
  have hrm : roomD s = 200 := by unfold roomD; rw [h.len]
  rcases h.ok with ⟨_, ho, hall⟩ | ⟨h7, _⟩
  · have hmem : ls.getD k [] ∈ ls := by
      rw [List.getD_eq_getElem?_getD, List.getElem?_eq_getElem hk]
      exact List.getElem_mem _
    have h4 := h3 _ hmem
    have h5 := spanL_take_le ls (k + 1)
    have h6 := spanL_take_few ls hl h3
    have hts := take_snocR ls k hk
    have hfit : spanL (snap :: ls.take k) + spanL [ls.getD k []] ≤ roomD s := by
      rw [hrm]
      rw [hts, spanL_append] at h5
      simp only [spanL] at *
      have : nbk (snap.length + 21) ≤ 6 := by unfold nbk; omega
      omega
    obtain ⟨a1, a2, a3⟩ := h.lg.append hall ho [ls.getD k []] (fun p hpm => by rw [List.mem_singleton] at hpm; rw [hpm]; omega) hfit
    have hlen := lAppend_safe s (lgL a g snap (ls.take k) true) [ls.getD k []]
    obtain ⟨e, s', l', hE⟩ : ∃ e s' l', lAppend s (lgL a g snap (ls.take k) true) [ls.getD k []] = (e, s', l') := ⟨_, _, _, rfl⟩
    have hE' : lAppend s ⟨a, g, snap, [] ++ ls.take k, spanL (snap :: ([] ++ ls.take k)), true⟩ [ls.getD k []] = (e, s', l') := hE
    rw [hE'] at a1 a2 a3
    rw [hE] at hlen
    dsimp only at a1 a2 a3 hlen
    rw [← hts] at a1 a3
    refine ⟨e, s', l', hE, ⟨a1, by rw [hlen, h.len], ?_⟩, fun e0 => ?_⟩
    · rcases a3 with ⟨z1, z2, z3, z4⟩ | ⟨z1, z2⟩
      · rw [← a2] at z3
        exact Or.inl ⟨z1, z2, z3⟩
      · exact Or.inr ⟨z1, z2⟩
    · rcases a3 with ⟨z1, z2, z3, z4⟩ | ⟨z1, z2⟩
      · exact z4
      · rw [z1] at e0; exact absurd e0 (by decide)
  · exact absurd h7 (by decide)
theorem la_sync {s : DS} {a g : Nat} {snap : List UInt8} {ls : List (List UInt8)} (h : LA s a g snap ls ls.length 0) :
    ∃ e s', dSync s = (e, s') ∧ s'.safe.length = 400 ∧ ((e = 0 ∧ s'.off = false ∧ s'.opn = [] ∧ LG s' a g snap ls []) ∨ (e = 7 ∧ s'.off = true ∧ LG s' a g snap [] ls)) := by
  have hts : ls.take ls.length = ls := List.take_length
  have hlg := h.lg
  rcases h.ok with ⟨_, ho, hall⟩ | ⟨h7, _⟩
  · rw [hts] at hlg hall
    have hlen := dSync_len s
    rcases dSync_post ho with ⟨z1, z2, z3, z4⟩ | ⟨z1, z2, z3, z4⟩
    · refine ⟨(dSync s).1, (dSync s).2, rfl, by rw [hlen, h.len], Or.inl ⟨z1, z2, z3, ?_⟩⟩
      have := hlg.sync hall _ z4 z3
      rwa [List.nil_append] at this
    · exact ⟨(dSync s).1, (dSync s).2, rfl, by rw [hlen, h.len], Or.inr ⟨z1, z2, hlg.same z4 z3⟩⟩
  · exact absurd h7 (by decide)
theorem la_rest {s : DS} {a g : Nat} {snap : List UInt8} {ls rest : List (List UInt8)} (L : LG s a g snap ls []) (ho : s.off = false) (hopn : s.opn = []) (hlen : s.safe.length = 400) (hr : ∀ l ∈ rest, l.length ≤ 300) :
    ∃ e s' l' r, lAppend s (lgL a g snap ls true) rest = (e, s', l') ∧ s'.safe.length = 400 ∧ LG s' a g snap ls r ∧ (r = rest ∨ r = []) := by
  have hsf := lAppend_safe s (lgL a g snap ls true) rest
  by_cases hf : spanL (snap :: ls) + spanL rest ≤ roomD s
  · obtain ⟨a1, a2, a3⟩ := L.append (by rw [hopn]; rfl) ho rest (fun p hp => by have := hr p hp; omega) (by rw [List.append_nil]; exact hf)
    simp only [List.append_nil, List.nil_append] at a1
    exact ⟨(lAppend s (lgL a g snap ls true) rest).1, (lAppend s (lgL a g snap ls true) rest).2.1, (lAppend s (lgL a g snap ls true) rest).2.2, rest, rfl, by rw [hsf, hlen], a1, Or.inl rfl⟩
  · have e := LL.full (s := s) (h := a) (g := g) (snap := snap) (rs := ls) rest (fun p hp => by have := hr p hp; omega) (by omega)
    exact ⟨9, s, _, [], e, hlen, L, Or.inr rfl⟩
theorem life_end {s : DS} {a g : Nat} {snap : List UInt8} {w r : List (List UInt8)} (L : LG s a g snap w r) (all : List (List UInt8)) (hall : ∃ more, all = w ++ r ++ more) (zs : List Int) : Fnd (lPick (dAfter s zs)) snap w all ∧ (lPick (dAfter s zs)).gen = g := by
  obtain ⟨more, rfl⟩ := hall
  exact L.found more zs
instance (l : LS) (snap : List UInt8) (safe all : List (List UInt8)) : Decidable (Fnd l snap safe all) := by unfold Fnd; infer_instance
end Go.Proofs.Ythmdbfbhcnjghaa.NumK
namespace Go.Proofs.Ythmdbfbhcnjghaa.NumK
open Go.RowKit

/-- What holds whatever M turns. -/
def Stab (M : Nat → Prop) (w : World) (P : World → Prop) : Prop := ∀ w', Chg M w w' → P w'
theorem Stab.now {M : Nat → Prop} {w : World} {P : World → Prop} (h : Stab M w P) : P w := h w (Chg.refl _ _)
theorem Stab.chg {M : Nat → Prop} {w w' : World} {P : World → Prop} (h : Stab M w P) (g : Chg M w w') : Stab M w' P := fun w2 g2 => h w2 (g.trans g2)
theorem Stab.mono {M M' : Nat → Prop} {w : World} {P : World → Prop} (h : Stab M w P) (hM : ∀ k, M' k → M k) : Stab M' w P := fun w2 g => h w2 (g.mono hM)
theorem Stab.imp {M : Nat → Prop} {w : World} {P Q : World → Prop} (h : Stab M w P) (f : ∀ w', P w' → Q w') : Stab M w Q := fun w2 g => f w2 (h w2 g)
theorem Stab.and {M : Nat → Prop} {w : World} {P Q : World → Prop} (h : Stab M w P) (k : Stab M w Q) : Stab M w (fun w => P w ∧ Q w) := fun w2 g => ⟨h w2 g, k w2 g⟩
/-- What came in. -/
theorem stab_old {M : Nat → Prop} {W w : World} {P : World → Prop} (g : Grew W w) (hM : ∀ k, M k → W.heap.size ≤ k) (h : ∀ w', Grew W w' → P w') : Stab M w P := fun w' c => h w' (Chg.grew g c hM)
theorem mine_new {N : Nat → Prop} {W w w' : World} : ∀ k, Mine (WithNew N w w') W k → Mine N W k := fun _ h => ⟨h.1, fun hn => h.2 (Or.inl hn)⟩
theorem mine_old {N : Nat → Prop} {W : World} : ∀ k, Mine N W k → W.heap.size ≤ k := fun _ h => h.1
theorem stab_bys {M : Nat → Prop} {w : World} {A : Option Addr} {n : Nat} {l : List UInt8} (h : Bys w A n l) (hM : ∀ a, A = some a → 0 < n → ¬ M a.block) : Stab M w (fun w => Bys w A n l) := fun _ g => h.chg0 g hM
theorem RowsS.stab {M : Nat → Prop} {w : World} {A : Option Addr} {n : Nat} {ls : List (List UInt8)} (h : RowsS M w A n ls) : Stab M w (fun w => RowsB w A n ls) := fun _ g => h.toB g
/-- A row of slices that a call owns. -/
theorem RowsG.toS {w : World} {P M : Nat → Prop} {v : Value} {ls : List (List UInt8)} (h : RowsG w P v ls) (hM : ∀ k, P k → ¬ M k) : ∃ A c, v = .slice A ls.length c ∧ RowsS M w A ls.length ls ∧ (A = none → c = 0) ∧ ls.length ≤ c := by
  obtain ⟨xs, h1, h2, h3⟩ := h
  rcases h1.2 with ⟨rfl, h0⟩ | ⟨g, cap, cur, rfl, hb, hg, hc, _, _, ht⟩
  · rw [h0]
    exact ⟨none, 0, rfl, ⟨h0, fun h => absurd h (by omega)⟩, fun _ => rfl, Nat.le_refl _⟩
  · refine ⟨some ⟨g, 0, none⟩, cap, rfl, ⟨rfl, fun _ => ⟨g, 0, rfl, own_at_lt hg, fun j hj => ?_⟩⟩, (fun h => by cases h), hc⟩
    obtain ⟨x, hx, hs, hp⟩ := h3 j hj
    obtain ⟨A1, c1, rfl, hb1, hA, hn, hm, _⟩ := bys_own2 hs
    refine ⟨A1, _, c1, fun w' c => ⟨?_, hb1.chg0 c (fun a ha _ => hM _ (hp a.block (by rw [ha]; rfl)))⟩, hA, hn, by omega⟩
    have e0 : w.cell? ⟨g, 0 + j, none⟩ = some (.slice A1 (ls.getD j []).length c1) := by
      rw [cell_of_row w g (0 + j) cur _ (0, 0) hg, Nat.zero_add]
      have e1 : (cur.toList.take (ls.length * 1))[j]? = cur[j]? := by rw [List.getElem?_take]; simp [hj]
      rw [← e1, ht, hx]
    exact (c.cell (p := ⟨g, 0 + j, none⟩) (own_at_lt hg) (hM g (h2 g rfl))).trans e0
theorem RowsO.toS {w : World} {base : Nat} {v : Value} {ls : List (List UInt8)} {M : Nat → Prop} (h : RowsO w base v ls) (hM : ∀ k, base ≤ k → k < w.heap.size → ¬ M k) : ∃ A c, v = .slice A ls.length c ∧ RowsS M w A ls.length ls ∧ (A = none → c = 0) ∧ ls.length ≤ c :=
  RowsG.toS (h.toG (P := fun k => base ≤ k ∧ k < w.heap.size) (fun _ h1 h2 => ⟨h1, h2⟩)) (fun k hk => hM k hk.1 hk.2)
theorem TwinB.stab {M : Nat → Prop} {w w' : World} {l : List UInt8} {n : Nat} {e : Ending} (h : TwinBPost l n w e w') (hM : ∀ k, w.heap.size ≤ k → k < w'.heap.size → ¬ M k) : Grew w w' ∧ ∃ A c, e = .returned (.slice A n c) ∧ Stab M w' (fun w => Bys w A n l) ∧ (A = none → c = 0) ∧ n ≤ c := by
  obtain ⟨g, A, c, he, ho, hb, hA, _⟩ := h
  have hc : n ≤ c := by obtain ⟨A2, c2, e2, _, _, h3, _⟩ := bys_own2 ho; cases e2; exact h3
  refine ⟨g, A, c, he, stab_bys hb (fun a ha _ => ?_), hA, hc⟩
  have := ho.lt a.block (by rw [ha]; rfl)
  exact hM _ this.1 this.2
theorem rowsB_take {w : World} {A : Option Addr} {n k : Nat} {ls : List (List UInt8)} (h : RowsB w A n ls) (hk : k ≤ n) : RowsB w A k (ls.take k) := by
  refine ⟨by rw [List.length_take, h.1]; omega, fun hp => ?_⟩
  obtain ⟨b, o, e, hb, hc⟩ := h.2 (by omega)
  refine ⟨b, o, e, hb, fun j hj => ?_⟩
  obtain ⟨A1, n1, c1, h1, h2, h3⟩ := hc j (by omega)
  refine ⟨A1, n1, c1, h1, ?_, h3⟩
  have : (ls.take k).getD j [] = ls.getD j [] := by simp only [List.getD_eq_getElem?_getD]; rw [List.getElem?_take_of_lt hj]
  rw [this]; exact h2
theorem JI.arm {N : Nat → Prop} {w0 w : World} {lb q : Nat} {s : DS} {l : LS} (h : JI N w0 w lb q s l) (n : Int) (hn : n ≤ 9223372036854775807) : Calls Try.prog 28 #[.pointer (some ⟨q, 0, none⟩), .int .i64 n] w (JStep N w0 w lb q (.tuple #[]) (dArm s n) l) := by
  obtain ⟨F, hk, hF⟩ := h.ex
  obtain ⟨FD, G, h1, h2, h3, h4⟩ := hk.ex
  refine (arm_any FD q s n hn w h1).mono fun e w' p => JI.step h.grew h.nlt hF (jk_disk hk.fit hk.ok h2 h3 h4 ?_ p)
  unfold roomD; rw [(dArm_same s n).1]
set_option maxRecDepth 100000 in
set_option maxHeartbeats 2000000 in
theorem found_any {N : Nat → Prop} {w0 : World} {lb q : Nat} {s : DS} {l : LS} (w : World) (h : JI N w0 w lb q s l) (A5 A6 A7 : Option Addr) (n5 n6 n7 c5 c6 c7 : Nat) (snap : List UInt8) (safe all : List (List UInt8)) (h5 : Bys w A5 n5 snap) (h6 : RowsB w A6 n6 safe) (h7 : RowsB w A7 n7 all)
    (k5 : n5 ≤ 1000000) (kc : n7 ≤ c7) :
    Calls Try.prog 24 #[.pointer (some ⟨lb, 0, none⟩), .slice A5 n5 c5, .slice A6 n6 c6, .slice A7 n7 c7] w fun e w' => e = .returned (.bool (decide (Fnd l snap safe all))) ∧ Grew w w' := by
  have CR := Lib.hid h.recs
  have CS := Lib.hid (fun w1 (h : JI N w0 w1 lb q s l) => h.snap)
  have CK := Lib.hid (fun (A B : Option Addr) (n m c c2 : Nat) (xs ys : List UInt8) w hx hy hn hm => keepBytes_any A B n m c c2 xs ys w hx hy hn hm)
  have CKR := Lib.hid (fun (A B : Option Addr) (n m c c2 : Nat) (xs ys : List (List UInt8)) w hx hy hn hm => keepRows_any A B n m c c2 xs ys w hx hy hn hm)
  have H := Lib.hid h
  have H5 := Lib.hid h5
  have H7 := Lib.hid h7
  have hl6 : safe.length = n6 := h6.1
  have hl7 : all.length = n7 := h7.1
  have hls : l.snap.length ≤ 65536 := by obtain ⟨F, hk, _⟩ := h.ex; exact hk.ok.snapS
  have hlr : l.recs.length ≤ 100000 := by
    obtain ⟨F, hk, _⟩ := h.ex
    obtain ⟨FD, G, h1, _⟩ := hk.ex
    have a1 := hk.ok.few
    have a2 := hk.ok.fin
    have a3 := h1.ok.few
    unfold roomD at a2
    omega
  have hF1 : l.snap ≠ snap → decide (Fnd l snap safe all) = false := fun hn => decide_eq_false (fun hf => hn hf.1)
  have hF2 : l.recs.length < n6 → decide (Fnd l snap safe all) = false := fun hn => decide_eq_false (fun hf => by have := hf.2.1; omega)
  have hF3 : n7 < l.recs.length → decide (Fnd l snap safe all) = false := fun hn => decide_eq_false (fun hf => by have := hf.2.2.1; omega)
  have hF4 : l.snap = snap → n6 ≤ l.recs.length → l.recs.length ≤ n7 → decide (Fnd l snap safe all) = decide (l.recs = all.take l.recs.length) := fun e1 e2 e3 => decide_eq_decide.2 ⟨fun hf => hf.2.2.2, fun hf => ⟨e1, by omega, by omega, hf⟩⟩
  have HF1 := Lib.hid hF1
  have HF2 := Lib.hid hF2
  have HF3 := Lib.hid hF3
  have HF4 := Lib.hid hF4
  clear h h5 h6 h7 hl6 hl7 hF1 hF2 hF3 hF4
  generalize decide (Fnd l snap safe all) = res at *
  obtain ⟨rs, hrs⟩ : ∃ rs, rs = l.recs := ⟨_, rfl⟩
  obtain ⟨sn, hsn⟩ : ∃ sn, sn = l.snap := ⟨_, rfl⟩
  rw [← hrs] at CR HF2 HF3 HF4 hlr
  rw [← hsn] at CS HF1 HF4 hls
  clear hrs hsn
  by_cases hs : sn = snap
  · subst hs
    by_cases h2 : n6 ≤ rs.length
    · have j2 : (n6 : Int) ≤ (rs.length : Int) := by omega
      by_cases h3 : rs.length ≤ n7
      · have j3 : (rs.length : Int) ≤ (n7 : Int) := by omega
        have j4 : (rs.length : Int) ≤ (c7 : Int) := by omega
        have j5 : (0 : Int) ≤ (rs.length : Int) := by omega
        have HE := Lib.hid (HF4.out rfl h2 h3)
        have H7b := Lib.hid (rowsB_take H7.out h3)
        clear HF1 HF2 HF3 HF4
        go_enter Try.func24, Try.ntmps24
        go_wp2_with (first
          | (go_at_call 27; ((with_reducible refine CR.out.mono ?_); rintro e w1 ⟨hg, v, rfl, hv⟩; obtain ⟨A1, c1, rfl, hB, -⟩ := hv.toB; have H1 := Lib.hid (H.out.grows hg); have HB1 := Lib.hid hB; have G1 := Lib.hid hg; clear hg hv hB))
          | (go_at_call 26; ((with_reducible refine (CS.out _ H1.out).mono ?_); rintro e w2 ⟨hg, A2, c2, rfl, _, hb2, _⟩; have G2 := Lib.hid (grew_trans G1.out hg); have HB2 := Lib.hid (HB1.out.keep hg); have CK2 := Lib.hid (CK.out A2 A5 sn.length n5 c2 c5 sn sn w2 hb2 (H5.out.keep G2.out) (by omega) (by omega)); clear hg hb2; rw [decide_eq_true rfl] at CK2))
          | (go_at_call 32; ((with_reducible refine CK2.out.mono ?_); rintro e w3 ⟨rfl, hg⟩; have G3 := Lib.hid (grew_trans G2.out hg); have HB3 := Lib.hid (HB2.out.keep hg); have CK3 := Lib.hid (CKR.out A1 A7 rs.length rs.length c1 c7 rs (all.take rs.length) w3 HB3.out (H7b.out.keep G3.out) (by omega) (by omega)); rw [← HE.out] at CK3; clear hg))
          | (go_at_call 34; ((with_reducible refine CK3.out.mono ?_); rintro e w4 ⟨rfl, hg⟩; have G4 := Lib.hid (grew_trans G3.out hg); clear hg)))
        go_ret
        exact ⟨rfl, G4.out⟩
      · have j3 : ¬ (rs.length : Int) ≤ (n7 : Int) := by omega
        have HE := Lib.hid (HF3.out (by omega))
        clear HF1 HF2 HF3 HF4
        go_enter Try.func24, Try.ntmps24
        go_wp2_with (first
          | (go_at_call 27; ((with_reducible refine CR.out.mono ?_); rintro e w1 ⟨hg, v, rfl, hv⟩; obtain ⟨A1, c1, rfl, hB, -⟩ := hv.toB; have H1 := Lib.hid (H.out.grows hg); have HB1 := Lib.hid hB; have G1 := Lib.hid hg; clear hg hv hB))
          | (go_at_call 26; ((with_reducible refine (CS.out _ H1.out).mono ?_); rintro e w2 ⟨hg, A2, c2, rfl, _, hb2, _⟩; have G2 := Lib.hid (grew_trans G1.out hg); have HB2 := Lib.hid (HB1.out.keep hg); have CK2 := Lib.hid (CK.out A2 A5 sn.length n5 c2 c5 sn sn w2 hb2 (H5.out.keep G2.out) (by omega) (by omega)); clear hg hb2; rw [decide_eq_true rfl] at CK2))
          | (go_at_call 32; ((with_reducible refine CK2.out.mono ?_); rintro e w3 ⟨rfl, hg⟩; have G3 := Lib.hid (grew_trans G2.out hg); have HB3 := Lib.hid (HB2.out.keep hg); clear hg)))
        go_ret
        exact ⟨ret_b HE.out.symm, G3.out⟩
    · have j2 : ¬ (n6 : Int) ≤ (rs.length : Int) := by omega
      have HE := Lib.hid (HF2.out (by omega))
      clear HF1 HF2 HF3 HF4
      go_enter Try.func24, Try.ntmps24
      go_wp2_with (first
        | (go_at_call 27; ((with_reducible refine CR.out.mono ?_); rintro e w1 ⟨hg, v, rfl, hv⟩; obtain ⟨A1, c1, rfl, hB, -⟩ := hv.toB; have H1 := Lib.hid (H.out.grows hg); have HB1 := Lib.hid hB; have G1 := Lib.hid hg; clear hg hv hB))
        | (go_at_call 26; ((with_reducible refine (CS.out _ H1.out).mono ?_); rintro e w2 ⟨hg, A2, c2, rfl, _, hb2, _⟩; have G2 := Lib.hid (grew_trans G1.out hg); have HB2 := Lib.hid (HB1.out.keep hg); have CK2 := Lib.hid (CK.out A2 A5 sn.length n5 c2 c5 sn sn w2 hb2 (H5.out.keep G2.out) (by omega) (by omega)); clear hg hb2; rw [decide_eq_true rfl] at CK2))
        | (go_at_call 32; ((with_reducible refine CK2.out.mono ?_); rintro e w3 ⟨rfl, hg⟩; have G3 := Lib.hid (grew_trans G2.out hg); have HB3 := Lib.hid (HB2.out.keep hg); clear hg)))
      go_ret
      exact ⟨ret_b HE.out.symm, G3.out⟩
  · have HE := Lib.hid (HF1.out hs)
    have HS := Lib.hid hs
    clear HF1 HF2 HF3 HF4 hs
    go_enter Try.func24, Try.ntmps24
    go_wp2_with (first
      | (go_at_call 27; ((with_reducible refine CR.out.mono ?_); rintro e w1 ⟨hg, v, rfl, hv⟩; obtain ⟨A1, c1, rfl, hB, -⟩ := hv.toB; have H1 := Lib.hid (H.out.grows hg); have HB1 := Lib.hid hB; have G1 := Lib.hid hg; clear hg hv hB))
      | (go_at_call 26; ((with_reducible refine (CS.out _ H1.out).mono ?_); rintro e w2 ⟨hg, A2, c2, rfl, _, hb2, _⟩; have G2 := Lib.hid (grew_trans G1.out hg); have HB2 := Lib.hid (HB1.out.keep hg); have CK2 := Lib.hid (CK.out A2 A5 sn.length n5 c2 c5 sn snap w2 hb2 (H5.out.keep G2.out) (by omega) (by omega)); clear hg hb2; rw [decide_eq_false HS.out] at CK2))
      | (go_at_call 32; ((with_reducible refine CK2.out.mono ?_); rintro e w3 ⟨rfl, hg⟩; have G3 := Lib.hid (grew_trans G2.out hg); have HB3 := Lib.hid (HB2.out.keep hg); clear hg)))
    go_ret
    exact ⟨ret_b HE.out.symm, G3.out⟩
end Go.Proofs.Ythmdbfbhcnjghaa.NumK
namespace Go.Proofs.Ythmdbfbhcnjghaa.NumK
open Go.RowKit

structure Lf where
  snap : List UInt8
  safe : List (List UInt8)
  rest : List (List UInt8)
  arm : Int
  picks : List Int
instance : Inhabited Lf := ⟨⟨[], [], [], 0, []⟩⟩
abbrev LfV := List Int × (List (List Int) × (List (List Int) × (Int × List Int)))
def spLife : Sp LfV := spPair (spSlice (spInt .u8)) (spPair (spSlice (spSlice (spInt .u8))) (spPair (spSlice (spSlice (spInt .u8))) (spPair (spInt .i64) (spSlice (spInt .i64)))))
theorem opens_rows0 : Opens Try.prog 38 (spSlice (spSlice (spInt .u8))) := opens_slice Try.underlying38 (by kernel_rfl) opens_bytes (by decide)
theorem opens_life : Opens Try.prog 51 spLife :=
  opens_struct Try.underlying51 (by kernel_rfl)
    (.cons _ _ _ rfl opens_bytes
      (.cons _ _ _ rfl opens_rows0
        (.cons _ _ _ rfl opens_rows0
          (.cons _ _ _ rfl (opens_int Try.underlying3 (by kernel_rfl))
            (.last _ _ rfl opens_ints)))))
theorem opens_lives : Opens Try.prog 49 (spSlice spLife) := opens_slice Try.underlying49 (by kernel_rfl) opens_life (by decide)
theorem rowsB_of_row0 {w : World} {A : Option Addr} {n : Nat} {l : List (List Int)} (h : Row (spSlice (spInt .u8)) w A n l) : ∃ xs, RowsB w A n xs := by
  rcases Nat.eq_zero_or_pos n with h0 | h0
  · exact ⟨[], by rw [h0]; rfl, fun hn => by omega⟩
  · obtain ⟨b, o, e, hb, hc⟩ := h.2 h0
    have each : ∀ j, j < n → ∃ x : List UInt8, ∃ A1 n1 c1, w.cell? ⟨b, o + j, none⟩ = some (.slice A1 n1 c1) ∧ Bys w A1 n1 x ∧ (A1 = none → c1 = 0) ∧ n1 ≤ c1 ∧ n1 ≤ 9223372036854775807 := by
      intro j hj
      obtain ⟨cs, ⟨A1, n1, c1, rfl, h1, h2, h3, h4⟩, h5⟩ := hc j (by rw [h.1]; exact hj)
      have g0 := h5 0 (by decide)
      obtain ⟨bs, hbs⟩ := bys_of_row h1
      have e1 : o + j * (spSlice (spInt IntKind.u8)).size + 0 = o + j := by show o + j * 1 + 0 = _; omega
      rw [e1] at g0
      unfold maxLen at h4
      exact ⟨bs, A1, n1, c1, by simpa using g0, hbs, h2, h3, by omega⟩
    obtain ⟨f, hf⟩ := Go.Deep.choose_lt each
    have e2 : ∀ j, j < n → ((List.range n).map f).getD j [] = f j := fun j hj => by simp [List.getD, hj]
    refine ⟨(List.range n).map f, by simp, fun _ => ⟨b, o, e, hb, fun j hj => ?_⟩⟩
    rw [e2 j hj]
    exact hf j hj
/-- What a life's five cells hold. -/
structure LfIn (w : World) (x : Lf) (A0 A1 A2 A4 : Option Addr) (n0 c0 n1 n2 n4 : Nat) : Prop where
  b0 : Bys w A0 n0 x.snap
  a0 : A0 = none → c0 = 0
  m0 : n0 ≤ c0
  k0 : n0 ≤ 9223372036854775807
  b1 : RowsB w A1 n1 x.safe
  b2 : RowsB w A2 n2 x.rest
  i4 : Ints w A4 n4 x.picks
  k4 : n4 ≤ 9223372036854775807
  r3 : -9223372036854775808 ≤ x.arm ∧ x.arm ≤ 9223372036854775807
def LfAt (w : World) (b p : Nat) (x : Lf) : Prop := ∃ A0 n0 c0 A1 n1 c1 A2 n2 c2 A4 n4 c4, LfIn w x A0 A1 A2 A4 n0 c0 n1 n2 n4 ∧ n2 ≤ c2 ∧ (A2 = none → c2 = 0) ∧
  w.cell? ⟨b, p, none⟩ = some (.slice A0 n0 c0) ∧ w.cell? ⟨b, p + 1, none⟩ = some (.slice A1 n1 c1) ∧ w.cell? ⟨b, p + 2, none⟩ = some (.slice A2 n2 c2) ∧ w.cell? ⟨b, p + 3, none⟩ = some (.int .i64 x.arm) ∧ w.cell? ⟨b, p + 4, none⟩ = some (.slice A4 n4 c4)
def Lives (w : World) (A : Option Addr) (n : Nat) (l : List Lf) : Prop := l.length = n ∧ (0 < n → ∃ b o, A = some ⟨b, o, none⟩ ∧ b < w.heap.size ∧ ∀ j, j < n → LfAt w b (o + j * 5) (l.getD j default))
theorem lives_of_row {w : World} {A : Option Addr} {n : Nat} {l : List LfV} (h : Row spLife w A n l) : ∃ xs, Lives w A n xs := by
  rcases Nat.eq_zero_or_pos n with h0 | h0
  · exact ⟨[], by rw [h0]; rfl, fun hn => by omega⟩
  · obtain ⟨b, o, e, hb, hc⟩ := h.2 h0
    have each : ∀ j, j < n → ∃ x : Lf, LfAt w b (o + j * 5) x := by
      intro j hj
      obtain ⟨cs, hr, h3⟩ := hc j (by rw [h.1]; exact hj)
      obtain ⟨q1, q2, rfl, ⟨A0, n0, c0, rfl, hr0, hn0, hm0, hk0⟩, q3, q4, rfl, ⟨A1, n1, c1, rfl, hr1, hn1, hm1, hk1⟩, q5, q6, rfl, ⟨A2, n2, c2, rfl, hr2, hn2, hm2, hk2⟩, q7, q8, rfl, ⟨rfl, k3⟩, A4, n4, c4, rfl, hr4, hn4, hm4, hk4⟩ := hr
      have e5 : spLife.size = 5 := rfl
      have g0 : w.cell? ⟨b, o + j * 5 + 0, none⟩ = _ := h3 0 (by rw [e5]; omega)
      have g1 : w.cell? ⟨b, o + j * 5 + 1, none⟩ = _ := h3 1 (by rw [e5]; omega)
      have g2 : w.cell? ⟨b, o + j * 5 + 2, none⟩ = _ := h3 2 (by rw [e5]; omega)
      have g3 : w.cell? ⟨b, o + j * 5 + 3, none⟩ = _ := h3 3 (by rw [e5]; omega)
      have g4 : w.cell? ⟨b, o + j * 5 + 4, none⟩ = _ := h3 4 (by rw [e5]; omega)
      obtain ⟨bs, hbs⟩ := bys_of_row hr0
      obtain ⟨xs1, hx1⟩ := rowsB_of_row0 hr1
      obtain ⟨xs2, hx2⟩ := rowsB_of_row0 hr2
      unfold maxLen at hk0 hk4
      exact ⟨⟨bs, xs1, xs2, _, _⟩, A0, n0, c0, A1, n1, c1, A2, n2, c2, A4, n4, c4, ⟨hbs, hn0, hm0, by omega, hx1, hx2, (ints_of_spec hr4).1, by omega, Go.bounds_i64 k3⟩, hm2, hn2, g0, g1, g2, g3, g4⟩
    obtain ⟨f, hf⟩ := Go.Deep.choose_lt each
    have e2 : ∀ j, j < n → ((List.range n).map f).getD j default = f j := fun j hj => by simp [List.getD, hj]
    refine ⟨(List.range n).map f, by simp, fun _ => ⟨b, o, e, hb, fun j hj => ?_⟩⟩
    rw [e2 j hj]
    exact hf j hj
end Go.Proofs.Ythmdbfbhcnjghaa.NumK
namespace Go.Proofs.Ythmdbfbhcnjghaa.NumK
open Go.RowKit

/-- A row of the law's own, of slices that came in. -/
def AllK (N : Nat → Prop) (W w : World) (A : Option Addr) (n c : Nat) (ls : List (List UInt8)) : Prop :=
  ls.length = n ∧ ∃ xs : List Value, w.ownsRow W.heap.size 37 1 (.slice A n c) n xs ∧ (∀ k, (Value.slice A n c).ownBlock = some k → N k) ∧
    ∀ j, j < n → ∃ A1 n1 c1, xs[j]? = some (.slice A1 n1 c1) ∧ Bys W A1 n1 (ls.getD j []) ∧ (A1 = none → c1 = 0) ∧ n1 ≤ c1 ∧ n1 ≤ 9223372036854775807
theorem AllK.nil (N : Nat → Prop) (W w : World) : AllK N W w none 0 0 [] := ⟨rfl, [], World.ownsRow_nil _ _ _ _, (fun k hk => by cases hk), fun j hj => absurd hj (by omega)⟩
theorem AllK.chg {N N' : Nat → Prop} {W w w' : World} {A : Option Addr} {n c : Nat} {ls : List (List UInt8)} (h : AllK N W w A n c ls) (g : Chg (Mine N W) w w') (hN : ∀ k, N k → N' k) : AllK N' W w' A n c ls := by
  obtain ⟨hl, xs, h1, h2, h3⟩ := h
  exact ⟨hl, xs, ownsRow_of h1 (fun k hk => g.block k (h1.lt k hk).2 (fun hm => hm.2 (h2 k hk))), fun k hk => hN k (h2 k hk), h3⟩
theorem AllK.rows {N : Nat → Prop} {W w : World} {A : Option Addr} {n c : Nat} {ls : List (List UInt8)} (h : AllK N W w A n c ls) (g : Grew W w) : Stab (Mine N W) w (fun w => RowsB w A n ls) ∧ n ≤ c := by
  obtain ⟨hl, xs, h1, h2, h3⟩ := h
  rcases h1.2 with ⟨e, h0⟩ | ⟨b, cap, cur, e, hb, hg, hc, _, _, ht⟩
  · cases e
    exact ⟨fun w' _ => ⟨hl, fun hn => absurd hn (by omega)⟩, by omega⟩
  · cases e
    refine ⟨fun w' cg => ⟨hl, fun _ => ⟨b, 0, rfl, Nat.lt_of_lt_of_le (own_at_lt hg) cg.size, fun j hj => ?_⟩⟩, hc⟩
    obtain ⟨A1, n1, c1, hx, hb1, hA, hn, hm⟩ := h3 j hj
    refine ⟨A1, n1, c1, ?_, hb1.keep (Chg.grew g cg mine_old), hA, hn, hm⟩
    have e0 : w.cell? ⟨b, 0 + j, none⟩ = some (.slice A1 n1 c1) := by
      rw [cell_of_row w b (0 + j) cur _ (0, 0) hg, Nat.zero_add]
      have e1 : (cur.toList.take (n * 1))[j]? = cur[j]? := by rw [List.getElem?_take]; simp [hj]
      rw [← e1, ht, hx]
    exact (cg.cell (p := ⟨b, 0 + j, none⟩) (own_at_lt hg) (fun hm2 => hm2.2 (h2 b rfl))).trans e0
/-- A step of the law's own: old blocks of N are turned, new ones made. -/
theorem JI.keepNew {N : Nat → Prop} {w0 w w' : World} {lb q : Nat} {s : DS} {l : LS} (h : JI N w0 w lb q s l) (g : Chg (fun k => N k ∧ w0.heap.size ≤ k) w w') : JI (WithNew N w w') w0 w' lb q s l := by
  obtain ⟨F, hk, hF⟩ := h.ex
  refine ⟨⟨F, hk.chg g (fun k hk hg => (hF k hk).2 hg.1), fun k hk2 => ⟨(hF k hk2).1, fun hn => ?_⟩⟩, Chg.grew h.grew g (fun k hk => hk.2), fun k hk2 => ?_⟩
  · rcases hn with h1 | h1
    · exact (hF k hk2).2 h1
    · have := hk.fit k hk2; omega
  · rcases hk2 with h1 | h1
    · exact Nat.lt_of_lt_of_le (h.nlt k h1) g.size
    · exact h1.2
/-- One record more. -/
theorem AllK.app {N : Nat → Prop} {W w w1 w2 : World} {A : Option Addr} {n c g cap : Nat} {ls : List (List UInt8)} {xs : List Value} {A1 : Option Addr} {n1 c1 : Nat} {p : List UInt8} (hl : ls.length = n) (h1 : w.ownsRow W.heap.size 37 1 (.slice A n c) n xs) (h2 : ∀ k, (Value.slice A n c).ownBlock = some k → N k)
    (h3 : ∀ j, j < n → ∃ A1 n1 c1, xs[j]? = some (.slice A1 n1 c1) ∧ Bys W A1 n1 (ls.getD j []) ∧ (A1 = none → c1 = 0) ∧ n1 ≤ c1 ∧ n1 ≤ 9223372036854775807) (hg : Grew w w1)
    (hb : Bys W A1 n1 p) (hA : A1 = none → c1 = 0) (hn : n1 ≤ c1) (hm : n1 ≤ 9223372036854775807)
    (ho : w2.ownsRow W.heap.size 37 1 (.slice (some ⟨g, 0, none⟩) (n + 1) cap) (n + 1) (xs ++ [.slice A1 n1 c1])) (hgr : w1.grownBy w2 (Value.slice A n c).ownBlock) (hat : (Value.slice A n c).ownBlock = some g ∨ g = w1.heap.size) (hlt : g < w2.heap.size) :
    Chg (fun k => N k ∧ W.heap.size ≤ k) w w2 ∧ AllK (WithNew N w w2) W w2 (some ⟨g, 0, none⟩) (n + 1) cap (ls ++ [p]) := by
  have hxl : xs.length = n := by have := h1.1; simpa using this
  have hs := hg.size
  refine ⟨(hg.chg).grown hgr (fun k hk _ => ⟨h2 k hk, (h1.lt k hk).1⟩), by rw [List.length_append, hl]; rfl, xs ++ [.slice A1 n1 c1], ho, fun k hk => ?_, fun j hj => ?_⟩
  · have : g = k := by simpa [Value.ownBlock] using hk
    subst this
    rcases hat with h | h
    · exact Or.inl (h2 _ h)
    · exact Or.inr ⟨by omega, hlt⟩
  · by_cases hc : j < n
    · obtain ⟨A3, n3, c3, e, r⟩ := h3 j hc
      refine ⟨A3, n3, c3, by rw [List.getElem?_append_left (by omega)]; exact e, ?_⟩
      have : (ls ++ [p]).getD j [] = ls.getD j [] := by simp only [List.getD_eq_getElem?_getD]; rw [List.getElem?_append_left (by omega)]
      rw [this]; exact r
    · have e : j = n := by omega
      subst e
      refine ⟨A1, n1, c1, by rw [← hxl]; simp, ?_, hA, hn, hm⟩
      have : (ls ++ [p]).getD j [] = p := by rw [← hl]; simp [List.getD_eq_getElem?_getD]
      rw [this]; exact hb
/-- A variable of the law's own, beside that row. -/
structure XK (N : Nat → Prop) (w : World) (X : Nat) (vs : List Value) (A : Option Addr) (n c : Nat) : Prop where
  rng : w.rangeAt X 0 vs
  mem : N X
  lt : X < w.heap.size
  ne : ∀ k, (Value.slice A n c).ownBlock = some k → k ≠ X
theorem XK.chg {N N' : Nat → Prop} {W w w' : World} {X : Nat} {vs : List Value} {A : Option Addr} {n c : Nat} (h : XK N w X vs A n c) (g : Chg (Mine N W) w w') (hN : ∀ k, N k → N' k) : XK N' w' X vs A n c :=
  ⟨rangeAt_of h.rng (g.block X h.lt (fun hm => hm.2 h.mem)), hN X h.mem, Nat.lt_of_lt_of_le h.lt g.size, h.ne⟩
theorem XK.app {N N' : Nat → Prop} {w w1 w2 : World} {X : Nat} {vs : List Value} {A : Option Addr} {n c g m cap : Nat} (h : XK N w X vs A n c) (hg : Grew w w1) (hgr : w1.grownBy w2 (Value.slice A n c).ownBlock) (hat : (Value.slice A n c).ownBlock = some g ∨ g = w1.heap.size) (hN : ∀ k, N k → N' k) : XK N' w2 X vs (some ⟨g, 0, none⟩) m cap := by
  have h1 := h.lt
  have h2 := hg.size
  have h3 := hgr.size
  refine ⟨rangeAt_of h.rng ((hgr.block X (by omega) (fun e => h.ne X e.symm rfl)).trans (hg.block X h1)), hN X h.mem, by omega, fun k hk => ?_⟩
  have : g = k := by simpa [Value.ownBlock] using hk
  subst this
  rcases hat with h4 | h4
  · exact h.ne _ h4
  · omega
/-- Slices to be appended. -/
structure SrcR (w : World) (A : Option Addr) (m c : Nat) (vs : List Value) : Prop where
  len : vs.length = m
  nil : A = none → m = 0 ∧ c = 0
  at' : ∀ ad, A = some ad → ∀ j u, vs[j]? = some u → w.cell? (ad.add j) = some u
  one : ∀ u ∈ vs, u.oneCell' = true
theorem SrcR.keep {w w' : World} {A : Option Addr} {m c : Nat} {vs : List Value} (h : SrcR w A m c vs) (g : Grew w w') : SrcR w' A m c vs :=
  ⟨h.len, h.nil, fun ad ha j u hu => by
    have h1 := h.at' ad ha j u hu
    exact (grew_cell g (World.block_lt_of_cell? _ _ h1)).trans h1, h.one⟩
/-- And what they lead to, in the world of the arguments. -/
def LedR (W : World) (vs : List Value) (ls : List (List UInt8)) : Prop := vs.length = ls.length ∧ ∀ j, j < ls.length → ∃ A1 n1 c1, vs[j]? = some (.slice A1 n1 c1) ∧ Bys W A1 n1 (ls.getD j []) ∧ (A1 = none → c1 = 0) ∧ n1 ≤ c1 ∧ n1 ≤ 9223372036854775807
theorem LedR.app {W : World} {vs us : List Value} {ls ms : List (List UInt8)} (h : LedR W vs ls) (k : LedR W us ms) : LedR W (vs ++ us) (ls ++ ms) := by
  refine ⟨by rw [List.length_append, List.length_append, h.1, k.1], fun j hj => ?_⟩
  rw [List.length_append] at hj
  by_cases hc : j < ls.length
  · obtain ⟨A1, n1, c1, e, r⟩ := h.2 j hc
    refine ⟨A1, n1, c1, by rw [List.getElem?_append_left (by rw [h.1]; exact hc)]; exact e, ?_⟩
    have : (ls ++ ms).getD j [] = ls.getD j [] := by simp only [List.getD_eq_getElem?_getD]; rw [List.getElem?_append_left hc]
    rw [this]; exact r
  · obtain ⟨A1, n1, c1, e, r⟩ := k.2 (j - ls.length) (by omega)
    refine ⟨A1, n1, c1, by rw [List.getElem?_append_right (by rw [h.1]; omega), h.1]; exact e, ?_⟩
    have : (ls ++ ms).getD j [] = ms.getD (j - ls.length) [] := by simp only [List.getD_eq_getElem?_getD]; rw [List.getElem?_append_right (by omega)]
    rw [this]; exact r
theorem AllK.src {N : Nat → Prop} {W w : World} {A : Option Addr} {n c : Nat} {ls : List (List UInt8)} (h : AllK N W w A n c ls) : ∃ vs, SrcR w A n c vs ∧ LedR W vs ls := by
  obtain ⟨hl, xs, h1, h2, h3⟩ := h
  have hxl : xs.length = n := by have := h1.1; simpa using this
  refine ⟨xs, ⟨hxl, fun ha => ?_, fun ad ha j u hu => ?_, fun u hu => ?_⟩, by rw [hxl, hl], fun j hj => h3 j (by rw [← hl]; exact hj)⟩
  · rcases h1.2 with ⟨e, h0⟩ | ⟨b, cap, cur, e, _⟩
    · cases e; exact ⟨rfl, rfl⟩
    · cases e; cases ha
  · rcases h1.2 with ⟨e, h0⟩ | ⟨b, cap, cur, e, hb, hg, hc, _, _, ht⟩
    · cases e; cases ha
    · cases e; cases ha
      have hj : j < n := by rw [← hxl]; exact (List.getElem?_eq_some_iff.1 hu).1
      rw [addr_add, cell_of_row w b (0 + j) cur _ (0, 0) hg, Nat.zero_add]
      have e1 : (cur.toList.take (n * 1))[j]? = cur[j]? := by rw [List.getElem?_take]; simp [hj]
      rw [← e1, ht, hu]
  · obtain ⟨j, hj, rfl⟩ := List.getElem_of_mem hu
    obtain ⟨A1, n1, c1, e, _⟩ := h3 j (by omega)
    rw [List.getElem?_eq_getElem hj] at e
    have e2 := Option.some.inj e
    rw [e2]; rfl
theorem srcR_rows {W : World} {A : Option Addr} {n c : Nat} {ls : List (List UInt8)} (h : RowsB W A n ls) (hA : A = none → c = 0) : ∃ vs, SrcR W A n c vs ∧ LedR W vs ls := by
  rcases Nat.eq_zero_or_pos n with h0 | h0
  · have hl := h.1
    have hn : ls = [] := List.eq_nil_of_length_eq_zero (by omega)
    subst hn
    exact ⟨[], ⟨h0.symm, fun ha => ⟨h0, hA ha⟩, fun _ _ j u hu => (by simp at hu), fun u hu => (by cases hu)⟩, rfl, fun j hj => absurd hj (Nat.not_lt_zero _)⟩
  · obtain ⟨b, o, e, hb, hc⟩ := h.2 h0
    have each : ∀ j, j < n → ∃ v : Value, W.cell? ⟨b, o + j, none⟩ = some v ∧ ∃ A1 n1 c1, v = .slice A1 n1 c1 ∧ Bys W A1 n1 (ls.getD j []) ∧ (A1 = none → c1 = 0) ∧ n1 ≤ c1 ∧ n1 ≤ 9223372036854775807 := fun j hj => by
      obtain ⟨A1, n1, c1, h1, r⟩ := hc j hj
      exact ⟨_, h1, A1, n1, c1, rfl, r⟩
    have inst : Inhabited Value := ⟨.int .i64 0⟩
    obtain ⟨f, hf⟩ := Go.Deep.choose_lt each
    have e2 : ∀ j, j < n → ((List.range n).map f)[j]? = some (f j) := fun j hj => by simp [hj]
    refine ⟨(List.range n).map f, ⟨by simp, fun ha => (by rw [e] at ha; cases ha), fun ad ha j u hu => ?_, fun u hu => ?_⟩, by simp [h.1], fun j hj => ?_⟩
    · have hj : j < n := by simpa using (List.getElem?_eq_some_iff.1 hu).1
      rw [e] at ha; cases ha
      rw [e2 j hj] at hu
      cases hu
      rw [addr_add]; exact (hf j hj).1
    · obtain ⟨j, hj, rfl⟩ := List.mem_map.1 hu
      obtain ⟨A1, n1, c1, e3, _⟩ := (hf j (by simpa using hj)).2
      rw [e3]; rfl
    · rw [h.1] at hj
      obtain ⟨A1, n1, c1, e3, r⟩ := (hf j hj).2
      exact ⟨A1, n1, c1, by rw [e2 j hj, e3], r⟩
theorem step_append_rows {ops : Array Oper} {o : Oper} {a : Act} {w : World} {K : Act → World → Prop} {Q : Exit → Act → World → Prop} {E : Prop} (hgd : o.guard = none) (s x : Operand)
    (ho : o.op = .call { callee := .builtin .append, args := #[s, x], argTypes := #[38, 38] })
    (base : Nat) (v : Value) (n : Nat) (xs : List Value) (hs : a.eval s = v) (hown : w.ownsRow base 37 1 v n xs)
    (A : Option Addr) (m c : Nat) (vs : List Value) (hx : a.eval x = .slice A m c) (hv : SrcR w A m c vs) (h63 : n + m ≤ 1000000000) (hbase : base ≤ w.heap.size)
    (h : ∀ v' w', w'.ownsRow base 37 1 v' (n + m) (xs ++ vs) → Below base w w' → K (a.put o.dst v') w') : if Region.wanted o (yielded ops a.tmps) = true then Oper.wp Try.prog o a w K Q else E := by
  have hw : Region.wanted o (yielded ops a.tmps) = true := by simp [Region.wanted, hgd]
  rw [if_pos hw]
  obtain ⟨i, hi, hz0, hz1, hz2⟩ := info_parts infoSl
  cases A with
  | none =>
    obtain ⟨h1, h2⟩ := hv.nil rfl
    subst h1 h2
    have hz : vs = [] := List.eq_nil_of_length_eq_zero hv.len
    subst hz
    have hrun := run_append_owned_none (P := Try.prog) (w := w) base 38 o.type 37 i 1 Try.underlying38 hi v n xs hown
    unfold Oper.wp
    simp [execOp, ho, resolve, invoke, builtin, hs, hx, hrun, Result.andThen]
    exact h v w (by simpa using hown) (Below.refl _ _)
  | some ad =>
    refine wp_append_own w s x 38 ho base 37 i (.slice none 0 0) 1 24 Try.underlying38 hi hz0 hz1 hz2 rfl (by decide) v n xs hs hown ad m c vs hx
      (by rw [hv.len]; omega) (hv.at' ad rfl) hv.one (by unfold maxLen; omega) (by omega) hbase (fun v' w' ho' hg _ => ?_)
    exact h v' w' ho' ((Below.refl base w).grown hg hbase fun k hk => (hown.lt k hk).1)
/-- A row that was made anew. -/
theorem allK_of {N : Nat → Prop} {W w : World} {base n : Nat} {v : Value} {vs : List Value} {ls : List (List UInt8)} (ho : w.ownsRow base 37 1 v n vs) (hl : ls.length = n) (hb : W.heap.size ≤ base) (hN : ∀ k, base ≤ k → k < w.heap.size → N k) (h : LedR W vs ls) : ∃ A c, v = .slice A n c ∧ AllK N W w A n c ls ∧ (A = none → c = 0) := by
  obtain ⟨A, c, rfl⟩ := own_form ho
  refine ⟨A, c, rfl, ⟨hl, vs, own_mono ho hb, fun k hk => hN k (ho.lt k hk).1 (ho.lt k hk).2, fun j hj => h.2 j (by rw [hl]; exact hj)⟩, fun ha => ?_⟩
  rcases ho.2 with ⟨e, h0⟩ | ⟨b, cap, cur, e, _⟩
  · cases e; rfl
  · cases e; cases ha
theorem own_emptyR (w : World) : (w.alloc (.cells #[] 37)).drew.ownsRow w.heap.size 37 1 (.slice (some ⟨w.heap.size, 0, none⟩) 0 0) 0 [] :=
  ⟨rfl, Or.inr ⟨w.heap.size, 0, #[], rfl, Nat.le_refl _, by show (w.heap.push (.cells #[] 37))[w.heap.size]? = _; simp, Nat.le_refl _, Nat.zero_le _, rfl, rfl⟩⟩
end Go.Proofs.Ythmdbfbhcnjghaa.NumK
