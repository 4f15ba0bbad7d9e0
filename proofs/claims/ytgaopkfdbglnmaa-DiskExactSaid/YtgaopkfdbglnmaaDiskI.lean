/- disk: what a Crash leaves. -/
import Derived.Test.YtgaopkfdbglnmaaDiskH
namespace Go.Proofs.Ytgaopkfdbglnmaa.NumK
open Go.RowKit

/-- The first m bytes of a block are written. -/
theorem BlkRow.mix {w : World} {C : Nat} {bs : List Blk} (h : BlkRow w C bs) {k : Nat} (hk : k < bs.length) (b : Blk) (hb : b.length = 64) (m : Nat) (hm : m ≤ 64) : BlkRow (w.setCells C (k * 64) ((bytesV b).take m)) C (bs.set k (mixB (bs.getD k blk0) b m)) := by
  have hl := bytesV_len b
  have ho := h.one hk
  have hml := mixB_len (m := m) ho hb
  have hll := bytesV_len (mixB (bs.getD k blk0) b m)
  refine ⟨by rw [setCells_size]; exact h.lt, fun x hx => ?_, fun j hj => ⟨?_, World.there_setCells (h.at' j (by simpa using hj)).2 _ _ _⟩⟩
  · rcases List.mem_or_eq_of_mem_set hx with hx | rfl
    · exact h.len x hx
    · exact hml
  · have hj2 : j < bs.length := by simpa using hj
    by_cases e : k = j
    · subst e
      rw [getD_set_eq hj2]
      intro i v hv
      have hi : i < 64 := by have := (List.getElem?_eq_some_iff.1 hv).1; omega
      have hv2 : v = byv ((mixB (bs.getD k blk0) b m).getD i 0) := by
        unfold bytesV at hv
        rw [List.getElem?_map] at hv
        obtain ⟨x, hx, rfl⟩ := Option.map_eq_some_iff.1 hv
        rw [List.getD_eq_getElem?_getD, hx]; rfl
      subst hv2
      by_cases him : i < m
      · rw [World.cell?_setCells_in C _ _ w (fun j hj => (h.at' k hk).2 j (by simp at hj; omega) |>.1) i (by simp [hl]; omega)]
        simp [bytesV, mixB, List.getD, List.getElem?_append_left, hb, show i < min m 64 by omega]
      · rw [World.cell?_setCells_out C _ _ w _ (fun _ _ => Or.inr (by simp [hl]; omega))]
        refine (h.at' k hk).1 i _ ?_
        unfold bytesV
        rw [List.getElem?_map]
        have e1 : (mixB (bs.getD k blk0) b m)[i]? = (bs.getD k blk0)[i]? := by
          unfold mixB
          rw [List.getElem?_append_right (by simp; omega), List.getElem?_drop]
          congr 1
          simp; omega
        have e2 : (bs.getD k blk0)[i]? = some ((mixB (bs.getD k blk0) b m).getD i 0) := by
          rw [← e1]
          simp [List.getD, show i < (mixB (bs[k]?.getD blk0) b m).length by simpa [List.getD] using (by omega : i < (mixB (bs.getD k blk0) b m).length)]
        rw [e2]; rfl
    · rw [getD_set_ne e]
      have hl2 := bytesV_len (bs.getD j blk0)
      have := h.one hj2
      have ht : ((bytesV b).take m).length ≤ 64 := by rw [List.length_take]; omega
      exact World.rangeAt_setCells_apart (h.at' j hj2).1 _ _ _ (by right; omega)

def stN (p : Int) : Nat := if p % 66 = 65 then 64 else (p % 66 - 1).toNat
theorem stay_stN (zs : List Int) (k : Nat) : stay zs k = stN (zs.getD k 0) := rfl
theorem stN_le (p : Int) : stN p ≤ 64 := by unfold stN; split <;> omega
theorem stN_I (p : Int) : stayI p = (stN p : Int) := by unfold stN stayI; split <;> (try split) <;> omega

/-- What the content is while it is laid anew. -/
def copyL (c f : List Blk) (l : List (Nat × Blk)) : List Blk := l.foldl (fun c x => c.set x.1 (f.getD x.1 blk0)) c
theorem copyL_snoc (c f : List Blk) (l : List (Nat × Blk)) (x : Nat × Blk) : copyL c f (l ++ [x]) = (copyL c f l).set x.1 (f.getD x.1 blk0) := by
  unfold copyL; rw [List.foldl_append]; rfl
theorem copyL_len (c f : List Blk) (l : List (Nat × Blk)) : (copyL c f l).length = c.length := by
  unfold copyL
  induction l generalizing c with
  | nil => rfl
  | cons w r ih => rw [List.foldl_cons, ih, List.length_set]
theorem copyL_at (f : List Blk) (i : Nat) : ∀ (l : List (Nat × Blk)) (c : List Blk), i < c.length → ((copyL c f l).getD i blk0 = f.getD i blk0 ∨ (∀ w ∈ l, w.1 ≠ i) ∧ (copyL c f l).getD i blk0 = c.getD i blk0)
  | [], c, _ => Or.inr ⟨by simp, rfl⟩
  | x :: r, c, hi => by
    show (copyL (c.set x.1 (f.getD x.1 blk0)) f r).getD i blk0 = _ ∨ _
    rcases copyL_at f i r (c.set x.1 (f.getD x.1 blk0)) (by rw [List.length_set]; exact hi) with h | ⟨h1, h2⟩
    · exact Or.inl h
    · by_cases e : x.1 = i
      · subst e
        rw [h2, getD_set_eq hi]
        exact Or.inl rfl
      · refine Or.inr ⟨fun w hw => ?_, ?_⟩
        · rcases List.mem_cons.1 hw with rfl | hw
          · exact e
          · exact h1 w hw
        · show (copyL (c.set x.1 (f.getD x.1 blk0)) f r).getD i blk0 = _
          rw [h2, getD_set_ne e]
theorem applyL_other (l : List (Nat × Blk)) (i : Nat) : ∀ (safe : List Blk), (∀ w ∈ l, w.1 ≠ i) → (applyL safe l).getD i blk0 = safe.getD i blk0 := by
  unfold applyL
  induction l with
  | nil => intro safe _; rfl
  | cons x r ih =>
    intro safe h
    rw [List.foldl_cons, ih _ (fun w hw => h w (by simp [hw])), getD_set_ne (h x (by simp))]
theorem ext_blk {a b : List Blk} (h : a.length = b.length) (hg : ∀ i, i < a.length → a.getD i blk0 = b.getD i blk0) : a = b := by
  refine List.ext_getElem h fun i h1 h2 => ?_
  have := hg i h1
  simpa [List.getD, h1, h2] using this
/-- Laid anew, the content is what is synced. -/
theorem copyL_all (picks : List Int) (safe : List Blk) (l : List (Nat × Blk)) : copyL (applyL safe l) (crashL picks 0 safe l) l = crashL picks 0 safe l := by
  refine ext_blk (by rw [copyL_len, applyL_len, crashL_len]) fun i hi => ?_
  rw [copyL_len, applyL_len] at hi
  rcases copyL_at (crashL picks 0 safe l) i l (applyL safe l) (by rw [applyL_len]; exact hi) with h | ⟨h1, h2⟩
  · exact h
  · rw [h2, applyL_other l i safe h1, crashL_other picks 0 safe l i h1]

theorem dok_crash {s : DS} {picks : List Int} (h : DOK s) (hb : ∀ b ∈ crashL picks 0 s.safe s.opn, b.length = 64) : DOK (dCrash s picks) := by
  have hl : (dCrash s picks).safe.length = s.safe.length := crashL_len _ _ _ _
  exact ⟨⟨hb, fun x hx => by cases hx⟩, by rw [hl]; exact h.pos, by rw [hl]; exact h.few, by show 0 ≤ _; omega, (fun h => by cases h), fun _ _ => rfl, fun _ => rfl⟩

/-- The worlds that a Crash leaves. -/
theorem dk_crash {F : Nat → Prop} {q : Nat} {s : DS} {picks : List Int} {w w2 w3 : World} {C Y : Nat} {v : Value} (hf : ∀ k, F k → k < w.heap.size) (ok : DOK s) (L : Lie F q C Y v) (H : Head w q s.safe.length C Y v s.armed s.off)
    (g : Chg (fun i => i = Y) w w2) (h2 : BlkRow w2 Y (crashL picks 0 s.safe s.opn)) (g3 : Chg (fun i => i = C) w2 w3) (h3 : BlkRow w3 C (crashL picks 0 s.safe s.opn)) :
    Chg F w (((w3.setCell ⟨q, 2, none⟩ (.slice none 0 0)).setCell ⟨q, 3, none⟩ (.int .i64 0)).setCell ⟨q, 4, none⟩ (.bool true)) ∧ DK (((w3.setCell ⟨q, 2, none⟩ (.slice none 0 0)).setCell ⟨q, 3, none⟩ (.int .i64 0)).setCell ⟨q, 4, none⟩ (.bool true)) (FX F w (((w3.setCell ⟨q, 2, none⟩ (.slice none 0 0)).setCell ⟨q, 3, none⟩ (.int .i64 0)).setCell ⟨q, 4, none⟩ (.bool true))) q (dCrash s picks) := by
  have c5 : Chg (fun i => i = q) w3 (((w3.setCell ⟨q, 2, none⟩ (.slice none 0 0)).setCell ⟨q, 3, none⟩ (.int .i64 0)).setCell ⟨q, 4, none⟩ (.bool true)) :=
    (((Chg.refl (fun i => i = q) w3).setCell ⟨q, 2, none⟩ _ (fun _ => rfl)).setCell ⟨q, 3, none⟩ _ (fun _ => rfl)).setCell ⟨q, 4, none⟩ _ (fun _ => rfl)
  have hall : Chg F w (((w3.setCell ⟨q, 2, none⟩ (.slice none 0 0)).setCell ⟨q, 3, none⟩ (.int .i64 0)).setCell ⟨q, 4, none⟩ (.bool true)) := ((g.mono (G := F) (fun i hi => hi ▸ L.fY)).trans (g3.mono (G := F) (fun i hi => hi ▸ L.fC))).trans (c5.mono (G := F) (fun i hi => hi ▸ L.fq))
  have hl : (dCrash s picks).safe.length = s.safe.length := crashL_len _ _ _ _
  refine ⟨hall, fx_fit hf hall.size, dok_crash ok h2.len, C, Y, .slice none 0 0, ⟨Or.inl L.fq, Or.inl L.fC, Or.inl L.fY, (fun i hi => by cases hi), L.qC, L.qY, L.CY⟩, ?_, ?_, (h2.chg g3 (fun h => L.CY h.symm)).chg c5 (fun h => L.qY h.symm), World.ownsRow_nil _ _ _ _⟩
  · rw [hl]
    exact ((((H.chg g (fun h => L.qY h)).chg g3 (fun h => L.qC h)).set2 _).set3 0).set4 true
  · exact h3.chg c5 (fun h => L.qC h.symm)
end Go.Proofs.Ytgaopkfdbglnmaa.NumK
