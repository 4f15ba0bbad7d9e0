/- disk: Write. -/
import Derived.Test.YtgaopkfdbglnmaaDiskE
namespace Go.Proofs.Ytgaopkfdbglnmaa.NumK
open Go.RowKit

def wrS (s : DS) (k : Nat) (b : Blk) : DS := { s with opn := s.opn ++ [(k, b)] }
theorem cont_wr (s : DS) (k : Nat) (b : Blk) : cont (wrS s k b) = (cont s).set k b := applyL_snoc _ _ _
theorem dok_wr {s : DS} {k : Nat} {b : Blk} (h : DOK s) (ho : s.off = false) (hk : k < s.safe.length) (hb : b.length = 64) : DOK (wrS s k b) := by
  obtain ⟨h1, h2, h3, h4, h5, h6, h7⟩ := h
  refine ⟨⟨h1.1, fun x hx => ?_⟩, h2, h3, h4, h5, fun h => ?_, h7⟩
  · rcases List.mem_append.1 hx with hx | hx
    · exact h1.2 x hx
    · rw [List.mem_singleton] at hx; subst hx; exact ⟨hk, hb⟩
  · rw [show (wrS s k b).off = s.off from rfl, ho] at h; cases h
theorem last_wr (s : DS) (k : Nat) (b : Blk) : (dLast (wrS s k b)).1 = (dLast s).1 ∧ (dLast (wrS s k b)).2 = { (dLast s).2 with opn := s.opn ++ [(k, b)] } := by
  unfold dLast wrS
  by_cases h : s.armed = 0
  · simp [h]
  · by_cases h1 : s.armed = 1
    · simp [h1]
    · simp [h, h1]
theorem dWrite_of {s : DS} {k : Nat} {b : Blk} (ho : s.off = false) (hk : k < s.safe.length) : dWrite s (k : Int) b = (if (dLast (wrS s k b)).1 then 7 else 0, (dLast (wrS s k b)).2) := by
  obtain ⟨h1, h2⟩ := last_wr s k b
  unfold dWrite DS.has
  rw [h1, h2, ho]
  simp [hk]
theorem dWrite_not {s : DS} {at' : Int} {b : Blk} (h : refI s at' ≠ 0) : dWrite s at' b = (refI s at', s) := by
  unfold dWrite refI at *
  split
  · rfl
  · split
    · simp_all
    · rfl
theorem fx_fx {F : Nat → Prop} {a b c : World} (h1 : a.heap.size ≤ b.heap.size) (h2 : b.heap.size ≤ c.heap.size) : ∀ k, FX (FX F a b) b c k → FX F a c k := fun k h => by
  rcases h with (h | h) | h
  · exact Or.inl h
  · exact Or.inr ⟨h.1, by omega⟩
  · exact Or.inr ⟨by omega, h.2⟩
theorem dpost_then {F : Nat → Prop} {q : Nat} {a b c : World} {r : Value} {s : DS} {e : Ending} (hf : ∀ k, F k → k < a.heap.size) (h1 : Chg F a b) (h2 : DPost (FX F a b) q b r s e c) : DPost F q a r s e c := by
  obtain ⟨he, hc, hd⟩ := h2
  refine ⟨he, h1.then hc (fun i hi hF => ?_), hd.more (fx_fx h1.size hc.size) (fx_fit hf (Nat.le_trans h1.size hc.size))⟩
  rcases hF with hF | hF
  · exact hF
  · omega
/-- A method's post from a world that has only grown. -/
theorem dpost_grew {F : Nat → Prop} {q : Nat} {a b c : World} {r : Value} {s : DS} {e : Ending} (hf : ∀ k, F k → k < a.heap.size) (h1 : Grew a b) (h2 : DPost F q b r s e c) : DPost F q a r s e c := by
  obtain ⟨he, hc, hd⟩ := h2
  refine ⟨he, (h1.chg).then hc (fun i _ hF => hF), hd.more (fun k hk => ?_) (fx_fit hf (Nat.le_trans h1.size hc.size))⟩
  rcases hk with hk | hk
  · exact Or.inl hk
  · exact Or.inr ⟨Nat.le_trans h1.size hk.1, hk.2⟩

/-- The worlds that a Write leaves. -/
theorem dk_write {F : Nat → Prop} {q : Nat} {s : DS} {w w2 w3 w4 : World} {C Y g cap k : Nat} {v : Value} {b : Blk} (hf : ∀ k, F k → k < w.heap.size) (ok : DOK (wrS s k b)) (L : Lie F q C Y v) (H : Head w q s.safe.length C Y v s.armed s.off) (h1 : BlkRow w C (cont s)) (h2 : BlkRow w Y s.safe)
    (hk : k < s.safe.length) (hb : b.length = 64) (g2 : w2 = w.setCells C (k * 64) (bytesV b)) (g3 : Grew w2 w3)
    (g4 : w3.grownBy w4 v.ownBlock) (ho : w4.ownsRow 0 66 65 (.slice (some ⟨g, 0, none⟩) (s.opn.length + 1) cap) (s.opn.length + 1) (opnC s.opn ++ wrC (k, b))) (hat : v.ownBlock = some g ∨ w.heap.size ≤ g) (hlt : g < w4.heap.size) :
    Chg F w (w4.setCell ⟨q, 2, none⟩ (.slice (some ⟨g, 0, none⟩) (s.opn.length + 1) cap)) ∧ DK (w4.setCell ⟨q, 2, none⟩ (.slice (some ⟨g, 0, none⟩) (s.opn.length + 1) cap)) (FX F w (w4.setCell ⟨q, 2, none⟩ (.slice (some ⟨g, 0, none⟩) (s.opn.length + 1) cap))) q (wrS s k b) := by
  have c2 : Chg (fun i => i = C) w w2 := g2 ▸ (Chg.refl _ _).setCells _ _ _ (fun _ => rfl)
  have c3 : Chg (fun i => i = C) w w3 := c2.trans g3.chg
  have s2 : w.heap.size = w2.heap.size := by rw [g2, setCells_size]
  have r1 : BlkRow w3 C ((cont s).set k b) := by
    have := h1.set (k := k) (by rw [cont_len]; exact hk) b hb
    rw [← g2] at this
    exact this.of (g3.block C this.lt) g3.size
  have c4 : Chg (fun i => v.ownBlock = some i) w3 w4 := (Chg.refl _ _).grown g4 (fun k hk _ => hk)
  have n : ∀ i, v.ownBlock = some i → i ≠ q ∧ i ≠ C ∧ i ≠ Y := fun i hi => (L.fv i hi).2
  have r2 : BlkRow w4 C ((cont s).set k b) := r1.chg c4 (fun h => (n _ h).2.1 rfl)
  have r3 : BlkRow w4 Y s.safe := (h2.chg c3 (fun h => L.CY h.symm)).chg c4 (fun h => (n _ h).2.2 rfl)
  have r4 : Head w4 q s.safe.length C Y v s.armed s.off := (H.chg c3 (fun h => L.qC h)).chg c4 (fun h => (n _ h).1 rfl)
  have c5 : Chg (fun i => i = q) w4 (w4.setCell ⟨q, 2, none⟩ (.slice (some ⟨g, 0, none⟩) (s.opn.length + 1) cap)) := (Chg.refl (fun i => i = q) w4).setCell ⟨q, 2, none⟩ _ (fun _ => rfl)
  have hall : Chg F w (w4.setCell ⟨q, 2, none⟩ (.slice (some ⟨g, 0, none⟩) (s.opn.length + 1) cap)) :=
    ((c3.mono (G := F) (fun i hi => hi ▸ L.fC)).trans (c4.mono (G := F) (fun i hi => (L.fv i hi).1))).trans (c5.mono (G := F) (fun i hi => hi ▸ L.fq))
  have hg : g ≠ q ∧ g ≠ C ∧ g ≠ Y ∧ (F g ∨ w.heap.size ≤ g) := by
    rcases hat with h | h
    · exact ⟨(n g h).1, (n g h).2.1, (n g h).2.2, Or.inl (L.fv g h).1⟩
    · have := hf q L.fq; have := hf C L.fC; have := hf Y L.fY
      exact ⟨by omega, by omega, by omega, Or.inr h⟩
  refine ⟨hall, fx_fit hf hall.size, ok, C, Y, .slice (some ⟨g, 0, none⟩) (s.opn.length + 1) cap, ?_, r4.set2 _, ?_, r3.chg c5 (fun h => L.qY h.symm), ?_⟩
  · refine ⟨Or.inl L.fq, Or.inl L.fC, Or.inl L.fY, fun i hi => ?_, L.qC, L.qY, L.CY⟩
    have : i = g := by simpa [Value.ownBlock] using hi.symm
    subst this
    refine ⟨?_, hg.1, hg.2.1, hg.2.2.1⟩
    rcases hg.2.2.2 with h | h
    · exact Or.inl h
    · exact Or.inr ⟨h, by simpa [World.setCell] using hlt⟩
  · rw [cont_wr]; exact r2.chg c5 (fun h => L.qC h.symm)
  · have e : (wrS s k b).opn.length = s.opn.length + 1 := by simp [wrS]
    rw [e, show (wrS s k b).opn = s.opn ++ [(k, b)] from rfl, opnC_snoc]
    refine ownsRow_of ho fun i hi => c5.block i ?_ ?_
    · have : i = g := by simpa [Value.ownBlock] using hi.symm
      subst this; exact hlt
    · have : i = g := by simpa [Value.ownBlock] using hi.symm
      subst this; exact hg.1
end Go.Proofs.Ytgaopkfdbglnmaa.NumK
