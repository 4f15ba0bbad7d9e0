/- The document's own disk: in memory; New, block, last, Arm. -/
import Derived.Test.YtgaopkfdbglnmaaDiskO
namespace Go.Proofs.Ytgaopkfdbglnmaa.NumK
open Go.RowKit

structure RHead (w : World) (q n Y : Nat) (v : Value) (armed : Nat) (off cut : Bool) : Prop where
  lt : q < w.heap.size
  c0 : w.cell? ⟨q, 0, none⟩ = some (.int .i64 (n : Int))
  c1 : w.cell? ⟨q, 1, none⟩ = some (.slice (some ⟨Y, 0, none⟩) n n)
  c2 : w.cell? ⟨q, 2, none⟩ = some v
  c3 : w.cell? ⟨q, 3, none⟩ = some (.bool off)
  c4 : w.cell? ⟨q, 4, none⟩ = some (.int .i64 (armed : Int))
  c5 : w.cell? ⟨q, 5, none⟩ = some (.bool cut)
  f2 : w.frozen? ⟨q, 2, none⟩ = false
  f3 : w.frozen? ⟨q, 3, none⟩ = false
  f4 : w.frozen? ⟨q, 4, none⟩ = false
  f5 : w.frozen? ⟨q, 5, none⟩ = false
theorem RHead.of {w w' : World} {q n Y : Nat} {v : Value} {armed : Nat} {off cut : Bool} (h : RHead w q n Y v armed off cut) (e : w'.heap[q]? = w.heap[q]?) (hs : w.heap.size ≤ w'.heap.size) : RHead w' q n Y v armed off cut :=
  have c := fun i => World.cell?_of_block (w := w) (w' := w') (a := ⟨q, i, none⟩) e
  have f := fun i => World.frozen?_of_block (w := w) (w' := w') (a := ⟨q, i, none⟩) e
  ⟨Nat.lt_of_lt_of_le h.lt hs, (c 0).trans h.c0, (c 1).trans h.c1, (c 2).trans h.c2, (c 3).trans h.c3, (c 4).trans h.c4, (c 5).trans h.c5, (f 2).trans h.f2, (f 3).trans h.f3, (f 4).trans h.f4, (f 5).trans h.f5⟩
theorem RHead.chg {F : Nat → Prop} {w w' : World} {q n Y : Nat} {v : Value} {armed : Nat} {off cut : Bool} (h : RHead w q n Y v armed off cut) (g : Chg F w w') (hn : ¬ F q) : RHead w' q n Y v armed off cut := h.of (g.block q h.lt hn) g.size
section
variable {w : World} {q n Y : Nat} {v : Value} {armed : Nat} {off cut : Bool}
theorem RHead.set2 (h : RHead w q n Y v armed off cut) (u : Value) : RHead (w.setCell ⟨q, 2, none⟩ u) q n Y u armed off cut :=
  ⟨by simpa [World.setCell] using h.lt, (set_ne (by omega)).trans h.c0, (set_ne (by omega)).trans h.c1, World.cell?_setCell_same _ _ _ h.c2, (set_ne (by omega)).trans h.c3, (set_ne (by omega)).trans h.c4, (set_ne (by omega)).trans h.c5, by rw [World.frozen?_setCell]; exact h.f2, by rw [World.frozen?_setCell]; exact h.f3, by rw [World.frozen?_setCell]; exact h.f4, by rw [World.frozen?_setCell]; exact h.f5⟩
theorem RHead.set3 (h : RHead w q n Y v armed off cut) (u : Bool) : RHead (w.setCell ⟨q, 3, none⟩ (.bool u)) q n Y v armed u cut :=
  ⟨by simpa [World.setCell] using h.lt, (set_ne (by omega)).trans h.c0, (set_ne (by omega)).trans h.c1, (set_ne (by omega)).trans h.c2, World.cell?_setCell_same _ _ _ h.c3, (set_ne (by omega)).trans h.c4, (set_ne (by omega)).trans h.c5, by rw [World.frozen?_setCell]; exact h.f2, by rw [World.frozen?_setCell]; exact h.f3, by rw [World.frozen?_setCell]; exact h.f4, by rw [World.frozen?_setCell]; exact h.f5⟩
theorem RHead.set4 (h : RHead w q n Y v armed off cut) (u : Nat) : RHead (w.setCell ⟨q, 4, none⟩ (.int .i64 (u : Int))) q n Y v u off cut :=
  ⟨by simpa [World.setCell] using h.lt, (set_ne (by omega)).trans h.c0, (set_ne (by omega)).trans h.c1, (set_ne (by omega)).trans h.c2, (set_ne (by omega)).trans h.c3, World.cell?_setCell_same _ _ _ h.c4, (set_ne (by omega)).trans h.c5, by rw [World.frozen?_setCell]; exact h.f2, by rw [World.frozen?_setCell]; exact h.f3, by rw [World.frozen?_setCell]; exact h.f4, by rw [World.frozen?_setCell]; exact h.f5⟩
theorem RHead.set5 (h : RHead w q n Y v armed off cut) (u : Bool) : RHead (w.setCell ⟨q, 5, none⟩ (.bool u)) q n Y v armed off u :=
  ⟨by simpa [World.setCell] using h.lt, (set_ne (by omega)).trans h.c0, (set_ne (by omega)).trans h.c1, (set_ne (by omega)).trans h.c2, (set_ne (by omega)).trans h.c3, (set_ne (by omega)).trans h.c4, World.cell?_setCell_same _ _ _ h.c5, by rw [World.frozen?_setCell]; exact h.f2, by rw [World.frozen?_setCell]; exact h.f3, by rw [World.frozen?_setCell]; exact h.f4, by rw [World.frozen?_setCell]; exact h.f5⟩
end
structure RLie (F : Nat → Prop) (q Y : Nat) (v : Value) : Prop where
  fq : F q
  fY : F Y
  fv : ∀ k, v.ownBlock = some k → F k ∧ k ≠ q ∧ k ≠ Y
  qY : q ≠ Y
theorem RLie.mono {F G : Nat → Prop} {q Y : Nat} {v : Value} (h : RLie F q Y v) (hG : ∀ k, F k → G k) : RLie G q Y v :=
  ⟨hG _ h.fq, hG _ h.fY, fun k hk => ⟨hG _ (h.fv k hk).1, (h.fv k hk).2⟩, h.qY⟩
/-- The document's disk in block q, in the blocks F, reads as s. -/
structure RK (w : World) (F : Nat → Prop) (q : Nat) (s : DS) : Prop where
  fit : ∀ k, F k → k < w.heap.size
  ok : DOK s
  ex : ∃ (Y : Nat) (v : Value), RLie F q Y v ∧ RHead w q s.safe.length Y v s.armed s.off s.cut ∧ BlkRow w Y s.safe ∧ w.ownsRow 0 66 65 v s.opn.length (opnC s.opn)
theorem RK.chg {F G : Nat → Prop} {w w' : World} {q : Nat} {s : DS} (h : RK w F q s) (g : Chg G w w') (hn : ∀ k, F k → ¬ G k) : RK w' F q s := by
  obtain ⟨Y, v, L, H, h2, h3⟩ := h.ex
  exact ⟨fun k hk => Nat.lt_of_lt_of_le (h.fit k hk) g.size, h.ok, Y, v, L, H.chg g (hn q L.fq), h2.chg g (hn Y L.fY),
    ownsRow_of h3 fun k hk => g.block k (h.fit k (L.fv k hk).1) (hn k (L.fv k hk).1)⟩
theorem RK.grew {F : Nat → Prop} {w w' : World} {q : Nat} {s : DS} (h : RK w F q s) (g : Grew w w') : RK w' F q s := h.chg (G := fun _ => False) g.chg (fun _ _ h => h)
theorem RK.more {F G : Nat → Prop} {w : World} {q : Nat} {s : DS} (h : RK w F q s) (hG : ∀ k, F k → G k) (hf : ∀ k, G k → k < w.heap.size) : RK w G q s := by
  obtain ⟨Y, v, L, H, h1⟩ := h.ex
  exact ⟨hf, h.ok, Y, v, L.mono hG, H, h1⟩
def RPost (F : Nat → Prop) (q : Nat) (w : World) (r : Value) (s : DS) (e : Ending) (w' : World) : Prop := e = .returned r ∧ Chg F w w' ∧ RK w' (FX F w w') q s
theorem rk_same {F : Nat → Prop} {q : Nat} {s : DS} {w : World} (h : RK w F q s) : Chg F w w ∧ RK w (FX F w w) q s := ⟨Chg.refl _ _, h.more fx_self (fx_fit h.fit (Nat.le_refl _))⟩
theorem rpost_then {F : Nat → Prop} {q : Nat} {a b c : World} {r : Value} {s : DS} {e : Ending} (hf : ∀ k, F k → k < a.heap.size) (h1 : Chg F a b) (h2 : RPost (FX F a b) q b r s e c) : RPost F q a r s e c := by
  obtain ⟨he, hc, hd⟩ := h2
  refine ⟨he, h1.then hc (fun i hi hF => ?_), hd.more (fx_fx h1.size hc.size) (fx_fit hf (Nat.le_trans h1.size hc.size))⟩
  rcases hF with hF | hF
  · exact hF
  · omega
theorem rpost_grew {F : Nat → Prop} {q : Nat} {a b c : World} {r : Value} {s : DS} {e : Ending} (hf : ∀ k, F k → k < a.heap.size) (h1 : Grew a b) (h2 : RPost F q b r s e c) : RPost F q a r s e c := by
  obtain ⟨he, hc, hd⟩ := h2
  refine ⟨he, (h1.chg).then hc (fun i _ hF => hF), hd.more (fun k hk => ?_) (fx_fit hf (Nat.le_trans h1.size hc.size))⟩
  rcases hk with hk | hk
  · exact Or.inl hk
  · exact Or.inr ⟨Nat.le_trans h1.size hk.1, hk.2⟩
/-- Only the head was turned. -/
theorem rk_head {F : Nat → Prop} {q : Nat} {s s' : DS} {w w' : World} {Y : Nat} {v : Value} (hf : ∀ k, F k → k < w.heap.size) (L : RLie F q Y v) (g : Chg (fun k => k = q) w w') (ok : DOK s')
    (h0 : s'.safe = s.safe) (h00 : s'.opn = s.opn) (H : RHead w' q s.safe.length Y v s'.armed s'.off s'.cut) (h2 : BlkRow w Y s.safe) (h3 : w.ownsRow 0 66 65 v s.opn.length (opnC s.opn)) :
    Chg F w w' ∧ RK w' (FX F w w') q s' := by
  refine ⟨g.mono (fun i hi => hi ▸ L.fq), fx_fit hf g.size, ok, Y, v, L.mono fx_self, by rw [h0]; exact H, by rw [h0]; exact h2.chg g (fun h => L.qY h.symm), ?_⟩
  rw [h00]
  exact ownsRow_of h3 fun k hk => g.block k (hf k (L.fv k hk).1) (L.fv k hk).2.1

/-! ### New -/
def RNewPost (n : Nat) (w : World) (e : Ending) (w' : World) : Prop :=
  Grew w w' ∧ ∃ q, w.heap.size ≤ q ∧ e = .returned (.pointer (some ⟨q, 0, none⟩)) ∧ RK w' (fun k => w.heap.size ≤ k ∧ k < w'.heap.size) q (dNew n)
theorem rnew_any (n : Nat) (w : World) (h1 : 1 ≤ n) (h2 : n ≤ 65536) : Calls Try.prog 12 #[.int .i64 (n : Int)] w (RNewPost n w) := by
  have hmk := fun w => run_blks w n h2
  obtain ⟨Z, hZ⟩ : ∃ Z, madeCells (bytesV blk0).toArray (n * 64) = Z := ⟨_, rfl⟩
  have hb := Lib.hid (fun w => blkRow_new w n)
  rw [hZ] at hb
  rw [hZ] at hmk
  clear hZ
  have HA : Hid (RNewPost n w (.returned (.pointer (some ⟨w.heap.size + 1, 0, none⟩))) ((w.alloc (.cells Z 40)).alloc (.cells #[.int .i64 (n : Int), .slice (some ⟨w.heap.size, 0, none⟩) n n, .slice none 0 0, .bool false, .int .i64 0, .bool false] 38))) := by
    have hs1 : (w.alloc (.cells Z 40)).heap.size = w.heap.size + 1 := by simp
    have ga := grew_alloc (w.alloc (.cells Z 40)) #[.int .i64 (n : Int), .slice (some ⟨w.heap.size, 0, none⟩) n n, .slice none 0 0, .bool false, .int .i64 0, .bool false] 38
    have hb1 := hb.out w
    refine ⟨grew_trans (grew_alloc _ _ _) ga, w.heap.size + 1, by omega, rfl, fun k hk => hk.2, dok_new n h1 h2, w.heap.size, .slice none 0 0, ⟨⟨by omega, by simp⟩, ⟨Nat.le_refl _, by simp; omega⟩, (fun k hk => by cases hk), by omega⟩, ?_, hb1.of (ga.block _ hb1.lt) ga.size, World.ownsRow_nil _ _ _ _⟩
    have : (dNew n).safe.length = n := by simp [dNew]
    rw [this]
    have e : ∀ i, ((w.alloc (.cells Z 40)).alloc (.cells #[.int .i64 (n : Int), .slice (some ⟨w.heap.size, 0, none⟩) n n, .slice none 0 0, .bool false, .int .i64 0, .bool false] 38)).cell? ⟨w.heap.size + 1, i, none⟩ = (#[.int .i64 (n : Int), .slice (some ⟨w.heap.size, 0, none⟩) n n, .slice none 0 0, .bool false, .int .i64 0, .bool false] : Array Value)[i]? := fun i => World.cell?_alloc_at _ _ _ _ hs1.symm
    have f : ∀ i, ((w.alloc (.cells Z 40)).alloc (.cells #[.int .i64 (n : Int), .slice (some ⟨w.heap.size, 0, none⟩) n n, .slice none 0 0, .bool false, .int .i64 0, .bool false] 38)).frozen? ⟨w.heap.size + 1, i, none⟩ = false := fun i => by rw [← hs1]; simp
    exact ⟨by simp, e 0, e 1, e 2, e 3, e 4, e 5, f 2, f 3, f 4, f 5⟩
  clear hb h1 h2
  go_enter Try.func12, Try.ntmps12
  go_wp2
  go_ret
  exact HA.out

/-! ### block, last, Arm -/
theorem rblock_any (F : Nat → Prop) (q : Nat) (s : DS) (at' : Int) (w : World) (h : RK w F q s) : Calls Try.prog 33 #[.pointer (some ⟨q, 0, none⟩), .int .i64 at'] w fun e w' => e = .returned (.bool (decide (s.has at'))) ∧ w = w' := by
  obtain ⟨Y, v, L, H, h1⟩ := h.ex
  have c0 := H.c0
  clear H h1 L h
  by_cases h0 : 0 ≤ at'
  · have HE : Hid (decide (s.has at') = decide (at' < (s.safe.length : Int))) := by show _ = _; simp only [DS.has, h0, true_and]
    generalize s.safe.length = n at *
    go_enter Try.func33, Try.ntmps33
    go_wp2
    go_ret
    exact ⟨by rw [HE.out]; rfl, rfl⟩
  · have HE : Hid (decide (s.has at') = false) := by show _ = _; exact decide_eq_false (fun h => h0 h.1)
    go_enter Try.func33, Try.ntmps33
    go_wp2
    go_ret
    exact ⟨by rw [HE.out]; rfl, rfl⟩
theorem rlast_any (F : Nat → Prop) (q : Nat) (s : DS) (w : World) (h : RK w F q s) : Calls Try.prog 37 #[.pointer (some ⟨q, 0, none⟩)] w (RPost F q w (.bool (dLast s).1) (dLast s).2) := by
  have hD := h
  obtain ⟨Y, v, L, H, h2, h3⟩ := h.ex
  have c3 := H.c3
  have c4 := H.c4
  have c5 := H.c5
  have f3 := H.f3
  have f4 := H.f4
  have f5 := H.f5
  by_cases ha : s.armed = 0
  · have HP : Hid (RPost F q w (.bool (dLast s).1) (dLast s).2 (.returned (.bool false)) w) := by
      have e : dLast s = (false, s) := by unfold dLast; rw [if_pos ha]
      rw [e]
      exact ⟨rfl, rk_same hD⟩
    rw [ha] at c4
    clear H L h2 h3 h hD
    go_enter Try.func37, Try.ntmps37
    go_wp2
    go_ret
    exact HP.out
  · have k0 : ¬ (s.armed : Int) < 1 := by omega
    have k1 : IntKind.i64.wrap ((s.armed : Int) - 1) = ((s.armed - 1 : Nat) : Int) := by rw [IntKind.wrap_i64]; have := hD.ok.arm; omega
    have hok := dok_last hD.ok
    by_cases h1' : s.armed = 1
    · have HP : Hid (RPost F q w (.bool (dLast s).1) (dLast s).2 (.returned (.bool true)) (((w.setCell ⟨q, 4, none⟩ (.int .i64 0)).setCell ⟨q, 3, none⟩ (.bool true)).setCell ⟨q, 5, none⟩ (.bool true))) := by
        have e : dLast s = (true, { s with armed := 0, off := true, cut := true }) := by unfold dLast; rw [if_neg ha, if_pos h1']
        rw [e] at hok ⊢
        exact ⟨rfl, rk_head (s := s) hD.fit L ((((Chg.refl (fun k => k = q) w).setCell ⟨q, 4, none⟩ _ (fun _ => rfl)).setCell ⟨q, 3, none⟩ _ (fun _ => rfl)).setCell ⟨q, 5, none⟩ _ (fun _ => rfl)) hok rfl rfl (((H.set4 0).set3 true).set5 true) h2 h3⟩
      rw [h1'] at c4
      clear H L h2 h3 h hD hok k0 k1
      go_enter Try.func37, Try.ntmps37
      go_wp2
      go_ret
      exact HP.out
    · have HP : Hid (RPost F q w (.bool (dLast s).1) (dLast s).2 (.returned (.bool false)) (w.setCell ⟨q, 4, none⟩ (.int .i64 ((s.armed - 1 : Nat) : Int)))) := by
        have e : dLast s = (false, { s with armed := s.armed - 1 }) := by unfold dLast; rw [if_neg ha, if_neg h1']
        rw [e] at hok ⊢
        exact ⟨rfl, rk_head (s := s) hD.fit L ((Chg.refl (fun k => k = q) w).setCell ⟨q, 4, none⟩ _ (fun _ => rfl)) hok rfl rfl (H.set4 _) h2 h3⟩
      have k2 : (((s.armed - 1 : Nat) : Int) == 0) = false := by simp; omega
      clear H L h2 h3 h hD hok
      generalize s.armed - 1 = m at *
      generalize s.armed = m0 at *
      go_enter Try.func37, Try.ntmps37
      go_wp2
      go_ret
      exact HP.out
theorem rarm_any (F : Nat → Prop) (q : Nat) (s : DS) (n : Int) (hn : n ≤ 9223372036854775807) (w : World) (h : RK w F q s) : Calls Try.prog 27 #[.pointer (some ⟨q, 0, none⟩), .int .i64 n] w (RPost F q w (.tuple #[]) (dArm s n)) := by
  have hD := h
  obtain ⟨Y, v, L, H, h2, h3⟩ := h.ex
  have c3 := H.c3
  have c4 := H.c4
  have f4 := H.f4
  cases ho : s.off with
  | true =>
    have HP : Hid (RPost F q w (.tuple #[]) (dArm s n) (.returned (.tuple #[])) w) := by
      have e : dArm s n = s := by unfold dArm; rw [ho]; rfl
      rw [e]
      exact ⟨rfl, rk_same hD⟩
    rw [ho] at c3
    clear H L h2 h3 h hD
    go_enter Try.func27, Try.ntmps27
    go_wp2
    go_end0
    exact HP.out
  | false =>
    have HP : Hid (RPost F q w (.tuple #[]) (dArm s n) (.returned (.tuple #[])) (w.setCell ⟨q, 4, none⟩ (.int .i64 (n.toNat : Int)))) := by
      have e : dArm s n = { s with armed := n.toNat } := by unfold dArm; rw [ho]; rfl
      have hok := dok_arm hD.ok n hn
      rw [e] at hok ⊢
      exact ⟨rfl, rk_head (s := s) hD.fit L ((Chg.refl (fun k => k = q) w).setCell ⟨q, 4, none⟩ _ (fun _ => rfl)) hok rfl rfl (H.set4 n.toNat) h2 h3⟩
    rw [ho] at c3
    clear H L h2 h3 h hD
    by_cases h5 : n < 0
    · have e5 : n.toNat = 0 := by omega
      rw [e5] at HP
      go_enter Try.func27, Try.ntmps27
      go_wp2
      go_end0
      exact HP.out
    · have e5 : (n.toNat : Int) = n := by omega
      rw [e5] at HP
      clear e5
      go_enter Try.func27, Try.ntmps27
      go_wp2
      go_end0
      exact HP.out
end Go.Proofs.Ytgaopkfdbglnmaa.NumK
