/- The document's own disk: in memory; New, block, last, Arm. -/
import Derived.Test.YthnhhhfjgbgpgaaRDiskJ
namespace Go.Proofs.Ythnhhhfjgbgpgaa.NumK
open Go.RowKit

structure RHead (w : World) (q n Y : Nat) (v : Value) (armed : Nat) (off cut : Bool) : Prop where
  lt : q < w.heap.size
  c0 : w.cell? ⟨q, 0, none⟩ = some (.int .i64 (n : Int))
  c1 : w.cell? ⟨q, 1, none⟩ = some (.slice (some ⟨Y, 0, none⟩) n n)
  c2 : w.cell? ⟨q, 2, none⟩ = some v
  c3 : w.cell? ⟨q, 3, none⟩ = some (.bool off)
  c4 : w.cell? ⟨q, 4, none⟩ = some (.int .i64 (armed : Int))
  c5 : w.cell? ⟨q, 5, none⟩ = some (.bool cut)
  f2 : w.frozen? ⟨q, 2, none⟩ = false
  f3 : w.frozen? ⟨q, 3, none⟩ = false
  f4 : w.frozen? ⟨q, 4, none⟩ = false
  f5 : w.frozen? ⟨q, 5, none⟩ = false
theorem RHead.of {w w' : World} {q n Y : Nat} {v : Value} {armed : Nat} {off cut : Bool} (h : RHead w q n Y v armed off cut) (e : w'.heap[q]? = w.heap[q]?) (hs : w.heap.size ≤ w'.heap.size) : RHead w' q n Y v armed off cut :=
  have c := fun i => World.cell?_of_block (w := w) (w' := w') (a := ⟨q, i, none⟩) e
  have f := fun i => World.frozen?_of_block (w := w) (w' := w') (a := ⟨q, i, none⟩) e
  ⟨Nat.lt_of_lt_of_le h.lt hs, (c 0).trans h.c0, (c 1).trans h.c1, (c 2).trans h.c2, (c 3).trans h.c3, (c 4).trans h.c4, (c 5).trans h.c5, (f 2).trans h.f2, (f 3).trans h.f3, (f 4).trans h.f4, (f 5).trans h.f5⟩
theorem RHead.chg {F : Nat → Prop} {w w' : World} {q n Y : Nat} {v : Value} {armed : Nat} {off cut : Bool} (h : RHead w q n Y v armed off cut) (g : Chg F w w') (hn : ¬ F q) : RHead w' q n Y v armed off cut := h.of (g.block q h.lt hn) g.size
section
variable {w : World} {q n Y : Nat} {v : Value} {armed : Nat} {off cut : Bool}
theorem RHead.set2 (h : RHead w q n Y v armed off cut) (u : Value) : RHead (w.setCell ⟨q, 2, none⟩ u) q n Y u armed off cut :=
  ⟨by simpa [World.setCell] using h.lt, (set_ne (by omega)).trans h.c0, (set_ne (by omega)).trans h.c1, World.cell?_setCell_same _ _ _ h.c2, (set_ne (by omega)).trans h.c3, (set_ne (by omega)).trans h.c4, (set_ne (by omega)).trans h.c5, by rw [World.frozen?_setCell]; exact h.f2, by rw [World.frozen?_setCell]; exact h.f3, by rw [World.frozen?_setCell]; exact h.f4, by rw [World.frozen?_setCell]; exact h.f5⟩
theorem RHead.set3 (h : RHead w q n Y v armed off cut) (u : Bool) : RHead (w.setCell ⟨q, 3, none⟩ (.bool u)) q n Y v armed u cut :=
  ⟨by simpa [World.setCell] using h.lt, (set_ne (by omega)).trans h.c0, (set_ne (by omega)).trans h.c1, (set_ne (by omega)).trans h.c2, World.cell?_setCell_same _ _ _ h.c3, (set_ne (by omega)).trans h.c4, (set_ne (by omega)).trans h.c5, by rw [World.frozen?_setCell]; exact h.f2, by rw [World.frozen?_setCell]; exact h.f3, by rw [World.frozen?_setCell]; exact h.f4, by rw [World.frozen?_setCell]; exact h.f5⟩
theorem RHead.set4 (h : RHead w q n Y v armed off cut) (u : Nat) : RHead (w.setCell ⟨q, 4, none⟩ (.int .i64 (u : Int))) q n Y v u off cut :=
  ⟨by simpa [World.setCell] using h.lt, (set_ne (by omega)).trans h.c0, (set_ne (by omega)).trans h.c1, (set_ne (by omega)).trans h.c2, (set_ne (by omega)).trans h.c3, World.cell?_setCell_same _ _ _ h.c4, (set_ne (by omega)).trans h.c5, by rw [World.frozen?_setCell]; exact h.f2, by rw [World.frozen?_setCell]; exact h.f3, by rw [World.frozen?_setCell]; exact h.f4, by rw [World.frozen?_setCell]; exact h.f5⟩
theorem RHead.set5 (h : RHead w q n Y v armed off cut) (u : Bool) : RHead (w.setCell ⟨q, 5, none⟩ (.bool u)) q n Y v armed off u :=
  ⟨by simpa [World.setCell] using h.lt, (set_ne (by omega)).trans h.c0, (set_ne (by omega)).trans h.c1, (set_ne (by omega)).trans h.c2, (set_ne (by omega)).trans h.c3, (set_ne (by omega)).trans h.c4, World.cell?_setCell_same _ _ _ h.c5, by rw [World.frozen?_setCell]; exact h.f2, by rw [World.frozen?_setCell]; exact h.f3, by rw [World.frozen?_setCell]; exact h.f4, by rw [World.frozen?_setCell]; exact h.f5⟩
end
structure RLie (F : Nat → Prop) (q Y : Nat) (v : Value) : Prop where
  fq : F q
  fY : F Y
  fv : ∀ k, v.ownBlock = some k → F k ∧ k ≠ q ∧ k ≠ Y
  qY : q ≠ Y
theorem RLie.mono {F G : Nat → Prop} {q Y : Nat} {v : Value} (h : RLie F q Y v) (hG : ∀ k, F k → G k) : RLie G q Y v :=
  ⟨hG _ h.fq, hG _ h.fY, fun k hk => ⟨hG _ (h.fv k hk).1, (h.fv k hk).2⟩, h.qY⟩
/-- The document's disk in block q, in the blocks F, reads as s. -/
structure RK (w : World) (F : Nat → Prop) (q : Nat) (s : DS) : Prop where
  fit : ∀ k, F k → k < w.heap.size
  ok : DOK s
  ex : ∃ (Y : Nat) (v : Value), RLie F q Y v ∧ RHead w q s.safe.length Y v s.armed s.off s.cut ∧ BlkRow w Y s.safe ∧ w.ownsRow 0 66 65 v s.opn.length (opnC s.opn)
theorem RK.chg {F G : Nat → Prop} {w w' : World} {q : Nat} {s : DS} (h : RK w F q s) (g : Chg G w w') (hn : ∀ k, F k → ¬ G k) : RK w' F q s := by
  obtain ⟨Y, v, L, H, h2, h3⟩ := h.ex
  exact ⟨fun k hk => Nat.lt_of_lt_of_le (h.fit k hk) g.size, h.ok, Y, v, L, H.chg g (hn q L.fq), h2.chg g (hn Y L.fY),
    ownsRow_of h3 fun k hk => g.block k (h.fit k (L.fv k hk).1) (hn k (L.fv k hk).1)⟩
theorem RK.grew {F : Nat → Prop} {w w' : World} {q : Nat} {s : DS} (h : RK w F q s) (g : Grew w w') : RK w' F q s := h.chg (G := fun _ => False) g.chg (fun _ _ h => h)
theorem RK.more {F G : Nat → Prop} {w : World} {q : Nat} {s : DS} (h : RK w F q s) (hG : ∀ k, F k → G k) (hf : ∀ k, G k → k < w.heap.size) : RK w G q s := by
  obtain ⟨Y, v, L, H, h1⟩ := h.ex
  exact ⟨hf, h.ok, Y, v, L.mono hG, H, h1⟩
def RPost (F : Nat → Prop) (q : Nat) (w : World) (r : Value) (s : DS) (e : Ending) (w' : World) : Prop := e = .returned r ∧ Chg F w w' ∧ RK w' (FX F w w') q s
theorem rk_same {F : Nat → Prop} {q : Nat} {s : DS} {w : World} (h : RK w F q s) : Chg F w w ∧ RK w (FX F w w) q s := ⟨Chg.refl _ _, h.more fx_self (fx_fit h.fit (Nat.le_refl _))⟩
theorem rpost_then {F : Nat → Prop} {q : Nat} {a b c : World} {r : Value} {s : DS} {e : Ending} (hf : ∀ k, F k → k < a.heap.size) (h1 : Chg F a b) (h2 : RPost (FX F a b) q b r s e c) : RPost F q a r s e c := by
  obtain ⟨he, hc, hd⟩ := h2
  refine ⟨he, h1.then hc (fun i hi hF => ?_), hd.more (fx_fx h1.size hc.size) (fx_fit hf (Nat.le_trans h1.size hc.size))⟩
  rcases hF with hF | hF
  · exact hF
  · omega
theorem rpost_grew {F : Nat → Prop} {q : Nat} {a b c : World} {r : Value} {s : DS} {e : Ending} (hf : ∀ k, F k → k < a.heap.size) (h1 : Grew a b) (h2 : RPost F q b r s e c) : RPost F q a r s e c := by
  obtain ⟨he, hc, hd⟩ := h2
  refine ⟨he, (h1.chg).then hc (fun i _ hF => hF), hd.more (fun k hk => ?_) (fx_fit hf (Nat.le_trans h1.size hc.size))⟩
  rcases hk with hk | hk
  · exact Or.inl hk
  · exact Or.inr ⟨Nat.le_trans h1.size hk.1, hk.2⟩
/-- Only the head was turned. -/
theorem rk_head {F : Nat → Prop} {q : Nat} {s s' : DS} {w w' : World} {Y : Nat} {v : Value} (hf : ∀ k, F k → k < w.heap.size) (L : RLie F q Y v) (g : Chg (fun k => k = q) w w') (ok : DOK s')
    (h0 : s'.safe = s.safe) (h00 : s'.opn = s.opn) (H : RHead w' q s.safe.length Y v s'.armed s'.off s'.cut) (h2 : BlkRow w Y s.safe) (h3 : w.ownsRow 0 66 65 v s.opn.length (opnC s.opn)) :
    Chg F w w' ∧ RK w' (FX F w w') q s' := by
  refine ⟨g.mono (fun i hi => hi ▸ L.fq), fx_fit hf g.size, ok, Y, v, L.mono fx_self, by rw [h0]; exact H, by rw [h0]; exact h2.chg g (fun h => L.qY h.symm), ?_⟩
  rw [h00]
  exact ownsRow_of h3 fun k hk => g.block k (hf k (L.fv k hk).1) (L.fv k hk).2.1

/-! ### New -/
def RNewPost (n : Nat) (w : World) (e : Ending) (w' : World) : Prop :=
  Grew w w' ∧ ∃ q, w.heap.size ≤ q ∧ e = .returned (.pointer (some ⟨q, 0, none⟩)) ∧ RK w' (fun k => w.heap.size ≤ k ∧ k < w'.heap.size) q (dNew n)
theorem rnew_any (n : Nat) (w : World) (h1 : 1 ≤ n) (h2 : n ≤ 65536) : Calls Try.prog 6 #[.int .i64 (n : Int)] w (RNewPost n w) := by
  have hmk := fun w => run_blks w n h2
  obtain ⟨Z, hZ⟩ : ∃ Z, madeCells (bytesV blk0).toArray (n * 64) = Z := ⟨_, rfl⟩
  have hb := Lib.hid (fun w => blkRow_new w n)
  rw [hZ] at hb
  rw [hZ] at hmk
  clear hZ
  have HA : Hid (RNewPost n w (.returned (.pointer (some ⟨w.heap.size + 1, 0, none⟩))) ((w.alloc (.cells Z 61)).alloc (.cells #[.int .i64 (n : Int), .slice (some ⟨w.heap.size, 0, none⟩) n n, .slice none 0 0, .bool false, .int .i64 0, .bool false] 45))) := by
    have hs1 : (w.alloc (.cells Z 61)).heap.size = w.heap.size + 1 := by simp
    have ga := grew_alloc (w.alloc (.cells Z 61)) #[.int .i64 (n : Int), .slice (some ⟨w.heap.size, 0, none⟩) n n, .slice none 0 0, .bool false, .int .i64 0, .bool false] 45
    have hb1 := hb.out w
    refine ⟨grew_trans (grew_alloc _ _ _) ga, w.heap.size + 1, by omega, rfl, fun k hk => hk.2, dok_new n h1 h2, w.heap.size, .slice none 0 0, ⟨⟨by omega, by simp⟩, ⟨Nat.le_refl _, by simp; omega⟩, (fun k hk => by cases hk), by omega⟩, ?_, hb1.of (ga.block _ hb1.lt) ga.size, World.ownsRow_nil _ _ _ _⟩
    have : (dNew n).safe.length = n := by simp [dNew]
    rw [this]
    have e : ∀ i, ((w.alloc (.cells Z 61)).alloc (.cells #[.int .i64 (n : Int), .slice (some ⟨w.heap.size, 0, none⟩) n n, .slice none 0 0, .bool false, .int .i64 0, .bool false] 45)).cell? ⟨w.heap.size + 1, i, none⟩ = (#[.int .i64 (n : Int), .slice (some ⟨w.heap.size, 0, none⟩) n n, .slice none 0 0, .bool false, .int .i64 0, .bool false] : Array Value)[i]? := fun i => World.cell?_alloc_at _ _ _ _ hs1.symm
    have f : ∀ i, ((w.alloc (.cells Z 61)).alloc (.cells #[.int .i64 (n : Int), .slice (some ⟨w.heap.size, 0, none⟩) n n, .slice none 0 0, .bool false, .int .i64 0, .bool false] 45)).frozen? ⟨w.heap.size + 1, i, none⟩ = false := fun i => by rw [← hs1]; simp
    exact ⟨by simp, e 0, e 1, e 2, e 3, e 4, e 5, f 2, f 3, f 4, f 5⟩
  clear hb h1 h2
  go_enter Try.func6, Try.ntmps6
  go_wp2
  go_ret
  exact HA.out

/-! ### block, last, Arm -/
theorem rblock_any (F : Nat → Prop) (q : Nat) (s : DS) (at' : Int) (w : World) (h : RK w F q s) : Calls Try.prog 55 #[.pointer (some ⟨q, 0, none⟩), .int .i64 at'] w fun e w' => e = .returned (.bool (decide (s.has at'))) ∧ w = w' := by
  obtain ⟨Y, v, L, H, h1⟩ := h.ex
  have c0 := H.c0
  clear H h1 L h
  by_cases h0 : 0 ≤ at'
  · have HE : Hid (decide (s.has at') = decide (at' < (s.safe.length : Int))) := by show _ = _; simp only [DS.has, h0, true_and]
    generalize s.safe.length = n at *
    go_enter Try.func55, Try.ntmps55
    go_wp2
    go_ret
    exact ⟨by rw [HE.out]; rfl, rfl⟩
  · have HE : Hid (decide (s.has at') = false) := by show _ = _; exact decide_eq_false (fun h => h0 h.1)
    go_enter Try.func55, Try.ntmps55
    go_wp2
    go_ret
    exact ⟨by rw [HE.out]; rfl, rfl⟩
theorem rlast_any (F : Nat → Prop) (q : Nat) (s : DS) (w : World) (h : RK w F q s) : Calls Try.prog 44 #[.pointer (some ⟨q, 0, none⟩)] w (RPost F q w (.bool (dLast s).1) (dLast s).2) := by
  have hD := h
  obtain ⟨Y, v, L, H, h2, h3⟩ := h.ex
  have c3 := H.c3
  have c4 := H.c4
  have c5 := H.c5
  have f3 := H.f3
  have f4 := H.f4
  have f5 := H.f5
  by_cases ha : s.armed = 0
  · have HP : Hid (RPost F q w (.bool (dLast s).1) (dLast s).2 (.returned (.bool false)) w) := by
      have e : dLast s = (false, s) := by unfold dLast; rw [if_pos ha]
      rw [e]
      exact ⟨rfl, rk_same hD⟩
    rw [ha] at c4
    clear H L h2 h3 h hD
    go_enter Try.func44, Try.ntmps44
    go_wp2
    go_ret
    exact HP.out
  · have k0 : ¬ (s.armed : Int) < 1 := by omega
    have k1 : IntKind.i64.wrap ((s.armed : Int) - 1) = ((s.armed - 1 : Nat) : Int) := by rw [IntKind.wrap_i64]; have := hD.ok.arm; omega
    have hok := dok_last hD.ok
    by_cases h1' : s.armed = 1
    · have HP : Hid (RPost F q w (.bool (dLast s).1) (dLast s).2 (.returned (.bool true)) (((w.setCell ⟨q, 4, none⟩ (.int .i64 0)).setCell ⟨q, 3, none⟩ (.bool true)).setCell ⟨q, 5, none⟩ (.bool true))) := by
        have e : dLast s = (true, { s with armed := 0, off := true, cut := true }) := by unfold dLast; rw [if_neg ha, if_pos h1']
        rw [e] at hok ⊢
        exact ⟨rfl, rk_head (s := s) hD.fit L ((((Chg.refl (fun k => k = q) w).setCell ⟨q, 4, none⟩ _ (fun _ => rfl)).setCell ⟨q, 3, none⟩ _ (fun _ => rfl)).setCell ⟨q, 5, none⟩ _ (fun _ => rfl)) hok rfl rfl (((H.set4 0).set3 true).set5 true) h2 h3⟩
      rw [h1'] at c4
      clear H L h2 h3 h hD hok k0 k1
      go_enter Try.func44, Try.ntmps44
      go_wp2
      go_ret
      exact HP.out
    · have HP : Hid (RPost F q w (.bool (dLast s).1) (dLast s).2 (.returned (.bool false)) (w.setCell ⟨q, 4, none⟩ (.int .i64 ((s.armed - 1 : Nat) : Int)))) := by
        have e : dLast s = (false, { s with armed := s.armed - 1 }) := by unfold dLast; rw [if_neg ha, if_neg h1']
        rw [e] at hok ⊢
        exact ⟨rfl, rk_head (s := s) hD.fit L ((Chg.refl (fun k => k = q) w).setCell ⟨q, 4, none⟩ _ (fun _ => rfl)) hok rfl rfl (H.set4 _) h2 h3⟩
      have k2 : (((s.armed - 1 : Nat) : Int) == 0) = false := by simp; omega
      clear H L h2 h3 h hD hok
      generalize s.armed - 1 = m at *
      generalize s.armed = m0 at *
      go_enter Try.func44, Try.ntmps44
      go_wp2
      go_ret
      exact HP.out
theorem rarm_any (F : Nat → Prop) (q : Nat) (s : DS) (n : Int) (hn : n ≤ 9223372036854775807) (w : World) (h : RK w F q s) : Calls Try.prog 24 #[.pointer (some ⟨q, 0, none⟩), .int .i64 n] w (RPost F q w (.tuple #[]) (dArm s n)) := by
  have hD := h
  obtain ⟨Y, v, L, H, h2, h3⟩ := h.ex
  have c3 := H.c3
  have c4 := H.c4
  have f4 := H.f4
  cases ho : s.off with
  | true =>
    have HP : Hid (RPost F q w (.tuple #[]) (dArm s n) (.returned (.tuple #[])) w) := by
      have e : dArm s n = s := by unfold dArm; rw [ho]; rfl
      rw [e]
      exact ⟨rfl, rk_same hD⟩
    rw [ho] at c3
    clear H L h2 h3 h hD
    go_enter Try.func24, Try.ntmps24
    go_wp2
    go_end0
    exact HP.out
  | false =>
    have HP : Hid (RPost F q w (.tuple #[]) (dArm s n) (.returned (.tuple #[])) (w.setCell ⟨q, 4, none⟩ (.int .i64 (n.toNat : Int)))) := by
      have e : dArm s n = { s with armed := n.toNat } := by unfold dArm; rw [ho]; rfl
      have hok := dok_arm hD.ok n hn
      rw [e] at hok ⊢
      exact ⟨rfl, rk_head (s := s) hD.fit L ((Chg.refl (fun k => k = q) w).setCell ⟨q, 4, none⟩ _ (fun _ => rfl)) hok rfl rfl (H.set4 n.toNat) h2 h3⟩
    rw [ho] at c3
    clear H L h2 h3 h hD
    by_cases h5 : n < 0
    · have e5 : n.toNat = 0 := by omega
      rw [e5] at HP
      go_enter Try.func24, Try.ntmps24
      go_wp2
      go_end0
      exact HP.out
    · have e5 : (n.toNat : Int) = n := by omega
      rw [e5] at HP
      clear e5
      go_enter Try.func24, Try.ntmps24
      go_wp2
      go_end0
      exact HP.out
end Go.Proofs.Ythnhhhfjgbgpgaa.NumK
namespace Go.Proofs.Ythnhhhfjgbgpgaa.NumK
open Go.RowKit

theorem see_of {s : DS} {k : Nat} (hk : k < s.safe.length) : (cont s).getD k blk0 = seeL (s.safe.getD k blk0) s.opn k := applyL_see _ _ _ hk
set_option maxRecDepth 100000 in
set_option maxHeartbeats 2000000 in
theorem rsee_any (F : Nat → Prop) (q : Nat) (s : DS) (k : Nat) (hk : k < s.safe.length) (hn : s.opn.length ≤ 1000000) (w : World) (h : RK w F q s) : Calls Try.prog 56 #[.pointer (some ⟨q, 0, none⟩), .int .i64 (k : Int)] w fun e w' => e = .returned (blkV' ((cont s).getD k blk0)) ∧ Grew w w' := by
  have HE := Lib.hid (see_of (s := s) hk)
  have HD := Lib.hid h
  obtain ⟨Y, v, L, H, h2, h3⟩ := h.ex
  obtain ⟨A0, cap, rfl⟩ := own_form h3
  have HH := Lib.hid H
  have H3 := Lib.hid h3
  have HR := Lib.hid (h2.at' k hk).1
  have hb0 := h2.one hk
  obtain ⟨Z, hZ⟩ : ∃ Z, Z = (bytesV blk0).toArray := ⟨_, rfl⟩
  have hz := fun w => zero40 w
  rw [← hZ] at hz
  have HZ := Lib.hid hZ
  clear hZ
  have g1 := grew_alloc w Z 61
  have RT := Lib.hid (there_new w Z 61 HZ.out)
  have c1 := (grew_cell g1 (p := ⟨q, 1, none⟩) HH.out.lt).trans HH.out.c1
  have HR1 := Lib.hid (rangeAt_of HR.out (g1.block Y h2.lt))
  obtain ⟨m, hm⟩ : ∃ m, s.opn.length = m := ⟨_, rfl⟩
  have hm2 := Lib.hid hm
  rw [hm] at hn
  have i1 : (k : Int) < (s.safe.length : Int) := by omega
  have i0 : (0 : Int) ≤ (k : Int) := Int.natCast_nonneg _
  have hone := Lib.hid (bytesV_one' (b := s.safe.getD k blk0))
  have hl0 := bytesV_len (s.safe.getD k blk0)
  rw [hb0] at hl0
  obtain ⟨cs0, hcs0⟩ : ∃ cs, bytesV (s.safe.getD k blk0) = cs := ⟨_, rfl⟩
  have HCS0 := Lib.hid hcs0
  rw [hcs0] at hone hl0 HR HR1
  have P := put_new (w.alloc (.cells Z 61)) Z HZ.out 61 cs0 hl0
  have HP := Lib.hid P
  have hsz1 : (w.alloc (.cells Z 61)).heap.size = w.heap.size + 1 := by simp
  have HB0 := Lib.hid hb0
  clear h L H h2 h3 hm hcs0 hb0 P
  rw [hsz1] at HP
  obtain ⟨n, hnn⟩ : ∃ n, s.safe.length = n := ⟨_, rfl⟩
  rw [hnn] at i1 c1
  go_enter Try.func56, Try.ntmps56
  go_upto_region 3 with (first
    | (refine wpList_load_mid (by rfl) 61 _ (by rfl) Y (k * 64) (by rfl) cs0 _ HR1.out Try.underlying61 rfl (size40 hl0.symm) ?_)
    | (refine wpList_store_mid (by rfl) 61 _ _ (by rfl) (w.heap.size + 1) 0 cs0.toArray (by rfl) (by rfl) (by simpa [hl0] using HP.out.2.1) (size40 (by simpa using hl0.symm)) hone.out ?_))
  have HV1 : Hid ((((w.alloc (.cells Z 61)).alloc (.cells Z 61)).setCells (w.heap.size + 1) 0 cs0).rangeAt (w.heap.size + 1) 0 (bytesV (seeL (s.safe.getD k blk0) (s.opn.take 0) k))) := by
    have e : bytesV (seeL (s.safe.getD k blk0) (s.opn.take 0) k) = cs0 := HCS0.out
    show World.rangeAt _ _ _ _
    rw [e]; exact HP.out.1
  have HV2 : Hid ((((w.alloc (.cells Z 61)).alloc (.cells Z 61)).setCells (w.heap.size + 1) 0 cs0).there (w.heap.size + 1) 0 64) := HP.out.2.2.2.1
  have HV3 : Hid (Grew w (((w.alloc (.cells Z 61)).alloc (.cells Z 61)).setCells (w.heap.size + 1) 0 cs0)) := grew_trans (grew_alloc _ _ _) HP.out.2.2.1
  have HV4 : Hid (w.heap.size + 1 < (((w.alloc (.cells Z 61)).alloc (.cells Z 61)).setCells (w.heap.size + 1) 0 cs0).heap.size) := HP.out.2.2.2.2
  have HV5 : Hid ((((w.alloc (.cells Z 61)).alloc (.cells Z 61)).setCells (w.heap.size + 1) 0 cs0).there w.heap.size 0 64) := there_of RT.out (HP.out.2.2.1.block _ (by rw [hsz1]; omega))
  clear HP RT HR1 HR hsz1 hnn g1 c1 HCS0 hone
  generalize ((w.alloc (.cells Z 61)).alloc (.cells Z 61)).setCells (w.heap.size + 1) 0 cs0 = w3 at *
  go_loopw [6] (fun v6 wr => ∃ i : Nat, v6 = .int .i64 i ∧ i ≤ m ∧ Hid (wr.rangeAt (w.heap.size + 1) 0 (bytesV (seeL (s.safe.getD k blk0) (s.opn.take i) k))) ∧ Hid (wr.there (w.heap.size + 1) 0 64) ∧ Hid (Grew w wr) ∧ Hid (w.heap.size + 1 < wr.heap.size) ∧ Hid (wr.there w.heap.size 0 64) ∧ Hid ((seeL (s.safe.getD k blk0) (s.opn.take i) k).length = 64)) (fun v6 _ => m - (intOf v6).toNat)
  case atStart => exact ⟨0, rfl, Nat.zero_le _, HV1, HV2, HV3, HV4, HV5, HB0.out⟩
  case round =>
    obtain ⟨i, rfl, hi, HV1, HV2, HV3, HV4, HV5, HV6⟩ := hrel
    have e2 := (grew_cell HV3.out (p := ⟨q, 2, none⟩) HH.out.lt).trans HH.out.c2
    rw [hm2.out] at e2
    by_cases hlt : i < m
    · have j1 : (i : Int) < (m : Int) := by omega
      have hk2 : i < s.opn.length := by rw [hm2.out]; exact hlt
      have hall := HD.out.ok.all
      obtain ⟨O, cap', hA, hcap, hO, hrng⟩ := opn_at H3.out (fun x hx => (hall.2 x hx).2) hk2
      obtain ⟨rfl, rfl⟩ : A0 = some ⟨O, 0, none⟩ ∧ cap = cap' := by simpa [hm2.out] using hA
      have hrng2 := rangeAt_of hrng (HV3.out.block O hO)
      have HS := Lib.hid (take_snocW s.opn i hk2)
      have hx := hall.2 s.opn[i] (List.getElem_mem hk2)
      generalize s.opn[i] = x at *
      obtain ⟨at', b⟩ := x
      obtain ⟨hx1, hx2⟩ := hx
      have hbl := bytesV_len b
      rw [hx2] at hbl
      rw [show wrC (at', b) = .int .i64 (at' : Int) :: bytesV b from rfl] at hrng2
      obtain ⟨t0, t1⟩ := range_tail hrng2
      have HT1 := Lib.hid t1
      have hone := Lib.hid (bytesV_one' (b := b))
      clear hall hA hcap hO hrng hrng2 t1 hx1 hk2
      by_cases hat : at' = k
      · subst hat
        have HN : Hid (seeL (s.safe.getD at' blk0) (s.opn.take (i + 1)) at' = b) := by show _ = _; rw [HS.out, seeL_snoc]; exact if_pos rfl
        have HR2 : Hid ((wr.setCells (w.heap.size + 1) 0 (bytesV b)).rangeAt (w.heap.size + 1) 0 (bytesV (seeL (s.safe.getD at' blk0) (s.opn.take (i + 1)) at'))) := by
          show World.rangeAt _ _ _ _
          rw [HN.out]; exact World.rangeAt_setCells_same _ _ _ _ (by rw [hbl]; exact HV2.out)
        have HT2 : Hid ((wr.setCells (w.heap.size + 1) 0 (bytesV b)).there (w.heap.size + 1) 0 64) := World.there_setCells HV2.out _ _ _
        have HG2 : Hid (Grew w (wr.setCells (w.heap.size + 1) 0 (bytesV b))) := ((Chg.refl (fun k => k = w.heap.size + 1) wr).setCells _ _ _ (fun _ => rfl)).grew HV3.out (fun k hk => by subst hk; omega)
        have HL2 : Hid (w.heap.size + 1 < (wr.setCells (w.heap.size + 1) 0 (bytesV b)).heap.size) := by show _ < _; rw [setCells_size]; exact HV4.out
        have HT3 : Hid ((wr.setCells (w.heap.size + 1) 0 (bytesV b)).there w.heap.size 0 64) := World.there_setCells HV5.out _ _ _
        have HLb : Hid ((seeL (s.safe.getD at' blk0) (s.opn.take (i + 1)) at').length = 64) := by show _ = _; rw [HN.out]; exact hx2
        generalize bytesV b = cs at *
        go_wp2_with (first
          | (refine wpList_load_mid (by rfl) 61 _ (by rfl) O (i * 65 + 1) (by rfl) cs _ HT1.out Try.underlying61 rfl (size40 hbl.symm) ?_)
          | (refine wpList_store_mid (by rfl) 61 _ _ (by rfl) (w.heap.size + 1) 0 cs.toArray (by rfl) (by rfl) (by simpa [hbl] using HV2.out) (size40 (by simpa using hbl.symm)) hone.out ?_))
        generalize wr.setCells (w.heap.size + 1) 0 cs = we at *
        go_roundw
        case rel => exact ⟨i + 1, by go_num, by omega, HR2, HT2, HG2, HL2, HT3, HLb⟩
        case measure => simp only [intOf]; omega
      · have HN : Hid (seeL (s.safe.getD k blk0) (s.opn.take (i + 1)) k = seeL (s.safe.getD k blk0) (s.opn.take i) k) := by show _ = _; rw [HS.out, seeL_snoc]; exact if_neg hat
        have hne : ((at' : Int) == (k : Int)) = false := by simp; omega
        rw [← HN.out] at HV1 HV6
        go_wp2
        go_roundw
        case rel => exact ⟨i + 1, by go_num, by omega, HV1, HV2, HV3, HV4, HV5, HV6⟩
        case measure => simp only [intOf]; omega
    · obtain rfl : m = i := by omega
      rw [List.take_of_length_le (by rw [hm2.out]; exact Nat.le_refl _), ← HE.out] at HV1 HV6
      have hlB := bytesV_len ((cont s).getD k blk0)
      rw [HV6.out] at hlB
      have hone := Lib.hid (bytesV_one' (b := (cont s).getD k blk0))
      have HEQ : Hid (blkV' ((cont s).getD k blk0) = .agg (bytesV ((cont s).getD k blk0)).toArray) := rfl
      clear HV6
      generalize bytesV ((cont s).getD k blk0) = cs at *
      have hout := Lib.hid (World.rangeAt_setCells_same wr w.heap.size 0 cs (by rw [hlB]; exact HV5.out))
      have HGE : Hid (Grew w (wr.setCells w.heap.size 0 cs)) := ((Chg.refl (fun k => k = w.heap.size) wr).setCells _ _ _ (fun _ => rfl)).grew HV3.out (fun k hk => by subst hk; exact Nat.le_refl _)
      go_wp2_with (first
        | (refine wpList_load_mid (by rfl) 61 _ (by rfl) (w.heap.size + 1) 0 (by rfl) cs _ HV1.out Try.underlying61 rfl (size40 hlB.symm) ?_)
        | (refine wpList_store_mid (by rfl) 61 _ _ (by rfl) w.heap.size 0 cs.toArray (by rfl) (by rfl) (by simpa [hlB] using HV5.out) (size40 (by simpa using hlB.symm)) hone.out ?_))
      (try simp only [Exit.inBlock, Exit.then]); refine bodyPost_ret (results_cell_mid rfl _ _ w.heap.size cs _ rfl hout.out Try.underlying61 rfl (size40 hlB.symm)) rfl ?_
      exact ⟨by rw [HEQ.out], HGE.out⟩

set_option maxRecDepth 100000 in
set_option maxHeartbeats 1000000 in
theorem rread_any (F : Nat → Prop) (q : Nat) (s : DS) (at' : Int) (hn : s.opn.length ≤ 1000000) (w : World) (h : RK w F q s) : Calls Try.prog 37 #[.pointer (some ⟨q, 0, none⟩), .int .i64 at'] w fun e w' => e = .returned (readV (dRead s at')) ∧ Grew w w' := by
  obtain ⟨Z, hZ⟩ : ∃ Z, Z = (bytesV blk0).toArray := ⟨_, rfl⟩
  have hz := fun w => zero40 w
  rw [← hZ] at hz
  have g1 := grew_alloc w Z 61
  have h1 := h.grew g1
  have KB := Lib.hid (rblock_any F q s at' _ h1)
  obtain ⟨Y, v, L, H, h2, h3⟩ := h1.ex
  have c3 := H.c3
  have hth := there_new w Z 61 hZ
  have HTH := Lib.hid hth
  have hl0 : (bytesV blk0).length = 64 := rfl
  have HG1 := Lib.hid g1
  by_cases hr : refI s at' = 0
  · obtain ⟨ho, k, rfl, hk⟩ := has_of hr
    have SE := Lib.hid (rsee_any F q s k hk hn _ h1)
    have HE := Lib.hid (dRead_of (s := s) ho hk)
    have hb : ((cont s).getD k blk0).length = 64 := by have := dRead_len h.ok (k : Int); rw [HE.out] at this; exact this
    have hhas : decide (s.has (k : Int)) = true := decide_eq_true (by unfold DS.has; omega)
    rw [hhas] at KB
    rw [ho] at c3
    rw [HE.out]
    show Calls _ _ _ _ fun e w' => e = .returned (.tuple #[.agg (bytesV ((cont s).getD k blk0)).toArray, .int .i64 0]) ∧ Grew w w'
    have SE2 : Hid (Calls Try.prog 56 #[.pointer (some ⟨q, 0, none⟩), .int .i64 (k : Int)] (w.alloc (.cells Z 61)) fun e w' => e = .returned (.agg (bytesV ((cont s).getD k blk0)).toArray) ∧ Grew (w.alloc (.cells Z 61)) w') := SE.out
    have hone := Lib.hid (bytesV_one' (b := (cont s).getD k blk0))
    have hl := bytesV_len ((cont s).getD k blk0)
    rw [hb] at hl
    have hlt : Hid (w.heap.size < (w.alloc (.cells Z 61)).heap.size) := by show _ < _; simp
    clear SE HE hb hhas ho hr L H h2 h3 h1 h hth hZ
    generalize bytesV ((cont s).getD k blk0) = cs at *
    go_enter Try.func37, Try.ntmps37
    go_wp2_with (first
      | (go_at_call 55; ((with_reducible refine KB.out.mono ?_); rintro e w1 ⟨rfl, rfl⟩))
      | (go_at_call 56; ((with_reducible refine SE2.out.mono ?_); rintro e w2 ⟨rfl, hg⟩; have HT2 := Lib.hid (there_of HTH.out (hg.block _ hlt.out)); have HG2 := Lib.hid (grew_trans HG1.out hg); clear hg))
      | (refine wpList_store_mid (by rfl) 61 _ _ (by rfl) w.heap.size 0 cs.toArray (by rfl) (by rfl) (by simpa [hl] using HT2.out) (size40 (by simpa using hl.symm)) hone.out ?_))
    have hout := Lib.hid (World.rangeAt_setCells_same w2 w.heap.size 0 cs (by rw [hl]; exact HT2.out))
    have HGE : Hid (Grew w (w2.setCells w.heap.size 0 cs)) := ((Chg.refl (fun k => k = w.heap.size) w2).setCells _ _ _ (fun _ => rfl)).grew HG2.out (fun k hk => by subst hk; exact Nat.le_refl _)
    (try simp only [Exit.inBlock, Exit.then]); refine bodyPost_ret (results_cell_tmp_mid rfl _ _ w.heap.size cs _ rfl hout.out Try.underlying61 rfl (size40 hl.symm)) rfl ?_
    exact ⟨rfl, HGE.out⟩
  · have hE := dRead_not hr
    have hout := Lib.hid (World.rangeAt_setCells_same (w.alloc (.cells Z 61)) w.heap.size 0 (bytesV blk0) (by rw [hl0]; exact hth))
    have HGE : Hid (Grew w ((w.alloc (.cells Z 61)).setCells w.heap.size 0 (bytesV blk0))) := ((Chg.refl (fun k => k = w.heap.size) _).setCells _ _ _ (fun _ => rfl)).grew g1 (fun k hk => by subst hk; exact Nat.le_refl _)
    have hone := Lib.hid (bytesV_one' (b := blk0))
    rw [hE]
    show Calls _ _ _ _ fun e w' => e = .returned (.tuple #[.agg (bytesV blk0).toArray, .int .i64 (refI s at')]) ∧ Grew w w'
    have HRI : Hid ((s.off = true ∧ refI s at' = 7) ∨ (s.off = false ∧ decide (s.has at') = false ∧ refI s at' = 3)) := by
      unfold refI at hr ⊢
      cases ho : s.off with
      | true => exact Or.inl ⟨rfl, by simp⟩
      | false =>
        rw [ho] at hr
        by_cases hh : s.has at'
        · simp [hh] at hr
        · exact Or.inr ⟨rfl, decide_eq_false hh, by simp [hh]⟩
    clear hE h L H h2 h3 h1 hth
    generalize refI s at' = r at *
    generalize bytesV blk0 = cs at *
    subst hZ
    rcases HRI.out with ⟨ho, rfl⟩ | ⟨ho, hh, rfl⟩
    · rw [ho] at c3
      go_enter Try.func37, Try.ntmps37
      go_wp2_with (first
        | (refine wpList_store_mid (by rfl) 61 _ _ (by rfl) w.heap.size 0 cs.toArray (by rfl) (by rfl) (by simpa [hl0] using HTH.out) (size40 (by simpa using hl0.symm)) hone.out ?_))
      (try simp only [Exit.inBlock, Exit.then]); refine bodyPost_ret (results_cell_tmp_mid rfl _ _ w.heap.size cs _ rfl hout.out Try.underlying61 rfl (size40 hl0.symm)) rfl ?_
      exact ⟨rfl, HGE.out⟩
    · rw [ho] at c3
      rw [hh] at KB
      go_enter Try.func37, Try.ntmps37
      go_wp2_with (first
        | (go_at_call 55; ((with_reducible refine KB.out.mono ?_); rintro e w1 ⟨rfl, rfl⟩))
        | (refine wpList_store_mid (by rfl) 61 _ _ (by rfl) w.heap.size 0 cs.toArray (by rfl) (by rfl) (by simpa [hl0] using HTH.out) (size40 (by simpa using hl0.symm)) hone.out ?_))
      (try simp only [Exit.inBlock, Exit.then]); refine bodyPost_ret (results_cell_tmp_mid rfl _ _ w.heap.size cs _ rfl hout.out Try.underlying61 rfl (size40 hl0.symm)) rfl ?_
      exact ⟨rfl, HGE.out⟩
end Go.Proofs.Ythnhhhfjgbgpgaa.NumK
