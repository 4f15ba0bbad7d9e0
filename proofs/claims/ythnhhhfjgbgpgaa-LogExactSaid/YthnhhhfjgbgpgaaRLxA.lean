/- The program's log and the document's, side by side. -/
import Derived.Test.YthnhhhfjgbgpgaaRRjH
import Derived.Test.YthnhhhfjgbgpgaaRJnN
import Derived.Test.YthnhhhfjgbgpgaaRRefE
import Derived.Test.YthnhhhfjgbgpgaaRFrame
import Derived.Test.YthnhhhfjgbgpgaaRGrd
namespace Go.Proofs.Ythnhhhfjgbgpgaa.NumK
open Go.RowKit

theorem dArm_room (s : DS) (n : Int) : roomD (dArm s n) = roomD s := by unfold dArm roomD; split <;> rfl
structure Stb (P : World → (Nat → Prop) → Prop) : Prop where
  fit : ∀ w F, P w F → ∀ k, F k → k < w.heap.size
  chg : ∀ w w' F M, P w F → Chg M w w' → (∀ k, F k → ¬ M k) → P w' F
def PD (d : Nat) (s : DS) : World → (Nat → Prop) → Prop := fun w F => DK w F d s
def RD (q : Nat) (s : DS) : World → (Nat → Prop) → Prop := fun w F => RK w F q s
def PJ (lb d : Nat) (s : DS) (l : LS) : World → (Nat → Prop) → Prop := fun w F => DK w F d s ∧ (s.off = false → JK w F lb d s l)
def RJ (lr q : Nat) (s : DS) (l : LS) : World → (Nat → Prop) → Prop := fun w F => JR w F lr q s l
theorem stb_PD (d : Nat) (s : DS) : Stb (PD d s) := ⟨fun _ _ h => h.fit, fun _ _ _ _ h g hn => h.chg g hn⟩
theorem stb_RD (q : Nat) (s : DS) : Stb (RD q s) := ⟨fun _ _ h => h.fit, fun _ _ _ _ h g hn => h.chg g hn⟩
theorem stb_PJ (lb d : Nat) (s : DS) (l : LS) : Stb (PJ lb d s l) := ⟨fun _ _ h => h.1.fit, fun _ _ _ _ h g hn => ⟨h.1.chg g hn, fun ho => (h.2 ho).chg g hn⟩⟩
theorem stb_RJ (lr q : Nat) (s : DS) (l : LS) : Stb (RJ lr q s l) := ⟨fun _ _ h => h.fit, fun _ _ _ _ h g hn => h.chg g hn⟩

/-- P in blocks of its own, R in others, none of them N's nor there at w0. -/
structure SX (N : Nat → Prop) (w0 w : World) (P R : World → (Nat → Prop) → Prop) : Prop where
  ex : ∃ Fp Fr, P w Fp ∧ R w Fr ∧ (∀ k, Fp k → w0.heap.size ≤ k ∧ ¬ N k ∧ ¬ Fr k) ∧ ∀ k, Fr k → w0.heap.size ≤ k ∧ ¬ N k
  grew : Grew w0 w
  nlt : ∀ k, N k → k < w.heap.size
section
variable {N : Nat → Prop} {w0 w w' : World} {P R P' R' : World → (Nat → Prop) → Prop}
theorem SX.keep (h : SX N w0 w P R) (hP : Stb P) (hR : Stb R) (g : Chg (fun k => N k ∧ w0.heap.size ≤ k) w w') : SX N w0 w' P R := by
  obtain ⟨Fp, Fr, h1, h2, h3, h4⟩ := h.ex
  exact ⟨⟨Fp, Fr, hP.chg _ _ _ _ h1 g (fun k hk hg => (h3 k hk).2.1 hg.1), hR.chg _ _ _ _ h2 g (fun k hk hg => (h4 k hk).2 hg.1), h3, h4⟩, Chg.grew h.grew g (fun k hk => hk.2), fun k hk => Nat.lt_of_lt_of_le (h.nlt k hk) g.size⟩
theorem SX.grows (h : SX N w0 w P R) (hP : Stb P) (hR : Stb R) (g : Grew w w') : SX N w0 w' P R := h.keep hP hR g.chg
/-- More of the law's own: what was newly laid. -/
theorem SX.besides {N' : Nat → Prop} (h : SX N w0 w P R) (hP : Stb P) (hR : Stb R) (g : Grew w w') (hN : ∀ k, N' k → N k ∨ (w.heap.size ≤ k ∧ k < w'.heap.size)) : SX N' w0 w' P R := by
  obtain ⟨Fp, Fr, h1, h2, h3, h4⟩ := h.ex
  refine ⟨⟨Fp, Fr, hP.chg _ _ _ (fun _ => False) h1 g.chg (fun _ _ h => h), hR.chg _ _ _ (fun _ => False) h2 g.chg (fun _ _ h => h), fun k hk => ⟨(h3 k hk).1, fun hn => ?_, (h3 k hk).2.2⟩, fun k hk => ⟨(h4 k hk).1, fun hn => ?_⟩⟩, grew_trans h.grew g, fun k hk => ?_⟩
  · rcases hN k hn with h5 | h5
    · exact (h3 k hk).2.1 h5
    · have := hP.fit _ _ h1 k hk; omega
  · rcases hN k hn with h5 | h5
    · exact (h4 k hk).2 h5
    · have := hR.fit _ _ h2 k hk; omega
  · rcases hN k hk with h5 | h5
    · have := h.nlt k h5; have := g.size; omega
    · exact h5.2
theorem SX.less {N' : Nat → Prop} (h : SX N w0 w P R) (hN : ∀ k, N' k → N k) : SX N' w0 w P R := by
  obtain ⟨Fp, Fr, h1, h2, h3, h4⟩ := h.ex
  exact ⟨⟨Fp, Fr, h1, h2, fun k hk => ⟨(h3 k hk).1, fun hn => (h3 k hk).2.1 (hN k hn), (h3 k hk).2.2⟩, fun k hk => ⟨(h4 k hk).1, fun hn => (h4 k hk).2 (hN k hn)⟩⟩, h.grew, fun k hk => h.nlt k (hN k hk)⟩
theorem SX.mapP (h : SX N w0 w P R) (hm : ∀ F, P w F → P' w F) : SX N w0 w P' R := by
  obtain ⟨Fp, Fr, h1, h2, h3, h4⟩ := h.ex
  exact ⟨⟨Fp, Fr, hm _ h1, h2, h3, h4⟩, h.grew, h.nlt⟩
theorem SX.mapR (h : SX N w0 w P R) (hm : ∀ F, R w F → R' w F) : SX N w0 w P R' := by
  obtain ⟨Fp, Fr, h1, h2, h3, h4⟩ := h.ex
  exact ⟨⟨Fp, Fr, h1, hm _ h2, h3, h4⟩, h.grew, h.nlt⟩
def SXStep (N : Nat → Prop) (w0 w : World) (v : Value) (P R : World → (Nat → Prop) → Prop) (e : Ending) (w' : World) : Prop := e = .returned v ∧ Hid (SX N w0 w' P R) ∧ Chg (Mine N w0) w w'
set_option linter.unusedVariables false in
theorem SX.stepP {Fp Fr : Nat → Prop} {e : Ending} {v : Value} (h : SX N w0 w P R) (hP : Stb P) (hR : Stb R) (h1 : P w Fp) (h2 : R w Fr) (h3 : ∀ k, Fp k → w0.heap.size ≤ k ∧ ¬ N k ∧ ¬ Fr k) (h4 : ∀ k, Fr k → w0.heap.size ≤ k ∧ ¬ N k)
    (he : e = .returned v) (hc : Chg Fp w w') (hp : P' w' (FX Fp w w')) : SXStep N w0 w v P' R e w' := by
  refine ⟨he, ⟨⟨_, Fr, hp, hR.chg _ _ _ _ h2 hc (fun k hk hF => (h3 k hF).2.2 hk), fun k hk => ?_, h4⟩, Chg.grew h.grew hc (fun k hk => (h3 k hk).1), fun k hk => Nat.lt_of_lt_of_le (h.nlt k hk) hc.size⟩, hc.mono fun k hk => ⟨(h3 k hk).1, (h3 k hk).2.1⟩⟩
  rcases hk with hk | hk
  · exact h3 k hk
  · exact ⟨Nat.le_trans h.grew.size hk.1, fun hn => by have := h.nlt k hn; omega, fun hr => by have := hR.fit _ _ h2 k hr; omega⟩
set_option linter.unusedVariables false in
theorem SX.stepR {Fp Fr : Nat → Prop} {e : Ending} {v : Value} (h : SX N w0 w P R) (hP : Stb P) (hR : Stb R) (h1 : P w Fp) (h2 : R w Fr) (h3 : ∀ k, Fp k → w0.heap.size ≤ k ∧ ¬ N k ∧ ¬ Fr k) (h4 : ∀ k, Fr k → w0.heap.size ≤ k ∧ ¬ N k)
    (he : e = .returned v) (hc : Chg Fr w w') (hp : R' w' (FX Fr w w')) : SXStep N w0 w v P R' e w' := by
  refine ⟨he, ⟨⟨Fp, _, hP.chg _ _ _ _ h1 hc (fun k hk hF => (h3 k hk).2.2 hF), hp, fun k hk => ⟨(h3 k hk).1, (h3 k hk).2.1, fun hr => ?_⟩, fun k hk => ?_⟩, Chg.grew h.grew hc (fun k hk => (h4 k hk).1), fun k hk => Nat.lt_of_lt_of_le (h.nlt k hk) hc.size⟩, hc.mono fun k hk => h4 k hk⟩
  · rcases hr with hr | hr
    · exact (h3 k hk).2.2 hr
    · have := hP.fit _ _ h1 k hk; omega
  · rcases hk with hk | hk
    · exact h4 k hk
    · exact ⟨Nat.le_trans h.grew.size hk.1, fun hn => by have := h.nlt k hn; omega⟩
end
theorem pj_of {F : Nat → Prop} {lb d : Nat} {w w' : World} {s : DS} {l : LS} {v : Value} {e : Ending} (hf : ∀ k, F k → k < w.heap.size) (p : JPost F lb d w v s l e w') : PJ lb d s l w' (FX F w w') := by
  obtain ⟨_, hc, ⟨FD, h1, h2⟩, h3⟩ := p
  exact ⟨h1.more h2 (fx_lt hf hc.size), h3⟩
theorem rd_of {F : Nat → Prop} {lr q : Nat} {w : World} {s : DS} {l : LS} (h : JR w F lr q s l) : RK w F q s := by
  obtain ⟨FD, G, h1, _, h3, _⟩ := h.ex
  exact h1.more (fun k hk => (h3 k hk).1) h.fit

section
variable {N : Nat → Prop} {w0 w : World} {lb lr d q : Nat} {s s2 : DS} {l l2 : LS} {P R : World → (Nat → Prop) → Prop}
/-! ### the program's -/
theorem sx_begin (hR : Stb R) (h : Hid (SX N w0 w (PJ lb d s l) R)) (ho : s.off = false) (p : List UInt8) (A : Option Addr) (n c : Nat) (hp : Bys w A n p) (hA : A = none → c = 0) (hc : n ≤ c) (hAF : ∀ a, A = some a → 0 < n → a.block < w0.heap.size ∨ N a.block) (hcn : n ≤ 140737488355328) (hn : s.opn.length ≤ 500000) :
    Calls Try.prog 20 #[.pointer (some ⟨lb, 0, none⟩), .slice A n c] w (SXStep N w0 w (.int .i64 (lBegin s l p).1) (PJ lb d (lBegin s l p).2.1 (lBegin s l p).2.2) R) := by
  obtain ⟨Fp, Fr, h1, h2, h3, h4⟩ := h.out.ex
  refine (beginJ_any Fp lb d s l p A n c w (h1.2 ho) hp hA hc (fun a ha h0 hf => ?_) hcn hn).mono fun e w' p => h.out.stepP (stb_PJ _ _ _ _) hR h1 h2 h3 h4 p.1 p.2.1 (pj_of h1.1.fit p)
  rcases hAF a ha h0 with h5 | h5
  · have := (h3 _ hf).1; omega
  · exact (h3 _ hf).2.1 h5
theorem sx_append (hR : Stb R) (h : Hid (SX N w0 w (PJ lb d s l) R)) (ho : s.off = false) (ls : List (List UInt8)) (A : Option Addr) (n c : Nat) (hB : RowsS (Mine N w0) w A n ls) (hn : n ≤ 1000000) (hno : s.opn.length ≤ 500000) :
    Calls Try.prog 28 #[.pointer (some ⟨lb, 0, none⟩), .slice A n c] w (SXStep N w0 w (.int .i64 (lAppend s l ls).1) (PJ lb d (lAppend s l ls).2.1 (lAppend s l ls).2.2) R) := by
  obtain ⟨Fp, Fr, h1, h2, h3, h4⟩ := h.out.ex
  have hk := h1.2 ho
  by_cases hc : l.begun = false ∨ refV (roomD s - l.fin) ls ≠ 0 ∨ s.off = true
  · exact (appendJ_not Fp lb d s l ls A n c w hk (fun w' g => hB.toB g.chg) hn hc).mono fun e w' p => h.out.stepP (stb_PJ _ _ _ _) hR h1 h2 h3 h4 p.1 p.2.1 (pj_of h1.1.fit p)
  · have e1 : l.begun = true := by cases hb : l.begun with
      | true => rfl
      | false => exact absurd (Or.inl hb) hc
    have e2 : refV (roomD s - l.fin) ls = 0 := Classical.byContradiction fun hh => hc (Or.inr (Or.inl hh))
    refine (appendJ_go Fp lb d s l ls A n c w hk ⟨hB.1, fun h0 => ?_⟩ hn e1 e2 ho hno).mono fun e w' p => h.out.stepP (stb_PJ _ _ _ _) hR h1 h2 h3 h4 p.1 p.2.1 (pj_of h1.1.fit p)
    obtain ⟨b, o, e, hb, hr⟩ := hB.2 h0
    refine ⟨b, o, e, hb, fun j hj => ?_⟩
    obtain ⟨A1, n1, c1, g1, g2⟩ := hr j hj
    refine ⟨A1, n1, c1, fun w' g => g1 w' ⟨g.os, g.tape, g.output, g.size, fun i hi hN => g.block i hi fun hf => ?_⟩, g2⟩
    rcases hf with hf | hf
    · exact hN ⟨(h3 i hf).1, (h3 i hf).2.1⟩
    · omega
theorem sx_syncL (hR : Stb R) (h : Hid (SX N w0 w (PJ lb d s l) R)) (ho : s.off = false) (hn : s.opn.length ≤ 1000000) : Calls Try.prog 17 #[.pointer (some ⟨lb, 0, none⟩)] w (SXStep N w0 w (.int .i64 (dSync s).1) (PJ lb d (dSync s).2 l) R) := by
  obtain ⟨Fp, Fr, h1, h2, h3, h4⟩ := h.out.ex
  exact (syncJ_any Fp lb d s l w (h1.2 ho) hn).mono fun e w' p => h.out.stepP (stb_PJ _ _ _ _) hR h1 h2 h3 h4 p.1 p.2.1 (pj_of h1.1.fit p)
theorem sx_armL (hR : Stb R) (h : Hid (SX N w0 w (PJ lb d s l) R)) (ho : s.off = false) (n : Int) (hn : n ≤ 9223372036854775807) : Calls Try.prog 23 #[.pointer (some ⟨d, 0, none⟩), .int .i64 n] w (SXStep N w0 w (.tuple #[]) (PJ lb d (dArm s n) l) R) := by
  obtain ⟨Fp, Fr, h1, h2, h3, h4⟩ := h.out.ex
  have hk := h1.2 ho
  obtain ⟨FD, G, k1, k2, k3, k4⟩ := hk.ex
  refine (arm_any FD d s n hn w k1).mono fun e w' p => ?_
  have p2 := jk_disk (lb := lb) hk.fit hk.ok k2 k3 k4 (dArm_room s n) p
  exact h.out.stepP (stb_PJ _ _ _ _) hR h1 h2 h3 h4 p2.1 p2.2.1 (pj_of h1.1.fit p2)
theorem sx_gen (h : Hid (SX N w0 w (PJ lb d s l) R)) (ho : s.off = false) : Calls Try.prog 33 #[.pointer (some ⟨lb, 0, none⟩)] w fun e w' => e = .returned (.int .i64 (l.gen : Int)) ∧ w = w' := by
  obtain ⟨Fp, Fr, h1, _⟩ := h.out.ex
  obtain ⟨FD, G, _, k2, _⟩ := (h1.2 ho).ex
  exact gen_any k2
theorem sx_snap (h : Hid (SX N w0 w (PJ lb d s l) R)) (ho : s.off = false) : Calls Try.prog 31 #[.pointer (some ⟨lb, 0, none⟩)] w (TwinBPost l.snap l.snap.length w) := by
  obtain ⟨Fp, Fr, h1, _⟩ := h.out.ex
  obtain ⟨FD, G, _, k2, _⟩ := (h1.2 ho).ex
  exact snap_any k2 (h1.2 ho).ok.snapS
theorem sx_recs (h : Hid (SX N w0 w (PJ lb d s l) R)) (ho : s.off = false) : Calls Try.prog 32 #[.pointer (some ⟨lb, 0, none⟩)] w (RecsPost l.recs w) := by
  obtain ⟨Fp, Fr, h1, _⟩ := h.out.ex
  have hk := h1.2 ho
  obtain ⟨FD, G, k1, k2, _⟩ := hk.ex
  refine recs_any k2 ?_ hk.ok.recS
  have h5 := hk.ok.few
  have h6 := hk.ok.fin
  have h7 := k1.ok.few
  have : roomD s ≤ s.safe.length := by unfold roomD; omega
  omega
theorem sx_writeD (hR : Stb R) (h : Hid (SX N w0 w (PD d s) R)) (at' : Int) (b : Blk) (hb : b.length = 64) (hn : s.opn.length ≤ 1000000) : Calls Try.prog 25 #[.pointer (some ⟨d, 0, none⟩), .int .i64 at', blkV' b] w (SXStep N w0 w (.int .i64 (dWrite s at' b).1) (PD d (dWrite s at' b).2) R) := by
  obtain ⟨Fp, Fr, h1, h2, h3, h4⟩ := h.out.ex
  exact (write_any Fp d s at' b w h1 hb hn).mono fun e w' p => h.out.stepP (stb_PD _ _) hR h1 h2 h3 h4 p.1 p.2.1 p.2.2
theorem sx_syncD (hR : Stb R) (h : Hid (SX N w0 w (PD d s) R)) (hn : s.opn.length ≤ 1000000) : Calls Try.prog 27 #[.pointer (some ⟨d, 0, none⟩)] w (SXStep N w0 w (.int .i64 (dSync s).1) (PD d (dSync s).2) R) := by
  obtain ⟨Fp, Fr, h1, h2, h3, h4⟩ := h.out.ex
  exact (sync_any Fp d s w h1 hn).mono fun e w' p => h.out.stepP (stb_PD _ _) hR h1 h2 h3 h4 p.1 p.2.1 p.2.2
theorem sx_startD (hR : Stb R) (h : Hid (SX N w0 w (PD d s) R)) (hn : s.opn.length ≤ 1000000) : Calls Try.prog 11 #[.pointer (some ⟨d, 0, none⟩)] w (SXStep N w0 w (.tuple #[]) (PD d (dStart s)) R) := by
  obtain ⟨Fp, Fr, h1, h2, h3, h4⟩ := h.out.ex
  exact (start_any Fp d s w h1 hn).mono fun e w' p => h.out.stepP (stb_PD _ _) hR h1 h2 h3 h4 p.1 p.2.1 p.2.2
theorem sx_crashD (hR : Stb R) (h : Hid (SX N w0 w (PD d s) R)) (A : Option Addr) (pn pc : Nat) (zs : List Int) (hp : Ints w0 A pn zs) (hpn : pn ≤ 9223372036854775807) (hn : s.opn.length ≤ 1000000) : Calls Try.prog 9 #[.pointer (some ⟨d, 0, none⟩), .slice A pn pc] w (SXStep N w0 w (.tuple #[]) (PD d (dCrash s zs)) R) := by
  obtain ⟨Fp, Fr, h1, h2, h3, h4⟩ := h.out.ex
  refine (crash_any Fp d s A pn pc zs w h1 (hp.keep h.out.grew) (fun a e h0 hf => ?_) hpn hn).mono fun e w' p => h.out.stepP (stb_PD _ _) hR h1 h2 h3 h4 p.1 p.2.1 p.2.2
  obtain ⟨b, o, e2, hb, _⟩ := hp.2 h0
  rw [e] at e2; cases e2
  have hb : b < w0.heap.size := hb
  have : w0.heap.size ≤ b := (h3 _ hf).1
  omega
/-! ### the document's -/
theorem sx_beginR (hP : Stb P) (h : Hid (SX N w0 w P (RJ lr q s l))) (p : List UInt8) (A : Option Addr) (n c : Nat) (hp : Bys w A n p) (hA : A = none → c = 0) (hc : n ≤ c) (hAF : ∀ a, A = some a → 0 < n → a.block < w0.heap.size ∨ N a.block) (hcn : n ≤ 140737488355328) (hn : s.opn.length ≤ 500000) :
    Calls Try.prog 21 #[.pointer (some ⟨lr, 0, none⟩), .slice A n c] w (SXStep N w0 w (.int .i64 (lBegin s l p).1) P (RJ lr q (lBegin s l p).2.1 (lBegin s l p).2.2)) := by
  obtain ⟨Fp, Fr, h1, h2, h3, h4⟩ := h.out.ex
  refine (rbegin_any Fr lr q s l p A n c w h2 hp hA hc (fun a ha h0 hf => ?_) hcn hn).mono fun e w' p => h.out.stepR hP (stb_RJ _ _ _ _) h1 h2 h3 h4 p.1 p.2.1 p.2.2
  rcases hAF a ha h0 with h5 | h5
  · have := (h4 _ hf).1; omega
  · exact (h4 _ hf).2 h5
theorem sx_appendR (hP : Stb P) (h : Hid (SX N w0 w P (RJ lr q s l))) (ls : List (List UInt8)) (A : Option Addr) (n c : Nat) (hB : RowsS (Mine N w0) w A n ls) (hn : n ≤ 1000000) (hno : s.opn.length ≤ 500000) :
    Calls Try.prog 29 #[.pointer (some ⟨lr, 0, none⟩), .slice A n c] w (SXStep N w0 w (.int .i64 (lAppend s l ls).1) P (RJ lr q (lAppend s l ls).2.1 (lAppend s l ls).2.2)) := by
  obtain ⟨Fp, Fr, h1, h2, h3, h4⟩ := h.out.ex
  refine (rappend_any Fr lr q s l ls A n c w h2 ⟨hB.1, fun h0 => ?_⟩ hn hno).mono fun e w' p => h.out.stepR hP (stb_RJ _ _ _ _) h1 h2 h3 h4 p.1 p.2.1 p.2.2
  obtain ⟨b, o, e, hb, hr⟩ := hB.2 h0
  refine ⟨b, o, e, hb, fun j hj => ?_⟩
  obtain ⟨A1, n1, c1, g1, g2⟩ := hr j hj
  refine ⟨A1, n1, c1, fun w' g => g1 w' ⟨g.os, g.tape, g.output, g.size, fun i hi hN => g.block i hi fun hf => ?_⟩, g2⟩
  rcases hf with hf | hf
  · exact hN (h4 i hf)
  · omega
theorem sx_syncRJ (hP : Stb P) (h : Hid (SX N w0 w P (RJ lr q s l))) (hn : s.opn.length ≤ 1000000) : Calls Try.prog 18 #[.pointer (some ⟨q, 0, none⟩)] w (SXStep N w0 w (.int .i64 (dSync s).1) P (RJ lr q (dSync s).2 l)) := by
  obtain ⟨Fp, Fr, h1, h2, h3, h4⟩ := h.out.ex
  have hk : JR w Fr lr q s l := h2
  obtain ⟨FD, G, k1, k2, k3, k4⟩ := hk.ex
  refine (rsync_any FD q s w k1 hn).mono fun e w' p => ?_
  have p2 := jr_disk (lb := lr) hk.fit hk.ok k2 k3 k4 p (show roomD (dSync s).2 = roomD s by unfold roomD; rw [dSync_len])
  exact h.out.stepR hP (stb_RJ _ _ _ _) h1 h2 h3 h4 p2.1 p2.2.1 p2.2.2
theorem sx_armRJ (hP : Stb P) (h : Hid (SX N w0 w P (RJ lr q s l))) (n : Int) (hn : n ≤ 9223372036854775807) : Calls Try.prog 24 #[.pointer (some ⟨q, 0, none⟩), .int .i64 n] w (SXStep N w0 w (.tuple #[]) P (RJ lr q (dArm s n) l)) := by
  obtain ⟨Fp, Fr, h1, h2, h3, h4⟩ := h.out.ex
  have hk : JR w Fr lr q s l := h2
  obtain ⟨FD, G, k1, k2, k3, k4⟩ := hk.ex
  refine (rarm_any FD q s n hn w k1).mono fun e w' p => ?_
  have p2 := jr_disk (lb := lr) hk.fit hk.ok k2 k3 k4 p (dArm_room s n)
  exact h.out.stepR hP (stb_RJ _ _ _ _) h1 h2 h3 h4 p2.1 p2.2.1 p2.2.2
theorem sx_writeR (hP : Stb P) (h : Hid (SX N w0 w P (RD q s))) (at' : Int) (b : Blk) (hb : b.length = 64) (hn : s.opn.length ≤ 1000000) : Calls Try.prog 26 #[.pointer (some ⟨q, 0, none⟩), .int .i64 at', blkV' b] w (SXStep N w0 w (.int .i64 (dWrite s at' b).1) P (RD q (dWrite s at' b).2)) := by
  obtain ⟨Fp, Fr, h1, h2, h3, h4⟩ := h.out.ex
  exact (rwrite_any Fr q s at' b w h2 hb hn).mono fun e w' p => h.out.stepR hP (stb_RD _ _) h1 h2 h3 h4 p.1 p.2.1 p.2.2
theorem sx_syncR (hP : Stb P) (h : Hid (SX N w0 w P (RD q s))) (hn : s.opn.length ≤ 1000000) : Calls Try.prog 18 #[.pointer (some ⟨q, 0, none⟩)] w (SXStep N w0 w (.int .i64 (dSync s).1) P (RD q (dSync s).2)) := by
  obtain ⟨Fp, Fr, h1, h2, h3, h4⟩ := h.out.ex
  exact (rsync_any Fr q s w h2 hn).mono fun e w' p => h.out.stepR hP (stb_RD _ _) h1 h2 h3 h4 p.1 p.2.1 p.2.2
theorem sx_startR (hP : Stb P) (h : Hid (SX N w0 w P (RD q s))) (hn : s.opn.length ≤ 1000000) : Calls Try.prog 12 #[.pointer (some ⟨q, 0, none⟩)] w (SXStep N w0 w (.tuple #[]) P (RD q (dStart s))) := by
  obtain ⟨Fp, Fr, h1, h2, h3, h4⟩ := h.out.ex
  exact (rstart_any Fr q s w h2 hn).mono fun e w' p => h.out.stepR hP (stb_RD _ _) h1 h2 h3 h4 p.1 p.2.1 p.2.2
theorem sx_crashR (hP : Stb P) (h : Hid (SX N w0 w P (RD q s))) (A : Option Addr) (pn pc : Nat) (zs : List Int) (hp : Ints w0 A pn zs) (hpn : pn ≤ 9223372036854775807) (hn : s.opn.length ≤ 1000000) : Calls Try.prog 10 #[.pointer (some ⟨q, 0, none⟩), .slice A pn pc] w (SXStep N w0 w (.tuple #[]) P (RD q (dCrash s zs))) := by
  obtain ⟨Fp, Fr, h1, h2, h3, h4⟩ := h.out.ex
  refine (rcrash_any Fr q s A pn pc zs w h2 (hp.keep h.out.grew) (fun a e h0 hf => ?_) hpn hn).mono fun e w' p => h.out.stepR hP (stb_RD _ _) h1 h2 h3 h4 p.1 p.2.1 p.2.2
  obtain ⟨b, o, e2, hb, _⟩ := hp.2 h0
  rw [e] at e2; cases e2
  have hb : b < w0.heap.size := hb
  have : w0.heap.size ≤ b := (h4 _ hf).1
  omega
/-! ### to the disks -/
theorem SX.toD (h : SX N w0 w (PJ lb d s l) (RJ lr q s2 l2)) : SX N w0 w (PD d s) (RD q s2) := (h.mapP (P' := PD d s) (fun _ hp => hp.1)).mapR (fun _ hr => rd_of hr)
end
/-- What Open tells, and leaves. -/
def OpnP (N : Nat → Prop) (w0 : World) (d : Nat) (s : DS) (R : World → (Nat → Prop) → Prop) (w : World) (e : Ending) (w' : World) : Prop :=
  Grew w w' ∧ ((lOpen s ≠ 0 ∧ e = .returned (.tuple #[.pointer none, .int .i64 (lOpen s)]) ∧ Hid (SX N w0 w' (PD d s) R)) ∨
    (lOpen s = 0 ∧ LOK s (lPick s) ∧ ∃ lb, e = .returned (.tuple #[.pointer (some ⟨lb, 0, none⟩), .int .i64 0]) ∧ Hid (SX N w0 w' (PJ lb d s (lPick s)) R)))
theorem sx_open {N : Nat → Prop} {w0 w : World} {d : Nat} {s : DS} {R : World → (Nat → Prop) → Prop} (hR : Stb R) (h : Hid (SX N w0 w (PD d s) R)) : Calls Try.prog 15 #[.pointer (some ⟨d, 0, none⟩)] w (OpnP N w0 d s R w) := by
  obtain ⟨Fp, Fr, h1, h2, h3, h4⟩ := h.out.ex
  refine (openJ_any Fp d s w h1).mono fun e w' p => ?_
  obtain ⟨g, p | p⟩ := p
  · exact ⟨g, Or.inl ⟨p.1, p.2, h.out.grows (stb_PD _ _) hR g⟩⟩
  · obtain ⟨h0, lb, he, hl, hj⟩ := p
    obtain ⟨FD, G, k1, _, k3, _⟩ := hj.ex
    have := h.out.stepP (v := .tuple #[]) (P' := PJ lb d s (lPick s)) (stb_PD _ _) hR h1 h2 h3 h4 rfl g.chg ⟨k1.more (fun k hk => (k3 k hk).1) hj.fit, fun _ => hj⟩
    exact ⟨g, Or.inr ⟨h0, hj.ok, lb, he, this.2.1⟩⟩
def OpnR (N : Nat → Prop) (w0 : World) (q : Nat) (s : DS) (P : World → (Nat → Prop) → Prop) (w : World) (e : Ending) (w' : World) : Prop :=
  Grew w w' ∧ ((lOpen s ≠ 0 ∧ e = .returned (.tuple #[.pointer none, .int .i64 (lOpen s)]) ∧ Hid (SX N w0 w' P (RD q s))) ∨
    (lOpen s = 0 ∧ ∃ lr, e = .returned (.tuple #[.pointer (some ⟨lr, 0, none⟩), .int .i64 0]) ∧ (LOK s (lPick s) → Hid (SX N w0 w' P (RJ lr q s (lPick s))))))
theorem sx_openR {N : Nat → Prop} {w0 w : World} {q : Nat} {s : DS} {P : World → (Nat → Prop) → Prop} (hP : Stb P) (h : Hid (SX N w0 w P (RD q s))) (hn : s.opn.length ≤ 1000000) : Calls Try.prog 16 #[.pointer (some ⟨q, 0, none⟩)] w (OpnR N w0 q s P w) := by
  obtain ⟨Fp, Fr, h1, h2, h3, h4⟩ := h.out.ex
  refine (ropen_any Fr q s w h2 hn).mono fun e w' p => ?_
  obtain ⟨g, p | p⟩ := p
  · exact ⟨g, Or.inl ⟨p.1, p.2, h.out.grows hP (stb_RD _ _) g⟩⟩
  · obtain ⟨h0, lr, hl, he, hm⟩ := p
    have hk : RK w Fr q s := h2
    refine ⟨g, Or.inr ⟨h0, lr, he, fun hok => ?_⟩⟩
    have hj : JR w' (FX Fr w w') lr q s (lPick s) := ⟨fx_lt hk.fit g.size, hok, Fr, _, hk.grew g, hm, fun k hk2 => ⟨Or.inl hk2, fun hh => by have := hk.fit k hk2; omega⟩, fun k hk2 => Or.inr hk2⟩
    exact (h.out.stepR (v := .tuple #[]) (R' := RJ lr q s (lPick s)) hP (stb_RD _ _) h1 h2 h3 h4 rfl g.chg hj).2.1
end Go.Proofs.Ythnhhhfjgbgpgaa.NumK
namespace Go.Proofs.Ythnhhhfjgbgpgaa.NumK
open Go.RowKit

structure At7 where
  K : Int
  N : Int
  B : List UInt8
  R : List (List UInt8)
  P : List Int
instance : Inhabited At7 := ⟨⟨0, 0, [], [], []⟩⟩
abbrev At7V := Int × (Int × (List Int × (List (List Int) × List Int)))
def spAt7 : Sp At7V := spPair (spInt .i64) (spPair (spInt .i64) (spPair (spSlice (spInt .u8)) (spPair (spSlice (spSlice (spInt .u8))) (spSlice (spInt .i64)))))
theorem opens_rows7 : Opens Try.prog 38 (spSlice (spSlice (spInt .u8))) := opens_slice Try.underlying38 (by kernel_rfl) opens_bytes (by decide)
theorem opens_at7 : Opens Try.prog 41 spAt7 :=
  opens_struct Try.underlying41 (by kernel_rfl)
    (.cons _ _ _ rfl (opens_int Try.underlying3 (by kernel_rfl))
      (.cons _ _ _ rfl (opens_int Try.underlying3 (by kernel_rfl))
        (.cons _ _ _ rfl opens_bytes
          (.cons _ _ _ rfl opens_rows7
            (.last _ _ rfl opens_ints)))))
theorem opens_ats7 : Opens Try.prog 22 (spSlice spAt7) := opens_slice Try.underlying22 (by kernel_rfl) opens_at7 (by decide)
theorem rowsB_of_row7 {w : World} {A : Option Addr} {n : Nat} {l : List (List Int)} (h : Row (spSlice (spInt .u8)) w A n l) : ∃ xs, RowsB w A n xs := by
  rcases Nat.eq_zero_or_pos n with h0 | h0
  · exact ⟨[], by rw [h0]; rfl, fun hn => by omega⟩
  · obtain ⟨b, o, e, hb, hc⟩ := h.2 h0
    have each : ∀ j, j < n → ∃ x : List UInt8, ∃ A1 n1 c1, w.cell? ⟨b, o + j, none⟩ = some (.slice A1 n1 c1) ∧ Bys w A1 n1 x ∧ (A1 = none → c1 = 0) ∧ n1 ≤ c1 ∧ n1 ≤ 9223372036854775807 := by
      intro j hj
      obtain ⟨cs, ⟨A1, n1, c1, rfl, h1, h2, h3, h4⟩, h5⟩ := hc j (by rw [h.1]; exact hj)
      have g0 := h5 0 (by decide)
      obtain ⟨bs, hbs⟩ := bys_of_row h1
      have e1 : o + j * (spSlice (spInt IntKind.u8)).size + 0 = o + j := by show o + j * 1 + 0 = _; omega
      rw [e1] at g0
      unfold maxLen at h4
      exact ⟨bs, A1, n1, c1, by simpa using g0, hbs, h2, h3, by omega⟩
    obtain ⟨f, hf⟩ := Go.Deep.choose_lt each
    have e2 : ∀ j, j < n → ((List.range n).map f).getD j [] = f j := fun j hj => by simp [List.getD, hj]
    refine ⟨(List.range n).map f, by simp, fun _ => ⟨b, o, e, hb, fun j hj => ?_⟩⟩
    rw [e2 j hj]
    exact hf j hj
/-- What an act's five cells hold. -/
structure At7In (w : World) (x : At7) (A2 A3 A4 : Option Addr) (n2 c2 n3 c3 n4 : Nat) : Prop where
  b2 : Bys w A2 n2 x.B
  a2 : A2 = none → c2 = 0
  m2 : n2 ≤ c2
  b3 : RowsB w A3 n3 x.R
  a3 : A3 = none → c3 = 0
  m3 : n3 ≤ c3
  i4 : Ints w A4 n4 x.P
  k4 : n4 ≤ 9223372036854775807
  r0 : -9223372036854775808 ≤ x.K ∧ x.K ≤ 9223372036854775807
  r1 : -9223372036854775808 ≤ x.N ∧ x.N ≤ 9223372036854775807
def At7At (w : World) (b p : Nat) (x : At7) : Prop := ∃ A2 n2 c2 A3 n3 c3 A4 n4 c4, At7In w x A2 A3 A4 n2 c2 n3 c3 n4 ∧
  w.cell? ⟨b, p, none⟩ = some (.int .i64 x.K) ∧ w.cell? ⟨b, p + 1, none⟩ = some (.int .i64 x.N) ∧ w.cell? ⟨b, p + 2, none⟩ = some (.slice A2 n2 c2) ∧ w.cell? ⟨b, p + 3, none⟩ = some (.slice A3 n3 c3) ∧ w.cell? ⟨b, p + 4, none⟩ = some (.slice A4 n4 c4)
def Ats7 (w : World) (A : Option Addr) (n : Nat) (l : List At7) : Prop := l.length = n ∧ (0 < n → ∃ b o, A = some ⟨b, o, none⟩ ∧ b < w.heap.size ∧ ∀ j, j < n → At7At w b (o + j * 5) (l.getD j default))
theorem ats7_of_row {w : World} {A : Option Addr} {n : Nat} {l : List At7V} (h : Row spAt7 w A n l) : ∃ xs, Ats7 w A n xs := by
  rcases Nat.eq_zero_or_pos n with h0 | h0
  · exact ⟨[], by rw [h0]; rfl, fun hn => by omega⟩
  · obtain ⟨b, o, e, hb, hc⟩ := h.2 h0
    have each : ∀ j, j < n → ∃ x : At7, At7At w b (o + j * 5) x := by
      intro j hj
      obtain ⟨cs, hr, h3⟩ := hc j (by rw [h.1]; exact hj)
      obtain ⟨q1, q2, rfl, ⟨rfl, k0⟩, q3, q4, rfl, ⟨rfl, k1⟩, q5, q6, rfl, ⟨A2, n2, c2, rfl, hr2, hn2, hm2, hk2⟩, q7, q8, rfl, ⟨A3, n3, c3, rfl, hr3, hn3, hm3, hk3⟩, A4, n4, c4, rfl, hr4, hn4, hm4, hk4⟩ := hr
      have e5 : spAt7.size = 5 := rfl
      have g0 : w.cell? ⟨b, o + j * 5 + 0, none⟩ = _ := h3 0 (by rw [e5]; omega)
      have g1 : w.cell? ⟨b, o + j * 5 + 1, none⟩ = _ := h3 1 (by rw [e5]; omega)
      have g2 : w.cell? ⟨b, o + j * 5 + 2, none⟩ = _ := h3 2 (by rw [e5]; omega)
      have g3 : w.cell? ⟨b, o + j * 5 + 3, none⟩ = _ := h3 3 (by rw [e5]; omega)
      have g4 : w.cell? ⟨b, o + j * 5 + 4, none⟩ = _ := h3 4 (by rw [e5]; omega)
      obtain ⟨bs, hbs⟩ := bys_of_row hr2
      obtain ⟨xs3, hx3⟩ := rowsB_of_row7 hr3
      unfold maxLen at hk4
      exact ⟨⟨_, _, bs, xs3, _⟩, A2, n2, c2, A3, n3, c3, A4, n4, c4, ⟨hbs, hn2, hm2, hx3, hn3, hm3, (ints_of_spec hr4).1, by omega, Go.bounds_i64 k0, Go.bounds_i64 k1⟩, g0, g1, g2, g3, g4⟩
    obtain ⟨f, hf⟩ := Go.Deep.choose_lt each
    have e2 : ∀ j, j < n → ((List.range n).map f).getD j default = f j := fun j hj => by simp [List.getD, hj]
    refine ⟨(List.range n).map f, by simp, fun _ => ⟨b, o, e, hb, fun j hj => ?_⟩⟩
    rw [e2 j hj]
    exact hf j hj
def Light (x : At7) : Prop := x.B.length ≤ 2000 ∧ x.R.length ≤ 20 ∧ ∀ j, j < x.R.length → (x.R.getD j []).length ≤ 2000
def Heavy7 (n : Nat) (l : List At7) (w : World) (e : Ending) (w' : World) : Prop := w = w' ∧ ((e = .returned (.bool true)) ∨ (e = .returned (.bool false) ∧ ∀ k, k < n → k < 60 → Light (l.getD k default)))

set_option maxRecDepth 100000 in
set_option maxHeartbeats 1000000 in
theorem heavy7_any (A : Option Addr) (n c : Nat) (l : List At7) (w : World) (h : Ats7 w A n l) : Calls Try.prog 4 #[.slice A n c] w (Heavy7 n l w) := by
  have HA := Lib.hid h
  clear h
  have HT : Hid (Heavy7 n l w (.returned (.bool true)) w) := ⟨rfl, Or.inl rfl⟩
  by_cases h1 : 240 < n
  · have d1 : (240 : Int) < (n : Int) := by omega
    go_enter Try.func4, Try.ntmps4
    go_wp2
    go_ret
    exact HT.out
  · have d1 : ¬ (240 : Int) < (n : Int) := by omega
    go_enter Try.func4, Try.ntmps4
    go_wp2
    go_loop [3] (fun v3 => ∃ k : Nat, v3 = .int .i64 k ∧ k ≤ n ∧ k ≤ 60 ∧ Hid (∀ i, i < k → Light (l.getD i default))) (fun v3 => n - (intOf v3).toNat)
    case atStart => exact ⟨0, rfl, Nat.zero_le _, Nat.zero_le _, fun i hi => absurd hi (by omega)⟩
    case round =>
      obtain ⟨k, rfl, hk, hk2, HL⟩ := hrel
      by_cases hlt : k < n
      · have j1 : (k : Int) < (n : Int) := by omega
        have j0 : (0 : Int) ≤ (k : Int) := by omega
        by_cases h3 : k < 60
        · have j3 : (k : Int) < 60 := by omega
          obtain ⟨b, o, rfl, hb, hc⟩ := HA.out.2 (by omega)
          obtain ⟨A2, n2, c2, A3, n3, c3, A4, n4, c4, HI, -, -, g2, g3, g4⟩ := hc k hlt
          have HI := Lib.hid HI
          clear hc
          by_cases h4 : 2000 < n2
          · have j4 : (2000 : Int) < (n2 : Int) := by omega
            go_wp2
            go_ret
            exact HT.out
          · have j4 : ¬ (2000 : Int) < (n2 : Int) := by omega
            by_cases h5 : 20 < n3
            · have j5 : (20 : Int) < (n3 : Int) := by omega
              go_wp2
              go_ret
              exact HT.out
            · have j5 : ¬ (20 : Int) < (n3 : Int) := by omega
              by_cases h6 : 2000 < n4
              · have j6 : (2000 : Int) < (n4 : Int) := by omega
                go_wp2
                go_ret
                exact HT.out
              · have j6 : ¬ (2000 : Int) < (n4 : Int) := by omega
                go_wp2
                go_loop [4] (fun v4 => ∃ i : Nat, v4 = .int .i64 i ∧ i ≤ n3 ∧ Hid (∀ j, j < i → ((l.getD k default).R.getD j []).length ≤ 2000)) (fun v4 => n3 - (intOf v4).toNat)
                case atStart => exact ⟨0, rfl, Nat.zero_le _, fun i hi => absurd hi (by omega)⟩
                case round =>
                  obtain ⟨i, rfl, hi, HR⟩ := hrel
                  by_cases hi2 : i < n3
                  · have i1 : (i : Int) < (n3 : Int) := by omega
                    have i0 : (0 : Int) ≤ (i : Int) := by omega
                    obtain ⟨b3, o3, rfl, hb3, hc3⟩ := HI.out.b3.2 (by omega)
                    obtain ⟨A5, n5, c5, g5, hb5, _⟩ := hc3 i hi2
                    have hl5 := hb5.1
                    clear hc3 hb5
                    by_cases h7 : 2000 < n5
                    · have j7 : (2000 : Int) < (n5 : Int) := by omega
                      clear hl5
                      go_wp2
                      go_ret
                      exact HT.out
                    · have j7 : ¬ (2000 : Int) < (n5 : Int) := by omega
                      have HR2 : Hid (((l.getD k default).R.getD i []).length ≤ 2000) := by show _ ≤ _; omega
                      clear hl5
                      go_wp2
                      go_round
                      case rel => exact ⟨i + 1, by go_num, by omega, fun j hj => by rcases (by omega : j < i ∨ j = i) with h | h; exact HR.out j h; rw [h]; exact HR2.out⟩
                      case measure => simp only [intOf]; omega
                  · obtain rfl : n3 = i := by omega
                    have HLK : Hid (Light (l.getD k default)) := ⟨by rw [HI.out.b2.1]; omega, by rw [HI.out.b3.1]; omega, fun j hj => HR.out j (by rw [HI.out.b3.1] at hj; exact hj)⟩
                    clear HR hi2
                    go_wp2
                    go_round
                    case rel => exact ⟨k + 1, by go_num, by omega, by omega, fun j hj => by rcases (by omega : j < k ∨ j = k) with h | h; exact HL.out j h; rw [h]; exact HLK.out⟩
                    case measure => simp only [intOf]; omega
        · have j3 : ¬ (k : Int) < 60 := by omega
          have HF : Hid (Heavy7 n l w (.returned (.bool false)) w) := ⟨rfl, Or.inr ⟨rfl, fun i _ h => HL.out i (by omega)⟩⟩
          go_wp2
          go_ret
          exact HF.out
      · obtain rfl : n = k := by omega
        have HF : Hid (Heavy7 n l w (.returned (.bool false)) w) := ⟨rfl, Or.inr ⟨rfl, fun i h _ => HL.out i h⟩⟩
        clear hlt
        go_wp2
        go_ret
        exact HF.out
end Go.Proofs.Ythnhhhfjgbgpgaa.NumK
namespace Go.Proofs.Ythnhhhfjgbgpgaa.NumK
open Go.RowKit

def PairC (w : World) (pb : Nat) (lp : Option Addr) (d : Nat) (rp : Option Addr) (q : Nat) : Prop :=
  w.rangeAt pb 0 [.pointer lp, .pointer (some ⟨d, 0, none⟩), .pointer rp, .pointer (some ⟨q, 0, none⟩)] ∧ w.there pb 0 4 ∧ pb < w.heap.size
theorem PairC.of {w w' : World} {pb d q : Nat} {lp rp : Option Addr} (h : PairC w pb lp d rp q) (e : w'.heap[pb]? = w.heap[pb]?) (hs : w.heap.size ≤ w'.heap.size) : PairC w' pb lp d rp q := ⟨rangeAt_of h.1 e, there_of h.2.1 e, Nat.lt_of_lt_of_le h.2.2 hs⟩
theorem PairC.grew {w w' : World} {pb d q : Nat} {lp rp : Option Addr} (h : PairC w pb lp d rp q) (g : Grew w w') : PairC w' pb lp d rp q := h.of (g.block pb h.2.2) g.size
theorem PairC.cells {w : World} {pb d q : Nat} {lp rp : Option Addr} (h : PairC w pb lp d rp q) : w.cell? ⟨pb, 0, none⟩ = some (.pointer lp) ∧ w.cell? ⟨pb, 1, none⟩ = some (.pointer (some ⟨d, 0, none⟩)) ∧ w.cell? ⟨pb, 2, none⟩ = some (.pointer rp) ∧ w.cell? ⟨pb, 3, none⟩ = some (.pointer (some ⟨q, 0, none⟩)) := by
  have h0 := h.1 0 _ rfl
  have h1 := h.1 1 _ rfl
  have h2 := h.1 2 _ rfl
  have h3 := h.1 3 _ rfl
  simp only [Nat.zero_add] at h0 h1 h2 h3
  exact ⟨h0, h1, h2, h3⟩
theorem PairC.frozen {w : World} {pb d q : Nat} {lp rp : Option Addr} (h : PairC w pb lp d rp q) : w.frozen? ⟨pb, 0, none⟩ = false ∧ w.frozen? ⟨pb, 2, none⟩ = false := by
  have h0 := (h.2.1 0 (by omega)).2
  have h2 := (h.2.1 2 (by omega)).2
  simp only [Nat.zero_add] at h0 h2
  exact ⟨h0, h2⟩
theorem PairC.set {w : World} {pb d q : Nat} {lp rp : Option Addr} (h : PairC w pb lp d rp q) (lp' rp' : Option Addr) : PairC ((w.setCell ⟨pb, 0, none⟩ (.pointer lp')).setCell ⟨pb, 2, none⟩ (.pointer rp')) pb lp' d rp' q := by
  have h1 := rangeAt_set h.1 0 (by simp) (.pointer lp')
  have h2 := rangeAt_set h1 2 (by simp) (.pointer rp')
  exact ⟨by simpa using h2, there_set (there_set h.2.1 _ _) _ _, by simpa [World.setCell] using h.2.2⟩
/-- The pair: both disks read as s; the logs, if there are any, as l. -/
def LX (N : Nat → Prop) (w0 w : World) (pb d q : Nat) (s : DS) : Option (Nat × Nat × LS) → Prop
  | none => PairC w pb none d none q ∧ SX N w0 w (PD d s) (RD q s)
  | some (lb, lr, l) => PairC w pb (some ⟨lb, 0, none⟩) d (some ⟨lr, 0, none⟩) q ∧ SX N w0 w (PJ lb d s l) (RJ lr q s l)
def OpnO (s : DS) (o : Option (Nat × Nat × LS)) : Prop := (lOpen s ≠ 0 ∧ o = none) ∨ (lOpen s = 0 ∧ ∃ lb lr, o = some (lb, lr, lPick s))
def PopPost (N : Nat → Prop) (w0 w : World) (pb d q : Nat) (s : DS) (e : Ending) (w' : World) : Prop := e = .returned (.bool true) ∧ Hid (∃ o, LX N w0 w' pb d q s o ∧ OpnO s o) ∧ Chg (fun k => k = pb) w w'
set_option maxRecDepth 100000 in
set_option maxHeartbeats 1000000 in
theorem popen_any {N : Nat → Prop} {w0 w : World} {pb d q : Nat} {lp rp : Option Addr} {s : DS} (hN : N pb) (hpb : w0.heap.size ≤ pb) (hC : PairC w pb lp d rp q) (h : SX N w0 w (PD d s) (RD q s)) (hn : s.opn.length ≤ 1000000) :
    Calls Try.prog 7 #[.pointer (some ⟨pb, 0, none⟩)] w (PopPost N w0 w pb d q s) := by
  have C1 := Lib.hid (sx_open (stb_RD q s) (Lib.hid h))
  have CR := Lib.hid (fun P hP (w1 : World) (h : Hid (SX N w0 w1 P (RD q s))) => sx_openR hP h hn)
  have HC := Lib.hid hC
  have HNP : Hid (N pb ∧ w0.heap.size ≤ pb) := ⟨hN, hpb⟩
  obtain ⟨c0, c1, c2, c3⟩ := hC.cells
  have HSET : Hid (∀ (w1 w2 : World) P R (lp' rp' : Option Addr), Stb P → Stb R → Grew w w1 → Grew w1 w2 → SX N w0 w2 P R → PairC ((w2.setCell ⟨pb, 0, none⟩ (.pointer lp')).setCell ⟨pb, 2, none⟩ (.pointer rp')) pb lp' d rp' q ∧ SX N w0 ((w2.setCell ⟨pb, 0, none⟩ (.pointer lp')).setCell ⟨pb, 2, none⟩ (.pointer rp')) P R ∧ Chg (fun k => k = pb) w ((w2.setCell ⟨pb, 0, none⟩ (.pointer lp')).setCell ⟨pb, 2, none⟩ (.pointer rp'))) := fun w1 w2 P R lp' rp' hP hR g1 g2 hx => by
    have gg := grew_trans g1 g2
    refine ⟨(HC.out.grew gg).set lp' rp', hx.keep hP hR ?_, ?_⟩
    · exact ((Chg.refl _ w2).setCell ⟨pb, 0, none⟩ _ (fun _ => HNP.out)).setCell ⟨pb, 2, none⟩ _ (fun _ => HNP.out)
    · exact ((gg.chg (F := fun k => k = pb)).setCell ⟨pb, 0, none⟩ _ (fun _ => rfl)).setCell ⟨pb, 2, none⟩ _ (fun _ => rfl)
  clear h hC hN hpb
  by_cases ho : lOpen s = 0
  · have HP : Hid (∀ (w1 w2 : World) (lb lr : Nat), Grew w w1 → Grew w1 w2 → Hid (SX N w0 w2 (PJ lb d s (lPick s)) (RJ lr q s (lPick s))) → PopPost N w0 w pb d q s (.returned (.bool true)) ((w2.setCell ⟨pb, 0, none⟩ (.pointer (some ⟨lb, 0, none⟩))).setCell ⟨pb, 2, none⟩ (.pointer (some ⟨lr, 0, none⟩)))) := fun w1 w2 lb lr g1 g2 hx => by
      obtain ⟨h1, h2, h3⟩ := HSET.out w1 w2 _ _ (some ⟨lb, 0, none⟩) (some ⟨lr, 0, none⟩) (stb_PJ _ _ _ _) (stb_RJ _ _ _ _) g1 g2 hx.out
      exact ⟨rfl, ⟨some (lb, lr, lPick s), ⟨h1, h2⟩, Or.inr ⟨ho, lb, lr, rfl⟩⟩, h3⟩
    have HF : Hid (∀ w', Grew w w' → w'.cell? ⟨pb, 0, none⟩ = some (.pointer lp) ∧ w'.cell? ⟨pb, 2, none⟩ = some (.pointer rp) ∧ w'.cell? ⟨pb, 3, none⟩ = some (.pointer (some ⟨q, 0, none⟩)) ∧ w'.frozen? ⟨pb, 0, none⟩ = false ∧ w'.frozen? ⟨pb, 2, none⟩ = false) := fun w' g => by
      have h1 := HC.out.grew g
      obtain ⟨a, b, c, e⟩ := h1.cells
      exact ⟨a, c, e, h1.frozen⟩
    have HO := Lib.hid ho
    clear HSET HC c0 c2 c3 ho
    go_enter Try.func7, Try.ntmps7
    go_wp2_with (first
      | (go_at_call 15; ((with_reducible refine C1.out.mono ?_); rintro e w1 ⟨hg1, hx⟩; have hx := hx.resolve_left (fun h => h.1 HO.out); obtain ⟨-, hok, lb, rfl, hs⟩ := hx; have HOK := Lib.hid hok; have HS := hs; have G1 := Lib.hid hg1; have c3 := (HF.out w1 hg1).2.2.1; clear hg1 hok hs))
      | (go_at_call 16; ((with_reducible refine (CR.out _ (stb_PJ _ _ _ _) _ HS).mono ?_); rintro e w2 ⟨hg2, hx⟩; have hx := hx.resolve_left (fun h => h.1 HO.out); obtain ⟨-, lr, rfl, hs⟩ := hx; have HS2 := hs HOK.out; have G2 := Lib.hid hg2; obtain ⟨e0, e2, -, f0, f2⟩ := HF.out w2 (grew_trans G1.out hg2); clear hg2 hs)))
    go_ret
    exact HP.out _ _ _ _ G1.out G2.out HS2
  · have HP : Hid (∀ (w1 w2 : World), Grew w w1 → Grew w1 w2 → Hid (SX N w0 w2 (PD d s) (RD q s)) → PopPost N w0 w pb d q s (.returned (.bool true)) ((w2.setCell ⟨pb, 0, none⟩ (.pointer none)).setCell ⟨pb, 2, none⟩ (.pointer none))) := fun w1 w2 g1 g2 hx => by
      obtain ⟨h1, h2, h3⟩ := HSET.out w1 w2 _ _ none none (stb_PD _ _) (stb_RD _ _) g1 g2 hx.out
      exact ⟨rfl, ⟨none, ⟨h1, h2⟩, Or.inl ⟨ho, rfl⟩⟩, h3⟩
    have HF : Hid (∀ w', Grew w w' → w'.cell? ⟨pb, 0, none⟩ = some (.pointer lp) ∧ w'.cell? ⟨pb, 2, none⟩ = some (.pointer rp) ∧ w'.cell? ⟨pb, 3, none⟩ = some (.pointer (some ⟨q, 0, none⟩)) ∧ w'.frozen? ⟨pb, 0, none⟩ = false ∧ w'.frozen? ⟨pb, 2, none⟩ = false) := fun w' g => by
      have h1 := HC.out.grew g
      obtain ⟨a, b, c, e⟩ := h1.cells
      exact ⟨a, c, e, h1.frozen⟩
    have HO := Lib.hid ho
    have d1 : (lOpen s != 0) = true := bne_iff_ne.2 ho
    clear HSET HC c0 c2 c3 ho
    generalize hz : lOpen s = z at *
    go_enter Try.func7, Try.ntmps7
    go_wp2_with (first
      | (go_at_call 15; ((with_reducible refine C1.out.mono ?_); rintro e w1 ⟨hg1, hx⟩; have hx := hx.resolve_right (fun h => HO.out (hz ▸ h.1)); obtain ⟨-, he1, hs⟩ := hx; rw [hz] at he1; subst he1; have HS := hs; have G1 := Lib.hid hg1; have c3 := (HF.out w1 hg1).2.2.1; clear hg1 hs))
      | (go_at_call 16; ((with_reducible refine (CR.out _ (stb_PD _ _) _ HS).mono ?_); rintro e w2 ⟨hg2, hx⟩; have hx := hx.resolve_right (fun h => HO.out (hz ▸ h.1)); obtain ⟨-, he2, hs⟩ := hx; rw [hz] at he2; subst he2; have HS2 := hs; have G2 := Lib.hid hg2; obtain ⟨e0, e2, -, f0, f2⟩ := HF.out w2 (grew_trans G1.out hg2); clear hg2 hs)))
    go_ret
    exact HP.out _ _ G1.out G2.out HS2
end Go.Proofs.Ythnhhhfjgbgpgaa.NumK
