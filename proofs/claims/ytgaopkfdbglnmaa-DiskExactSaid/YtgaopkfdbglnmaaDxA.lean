/- The program's disk and the document's, side by side; fill, heavy. -/
import Derived.Test.YtgaopkfdbglnmaaRefDkE
import Derived.Test.YtgaopkfdbglnmaaArg06
namespace Go.Proofs.Ytgaopkfdbglnmaa.NumK
open Go.RowKit

/-- The program's disk in block d reads as sd, the document's in block r as sr; both are new since w0, lie apart, and in none of the blocks N. -/
structure DX (N : Nat → Prop) (w0 w : World) (d : Nat) (sd : DS) (r : Nat) (sr : DS) : Prop where
  ex : ∃ Fd Fr, DK w Fd d sd ∧ RK w Fr r sr ∧ (∀ k, Fd k → w0.heap.size ≤ k ∧ ¬ N k ∧ ¬ Fr k) ∧ ∀ k, Fr k → w0.heap.size ≤ k ∧ ¬ N k
  grew : Grew w0 w
  nlt : ∀ k, N k → k < w.heap.size
theorem DX.grows {N : Nat → Prop} {w0 w w' : World} {d r : Nat} {sd sr : DS} (h : DX N w0 w d sd r sr) (g : Grew w w') : DX N w0 w' d sd r sr := by
  obtain ⟨Fd, Fr, h1, h2, h3, h4⟩ := h.ex
  exact ⟨⟨Fd, Fr, h1.grew g, h2.grew g, h3, h4⟩, grew_trans h.grew g, fun k hk => Nat.lt_of_lt_of_le (h.nlt k hk) g.size⟩
theorem DX.beside {N : Nat → Prop} {w0 w : World} {d r : Nat} {sd sr : DS} (h : DX N w0 w d sd r sr) (t : Obj) : DX (fun k => N k ∨ k = w.heap.size) w0 (w.alloc t) d sd r sr := by
  obtain ⟨Fd, Fr, h1, h2, h3, h4⟩ := h.ex
  have ga : Chg (fun _ => False) w (w.alloc t) := (Chg.refl _ _).alloc t
  refine ⟨⟨Fd, Fr, h1.chg ga (fun _ _ h => h), h2.chg ga (fun _ _ h => h), fun k hk => ⟨(h3 k hk).1, fun hn => ?_, (h3 k hk).2.2⟩, fun k hk => ⟨(h4 k hk).1, fun hn => ?_⟩⟩, Chg.grew h.grew ga (fun k hk => hk.elim), fun k hk => ?_⟩
  · rcases hn with hn | rfl
    · exact (h3 k hk).2.1 hn
    · have := h1.fit _ hk; omega
  · rcases hn with hn | rfl
    · exact (h4 k hk).2 hn
    · have := h2.fit _ hk; omega
  · rcases hk with hk | rfl
    · have := h.nlt k hk; simp; omega
    · simp
/-- Less beside. -/
theorem DX.less {N M : Nat → Prop} {w0 w : World} {d r : Nat} {sd sr : DS} (h : DX N w0 w d sd r sr) (hM : ∀ k, M k → N k) : DX M w0 w d sd r sr := by
  obtain ⟨Fd, Fr, h1, h2, h3, h4⟩ := h.ex
  exact ⟨⟨Fd, Fr, h1, h2, fun k hk => ⟨(h3 k hk).1, fun hn => (h3 k hk).2.1 (hM k hn), (h3 k hk).2.2⟩, fun k hk => ⟨(h4 k hk).1, fun hn => (h4 k hk).2 (hM k hn)⟩⟩, h.grew, fun k hk => h.nlt k (hM k hk)⟩
def DXStep (N : Nat → Prop) (w0 w : World) (d : Nat) (v : Value) (sd : DS) (r : Nat) (sr : DS) (e : Ending) (w' : World) : Prop := e = .returned v ∧ Hid (DX N w0 w' d sd r sr) ∧ Chg (Mine N w0) w w'
theorem DX.stepD {N : Nat → Prop} {w0 w w' : World} {d r : Nat} {sr sd' : DS} {Fd Fr : Nat → Prop} (g0 : Grew w0 w) (nlt : ∀ k, N k → k < w.heap.size) (h2 : RK w Fr r sr) (h3 : ∀ k, Fd k → w0.heap.size ≤ k ∧ ¬ N k ∧ ¬ Fr k) (h4 : ∀ k, Fr k → w0.heap.size ≤ k ∧ ¬ N k) {e : Ending} {v : Value} (p : DPost Fd d w v sd' e w') : DXStep N w0 w d v sd' r sr e w' := by
  obtain ⟨he, hc, hd⟩ := p
  refine ⟨he, ⟨⟨_, Fr, hd, h2.chg hc (fun k hk hF => (h3 k hF).2.2 hk), fun k hk => ?_, h4⟩, Chg.grew g0 hc (fun k hk => (h3 k hk).1), fun k hk => Nat.lt_of_lt_of_le (nlt k hk) hc.size⟩, hc.mono fun k hk => ⟨(h3 k hk).1, (h3 k hk).2.1⟩⟩
  rcases hk with hk | hk
  · exact h3 k hk
  · exact ⟨Nat.le_trans g0.size hk.1, fun hn => by have := nlt k hn; omega, fun hr => by have := h2.fit k hr; omega⟩
theorem DX.stepR {N : Nat → Prop} {w0 w w' : World} {d r : Nat} {sd sr' : DS} {Fd Fr : Nat → Prop} (g0 : Grew w0 w) (nlt : ∀ k, N k → k < w.heap.size) (h1 : DK w Fd d sd) (h3 : ∀ k, Fd k → w0.heap.size ≤ k ∧ ¬ N k ∧ ¬ Fr k) (h4 : ∀ k, Fr k → w0.heap.size ≤ k ∧ ¬ N k) {e : Ending} {v : Value} (p : RPost Fr r w v sr' e w') : DXStep N w0 w d v sd r sr' e w' := by
  obtain ⟨he, hc, hd⟩ := p
  refine ⟨he, ⟨⟨Fd, _, h1.chg hc (fun k hk hF => (h3 k hk).2.2 hF), hd, fun k hk => ⟨(h3 k hk).1, (h3 k hk).2.1, fun hr => ?_⟩, fun k hk => ?_⟩, Chg.grew g0 hc (fun k hk => (h4 k hk).1), fun k hk => Nat.lt_of_lt_of_le (nlt k hk) hc.size⟩, hc.mono fun k hk => h4 k hk⟩
  · rcases hr with hr | hr
    · exact (h3 k hk).2.2 hr
    · have := h1.fit k hk; omega
  · rcases hk with hk | hk
    · exact h4 k hk
    · exact ⟨Nat.le_trans g0.size hk.1, fun hn => by have := nlt k hn; omega⟩
section
variable {N : Nat → Prop} {w0 w : World} {d r : Nat} {sd sr : DS}
theorem dx_writeD (at' : Int) (b : Blk) (hb : b.length = 64) (hn : sd.opn.length ≤ 1000000) (h : Hid (DX N w0 w d sd r sr)) : Calls Try.prog 19 #[.pointer (some ⟨d, 0, none⟩), .int .i64 at', blkV' b] w (DXStep N w0 w d (.int .i64 (dWrite sd at' b).1) (dWrite sd at' b).2 r sr) := by
  obtain ⟨Fd, Fr, h1, h2, h3, h4⟩ := h.out.ex
  exact (write_any Fd d sd at' b w h1 hb hn).mono fun e w' p => DX.stepD h.out.grew h.out.nlt h2 h3 h4 p
theorem dx_writeR (at' : Int) (b : Blk) (hb : b.length = 64) (hn : sr.opn.length ≤ 1000000) (h : Hid (DX N w0 w d sd r sr)) : Calls Try.prog 31 #[.pointer (some ⟨r, 0, none⟩), .int .i64 at', blkV' b] w (DXStep N w0 w d (.int .i64 (dWrite sr at' b).1) sd r (dWrite sr at' b).2) := by
  obtain ⟨Fd, Fr, h1, h2, h3, h4⟩ := h.out.ex
  exact (rwrite_any Fr r sr at' b w h2 hb hn).mono fun e w' p => DX.stepR h.out.grew h.out.nlt h1 h3 h4 p
theorem dx_syncD (hn : sd.opn.length ≤ 1000000) (h : Hid (DX N w0 w d sd r sr)) : Calls Try.prog 21 #[.pointer (some ⟨d, 0, none⟩)] w (DXStep N w0 w d (.int .i64 (dSync sd).1) (dSync sd).2 r sr) := by
  obtain ⟨Fd, Fr, h1, h2, h3, h4⟩ := h.out.ex
  exact (sync_any Fd d sd w h1 hn).mono fun e w' p => DX.stepD h.out.grew h.out.nlt h2 h3 h4 p
theorem dx_syncR (hn : sr.opn.length ≤ 1000000) (h : Hid (DX N w0 w d sd r sr)) : Calls Try.prog 26 #[.pointer (some ⟨r, 0, none⟩)] w (DXStep N w0 w d (.int .i64 (dSync sr).1) sd r (dSync sr).2) := by
  obtain ⟨Fd, Fr, h1, h2, h3, h4⟩ := h.out.ex
  exact (rsync_any Fr r sr w h2 hn).mono fun e w' p => DX.stepR h.out.grew h.out.nlt h1 h3 h4 p
theorem dx_armD (n : Int) (hn : n ≤ 9223372036854775807) (h : Hid (DX N w0 w d sd r sr)) : Calls Try.prog 25 #[.pointer (some ⟨d, 0, none⟩), .int .i64 n] w (DXStep N w0 w d (.tuple #[]) (dArm sd n) r sr) := by
  obtain ⟨Fd, Fr, h1, h2, h3, h4⟩ := h.out.ex
  exact (arm_any Fd d sd n hn w h1).mono fun e w' p => DX.stepD h.out.grew h.out.nlt h2 h3 h4 p
theorem dx_armR (n : Int) (hn : n ≤ 9223372036854775807) (h : Hid (DX N w0 w d sd r sr)) : Calls Try.prog 27 #[.pointer (some ⟨r, 0, none⟩), .int .i64 n] w (DXStep N w0 w d (.tuple #[]) sd r (dArm sr n)) := by
  obtain ⟨Fd, Fr, h1, h2, h3, h4⟩ := h.out.ex
  exact (rarm_any Fr r sr n hn w h2).mono fun e w' p => DX.stepR h.out.grew h.out.nlt h1 h3 h4 p
theorem dx_startD (hn : sd.opn.length ≤ 1000000) (h : Hid (DX N w0 w d sd r sr)) : Calls Try.prog 23 #[.pointer (some ⟨d, 0, none⟩)] w (DXStep N w0 w d (.tuple #[]) (dStart sd) r sr) := by
  obtain ⟨Fd, Fr, h1, h2, h3, h4⟩ := h.out.ex
  exact (start_any Fd d sd w h1 hn).mono fun e w' p => DX.stepD h.out.grew h.out.nlt h2 h3 h4 p
theorem dx_startR (hn : sr.opn.length ≤ 1000000) (h : Hid (DX N w0 w d sd r sr)) : Calls Try.prog 29 #[.pointer (some ⟨r, 0, none⟩)] w (DXStep N w0 w d (.tuple #[]) sd r (dStart sr)) := by
  obtain ⟨Fd, Fr, h1, h2, h3, h4⟩ := h.out.ex
  exact (rstart_any Fr r sr w h2 hn).mono fun e w' p => DX.stepR h.out.grew h.out.nlt h1 h3 h4 p
theorem dx_crashD (A : Option Addr) (pn pc : Nat) (zs : List Int) (hp : Ints w0 A pn zs) (hpn : pn ≤ 9223372036854775807) (hn : sd.opn.length ≤ 1000000) (h : Hid (DX N w0 w d sd r sr)) : Calls Try.prog 22 #[.pointer (some ⟨d, 0, none⟩), .slice A pn pc] w (DXStep N w0 w d (.tuple #[]) (dCrash sd zs) r sr) := by
  obtain ⟨Fd, Fr, h1, h2, h3, h4⟩ := h.out.ex
  refine (crash_any Fd d sd A pn pc zs w h1 (hp.keep h.out.grew) (fun a e h0 hf => ?_) hpn hn).mono fun e w' p => DX.stepD h.out.grew h.out.nlt h2 h3 h4 p
  obtain ⟨b, o, e2, hb, _⟩ := hp.2 h0
  rw [e] at e2; cases e2
  have hb : b < w0.heap.size := hb
  have : w0.heap.size ≤ b := (h3 _ hf).1
  omega
theorem dx_crashR (A : Option Addr) (pn pc : Nat) (zs : List Int) (hp : Ints w0 A pn zs) (hpn : pn ≤ 9223372036854775807) (hn : sr.opn.length ≤ 1000000) (h : Hid (DX N w0 w d sd r sr)) : Calls Try.prog 28 #[.pointer (some ⟨r, 0, none⟩), .slice A pn pc] w (DXStep N w0 w d (.tuple #[]) sd r (dCrash sr zs)) := by
  obtain ⟨Fd, Fr, h1, h2, h3, h4⟩ := h.out.ex
  refine (rcrash_any Fr r sr A pn pc zs w h2 (hp.keep h.out.grew) (fun a e h0 hf => ?_) hpn hn).mono fun e w' p => DX.stepR h.out.grew h.out.nlt h1 h3 h4 p
  obtain ⟨b, o, e2, hb, _⟩ := hp.2 h0
  rw [e] at e2; cases e2
  have hb : b < w0.heap.size := hb
  have : w0.heap.size ≤ b := (h4 _ hf).1
  omega
theorem dx_readD (at' : Int) (h : Hid (DX N w0 w d sd r sr)) : Calls Try.prog 17 #[.pointer (some ⟨d, 0, none⟩), .int .i64 at'] w fun e w' => e = .returned (readV (dRead sd at')) ∧ Grew w w' := by
  obtain ⟨Fd, Fr, h1, h2, h3, h4⟩ := h.out.ex
  exact read_any Fd d sd at' w h1
theorem dx_readR (at' : Int) (hn : sr.opn.length ≤ 1000000) (h : Hid (DX N w0 w d sd r sr)) : Calls Try.prog 18 #[.pointer (some ⟨r, 0, none⟩), .int .i64 at'] w fun e w' => e = .returned (readV (dRead sr at')) ∧ Grew w w' := by
  obtain ⟨Fd, Fr, h1, h2, h3, h4⟩ := h.out.ex
  exact rread_any Fr r sr at' hn w h2
theorem dx_off (h : Hid (DX N w0 w d sd r sr)) : Calls Try.prog 14 #[.pointer (some ⟨d, 0, none⟩)] w fun e w' => e = .returned (.bool sd.off) ∧ w = w' := by
  obtain ⟨Fd, Fr, h1, h2, h3, h4⟩ := h.out.ex
  exact off_any Fd d sd w h1
theorem dx_open (h : Hid (DX N w0 w d sd r sr)) : Calls Try.prog 15 #[.pointer (some ⟨d, 0, none⟩)] w fun e w' => e = .returned (.int .i64 (sd.opn.length : Int)) ∧ w = w' := by
  obtain ⟨Fd, Fr, h1, h2, h3, h4⟩ := h.out.ex
  exact open_any Fd d sd w h1
theorem dx_blocks (h : Hid (DX N w0 w d sd r sr)) : Calls Try.prog 16 #[.pointer (some ⟨d, 0, none⟩)] w fun e w' => e = .returned (.int .i64 (sd.safe.length : Int)) ∧ w = w' := by
  obtain ⟨Fd, Fr, h1, h2, h3, h4⟩ := h.out.ex
  exact blocks_any Fd d sd w h1
/-- What the law reads of the document's disk. -/
theorem dx_head (h : DX N w0 w d sd r sr) : w.cell? ⟨r, 3, none⟩ = some (.bool sr.off) ∧ ∃ A c, w.cell? ⟨r, 2, none⟩ = some (.slice A sr.opn.length c) := by
  obtain ⟨Fd, Fr, h1, h2, h3, h4⟩ := h.ex
  obtain ⟨Y, v, L, H, _, h5⟩ := h2.ex
  obtain ⟨A, c, rfl⟩ := own_form h5
  exact ⟨H.c3, A, c, H.c2⟩
end
theorem DX.okD {N : Nat → Prop} {w0 w : World} {d r : Nat} {sd sr : DS} (h : DX N w0 w d sd r sr) : DOK sd := by
  obtain ⟨Fd, Fr, h1, _⟩ := h.ex
  exact h1.ok
theorem dx_new {N : Nat → Prop} {w0 w w' : World} {d : Nat} {sd : DS} (h : DI N w0 w d sd) {n : Nat} {e : Ending} (p : RNewPost n w e w') : ∃ r, e = .returned (.pointer (some ⟨r, 0, none⟩)) ∧ DX N w0 w' d sd r (dNew n) := by
  obtain ⟨hg, q, hq, he, hd⟩ := p
  obtain ⟨F, h1, h2⟩ := h.ex
  exact ⟨q, he, ⟨F, _, h1.grew hg, hd, fun k hk => ⟨(h2 k hk).1, (h2 k hk).2, fun hb => by have := h1.fit k hk; omega⟩, fun k hk => ⟨Nat.le_trans h.grew.size hk.1, fun hn => by have := h.nlt k hn; omega⟩⟩, grew_trans h.grew hg, fun k hk => Nat.lt_of_lt_of_le (h.nlt k hk) hg.size⟩
end Go.Proofs.Ytgaopkfdbglnmaa.NumK
