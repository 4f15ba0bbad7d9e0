/- A disk of a law's own, beside what the law holds besides; what the laws of stage 6 wake. -/
import Derived.Test.YtgaopkfdbglnmaaDiskM
namespace Go.Proofs.Ytgaopkfdbglnmaa.NumK
open Go.RowKit

/-- A disk that is new since w0 and lies in none of the blocks N. -/
structure DI (N : Nat → Prop) (w0 w : World) (q : Nat) (s : DS) : Prop where
  ex : ∃ F, DK w F q s ∧ ∀ k, F k → w0.heap.size ≤ k ∧ ¬ N k
  grew : Grew w0 w
  nlt : ∀ k, N k → k < w.heap.size
def Mine (N : Nat → Prop) (w0 : World) : Nat → Prop := fun k => w0.heap.size ≤ k ∧ ¬ N k
def DStep (N : Nat → Prop) (w0 w : World) (q : Nat) (r : Value) (s : DS) (e : Ending) (w' : World) : Prop := e = .returned r ∧ DI N w0 w' q s ∧ Chg (Mine N w0) w w'
theorem DI.step {N : Nat → Prop} {w0 w : World} {q : Nat} {s s' : DS} {r : Value} {F : Nat → Prop} (h : DI N w0 w q s) (hF : ∀ k, F k → w0.heap.size ≤ k ∧ ¬ N k) {e : Ending} {w' : World} (p : DPost F q w r s' e w') : DStep N w0 w q r s' e w' := by
  obtain ⟨he, hc, hd⟩ := p
  refine ⟨he, ⟨⟨_, hd, fun k hk => ?_⟩, Chg.grew h.grew hc (fun k hk => (hF k hk).1), fun k hk => Nat.lt_of_lt_of_le (h.nlt k hk) hc.size⟩, hc.mono fun k hk => hF k hk⟩
  rcases hk with hk | hk
  · exact hF k hk
  · exact ⟨Nat.le_trans h.grew.size hk.1, fun hn => by have := h.nlt k hn; omega⟩
/-- Steps of the law's own. -/
theorem DI.keep {N : Nat → Prop} {w0 w w' : World} {q : Nat} {s : DS} (h : DI N w0 w q s) (g : Chg (fun k => N k ∧ w0.heap.size ≤ k) w w') : DI N w0 w' q s := by
  obtain ⟨F, hd, hF⟩ := h.ex
  exact ⟨⟨F, hd.chg g (fun k hk hg => (hF k hk).2 hg.1), hF⟩, Chg.grew h.grew g (fun k hk => hk.2), fun k hk => Nat.lt_of_lt_of_le (h.nlt k hk) g.size⟩
theorem DI.grows {N : Nat → Prop} {w0 w w' : World} {q : Nat} {s : DS} (h : DI N w0 w q s) (g : Grew w w') : DI N w0 w' q s := h.keep g.chg
/-- A block more that is not the disk's. -/
theorem DI.beside {N : Nat → Prop} {w0 w : World} {q : Nat} {s : DS} (h : DI N w0 w q s) (B : Nat) (t : Obj) (hB : B = w.heap.size) : DI (fun k => N k ∨ k = B) w0 (w.alloc t) q s := by
  obtain ⟨F, hd, hF⟩ := h.ex
  have ga : Chg (fun _ => False) w (w.alloc t) := (Chg.refl _ _).alloc t
  refine ⟨⟨F, hd.chg ga (fun _ _ h => h), fun k hk => ⟨(hF k hk).1, fun hn => ?_⟩⟩, Chg.grew h.grew ga (fun k hk => hk.elim), fun k hk => ?_⟩
  · rcases hn with hn | rfl
    · exact (hF k hk).2 hn
    · have := hd.fit k hk; omega
  · rcases hk with hk | rfl
    · have := h.nlt k hk; simp; omega
    · simp; omega
theorem di_new {N : Nat → Prop} {w0 w : World} (g : Grew w0 w) (hN : ∀ k, N k → k < w.heap.size) {n : Nat} {e : Ending} {w' : World} (p : NewPost n w e w') : ∃ q, e = .returned (.tuple #[.pointer (some ⟨q, 0, none⟩), .int .i64 0]) ∧ DI N w0 w' q (dNew n) ∧ Grew w w' := by
  obtain ⟨hg, q, hq, he, hd⟩ := p
  exact ⟨q, he, ⟨⟨_, hd, fun k hk => ⟨Nat.le_trans g.size hk.1, fun hn => by have := hN k hn; omega⟩⟩, grew_trans g hg, fun k hk => Nat.lt_of_lt_of_le (hN k hk) hg.size⟩, hg⟩

section
variable {N : Nat → Prop} {w0 w : World} {q : Nat} {s : DS}
theorem DI.write (h : DI N w0 w q s) (at' : Int) (b : Blk) (hb : b.length = 64) (hn : s.opn.length ≤ 1000000) :
    Calls Try.prog 19 #[.pointer (some ⟨q, 0, none⟩), .int .i64 at', blkV' b] w (DStep N w0 w q (.int .i64 (dWrite s at' b).1) (dWrite s at' b).2) := by
  obtain ⟨F, hd, hF⟩ := h.ex
  exact (write_any F q s at' b w hd hb hn).mono fun e w' p => h.step hF p
theorem DI.sync (h : DI N w0 w q s) (hn : s.opn.length ≤ 1000000) : Calls Try.prog 21 #[.pointer (some ⟨q, 0, none⟩)] w (DStep N w0 w q (.int .i64 (dSync s).1) (dSync s).2) := by
  obtain ⟨F, hd, hF⟩ := h.ex
  exact (sync_any F q s w hd hn).mono fun e w' p => h.step hF p
theorem DI.arm (h : DI N w0 w q s) (n : Int) (hn : n ≤ 9223372036854775807) : Calls Try.prog 25 #[.pointer (some ⟨q, 0, none⟩), .int .i64 n] w (DStep N w0 w q (.tuple #[]) (dArm s n)) := by
  obtain ⟨F, hd, hF⟩ := h.ex
  exact (arm_any F q s n hn w hd).mono fun e w' p => h.step hF p
theorem DI.start (h : DI N w0 w q s) (hn : s.opn.length ≤ 1000000) : Calls Try.prog 23 #[.pointer (some ⟨q, 0, none⟩)] w (DStep N w0 w q (.tuple #[]) (dStart s)) := by
  obtain ⟨F, hd, hF⟩ := h.ex
  exact (start_any F q s w hd hn).mono fun e w' p => h.step hF p
/-- The picks are the law's own, or came in. -/
theorem DI.crash (h : DI N w0 w q s) (A : Option Addr) (pn pc : Nat) (zs : List Int) (hp : Ints w A pn zs) (hA : ∀ a, A = some a → 0 < pn → a.block < w0.heap.size ∨ N a.block) (hpn : pn ≤ 9223372036854775807) (hn : s.opn.length ≤ 1000000) :
    Calls Try.prog 22 #[.pointer (some ⟨q, 0, none⟩), .slice A pn pc] w (DStep N w0 w q (.tuple #[]) (dCrash s zs)) := by
  obtain ⟨F, hd, hF⟩ := h.ex
  refine (crash_any F q s A pn pc zs w hd hp (fun a e h0 hf => ?_) hpn hn).mono fun e w' p => h.step hF p
  have := hF _ hf
  rcases hA a e h0 with h1 | h1
  · omega
  · exact this.2 h1
theorem DI.read (h : DI N w0 w q s) (at' : Int) : Calls Try.prog 17 #[.pointer (some ⟨q, 0, none⟩), .int .i64 at'] w fun e w' => e = .returned (readV (dRead s at')) ∧ Grew w w' := by
  obtain ⟨F, hd, hF⟩ := h.ex
  exact read_any F q s at' w hd
theorem DI.off (h : DI N w0 w q s) : Calls Try.prog 14 #[.pointer (some ⟨q, 0, none⟩)] w fun e w' => e = .returned (.bool s.off) ∧ w = w' := by
  obtain ⟨F, hd, hF⟩ := h.ex
  exact off_any F q s w hd
theorem DI.blocks (h : DI N w0 w q s) : Calls Try.prog 16 #[.pointer (some ⟨q, 0, none⟩)] w fun e w' => e = .returned (.int .i64 (s.safe.length : Int)) ∧ w = w' := by
  obtain ⟨F, hd, hF⟩ := h.ex
  exact blocks_any F q s w hd
theorem DI.opens (h : DI N w0 w q s) : Calls Try.prog 15 #[.pointer (some ⟨q, 0, none⟩)] w fun e w' => e = .returned (.int .i64 (s.opn.length : Int)) ∧ w = w' := by
  obtain ⟨F, hd, hF⟩ := h.ex
  exact open_any F q s w hd
end
theorem DI.ok {N : Nat → Prop} {w0 w : World} {q : Nat} {s : DS} (h : DI N w0 w q s) : DOK s := by
  obtain ⟨F, hd, _⟩ := h.ex
  exact hd.ok
end Go.Proofs.Ytgaopkfdbglnmaa.NumK
