/- Two disks side by side; two blocks compared. -/
import Derived.Test.YtgaopkfdbglnmaaWakes06
namespace Go.Proofs.Ytgaopkfdbglnmaa.NumK
open Go.RowKit

theorem equal40 (a b : Blk) (ha : a.length = 64) (hb : b.length = 64) (w : World) : (Op.equalIn 10000 40 (.agg (bytesV a).toArray) (.agg (bytesV b).toArray)).run Try.prog w = .ok (decide (a = b)) w := by
  obtain ⟨i, hi, _⟩ := info_parts info_u8
  exact run_equal_blk w 9998 Try.underlying40 hi Try.underlying5 (by kernel_rfl) a b ha hb
theorem guard40 : Try.prog.eqGuardType Try.prog.depth 40 = false := by kernel_rfl

/-- Two disks, new since w0, that lie apart. -/
structure D2 (w0 w : World) (qa : Nat) (sa : DS) (qb : Nat) (sb : DS) : Prop where
  ex : ∃ Fa Fb, DK w Fa qa sa ∧ DK w Fb qb sb ∧ (∀ k, Fa k → w0.heap.size ≤ k ∧ ¬ Fb k) ∧ ∀ k, Fb k → w0.heap.size ≤ k
  grew : Grew w0 w
theorem D2.swap {w0 w : World} {qa qb : Nat} {sa sb : DS} (h : D2 w0 w qa sa qb sb) : D2 w0 w qb sb qa sa := by
  obtain ⟨Fa, Fb, h1, h2, h3, h4⟩ := h.ex
  exact ⟨⟨Fb, Fa, h2, h1, fun k hk => ⟨h4 k hk, fun ha => (h3 k ha).2 hk⟩, fun k hk => (h3 k hk).1⟩, h.grew⟩
theorem D2.grows {w0 w w' : World} {qa qb : Nat} {sa sb : DS} (h : D2 w0 w qa sa qb sb) (g : Grew w w') : D2 w0 w' qa sa qb sb := by
  obtain ⟨Fa, Fb, h1, h2, h3, h4⟩ := h.ex
  exact ⟨⟨Fa, Fb, h1.grew g, h2.grew g, h3, h4⟩, grew_trans h.grew g⟩
def D2Step (w0 : World) (qa : Nat) (r : Value) (sa : DS) (qb : Nat) (sb : DS) (e : Ending) (w' : World) : Prop := e = .returned r ∧ D2 w0 w' qa sa qb sb
theorem D2.step {w0 w w' : World} {qa qb : Nat} {sb sa' : DS} {Fa Fb : Nat → Prop} (g0 : Grew w0 w) (h2 : DK w Fb qb sb) (h3 : ∀ k, Fa k → w0.heap.size ≤ k ∧ ¬ Fb k) (h4 : ∀ k, Fb k → w0.heap.size ≤ k) {e : Ending} {r : Value} (p : DPost Fa qa w r sa' e w') : D2Step w0 qa r sa' qb sb e w' := by
  obtain ⟨he, hc, hd⟩ := p
  refine ⟨he, ⟨_, Fb, hd, h2.chg hc (fun k hk ha => (h3 k ha).2 hk), fun k hk => ?_, h4⟩, Chg.grew g0 hc (fun k hk => (h3 k hk).1)⟩
  rcases hk with hk | hk
  · exact h3 k hk
  · exact ⟨Nat.le_trans g0.size hk.1, fun hb => by have := h2.fit k hb; omega⟩
theorem d2_new {w0 w w' : World} {qa : Nat} {sa : DS} {N : Nat → Prop} (h : DI N w0 w qa sa) {n : Nat} {e : Ending} (p : NewPost n w e w') : ∃ qb, e = .returned (.tuple #[.pointer (some ⟨qb, 0, none⟩), .int .i64 0]) ∧ D2 w0 w' qa sa qb (dNew n) := by
  obtain ⟨hg, q, hq, he, hd⟩ := p
  obtain ⟨F, h1, h2⟩ := h.ex
  exact ⟨q, he, ⟨F, _, h1.grew hg, hd, fun k hk => ⟨(h2 k hk).1, fun hb => by have := h1.fit k hk; omega⟩, fun k hk => Nat.le_trans h.grew.size hk.1⟩, grew_trans h.grew hg⟩
section
variable {w0 w : World} {qa qb : Nat} {sa sb : DS}
theorem D2.write (h : D2 w0 w qa sa qb sb) (at' : Int) (b : Blk) (hb : b.length = 64) (hn : sa.opn.length ≤ 1000000) :
    Calls Try.prog 19 #[.pointer (some ⟨qa, 0, none⟩), .int .i64 at', blkV' b] w (D2Step w0 qa (.int .i64 (dWrite sa at' b).1) (dWrite sa at' b).2 qb sb) := by
  obtain ⟨Fa, Fb, h1, h2, h3, h4⟩ := h.ex
  exact (write_any Fa qa sa at' b w h1 hb hn).mono fun e w' p => D2.step h.grew h2 h3 h4 p
theorem D2.sync (h : D2 w0 w qa sa qb sb) (hn : sa.opn.length ≤ 1000000) : Calls Try.prog 21 #[.pointer (some ⟨qa, 0, none⟩)] w (D2Step w0 qa (.int .i64 (dSync sa).1) (dSync sa).2 qb sb) := by
  obtain ⟨Fa, Fb, h1, h2, h3, h4⟩ := h.ex
  exact (sync_any Fa qa sa w h1 hn).mono fun e w' p => D2.step h.grew h2 h3 h4 p
theorem D2.arm (h : D2 w0 w qa sa qb sb) (n : Int) (hn : n ≤ 9223372036854775807) : Calls Try.prog 25 #[.pointer (some ⟨qa, 0, none⟩), .int .i64 n] w (D2Step w0 qa (.tuple #[]) (dArm sa n) qb sb) := by
  obtain ⟨Fa, Fb, h1, h2, h3, h4⟩ := h.ex
  exact (arm_any Fa qa sa n hn w h1).mono fun e w' p => D2.step h.grew h2 h3 h4 p
theorem D2.start (h : D2 w0 w qa sa qb sb) (hn : sa.opn.length ≤ 1000000) : Calls Try.prog 23 #[.pointer (some ⟨qa, 0, none⟩)] w (D2Step w0 qa (.tuple #[]) (dStart sa) qb sb) := by
  obtain ⟨Fa, Fb, h1, h2, h3, h4⟩ := h.ex
  exact (start_any Fa qa sa w h1 hn).mono fun e w' p => D2.step h.grew h2 h3 h4 p
theorem D2.crash (h : D2 w0 w qa sa qb sb) (A : Option Addr) (pn pc : Nat) (zs : List Int) (hp : Ints w0 A pn zs) (hpn : pn ≤ 9223372036854775807) (hn : sa.opn.length ≤ 1000000) :
    Calls Try.prog 22 #[.pointer (some ⟨qa, 0, none⟩), .slice A pn pc] w (D2Step w0 qa (.tuple #[]) (dCrash sa zs) qb sb) := by
  obtain ⟨Fa, Fb, h1, h2, h3, h4⟩ := h.ex
  refine (crash_any Fa qa sa A pn pc zs w h1 (hp.keep h.grew) (fun a e h0 hf => ?_) hpn hn).mono fun e w' p => D2.step h.grew h2 h3 h4 p
  obtain ⟨b, o, e2, hb, _⟩ := hp.2 h0
  rw [e] at e2
  cases e2
  have := h3 _ hf
  have : b < w0.heap.size := hb
  have : w0.heap.size ≤ b := (h3 _ hf).1
  omega
theorem D2.read (h : D2 w0 w qa sa qb sb) (at' : Int) : Calls Try.prog 17 #[.pointer (some ⟨qa, 0, none⟩), .int .i64 at'] w fun e w' => e = .returned (readV (dRead sa at')) ∧ Grew w w' := by
  obtain ⟨Fa, Fb, h1, h2, h3, h4⟩ := h.ex
  exact read_any Fa qa sa at' w h1
theorem D2.opens (h : D2 w0 w qa sa qb sb) : Calls Try.prog 15 #[.pointer (some ⟨qa, 0, none⟩)] w fun e w' => e = .returned (.int .i64 (sa.opn.length : Int)) ∧ w = w' := by
  obtain ⟨Fa, Fb, h1, h2, h3, h4⟩ := h.ex
  exact open_any Fa qa sa w h1
theorem D2.off (h : D2 w0 w qa sa qb sb) : Calls Try.prog 14 #[.pointer (some ⟨qa, 0, none⟩)] w fun e w' => e = .returned (.bool sa.off) ∧ w = w' := by
  obtain ⟨Fa, Fb, h1, h2, h3, h4⟩ := h.ex
  exact off_any Fa qa sa w h1
theorem D2.blocks (h : D2 w0 w qa sa qb sb) : Calls Try.prog 16 #[.pointer (some ⟨qa, 0, none⟩)] w fun e w' => e = .returned (.int .i64 (sa.safe.length : Int)) ∧ w = w' := by
  obtain ⟨Fa, Fb, h1, h2, h3, h4⟩ := h.ex
  exact blocks_any Fa qa sa w h1
theorem D2.okA (h : D2 w0 w qa sa qb sb) : DOK sa := by
  obtain ⟨Fa, Fb, h1, _⟩ := h.ex
  exact h1.ok
end
/-- A block that is read is a block. -/
theorem dRead_len {s : DS} (h : DOK s) (at' : Int) : (dRead s at').1.length = 64 := by
  by_cases hr : refI s at' = 0
  · obtain ⟨ho, k, rfl, hk⟩ := has_of hr
    rw [dRead_of ho hk]
    have hl : k < (cont s).length := by rw [cont_len]; exact hk
    have hall : ∀ (l : List (Nat × Blk)) (safe : List Blk), (∀ b ∈ safe, b.length = 64) → (∀ w ∈ l, w.2.length = 64) → ∀ b ∈ applyL safe l, b.length = 64 := by
      intro l
      induction l with
      | nil => intro safe h _ b hb; exact h b hb
      | cons x r ih =>
        intro safe h hl b hb
        refine ih (safe.set x.1 x.2) (fun y hy => ?_) (fun y hy => hl y (by simp [hy])) b hb
        rcases List.mem_or_eq_of_mem_set hy with hy | rfl
        · exact h y hy
        · exact hl x (by simp)
    refine hall s.opn s.safe h.all.1 (fun w hw => (h.all.2 w hw).2) _ ?_
    show (cont s).getD k blk0 ∈ cont s
    simp only [List.getD, List.getElem?_eq_getElem hl, Option.getD_some]
    exact List.getElem_mem hl
  · rw [dRead_not hr]; rfl
theorem dSync_on {s : DS} (ho : s.off = false) (ha : s.armed = 0) : dSync s = (0, syncS s) := by
  have : dLast s = (false, s) := by unfold dLast; rw [if_pos ha]
  have h2 := dSync_of (s := s) ho (by rw [this])
  rw [h2, this]
theorem dWrite_on {s : DS} {k : Nat} {b : Blk} (ho : s.off = false) (ha : s.armed = 0) (hk : k < s.safe.length) : dWrite s (k : Int) b = (0, wrS s k b) := by
  have : dLast (wrS s k b) = (false, wrS s k b) := by unfold dLast; rw [if_pos (show (wrS s k b).armed = 0 from ha)]
  rw [dWrite_of ho hk, this]; rfl
end Go.Proofs.Ytgaopkfdbglnmaa.NumK
