/-
  For every snapshot, records and syncs: records that are appended at once, or one by one, or synced in between, are the same records, in the same blocks (P7.3); inputs beyond the sizes that the statement names it lets by.
-/
import Derived.Test.YthmdbfbhcnjghaaRJnN
import Derived.Test.YthmdbfbhcnjghaaRDiskJ
import Derived.Test.YthmdbfbhcnjghaaRGrd
import Derived.Test.YthmdbfbhcnjghaaRFrame
import Derived.Test.YthmdbfbhcnjghaaRows
import Derived.WalkKit
import Derived.ProofKit
import Derived.OpenShut
import Derived.ShutString
import Derived.ChangeOld
import Derived.Below
import Derived.Carry
import Derived.SizedLaws
namespace Go.Proofs.Ythmdbfbhcnjghaa.NumK
open Go.RowKit

/-! ### two logs side by side -/
structure J2 (w0 w : World) (la qa : Nat) (sa : DS) (ma : LS) (lb qb : Nat) (sb : DS) (mb : LS) : Prop where
  ex : ∃ Fa Fb, JK w Fa la qa sa ma ∧ JK w Fb lb qb sb mb ∧ (∀ k, Fa k → w0.heap.size ≤ k ∧ ¬ Fb k) ∧ ∀ k, Fb k → w0.heap.size ≤ k
  grew : Grew w0 w
theorem J2.swap {w0 w : World} {la qa lb qb : Nat} {sa sb : DS} {ma mb : LS} (h : J2 w0 w la qa sa ma lb qb sb mb) : J2 w0 w lb qb sb mb la qa sa ma := by
  obtain ⟨Fa, Fb, h1, h2, h3, h4⟩ := h.ex
  exact ⟨⟨Fb, Fa, h2, h1, fun k hk => ⟨h4 k hk, fun ha => (h3 k ha).2 hk⟩, fun k hk => (h3 k hk).1⟩, h.grew⟩
theorem J2.grows {w0 w w' : World} {la qa lb qb : Nat} {sa sb : DS} {ma mb : LS} (h : J2 w0 w la qa sa ma lb qb sb mb) (g : Grew w w') : J2 w0 w' la qa sa ma lb qb sb mb := by
  obtain ⟨Fa, Fb, h1, h2, h3, h4⟩ := h.ex
  exact ⟨⟨Fa, Fb, h1.grew g, h2.grew g, h3, h4⟩, grew_trans h.grew g⟩
def J2Out (w0 : World) (r : Int) (la qa : Nat) (sa : DS) (ma : LS) (lb qb : Nat) (sb : DS) (mb : LS) (e : Ending) (w' : World) : Prop := e = .returned (.int .i64 r) ∧ J2 w0 w' la qa sa ma lb qb sb mb
theorem J2.step {w0 w w' : World} {la qa lb qb : Nat} {sb sa' : DS} {mb ma' : LS} {Fa Fb : Nat → Prop} {r : Int} (g0 : Grew w0 w) (h2 : JK w Fb lb qb sb mb) (h3 : ∀ k, Fa k → w0.heap.size ≤ k ∧ ¬ Fb k) (h4 : ∀ k, Fb k → w0.heap.size ≤ k) {e : Ending}
    (p : JPost Fa la qa w (.int .i64 r) sa' ma' e w') (ho : sa'.off = false) : J2Out w0 r la qa sa' ma' lb qb sb mb e w' := by
  obtain ⟨he, hc, _, hj⟩ := p
  refine ⟨he, ⟨FX Fa w w', Fb, hj ho, h2.chg hc (fun k hk ha => (h3 k ha).2 hk), fun k hk => ?_, h4⟩, Chg.grew g0 hc (fun k hk => (h3 k hk).1)⟩
  rcases hk with hk | hk
  · exact h3 k hk
  · exact ⟨Nat.le_trans g0.size hk.1, fun hb => by have := h2.fit k hb; omega⟩
section
variable {w0 w : World} {la qa lb qb : Nat} {sa sb sa' : DS} {ma mb ma' : LS} {r : Int}
theorem J2.begin (h : J2 w0 w la qa sa ma lb qb sb mb) (p : List UInt8) (A : Option Addr) (n c : Nat) (hp : Bys w0 A n p) (hA : A = none → c = 0) (hc : n ≤ c) (hcn : n ≤ 140737488355328) (hn : sa.opn.length ≤ 500000) (e : lBegin sa ma p = (r, sa', ma')) (ho : sa'.off = false) :
    Calls Try.prog 29 #[.pointer (some ⟨la, 0, none⟩), .slice A n c] w (J2Out w0 r la qa sa' ma' lb qb sb mb) := by
  obtain ⟨Fa, Fb, h1, h2, h3, h4⟩ := h.ex
  refine (beginJ_any Fa la qa sa ma p A n c w h1 (hp.keep h.grew) hA hc (fun a ha h0 hf => ?_) hcn hn).mono fun e2 w' p2 => ?_
  · have := hp.old a ha h0; have := (h3 _ hf).1; omega
  · rw [e] at p2
    exact J2.step h.grew h2 h3 h4 p2 ho
theorem J2.append {w' : World} (h : J2 w0 w la qa sa ma lb qb sb mb) (g : Grew w w') (ls : List (List UInt8)) (A : Option Addr) (n c : Nat) (hB : ∀ M : Nat → Prop, (∀ k, M k → w0.heap.size ≤ k ∧ (k < w.heap.size ∨ w'.heap.size ≤ k)) → RowsS M w' A n ls) (hn : n ≤ 1000000) (hno : sa.opn.length ≤ 500000)
    (hb : ma.begun = true) (hr : refV (roomD sa - ma.fin) ls = 0) (hof : sa.off = false) (e : lAppend sa ma ls = (r, sa', ma')) (ho : sa'.off = false) :
    Calls Try.prog 30 #[.pointer (some ⟨la, 0, none⟩), .slice A n c] w' (J2Out w0 r la qa sa' ma' lb qb sb mb) := by
  obtain ⟨Fa, Fb, h1, h2, h3, h4⟩ := h.ex
  refine (appendJ_go Fa la qa sa ma ls A n c w' (h1.grew g) (hB _ fun k hk => ?_) hn hb hr hof hno).mono fun e2 w2 p2 => ?_
  · rcases hk with hk | hk
    · exact ⟨(h3 k hk).1, Or.inl (h1.fit k hk)⟩
    · exact ⟨Nat.le_trans (Nat.le_trans h.grew.size g.size) hk, Or.inr hk⟩
  · rw [e] at p2
    exact J2.step (grew_trans h.grew g) (h2.grew g) h3 h4 p2 ho
theorem J2.sync (h : J2 w0 w la qa sa ma lb qb sb mb) (hn : sa.opn.length ≤ 1000000) (e : dSync sa = (r, sa')) (ho : sa'.off = false) :
    Calls Try.prog 31 #[.pointer (some ⟨la, 0, none⟩)] w (J2Out w0 r la qa sa' ma lb qb sb mb) := by
  obtain ⟨Fa, Fb, h1, h2, h3, h4⟩ := h.ex
  refine (syncJ_any Fa la qa sa ma w h1 hn).mono fun e2 w2 p2 => ?_
  rw [e] at p2
  exact J2.step h.grew h2 h3 h4 p2 ho
theorem J2.d2 (h : J2 w0 w la qa sa ma lb qb sb mb) : D2 w0 w qa sa qb sb := by
  obtain ⟨Fa, Fb, h1, h2, h3, h4⟩ := h.ex
  obtain ⟨Da, Ga, a1, a2, a3, a4⟩ := h1.ex
  obtain ⟨Db, Gb, b1, b2, b3, b4⟩ := h2.ex
  exact ⟨⟨Da, Db, a1, b1, fun k hk => ⟨(h3 k (a3 k hk).1).1, fun hb => (h3 k (a3 k hk).1).2 (b3 k hb).1⟩, fun k hk => h4 k (b3 k hk).1⟩, h.grew⟩
theorem J2.recs (h : J2 w0 w la qa sa ma lb qb sb mb) : Calls Try.prog 27 #[.pointer (some ⟨la, 0, none⟩)] w (RecsPost ma.recs w) := by
  obtain ⟨Fa, Fb, h1, h2, h3, h4⟩ := h.ex
  exact (show JI (fun _ => False) w0 w la qa sa ma from ⟨⟨Fa, h1, fun k hk => ⟨(h3 k hk).1, fun h => h.elim⟩⟩, h.grew, fun _ h => h.elim⟩).recs
end
/-- Both are opened. -/
def M2 (w0 w : World) (la qa : Nat) (sa : DS) (ma : LS) (qb : Nat) (sb : DS) : Prop := (∃ Fa Fb, JK w Fa la qa sa ma ∧ DK w Fb qb sb ∧ (∀ k, Fa k → w0.heap.size ≤ k ∧ ¬ Fb k) ∧ ∀ k, Fb k → w0.heap.size ≤ k) ∧ Grew w0 w
theorem D2.openA {w0 w : World} {qa qb : Nat} {sa sb : DS} (h : D2 w0 w qa sa qb sb) (ho : lOpen sa = 0) : Calls Try.prog 23 #[.pointer (some ⟨qa, 0, none⟩)] w fun e w' => ∃ la, e = .returned (.tuple #[.pointer (some ⟨la, 0, none⟩), .int .i64 0]) ∧ M2 w0 w' la qa sa (lPick sa) qb sb := by
  obtain ⟨Fa, Fb, h1, h2, h3, h4⟩ := h.ex
  refine (openJ_any Fa qa sa w h1).mono fun e w' p => ?_
  obtain ⟨g, p | p⟩ := p
  · exact absurd ho p.1
  · obtain ⟨_, la, he, hl, hj⟩ := p
    refine ⟨la, he, ⟨_, Fb, hj, h2.grew g, fun k hk => ?_, h4⟩, grew_trans h.grew g⟩
    rcases hk with hk | hk
    · exact h3 k hk
    · exact ⟨Nat.le_trans h.grew.size hk.1, fun hb => by have := h2.fit k hb; omega⟩
theorem M2.openB {w0 w : World} {la qa qb : Nat} {sa sb : DS} {ma : LS} (h : M2 w0 w la qa sa ma qb sb) (ho : lOpen sb = 0) : Calls Try.prog 23 #[.pointer (some ⟨qb, 0, none⟩)] w fun e w' => ∃ lb, e = .returned (.tuple #[.pointer (some ⟨lb, 0, none⟩), .int .i64 0]) ∧ J2 w0 w' la qa sa ma lb qb sb (lPick sb) := by
  obtain ⟨⟨Fa, Fb, h1, h2, h3, h4⟩, hg⟩ := h
  refine (openJ_any Fb qb sb w h2).mono fun e w' p => ?_
  obtain ⟨g, p | p⟩ := p
  · exact absurd ho p.1
  · obtain ⟨_, lb, he, hl, hj⟩ := p
    refine ⟨lb, he, ⟨Fa, _, h1.grew g, hj, fun k hk => ⟨(h3 k hk).1, fun hb => ?_⟩, fun k hk => ?_⟩, grew_trans hg g⟩
    · rcases hb with hb | hb
      · exact (h3 k hk).2 hb
      · have := h1.fit k hk; omega
    · rcases hk with hk | hk
      · exact h4 k hk
      · exact Nat.le_trans hg.size hk.1

theorem RowsB.staysM {M : Nat → Prop} {w0 w : World} {A : Option Addr} {n : Nat} {ls : List (List UInt8)} (h : RowsB w0 A n ls) (g : Grew w0 w) (hM : ∀ k, M k → w0.heap.size ≤ k) : RowsS M w A n ls :=
  ⟨h.1, fun hn => by
    obtain ⟨b, o, e, hb, hc⟩ := h.2 hn
    refine ⟨b, o, e, Nat.lt_of_lt_of_le hb g.size, fun j hj => ?_⟩
    obtain ⟨A1, n1, c1, h1, h2, h3, h4⟩ := hc j hj
    refine ⟨A1, n1, c1, fun w' c => ?_, h3, h4⟩
    have gw : Grew w0 w' := Chg.grew g c hM
    exact ⟨(grew_cell gw (p := ⟨b, o + j, none⟩) hb).trans h1, h2.keep gw⟩⟩
/-! ### in the model -/
/-- The second log behind i records. -/
structure PB (s1 sb : DS) (p : List UInt8) (ls : List (List UInt8)) (i : Nat) : Prop where
  ex : ∃ w r, w ++ r = ls.take i ∧ LL sb 0 1 p w r
  len : sb.safe.length = 300
  far : ∀ k, k < 150 → sb.safe.getD (150 + k) blk0 = s1.safe.getD (150 + k) blk0
theorem PB.room {s1 sb : DS} {p : List UInt8} {ls : List (List UInt8)} {i : Nat} (h : PB s1 sb p ls i) : roomD sb = 150 := by unfold roomD; rw [h.len]
theorem PB.fits {s1 sb : DS} {p : List UInt8} {ls : List (List UInt8)} {i : Nat} (h : PB s1 sb p ls i) (hp : p.length ≤ 300) (hl : ls.length ≤ 20) (h3 : ∀ l ∈ ls, l.length ≤ 300) (hi : i < ls.length) :
    spanL (p :: ls.take i) + spanL [ls.getD i []] ≤ roomD sb := by
  rw [h.room]
  have h4 := spanL_few ls h3
  have h5 := spanL_take_le ls (i + 1)
  rw [take_snocR ls i hi, spanL_append] at h5
  simp only [spanL] at *
  have : nbk (p.length + 21) ≤ 6 := by unfold nbk; omega
  omega
theorem PB.append {s1 sb : DS} {p : List UInt8} {ls : List (List UInt8)} {i : Nat} (h : PB s1 sb p ls i) (hp : p.length ≤ 300) (hl : ls.length ≤ 20) (h3 : ∀ l ∈ ls, l.length ≤ 300) (hi : i < ls.length) :
    ∃ s', lAppend sb (lgL 0 1 p (ls.take i) true) [ls.getD i []] = (0, s', lgL 0 1 p (ls.take (i + 1)) true) ∧ PB s1 s' p ls (i + 1) := by
  have hf := h.fits hp hl h3 hi
  obtain ⟨w, r, e, L⟩ := h.ex
  have hmem : ls.getD i [] ∈ ls := by
    rw [List.getD_eq_getElem?_getD, List.getElem?_eq_getElem hi]
    exact List.getElem_mem _
  have h4 := h3 _ hmem
  obtain ⟨s', e2, L2, f2⟩ := L.append [ls.getD i []] (by simp; simp [List.getD_eq_getElem?_getD] at h4; omega) (by rw [e]; exact hf)
  rw [e, ← List.append_assoc, e, ← take_snocR ls i hi] at e2
  exact ⟨s', e2, ⟨w, r ++ [ls.getD i []], by rw [← List.append_assoc, e, take_snocR ls i hi], L2⟩, by rw [f2, h.len], fun k hk => by rw [f2, h.far k hk]⟩
theorem PB.sync {s1 sb : DS} {p : List UInt8} {ls : List (List UInt8)} {i : Nat} (h : PB s1 sb p ls i) : ∃ s', dSync sb = (0, s') ∧ PB s1 s' p ls i := by
  obtain ⟨w, r, e, L⟩ := h.ex
  obtain ⟨s', e3, L3, o3, k3, f3⟩ := L.sync
  refine ⟨s', e3, ⟨w ++ r, [], by rw [List.append_nil, e], L3⟩, by rw [k3, h.len], fun k hk => ?_⟩
  have hr := h.room
  have a2 := L.lg.see_other L.all k (by rw [hr]; exact hk)
  rw [hr] at a2
  simp only [Nat.sub_zero, Nat.one_mul] at a2
  rw [f3, applyL_see _ _ _ (by rw [h.len]; omega)]
  have a3 : seeL (sb.safe.getD (150 + k) blk0) sb.opn (150 + k) = sb.see (150 + k) := rfl
  rw [a3, a2, h.far k hk]
theorem LL.blocks {s : DS} {p : List UInt8} {w r : List (List UInt8)} (L : LL s 0 1 p w r) (hk : s.safe.length = 300) (k : Nat) (h : k < 300) :
    dRead s (k : Int) = (if k < 150 then (rowsL 1 0 (p :: (w ++ r))).getD k blk0 else s.safe.getD k blk0, 0) := by
  have hr : roomD s = 150 := by unfold roomD; rw [hk]
  rw [dRead_of L.on (by rw [hk]; exact h)]
  unfold cont
  rw [applyL_see _ _ _ (by rw [hk]; exact h)]
  have a3 : seeL (s.safe.getD k blk0) s.opn k = s.see k := rfl
  rw [a3]
  by_cases hc : k < 150
  · rw [if_pos hc]
    have a2 := L.lg.see_half L.all k (by rw [hr]; exact hc)
    rw [hr, Nat.zero_mul, Nat.zero_add] at a2
    rw [a2]
  · rw [if_neg hc]
    have a2 := L.lg.see_other L.all (k - 150) (by rw [hr]; omega)
    rw [hr] at a2
    simp only [Nat.sub_zero, Nat.one_mul] at a2
    rw [show 150 + (k - 150) = k by omega] at a2
    rw [a2]
theorem refV_ok {room fin : Nat} {ls : List (List UInt8)} (h1 : ∀ l ∈ ls, l.length ≤ 65536) (h2 : fin + spanL ls ≤ room) : refV (room - fin) ls = 0 := by
  unfold refV
  rw [if_neg (fun ⟨r, h3, h4⟩ => by have := h1 r h3; omega), if_neg (by omega)]
set_option maxRecDepth 100000 in
set_option maxHeartbeats 8000000 in
theorem logParts_walk (A0 A1 A2 : Option Addr) (n0 n1 n2 c0 c1 c2 : Nat) (p : List UInt8) (ls : List (List UInt8)) (ys : List Bool) (W : World) (b0 : Bys W A0 n0 p) (a0 : A0 = none → c0 = 0) (m0 : n0 ≤ c0) (b1 : RowsB W A1 n1 ls) (i2 : Bols W A2 n2 ys) :
    Calls Try.prog 9 #[.slice A0 n0 c0, .slice A1 n1 c1, .slice A2 n2 c2] W fun e w' => e = .returned (.bool true) ∧ Grew W w' := by
  have CF := Lib.hid (few_any A1 n1 c1 ls W b1)
  by_cases h0 : 300 < n0
  · have d0 : (300 : Int) < (n0 : Int) := by omega
    clear CF b0 b1 i2
    go_enter Try.func9, Try.ntmps9
    go_wp2
    go_ret
    exact ⟨rfl, grew_refl _⟩
  have d0 : ¬ (300 : Int) < (n0 : Int) := by omega
  cases hf : fewB ls with
  | false =>
    rw [hf] at CF
    clear b0 b1 i2
    go_enter Try.func9, Try.ntmps9
    go_wp2_with (go_at_call 22; ((with_reducible refine CF.out.mono ?_); rintro e w1 ⟨rfl, hg⟩; have G1 := Lib.hid hg; clear hg))
    go_ret
    exact ⟨rfl, G1.out⟩
  | true =>
  rw [hf] at CF
  have hfew : ls.length ≤ 20 ∧ ∀ l ∈ ls, l.length ≤ 300 := of_decide_eq_true hf
  by_cases h2 : 100 < n2
  · have d2 : (100 : Int) < (n2 : Int) := by omega
    clear b0 b1 i2 hf hfew
    go_enter Try.func9, Try.ntmps9
    go_wp2_with (go_at_call 22; ((with_reducible refine CF.out.mono ?_); rintro e w1 ⟨rfl, hg⟩; have G1 := Lib.hid hg; clear hg))
    go_ret
    exact ⟨rfl, G1.out⟩
  have d2 : ¬ (100 : Int) < (n2 : Int) := by omega
  have hp : p.length = n0 := b0.1
  have hln : ls.length = n1 := b1.1
  have hsp := spanL_few ls hfew.2
  have h65 : ∀ l ∈ ls, l.length ≤ 65536 := fun l hl => by have := hfew.2 l hl; omega
  obtain ⟨s1, e1, L1, o1, k1⟩ := LL.first 300 p (by omega) (by omega) (by unfold nbk; omega)
  have r1 : roomD s1 = 150 := by unfold roomD; rw [k1]
  have hfit : spanL [p] + spanL ls ≤ roomD s1 := by rw [r1]; simp only [spanL]; unfold nbk; omega
  obtain ⟨s2, e2, L2, f2⟩ := L1.append ls h65 (by simpa using hfit)
  simp only [List.nil_append] at e2 L2
  have PB0 : PB s1 s1 p ls 0 := ⟨⟨[], [], rfl, L1⟩, k1, fun _ _ => rfl⟩
  have CN : Hid (∀ w, Grew W w → Calls Try.prog 12 #[.int .i64 300] w fun e w' => ∃ q, e = .returned (.tuple #[.pointer (some ⟨q, 0, none⟩), .int .i64 0]) ∧ DI N0 W w' q (dNew 300)) := fun w g => (newD 300 w (by omega) (by omega)).mono fun e w' ⟨q, h1, h2⟩ => ⟨q, h1, h2.from g⟩
  have CN2 : Hid (∀ w q, DI N0 W w q (dNew 300) → Calls Try.prog 12 #[.int .i64 300] w fun e w' => ∃ q2, e = .returned (.tuple #[.pointer (some ⟨q2, 0, none⟩), .int .i64 0]) ∧ D2 W w' q (dNew 300) q2 (dNew 300)) := fun w q h => (new_any 300 w (by omega) (by omega)).mono fun e w' hp => d2_new h hp
  have CO := Lib.hid (fun w1 qa qb (h : D2 W w1 qa (dNew 300) qb (dNew 300)) => h.openA (lOpen_ok rfl (by rw [dNew_len]; omega)))
  have CO2 := Lib.hid (fun w1 la qa qb (h : M2 W w1 la qa (dNew 300) (lPick (dNew 300)) qb (dNew 300)) => h.openB (lOpen_ok rfl (by rw [dNew_len]; omega)))
  have CB := Lib.hid (fun w1 la qa lb qb mb sb (h : J2 W w1 la qa (dNew 300) (lPick (dNew 300)) lb qb sb mb) => h.begin p A0 n0 c0 b0 a0 m0 (by omega) (by simp [dNew]) e1 L1.on)
  have CA := Lib.hid (fun w1 la qa lb qb mb sb (h : J2 W w1 la qa s1 (lgL 0 1 p [] true) lb qb sb mb) => h.append (grew_refl _) ls A1 n1 c1 (fun M hM => RowsB.staysM b1 h.grew (fun k hk => (hM k hk).1)) (by omega) (by rw [o1]; simp) rfl (refV_ok h65 hfit) L1.on e2 L2.on)
  have CR := Lib.hid (fun w1 la qa lb qb sa ma mb sb (h : J2 W w1 la qa sa ma lb qb sb mb) => h.recs)
  have CKR := Lib.hid (fun (A B : Option Addr) (n m c c2 : Nat) (xs ys : List (List UInt8)) w hx hy hn hm => keepRows_any A B n m c c2 xs ys w hx hy hn hm)
  have CW := Lib.hid (fun w => wakes07_any w)
  have B1 := Lib.hid b1
  have I2 := Lib.hid i2
  have HLL := Lib.hid hln
  have HPL := Lib.hid hp
  have HFEW := Lib.hid hfew
  have HPB := Lib.hid PB0
  have H2 := Lib.hid L2
  have HK2 : Hid (s2.safe = s1.safe) := f2
  have HK1 := Lib.hid k1
  have hn1 : n1 ≤ 20 := by omega
  have hn0 : n0 ≤ 300 := by omega
  clear e1 L1 o1 k1 r1 e2 L2 f2 b0 b1 i2 hp hln hsp hfew hf h65 hfit PB0
  obtain ⟨ZZ, hZZ⟩ : ∃ ZZ, ZZ = (bytesV blk0).toArray := ⟨_, rfl⟩
  have hz := fun w => zero40 w
  rw [← hZZ] at hz
  have HZZ := Lib.hid hZZ
  clear hZZ
  go_enter Try.func9, Try.ntmps9
  go_upto_region 12 with (first
    | (go_at_call 22; ((with_reducible refine CF.out.mono ?_); rintro e w0 ⟨rfl, hg⟩; have G1 := Lib.hid hg; clear hg CF))
    | (go_at_call 12; ((with_reducible refine (CN2.out _ _ D0.out).mono ?_); rintro e w1 ⟨qb, rfl, hd⟩; have D1 := Lib.hid hd; clear hd D0))
    | (go_at_call 12; ((with_reducible refine (CN.out _ G1.out).mono ?_); rintro e w1 ⟨qa, rfl, hd⟩; have D0 := Lib.hid hd; clear hd G1))
    | (go_at_call 23; ((with_reducible refine (CO.out _ _ _ D1.out).mono ?_); rintro e w2 ⟨la, rfl, hj⟩; have J0 := Lib.hid hj; clear hj D1))
    | (go_at_call 23; ((with_reducible refine (CO2.out _ _ _ _ J0.out).mono ?_); rintro e w3 ⟨lb, rfl, hj⟩; have J1 := Lib.hid hj; clear hj J0))
    | (go_at_call 29; ((with_reducible refine (CB.out _ _ _ _ _ _ _ J1.out).mono ?_); rintro e w4 ⟨rfl, hj⟩; have JJ := Lib.hid hj.swap; clear hj J1))
    | (go_at_call 29; ((with_reducible refine (CB.out _ _ _ _ _ _ _ JJ.out).mono ?_); rintro e w5 ⟨rfl, hj⟩; have J3 := Lib.hid hj.swap; clear hj JJ))
    | (go_at_call 30; ((with_reducible refine (CA.out _ _ _ _ _ _ _ J3.out).mono ?_); rintro e w6 ⟨rfl, hj⟩; have J4 := Lib.hid hj; clear hj J3)))
  clear CN CN2 CO CO2 CB CA
  go_loopw [13] (fun v13 wr => ∃ (i : Nat) (sb : DS), v13 = .int .i64 i ∧ i ≤ n1 ∧ Hid (J2 W wr la qa s2 (lgL 0 1 p ls true) lb qb sb (lgL 0 1 p (ls.take i) true)) ∧ Hid (PB s1 sb p ls i)) (fun v13 _ => n1 - (intOf v13).toNat)
  case atStart => exact ⟨0, s1, rfl, by omega, J4, HPB⟩
  case round =>
    obtain ⟨i, sb, rfl, hi, HJ, HP⟩ := hrel
    clear J4 HPB
    by_cases hlt : i < n1
    · have a3 : (i : Int) < (n1 : Int) := by omega
      obtain ⟨sc, e1, P1⟩ := HP.out.append (by rw [HPL.out]; exact hn0) HFEW.out.1 HFEW.out.2 (by rw [HLL.out]; exact hlt)
      have hfit := HP.out.fits (by rw [HPL.out]; exact hn0) HFEW.out.1 HFEW.out.2 (by rw [HLL.out]; exact hlt)
      obtain ⟨b, o, A3, n3, cp3, rfl, g0, hb3, hA3, hn3, hm3⟩ := B1.out.at hlt
      have g1 := (grew_cell HJ.out.grew (p := ⟨b, o + i, none⟩) (by obtain ⟨b', o', e', hb', _⟩ := B1.out.2 (by omega); cases e'; exact hb')).trans g0
      have hmem : ls.getD i [] ∈ ls := by
        have hl : i < ls.length := by rw [HLL.out]; exact hlt
        rw [List.getD_eq_getElem?_getD, List.getElem?_eq_getElem hl]
        exact List.getElem_mem _
      have hl3 := HFEW.out.2 _ hmem
      have hopn : sb.opn.length ≤ 500000 := by obtain ⟨_, _, _, L⟩ := HP.out.ex; have := L.opn; omega
      have hon : sb.off = false := by obtain ⟨_, _, _, L⟩ := HP.out.ex; exact L.on
      have hon1 : sc.off = false := by obtain ⟨_, _, _, L⟩ := P1.ex; exact L.on
      have hop1 : sc.opn.length ≤ 1000000 := by obtain ⟨_, _, _, L⟩ := P1.ex; have := L.opn; omega
      obtain ⟨sd, e2, P2⟩ := P1.sync
      have hon2 : sd.off = false := by obtain ⟨_, _, _, L⟩ := P2.ex; exact L.on
      have e9 : (wr.alloc (.cells #[.slice A3 n3 cp3] 37)).heap.size = wr.heap.size + 1 := by simp
      have CA : Hid (Calls Try.prog 30 #[.pointer (some ⟨lb, 0, none⟩), .slice (some ⟨wr.heap.size, 0, none⟩) 1 1] (wr.alloc (.cells #[.slice A3 n3 cp3] 37)) (J2Out W 0 lb qb sc (lgL 0 1 p (ls.take (i + 1)) true) la qa s2 (lgL 0 1 p ls true))) :=
        HJ.out.swap.append (grew_alloc _ _ _) [ls.getD i []] _ 1 1 (fun M hM => rows1S _ (hb3.keep HJ.out.grew) hA3 hn3 hm3 (fun a ha h0 hm => by have := hb3.old a ha h0; have := (hM _ hm).1; omega) (fun hm => by have h9 := (hM _ hm).2; omega)) (by omega) hopn rfl (refV_ok (by simp; simp [List.getD_eq_getElem?_getD] at hl3; omega) hfit) hon e1 hon1
      have CY : Hid (∀ w1, J2 W w1 lb qb sc (lgL 0 1 p (ls.take (i + 1)) true) la qa s2 (lgL 0 1 p ls true) → Calls Try.prog 31 #[.pointer (some ⟨lb, 0, none⟩)] w1 (J2Out W 0 lb qb sd (lgL 0 1 p (ls.take (i + 1)) true) la qa s2 (lgL 0 1 p ls true))) := fun w1 h => h.sync hop1 e2 hon2
      have HP1 := Lib.hid P1
      have HP2 := Lib.hid P2
      clear e9 e1 P1 hfit g0 hb3 hA3 hn3 hm3 hmem hl3 hopn hon hon1 hop1 e2 P2 hon2 HP
      by_cases h2 : i < n2
      · obtain ⟨b2, o2, rfl, hb2, hc2⟩ := I2.out.2 (by omega)
        have HY : Hid (∀ w', Grew W w' → w'.cell? ⟨b2, o2 + i, none⟩ = some (.bool (ys.getD i false))) := fun w' g => (grew_cell g (p := ⟨b2, o2 + i, none⟩) hb2).trans (hc2 i h2)
        have j2 : (i : Int) < (n2 : Int) := by omega
        clear hc2
        generalize ys.getD i false = t at *
        cases t with
        | true =>
          go_wp2_with (first
            | (go_at_call 30; ((with_reducible refine CA.out.mono ?_); rintro e w7 ⟨rfl, hj⟩; have J5 := Lib.hid hj; have y0 := HY.out _ hj.grew; clear hj))
            | (go_at_call 31; ((with_reducible refine (CY.out _ J5.out).mono ?_); rintro e w8 ⟨rfl, hj⟩; have J6 := Lib.hid hj.swap; clear hj)))
          go_roundw
          case rel => exact ⟨i + 1, sd, by go_num, by omega, J6, HP2⟩
          case measure => simp only [intOf]; omega
        | false =>
          go_wp2_with (first
            | (go_at_call 30; ((with_reducible refine CA.out.mono ?_); rintro e w7 ⟨rfl, hj⟩; have J5 := Lib.hid hj.swap; have y0 := HY.out _ hj.grew; clear hj)))
          go_roundw
          case rel => exact ⟨i + 1, sc, by go_num, by omega, J5, HP1⟩
          case measure => simp only [intOf]; omega
      · have j2 : ¬ (i : Int) < (n2 : Int) := by omega
        go_wp2_with (first
          | (go_at_call 30; ((with_reducible refine CA.out.mono ?_); rintro e w7 ⟨rfl, hj⟩; have J5 := Lib.hid hj.swap; clear hj)))
        go_roundw
        case rel => exact ⟨i + 1, sc, by go_num, by omega, J5, HP1⟩
        case measure => simp only [intOf]; omega
    · obtain rfl : i = n1 := by omega
      have HTK : Hid (ls.take i = ls) := by show _ = _; rw [List.take_of_length_le (by rw [HLL.out]; omega)]
      rw [HTK.out] at HJ
      have HBL : Hid (∀ k : Nat, k < 300 → ∃ b, b.length = 64 ∧ dRead s2 (k : Int) = (b, 0) ∧ dRead sb (k : Int) = (b, 0)) := by
        intro k hk
        obtain ⟨w, r, e, L⟩ := HP.out.ex
        rw [HTK.out] at e
        have x1 := H2.out.blocks (by rw [HK2.out, HK1.out]) k hk
        have x2 := L.blocks HP.out.len k hk
        have hd := dRead_len HJ.out.d2.okA (k : Int)
        rw [x1] at hd
        refine ⟨_, hd, x1, ?_⟩
        rw [x2, e, List.nil_append]
        by_cases hc : k < 150
        · rw [if_pos hc, if_pos hc]
        · rw [if_neg hc, if_neg hc, HK2.out]
          have := HP.out.far (k - 150) (by omega)
          rw [show 150 + (k - 150) = k by omega] at this
          rw [this]
      clear HP H2 HFEW HK1 HK2
      go_upto_region 17 with fail
      go_loopw [14] (fun v14 wx => ∃ k : Nat, v14 = .int .i64 k ∧ k ≤ 300 ∧ Hid (J2 W wx la qa s2 (lgL 0 1 p ls true) lb qb sb (lgL 0 1 p ls true))) (fun v14 _ => 300 - (intOf v14).toNat)
      case atStart => exact ⟨0, rfl, by omega, HJ⟩
      case round =>
        obtain ⟨k, rfl, hk, HJ2⟩ := hrel
        clear HJ
        by_cases hlk : k < 300
        · have a4 : (k : Int) < 300 := by omega
          obtain ⟨bl, hbl, x1, x2⟩ := HBL.out k hlk
          have R1 := Lib.hid (HJ2.out.d2.read (k : Int))
          have R2 := Lib.hid (fun w1 (h : J2 W w1 la qa s2 (lgL 0 1 p ls true) lb qb sb (lgL 0 1 p ls true)) => h.d2.swap.read (k : Int))
          rw [x1] at R1
          rw [x2] at R2
          have hEq : Hid (∀ w, (Op.equalIn 10000 75 (.agg (bytesV bl).toArray) (.agg (bytesV bl).toArray)).run Try.prog w = .ok true w) := fun w => by have := equal40 bl bl hbl hbl w; simpa using this
          have hG := guard40
          have hone := Lib.hid (bytesV_one' (b := bl))
          have hl : (bytesV bl).length = 64 := by rw [bytesV_len]; exact hbl
          have HV : Hid (readV (bl, 0) = .tuple #[.agg (bytesV bl).toArray, .int .i64 0]) := rfl
          rw [HV.out] at R1 R2
          clear HV hbl x1 x2
          generalize bytesV bl = cs at *
          have hEq2 := hEq.out
          go_wp2_with (first
            | (go_at_call 37; ((with_reducible refine R1.out.mono ?_); rintro e w21 ⟨rfl, hg⟩; have P1 := Lib.hid (put_new w21 ZZ HZZ.out 75 cs hl); have F1 := Lib.hid (HJ2.out.grows (grew_trans hg P1.out.2.2.1)); clear hg))
            | (refine wpList_store_mid (by rfl) 75 _ _ (by rfl) w21.heap.size 0 cs.toArray (by rfl) (by rfl) (by simpa [hl] using P1.out.2.1) (size40 (by simpa using hl.symm)) hone.out ?_)
            | (go_at_call 37; ((with_reducible refine (R2.out _ F1.out).mono ?_); rintro e w22 ⟨rfl, hg⟩; have P2 := Lib.hid (put_new w22 ZZ HZZ.out 75 cs hl); have F2 := Lib.hid (F1.out.grows (grew_trans hg P2.out.2.2.1)); have Q1 := Lib.hid (rangeAt_of P1.out.1 ((grew_trans hg P2.out.2.2.1).block _ P1.out.2.2.2.2)); clear hg))
            | (refine wpList_store_mid (by rfl) 75 _ _ (by rfl) w22.heap.size 0 cs.toArray (by rfl) (by rfl) (by simpa [hl] using P2.out.2.1) (size40 (by simpa using hl.symm)) hone.out ?_)
            | (refine wpList_load_mid (by rfl) 75 _ (by rfl) w21.heap.size 0 (by rfl) cs _ Q1.out Try.underlying75 rfl (size40 hl.symm) ?_)
            | (refine wpList_load_mid (by rfl) 75 _ (by rfl) w22.heap.size 0 (by rfl) cs _ P2.out.1 Try.underlying75 rfl (size40 hl.symm) ?_))
          generalize (w22.alloc (.cells ZZ 75)).setCells w22.heap.size 0 cs = w23 at *
          go_roundw
          case rel => exact ⟨k + 1, by go_num, by omega, F2⟩
          case measure => simp only [intOf]; omega
        · obtain rfl : k = 300 := by omega
          clear HBL
          go_wp2_with (first
            | (go_at_call 27; ((with_reducible refine (CR.out _ _ _ _ _ _ _ _ _ HJ2.out).mono ?_); rintro e w10 ⟨hg10, v, rfl, hv⟩; have hv2 : RowsO w10 wr.heap.size v ls := hv; obtain ⟨A10, c10, rfl, hb10, -⟩ := hv2.toB; have J7 := Lib.hid (HJ2.out.grows hg10); have CK9 := Lib.hid (CKR.out A10 A1 ls.length i c10 c1 ls ls w10 hb10 (B1.out.keep J7.out.grew) (by have := HLL.out; omega) (by omega)); clear hg10 hv hv2 hb10 HJ2; rw [decide_eq_true rfl] at CK9))
            | (go_at_call 34; ((with_reducible refine CK9.out.mono ?_); rintro e w11 ⟨rfl, hg11⟩; have J8 := Lib.hid (J7.out.grows hg11).swap; clear hg11))
            | (go_at_call 27; ((with_reducible refine (CR.out _ _ _ _ _ _ _ _ _ J8.out).mono ?_); rintro e w12 ⟨hg12, v, rfl, hv⟩; have hv2 : RowsO w12 w11.heap.size v ls := hv; obtain ⟨A12, c12, rfl, hb12, -⟩ := hv2.toB; have J9 := Lib.hid (J8.out.grows hg12); have CK10 := Lib.hid (CKR.out A12 A1 ls.length i c12 c1 ls ls w12 hb12 (B1.out.keep J9.out.grew) (by have := HLL.out; omega) (by omega)); clear hg12 hv hv2 hb12; rw [decide_eq_true rfl] at CK10))
            | (go_at_call 34; ((with_reducible refine CK10.out.mono ?_); rintro e w13 ⟨rfl, hg13⟩; have J10 := Lib.hid (J9.out.grows hg13); clear hg13))
            | (go_at_call 21; ((with_reducible refine (CW.out _).mono ?_); rintro e w15 ⟨rfl, hg⟩; have GE := Lib.hid (grew_trans J10.out.grew hg); clear hg)))
          go_ret
          exact ⟨rfl, GE.out⟩
theorem logParts_row (A0 A1 A2 : Option Addr) (n0 n1 n2 c0 c1 c2 : Nat) (l0 : List Int) (l1 : List (List Int)) (l2 : List Bool) (W : World) (r0 : Row (spInt .u8) W A0 n0 l0) (r1 : Row (spSliceZ 1 (spInt .u8)) W A1 n1 l1) (r2 : Row spBool W A2 n2 l2)
    (a0 : A0 = none → c0 = 0) (m0 : n0 ≤ c0) :
    Calls Try.prog 9 #[.slice A0 n0 c0, .slice A1 n1 c1, .slice A2 n2 c2] W fun e w' => e = .returned (.bool true) ∧ Grew W w' := by
  obtain ⟨bs, hb⟩ := bys_of_row r0
  obtain ⟨xs, hx, _⟩ := rowsB_of_row r1
  exact logParts_walk A0 A1 A2 n0 n1 n2 c0 c1 c2 bs xs l2 W hb a0 m0 hx (bols_of_spec r2)
end Go.Proofs.Ythmdbfbhcnjghaa.NumK
namespace Go.Proofs.Ythmdbfbhcnjghaa.logParts
open Go.ChangeShapes Go.WideShapes Go.ChangeAt Go.RowKit
set_option linter.unusedVariables false

theorem own : ownKnob Try.prog.godebug = none := by kernel_rfl
theorem laidOut : laidOutB Try.prog = true := by kernel_rfl

set_option maxRecDepth 100000 in
theorem lifted (os : Os) (started : os.Started) (H : Type) (enc : TypeId × Value → H) :
    ReturnsInHanded {} Try.checked os 9 .any (Rows.logPartsSpec.pre6 enc Try.prog Try.f9 Rows.logPartsRow.domain false) (Rows.logPartsSpec.post enc Try.prog Try.f9 false true false false) := by
  refine returnsInHanded_of_change_sized (C := Try.checked) own started (by kernel_rfl) Try.func9
    (ChangeSpec.witness6 (enc := enc) (C := Try.checked) false ⟨#[], #[.slice none 0 0, .slice none 0 0, .slice none 0 0], []⟩ 8 (by kernel_rfl) (by kernel_rfl) (by kernel_rfl) (by kernel_rfl)) ?_
  intro W base args ds gs before hval0 hW hcnd hsz0 _
  have hval : ∀ (j : Nat) t v, Try.f9.params[j]? = some t → args[j]? = some v → Value.okWide Try.prog W .any base t v := hval0
  have hW' := hW
  obtain ⟨p, q, hA0, hV, rfl, hfz, hnd⟩ := hW
  have hA : DataW.TrodAll enc Try.prog W 0 (fun _ => true) true Try.f9.params.toList args.toList ds p := hA0
  have hsz : (DataW.weightsEach Try.prog (Try.f9.params.toList ++ Rows.logPartsSpec.plain.varTypes Try.prog) (ds ++ gs)).all (· ≤ reachBytes) = true := hsz0
  rw [Try.params9] at hA hval hsz
  obtain ⟨v0, vs0, d0, ds0, p0, q0, hargs, rfl, rfl, h0, r0⟩ := trodAll_cons hA
  obtain ⟨v1, vs1, d1, ds1, p1, q1, rfl, rfl, rfl, h1, r1⟩ := trodAll_cons r0
  obtain ⟨v2, vs2, d2, ds2, p2, q2, rfl, rfl, rfl, h2, r2⟩ := trodAll_cons r1
  obtain ⟨rfl, rfl, rfl⟩ := trodAll_nil r2
  obtain rfl : args = #[v0, v1, v2] := by cases args; simp_all
  obtain ⟨rfl, rfl⟩ := trodVars_none hV
  have k0 := h0
  have lt0 : ∀ x ∈ p0, x.block < W.heap.size := by obtain ⟨m, hm⟩ := k0; exact DataW.trod_lt m _ _ _ hm
  obtain ⟨A0, len0, cap0, l0, rfl, ro0, n0, c0, m0⟩ := NumK.arg_slice Try.underlying37 NumK.opens_bytes (hval 0 37 v0 rfl rfl) h0
  have k1 := h1
  have lt1 : ∀ x ∈ p1, x.block < W.heap.size := by obtain ⟨m, hm⟩ := k1; exact DataW.trod_lt m _ _ _ hm
  obtain ⟨A1, len1, cap1, l1, rfl, ro1, n1, c1, m1⟩ := NumK.arg_sliceZ Try.underlying38 NumK.opens_rows (hval 1 38 v1 rfl rfl) h1 (j := 1) hsz rfl rfl
  have k2 := h2
  have lt2 : ∀ x ∈ p2, x.block < W.heap.size := by obtain ⟨m, hm⟩ := k2; exact DataW.trod_lt m _ _ _ hm
  obtain ⟨A2, len2, cap2, l2, rfl, ro2, n2, c2, m2⟩ := NumK.arg_slice Try.underlying74 NumK.opens_bools (hval 2 74 v2 rfl rfl) h2
  clear hA0 hval0 hsz hsz0
  refine (NumK.logParts_row A0 A1 A2 len0 len1 len2 cap0 cap1 cap2 l0 l1 l2 W ro0 ro1 ro2 n0 c0).mono fun e W' ⟨he, bel⟩ => ?_
  subst he
  exact ⟨_, rfl, _, _, _, [], _, [], hW', trodAll_mk1 (shut_bool Try.underlying4 _), (trodAll_cons_mk (Below.trod laidOut (by kernel_rfl) (of_decide_eq_true (by kernel_rfl)) k0 bel lt0) (trodAll_cons_mk (Below.trod laidOut (by kernel_rfl) (of_decide_eq_true (by kernel_rfl)) k1 bel lt1) (trodAll_cons_mk (Below.trod laidOut (by kernel_rfl) (of_decide_eq_true (by kernel_rfl)) k2 bel lt2) trodAll_mk0))), rfl, bel.frame _, fun h => by cases h⟩

theorem over : Rows.logPartsRow.holds Try.pinned (OpenSpec.ofChange Rows.logPartsSpec) :=
  OpenClaim.holds_of_wide 9 Try.f9 rfl rfl rfl rfl rfl rfl rfl ⟨rfl, rfl, rfl, rfl, rfl⟩ rfl rfl rfl rfl rfl (by kernel_rfl) Try.func9 (by kernel_rfl)
    (of_decide_eq_true (by kernel_rfl)) (by unfold Func.isWrapper; first | (rw [if_pos (by decide +kernel)]; kernel_rfl) | (rw [if_neg (by decide +kernel)]; exact ⟨rfl, rfl⟩))
    (fun os started H enc _ => lifted os started H enc)

/-! ### the statement -/
theorem proved : Rows.LogPartsSaid := over
end Go.Proofs.Ythmdbfbhcnjghaa.logParts
