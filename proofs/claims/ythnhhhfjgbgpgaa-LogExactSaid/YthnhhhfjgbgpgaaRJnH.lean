/- journal: clear. -/
import Derived.Test.YthnhhhfjgbgpgaaRJnD
import Derived.Deep.RegionLaw
namespace Go.Proofs.Ythnhhhfjgbgpgaa.NumK
open Go.RowKit

theorem wrL_one (s : DS) (a : Nat) (b : Blk) : wrL s a [b] = dWrite s a b := by
  unfold wrL
  by_cases h : (dWrite s a b).1 = 0
  · rw [if_pos h]
    show (0, (dWrite s a b).2) = _
    rw [← h]
  · rw [if_neg h]
theorem wrL_snoc (s : DS) (a : Nat) (l : List Blk) (b : Blk) (h : (wrL s a l).1 = 0) : wrL s a (l ++ [b]) = dWrite (wrL s a l).2 ((a + l.length : Nat) : Int) b := by
  rw [wrL_append, if_pos h, wrL_one]
theorem wrL_stop (s : DS) (a : Nat) (l m : List Blk) (h : (wrL s a l).1 ≠ 0) : wrL s a (l ++ m) = wrL s a l := by
  rw [wrL_append, if_neg h]
theorem dWrite_opn (s : DS) (a : Int) (b : Blk) : (dWrite s a b).2.opn.length ≤ s.opn.length + 1 := by
  unfold dWrite
  split
  · simp
  · split
    · simp
    · simp
theorem wrL_opn (s : DS) (a : Nat) (l : List Blk) : (wrL s a l).2.opn.length ≤ s.opn.length + l.length := by
  induction l generalizing s a with
  | nil => exact Nat.le_refl _
  | cons b r ih =>
    unfold wrL
    have h1 := dWrite_opn s a b
    split
    · have := ih (dWrite s a b).2 (a + 1)
      simp only [List.length_cons]; omega
    · simp only [List.length_cons]; omega
theorem dLast_safe (s : DS) : (dLast s).2.safe = s.safe := by
  unfold dLast
  split
  · rfl
  · split <;> rfl
theorem dWrite_safe (s : DS) (a : Int) (b : Blk) : (dWrite s a b).2.safe = s.safe := by
  unfold dWrite
  split
  · rfl
  · split
    · exact dLast_safe s
    · rfl
theorem wrL_keeps (s : DS) (a : Nat) (l : List Blk) : (wrL s a l).2.safe = s.safe := by
  induction l generalizing s a with
  | nil => rfl
  | cons b r ih =>
    unfold wrL
    split
    · rw [ih, dWrite_safe]
    · exact dWrite_safe s a b
/-- A code is 0 just if no power went. -/
theorem dWrite_code (s : DS) (a : Int) (b : Blk) : (dWrite s a b).1 = 0 ∨ (dWrite s a b).1 = 7 ∨ (dWrite s a b).1 = 3 := by
  unfold dWrite
  split
  · exact Or.inr (Or.inl rfl)
  · split
    · split
      · exact Or.inr (Or.inl rfl)
      · exact Or.inl rfl
    · exact Or.inr (Or.inr rfl)
def clrM (s : DS) (first room : Nat) : Int × DS :=
  if (wrL s first (List.replicate room blk0)).1 ≠ 0 then wrL s first (List.replicate room blk0) else dSync (wrL s first (List.replicate room blk0)).2
set_option maxRecDepth 100000 in
set_option maxHeartbeats 2000000 in
theorem clear_any (F : Nat → Prop) (lb q : Nat) (s : DS) (first : Nat) (w : World) (h : DK w F q s) (c0 : w.cell? ⟨lb, 0, none⟩ = some (.pointer (some ⟨q, 0, none⟩))) (hlb : ¬ F lb) (hlt : lb < w.heap.size)
    (hn : s.opn.length + roomD s ≤ 900000) (hf : first ≤ 1000000) :
    Calls Try.prog 47 #[.pointer (some ⟨lb, 0, none⟩), .int .i64 (first : Int)] w (DPost F q w (.int .i64 (clrM s first (roomD s)).1) (clrM s first (roomD s)).2) := by
  have hfew := h.ok.few
  have hroom : roomD s ≤ 65536 := by unfold roomD; omega
  obtain ⟨ZZ, hZZ⟩ : ∃ Z, Z = (bytesV blk0).toArray := ⟨_, rfl⟩
  have hz := fun w => zero40 w
  rw [← hZZ] at hz
  have HZZ := Lib.hid hZZ
  clear hZZ
  have SZ := Lib.hid (size_any F lb q s w h c0)
  have H0 := Lib.hid h
  have hfit := Lib.hid h.fit
  have HC0 : Hid (∀ w', Chg F w w' → w'.cell? ⟨lb, 0, none⟩ = some (.pointer (some ⟨q, 0, none⟩))) := fun w' g => (g.cell (p := ⟨lb, 0, none⟩) hlt hlb).trans c0
  have HM : Hid (clrM s first (roomD s) = if (wrL s first (List.replicate (roomD s) blk0)).1 ≠ 0 then wrL s first (List.replicate (roomD s) blk0) else dSync (wrL s first (List.replicate (roomD s) blk0)).2) := rfl
  have HDW : Hid (DK w (FX F w w) q s) := h.more (fun k hk => Or.inl hk) (fun k hk => by rcases hk with hk | hk; exact h.fit k hk; omega)
  have hopn := Lib.hid (fun k => wrL_opn s first (List.replicate k blk0))
  clear h
  generalize clrM s first (roomD s) = M at *
  generalize roomD s = room at *
  go_enter Try.func47, Try.ntmps47
  go_wp2_with (go_at_call 41; ((with_reducible refine SZ.out.mono ?_); rintro e w1 ⟨rfl, rfl⟩))
  go_loopw [9] (fun v9 wr => ∃ k : Nat, v9 = .int .i64 k ∧ k ≤ room ∧ Hid ((wrL s first (List.replicate k blk0)).1 = 0) ∧ Hid (DK wr (FX F w wr) q (wrL s first (List.replicate k blk0)).2) ∧ Hid (Chg F w wr)) (fun v9 _ => room - (intOf v9).toNat)
  case atStart => exact ⟨0, rfl, by omega, rfl, HDW.out, Chg.refl _ _⟩
  case round =>
    obtain ⟨k, rfl, hk, HE, HD, HC⟩ := hrel
    clear HDW H0 SZ
    have c0' := HC0.out wr HC.out
    by_cases hlt2 : k < room
    · have j1 : (k : Int) < (room : Int) := by omega
      have hsn : wrL s first (List.replicate (k + 1) blk0) = dWrite (wrL s first (List.replicate k blk0)).2 ((first + k : Nat) : Int) blk0 := by
        rw [List.replicate_succ', wrL_snoc _ _ _ _ HE.out, List.length_replicate]
      have hok := hopn.out k
      rw [List.length_replicate] at hok
      have hlen : blk0.length = 64 := rfl
      have hwr := write_any (FX F w wr) q (wrL s first (List.replicate k blk0)).2 ((first + k : Nat) : Int) blk0 wr HD.out hlen (by omega)
      rw [← hsn, Int.natCast_add] at hwr
      have hstop : (wrL s first (List.replicate (k + 1) blk0)).1 ≠ 0 → wrL s first (List.replicate room blk0) = wrL s first (List.replicate (k + 1) blk0) := fun hne => by
        have : List.replicate room blk0 = List.replicate (k + 1) blk0 ++ List.replicate (room - (k + 1)) blk0 := by rw [List.replicate_append_replicate]; congr 1; omega
        rw [this, wrL_stop _ _ _ _ hne]
      have CW : Hid (Calls Try.prog 25 #[.pointer (some ⟨q, 0, none⟩), .int .i64 ((first : Int) + (k : Int)), .agg ZZ] wr (DPost (FX F w wr) q wr (.int .i64 (wrL s first (List.replicate (k + 1) blk0)).1) (wrL s first (List.replicate (k + 1) blk0)).2)) := by
        show Calls _ _ _ _ _
        rw [HZZ.out]; exact hwr
      have HSP := Lib.hid hstop
      have HTH := Lib.hid (fun r s2 e w2 (p : DPost (FX F w wr) q wr r s2 e w2) => dpost_then hfit.out HC.out p)
      have i1 : IntKind.i64.wrap ((first : Int) + (k : Int)) = (first : Int) + (k : Int) := by rw [IntKind.wrap_i64]; omega
      clear hsn hok hlen hwr hstop
      obtain ⟨r, s2, hzz⟩ : ∃ r s2, wrL s first (List.replicate (k + 1) blk0) = (r, s2) := ⟨_, _, rfl⟩
      rw [hzz] at CW HSP
      have HZE := Lib.hid hzz
      clear hzz
      dsimp only at CW HSP
      by_cases hr : r = 0
      · subst hr
        clear HSP
        go_wp2_with (go_at_call 25; ((with_reducible refine CW.out.mono ?_); rintro e w2 hp; obtain ⟨rfl, hc2, hd2⟩ := HTH.out _ _ _ _ hp; have HC2 := Lib.hid hc2; have HD2 := Lib.hid hd2; clear hc2 hd2 hp))
        go_roundw
        case rel => exact ⟨k + 1, by go_num, by omega, by show _ = _; rw [HZE.out], by rw [HZE.out]; exact HD2, HC2⟩
        case measure => simp only [intOf]; omega
      · have d1 : (r != 0) = true := by simpa using hr
        have HMr : Hid (M = (r, s2)) := by
          have := HSP.out hr
          show M = (r, s2)
          rw [HM.out, this]
          exact if_pos hr
        clear HSP HM HZE
        go_wp2_with (go_at_call 25; ((with_reducible refine CW.out.mono ?_); rintro e w2 hp; obtain ⟨rfl, hc2, hd2⟩ := HTH.out _ _ _ _ hp; have HC2 := Lib.hid hc2; have HD2 := Lib.hid hd2; clear hc2 hd2 hp))
        go_ret
        rw [HMr.out]
        exact ⟨rfl, HC2.out, HD2.out⟩
    · obtain rfl : k = room := by omega
      have hok := hopn.out k
      rw [List.length_replicate] at hok
      have CS := Lib.hid (sync_any (FX F w wr) q (wrL s first (List.replicate k blk0)).2 wr HD.out (by omega))
      have HMr : Hid (M = dSync (wrL s first (List.replicate k blk0)).2) := by
        show _ = _; rw [HM.out, if_neg (fun h => h HE.out)]
      rw [← HMr.out] at CS
      have HTH := Lib.hid (fun r s2 e w2 (p : DPost (FX F w wr) q wr r s2 e w2) => dpost_then hfit.out HC.out p)
      clear hok HMr HM HE HD hopn HC0
      obtain ⟨r, s2⟩ := M
      dsimp only at CS
      go_wp2_with (go_at_call 27; ((with_reducible refine CS.out.mono ?_); rintro e w2 hp; obtain ⟨rfl, hc2, hd2⟩ := HTH.out _ _ _ _ hp; have HC2 := Lib.hid hc2; have HD2 := Lib.hid hd2; clear hc2 hd2 hp))
      go_ret
      exact ⟨rfl, HC2.out, HD2.out⟩
end Go.Proofs.Ythnhhhfjgbgpgaa.NumK
namespace Go.Proofs.Ythnhhhfjgbgpgaa.NumK
open Go.RowKit

def markB (g : Nat) : Blk := markG g :: (List.replicate 62 0 ++ [markG g])
theorem run_build75 (w : World) (n : Int) : (Instr.build 61 #[(0, .int .u8 n), (63, .int .u8 n)]).run Try.prog w = .ok (.agg (.int .u8 n :: (List.replicate 62 (.int .u8 0) ++ [.int .u8 n])).toArray) w :=
  run_build w _ _ _ (by kernel_rfl)
theorem step_build75 {ops : Array Oper} {o : Oper} {a : Act} {w : World} {K : Act → World → Prop} {Q : Exit → Act → World → Prop} {E : Prop} (hgd : o.guard = none) (x y : Operand) (ho : o.op = .build 61 #[(0, x), (63, y)]) (n : Int) (hx : a.eval x = .int .u8 n) (hy : a.eval y = .int .u8 n) (cs : List Value)
    (hc : .int .u8 n :: (List.replicate 62 (.int .u8 0) ++ [.int .u8 n]) = cs) (h : K (a.put o.dst (.agg cs.toArray)) w) : if Region.wanted o (yielded ops a.tmps) = true then Oper.wp Try.prog o a w K Q else E := by
  have hw : Region.wanted o (yielded ops a.tmps) = true := by simp [Region.wanted, hgd]
  rw [if_pos hw]
  subst hc
  unfold Oper.wp execOp
  simp only [ho, List.map_toArray, List.map_cons, List.map_nil, hx, hy, Sem.run_bind, run_build75 w n, Result.andThen_ok, Sem.run_pure]
  exact h
theorem markB_V (g : Nat) : bytesV (markB g) = .int .u8 ((markG g).toNat : Int) :: (List.replicate 62 (.int .u8 0) ++ [.int .u8 ((markG g).toNat : Int)]) := rfl
theorem setCells_cells (b : Nat) : ∀ (vs : List Value) (o : Nat) (w : World) (cur : Array Value) (t : TypeId) (fr : Nat × Nat), w.heap[b]? = some (.cells cur t fr) → ∃ cur' : Array Value, (w.setCells b o vs).heap[b]? = some (.cells cur' t fr) ∧ cur'.size = cur.size
  | [], _, _, cur, _, _, h => ⟨cur, h, rfl⟩
  | v :: r, o, w, cur, t, fr, h => by
    have h2 : (w.setCell ⟨b, o, none⟩ v).heap[b]? = some (.cells (cur.setIfInBounds o v) t fr) := by
      have hlt : b < w.heap.size := (Array.getElem?_eq_some_iff.1 h).1
      have hv : w.heap[b] = .cells cur t fr := (Array.getElem?_eq_some_iff.1 h).2
      unfold World.setCell
      rw [Array.getElem?_eq_getElem (by simpa using hlt), Array.getElem_modify]
      simp [hv]
    obtain ⟨c, h3, h4⟩ := setCells_cells b r (o + 1) _ _ t fr h2
    exact ⟨c, h3, by rw [h4]; simp⟩
/-- A block of one's own with these cells. -/
theorem heap_new (w w1 : World) (Z : Array Value) (t : TypeId) (cs : List Value) (hZ : Z.size = cs.length) (h1 : w1.heap[w.heap.size]? = (w.alloc (.cells Z t)).heap[w.heap.size]?) : (w1.setCells w.heap.size 0 cs).heap[w.heap.size]? = some (.cells cs.toArray t (0, 0)) := by
  have h0 : w1.heap[w.heap.size]? = some (.cells Z t (0, 0)) := h1.trans (heap_alloc_new w _)
  obtain ⟨c, h2, h3⟩ := setCells_cells w.heap.size cs 0 w1 Z t (0, 0) h0
  rw [h2]
  have : c = cs.toArray := by
    apply Array.ext_getElem?
    intro i
    rw [← cell_of_row _ _ i c t (0, 0) h2]
    by_cases hi : i < cs.length
    · have ht : w1.there w.heap.size 0 cs.length := fun j hj => by
        rw [Nat.zero_add]
        refine ⟨?_, ?_⟩
        · rw [cell_of_row _ _ j Z t (0, 0) h0, Array.getElem?_eq_getElem (by omega)]; rfl
        · unfold World.frozen?; simp [h0]
      have := World.rangeAt_setCells_same w1 w.heap.size 0 cs ht i cs[i] (List.getElem?_eq_getElem hi)
      rw [Nat.zero_add] at this
      rw [this]; simp [hi]
    · rw [cell_of_row _ _ i c t (0, 0) h2, Array.getElem?_eq_none (by omega)]
      simp; omega
  rw [this]
theorem range_row {w : World} {g : Nat} {cs : List Value} {t : TypeId} (h : w.heap[g]? = some (.cells cs.toArray t (0, 0))) : w.rangeAt g 0 cs := fun j v hv => by
  rw [Nat.zero_add, cell_of_row _ _ j _ t (0, 0) h]; simpa using hv
theorem chg_setRow {F : Nat → Prop} {w w1 : World} (h : Chg F w w1) (g : Nat) (cs : Array Value) (hg : g < w.heap.size → F g) : Chg F w (w1.setRow g cs) :=
  ⟨by rw [setRow_os]; exact h.os, by rw [setRow_tape]; exact h.tape, by rw [setRow_output]; exact h.output, by rw [setRow_size]; exact h.size, fun k hk hn => (setRow_other w1 g k cs (fun e => hn (by subst e; exact hg hk))).trans (h.block k hk hn)⟩
theorem Bys.chg {F : Nat → Prop} {w w' : World} {A : Option Addr} {n : Nat} {l : List UInt8} (h : Bys w A n l) (g : Chg F w w') (hA : ∀ a, A = some a → ¬ F a.block) : Bys w' A n l :=
  ⟨h.1, fun hn => by
    obtain ⟨b, o, e, hb, hc⟩ := h.2 hn
    exact ⟨b, o, e, Nat.lt_of_lt_of_le hb g.size, fun j hj => (g.cell (p := ⟨b, o + j, none⟩) hb (by simpa using hA _ e)).trans (hc j hj)⟩⟩
/-- A block of a row: what is left of the frame, put between its marks. -/
theorem rowBlk_splice (g : Nat) (b : List UInt8) (k m : Nat) (hm : m = min (b.drop (62 * k)).length 62) :
    (bytesV (markB g)).take 1 ++ (((b.drop (62 * k)).take m).map byv ++ (bytesV (markB g)).drop (1 + m)) = bytesV (rowBlk g b k) := by
  have hlen : ((b.drop (62 * k)).take m).length = m := by rw [List.length_take]; omega
  have hm62 : m ≤ 62 := by omega
  have e1 : cut62 b k = (b.drop (62 * k)).take m ++ List.replicate (62 - m) 0 := by
    apply List.ext_getElem
    · rw [cut62_len, List.length_append, hlen, List.length_replicate]; omega
    · intro i h1 h2
      rw [cut62_len] at h1
      simp only [cut62, List.getElem_map, List.getElem_range, List.getElem_append, List.getElem_replicate, hlen]
      split
      · rename_i hi
        simp only [List.getElem_take, List.getElem_drop]
        rw [List.getD_eq_getElem?_getD, List.getElem?_eq_getElem]; rfl
      · rename_i hi
        have : b.length ≤ 62 * k + i := by
          rw [List.length_drop] at hm
          omega
        rw [List.getD_eq_getElem?_getD, List.getElem?_eq_none this]; rfl
  have e2 : (markB g).drop (1 + m) = List.replicate (62 - m) 0 ++ [markG g] := by
    unfold markB
    rw [Nat.add_comm, List.drop_succ_cons, List.drop_append_of_le_length (by simp; omega), List.drop_replicate]
  have e3 : (markB g).take 1 = [markG g] := rfl
  unfold bytesV
  rw [← List.map_take, ← List.map_drop, ← List.map_append, ← List.map_append, e2, e3]
  unfold rowBlk
  rw [e1]
  simp
def lenV : Value → Nat
  | .slice _ n _ => n
  | _ => 0
def putM (s : DS) (at' g no : Nat) (p : List UInt8) : Int × DS := wrL s at' (rowL g (frameB g no p))
theorem rowL_take (g : Nat) (b : List UInt8) (k : Nat) (hk : k < nbk b.length) : (rowL g b).take (k + 1) = (rowL g b).take k ++ [rowBlk g b k] := by
  have hl : (rowL g b).length = nbk b.length := by simp [rowL]
  rw [List.take_succ_eq_append_getElem (by omega)]
  congr 1
  simp [rowL]
end Go.Proofs.Ythnhhhfjgbgpgaa.NumK
namespace Go.Proofs.Ythnhhhfjgbgpgaa.NumK
open Go.RowKit

/-- What put leaves: the disk with the row's blocks, and the half's end. -/
def PutPost (F : Nat → Prop) (hb q : Nat) (z : Int × DS) (c0 c2 c3 : Value) (g fin' : Nat) (w : World) (e : Ending) (w' : World) : Prop :=
  e = .returned (.int .i64 z.1) ∧ Chg (fun k => F k ∨ k = hb) w w' ∧ (∃ Fk, DK w' Fk q z.2 ∧ ∀ k, Fk k → FX F w w' k ∧ k ≠ hb) ∧ w'.there hb 0 5 ∧ (z.1 = 0 → w'.rangeAt hb 0 [c0, .int .i64 (g : Int), c2, c3, .int .i64 (fin' : Int)])
set_option maxRecDepth 100000 in
set_option maxHeartbeats 4000000 in
theorem put_any (F : Nat → Prop) (hb q : Nat) (s : DS) (g no fin : Nat) (p : List UInt8) (A : Option Addr) (n c : Nat) (v0 v2 v3 : Value) (w : World) (h : DK w F q s) (hF : ¬ F hb) (hlt : hb < w.heap.size)
    (hr : w.rangeAt hb 0 [v0, .int .i64 (g : Int), v2, v3, .int .i64 (fin : Int)]) (ht : w.there hb 0 5) (hp : Bys w A n p) (hA : A = none → c = 0) (hc : n ≤ c)
    (hg : g ≤ 1099511627776) (hno : no ≤ 2147483647) (hpl : p.length ≤ 65536) (hn : s.opn.length ≤ 900000) (hfin : fin ≤ 1000000) :
    Calls Try.prog 48 #[.pointer (some ⟨hb, 0, none⟩), .pointer (some ⟨q, 0, none⟩), .int .i64 (no : Int), .slice A n c] w (PutPost F hb q (putM s fin g no p) v0 v2 v3 g (fin + nbk (n + 21)) w) := by
  have hnp := hp.1
  have hm0 : mayI (g : Int) (no : Int) p.length = 0 := by unfold mayI; rw [if_neg (by omega), if_neg (by omega)]
  have CS : Hid (Calls Try.prog 60 #[.int .i64 (g : Int), .int .i64 (no : Int), .slice A n c] w fun e w' => ∃ B c2, e = .returned (.tuple #[.slice (some ⟨B, 0, none⟩) (n + 21) c2, .int .i64 0]) ∧ Grew w w' ∧ w.heap.size ≤ B ∧ Bys w' (some ⟨B, 0, none⟩) (n + 21) (frameB g no p) ∧ n + 21 ≤ c2 ∧ B < w'.heap.size) :=
    (seal_any g no A n c p w hp hA hc).mono fun e w' ⟨hgr, hor⟩ => by
      rcases hor with ⟨h1, _⟩ | ⟨_, v, he, ho⟩
      · exact absurd hm0 h1
      · rw [Int.toNat_natCast, Int.toNat_natCast, hnp] at ho
        obtain ⟨gg, cap, rfl, hb1, hb2⟩ := World.ownsRow.form ho (by omega)
        obtain ⟨A', c', e1, hB, _, hc1, _⟩ := bys_own2 ho
        simp only [Value.slice.injEq] at e1
        obtain ⟨rfl, _, rfl⟩ := e1
        exact ⟨gg, cap, he, hgr, hb1, hB, hc1, hb2⟩
  have hfl : (frameB g no p).length = n + 21 := by rw [frameB_len, hnp]
  have hnb : nbk (n + 21) ≤ 1058 := by unfold nbk; omega
  have HM : Hid (putM s fin g no p = wrL s fin (rowL g (frameB g no p))) := rfl
  have HRL : Hid ((rowL g (frameB g no p)).length = nbk (n + 21)) := by show _ = _; simp [rowL, hfl]
  have HTK : Hid (∀ k, k < nbk (n + 21) → (rowL g (frameB g no p)).take (k + 1) = (rowL g (frameB g no p)).take k ++ [rowBlk g (frameB g no p) k]) := fun k hk => rowL_take g _ k (by rw [hfl]; exact hk)
  have HSPL : Hid (∀ k m, m = min (n + 21 - 62 * k) 62 → (bytesV (markB g)).take 1 ++ ((((frameB g no p).drop (62 * k)).take m).map byv ++ (bytesV (markB g)).drop (1 + m)) = bytesV (rowBlk g (frameB g no p) k)) := fun k m hm => rowBlk_splice g _ k m (by rw [List.length_drop, hfl]; exact hm)
  have HK : Hid (∀ k, k < nbk (n + 21) ↔ 62 * k < n + 21) := fun k => nbk_lt _ _
  have hfit := Lib.hid h.fit
  have hH := Lib.hid h
  have HR := Lib.hid hr
  have HT := Lib.hid ht
  have hFL := Lib.hid hfl
  obtain ⟨mk, hmk⟩ : ∃ mk : Nat, mk = (markG g).toNat := ⟨_, rfl⟩
  have CM : Hid (∀ w, Calls Try.prog 61 #[.int .i64 (g : Int)] w fun e w' => e = .returned (.int .u8 (mk : Int)) ∧ w = w') := fun w => by rw [hmk]; exact mark_any g (by omega) w
  obtain ⟨ZZ, hZZ⟩ : ∃ Z, Z = (bytesV blk0).toArray := ⟨_, rfl⟩
  have hz := fun w => zero40 w
  rw [← hZZ] at hz
  have HZl : Hid (ZZ.size = 64) := by rw [hZZ]; rfl
  obtain ⟨cs, hcs⟩ : ∃ cs : List Value, cs = bytesV (markB g) := ⟨_, rfl⟩
  have hl : cs.length = 64 := by rw [hcs, bytesV_len]; simp [markB]
  have hu := Try.underlying61
  have hi : (Try.prog.info? 61).map (·.size) = some cs.length := size40 hl.symm
  have hone : ∀ v ∈ cs, v.oneCell' = true := by rw [hcs]; exact bytesV_one _
  have hne : ¬ ZZ = #[] := by rw [hZZ]; intro h; have := congrArg Array.size h; simp [bytesV_len, blk0] at this
  have heq : (ZZ.setIfInBounds 0 (.int .u8 (mk : Int))).setIfInBounds 63 (.int .u8 (mk : Int)) = cs.toArray := by rw [hZZ, hcs, hmk, markB_V]; rfl
  rw [← hcs] at HSPL
  have hb1 : w.cell? ⟨hb, 1, none⟩ = some (.int .i64 (g : Int)) := by have := hr 1 _ rfl; rwa [Nat.zero_add] at this
  have hlen := Lib.hid (fun k => wrL_opn s fin ((rowL g (frameB g no p)).take k))
  clear hcs hZZ hmk hr ht hp hA hc hm0 hfl h hpl
  generalize putM s fin g no p = M at *
  go_enter Try.func48, Try.ntmps48
  go_wp2_with (go_at_call 60; ((with_reducible refine CS.out.mono ?_); rintro e w1 ⟨B, c2, rfl, hg1, hB0, hBy, hc2, hBlt⟩))
  have HD0 : Hid (∃ Fk, DK w1 Fk q (wrL s fin ((rowL g (frameB g no p)).take 0)).2 ∧ ∀ k, Fk k → FX F w w1 k ∧ k ≠ hb ∧ k ≠ B) := by
    refine ⟨F, hH.out.grew hg1, fun k hk => ⟨Or.inl hk, fun e => hF (e ▸ hk), fun e => ?_⟩⟩
    have := hfit.out k hk
    omega
  have HC0 : Hid (Chg (fun k => F k ∨ k = hb) w w1) := hg1.chg
  have HR0 : Hid (w1.rangeAt hb 0 [v0, .int .i64 (g : Int), v2, v3, .int .i64 ((fin + 0 : Nat) : Int)]) := rangeAt_of HR.out (hg1.block hb hlt)
  have HT0 : Hid (w1.there hb 0 5) := there_of HT.out (hg1.block hb hlt)
  have HBy0 : Hid (Bys w1 (some ⟨B, 0, none⟩) (n + 21) ((frameB g no p).drop (62 * 0))) := hBy
  have hBhb : B ≠ hb := by omega
  have hws := hg1.size
  clear CS hg1 hBy HR HT hH hb1
  go_loopw [9, 10] (fun v9 v10 wr => ∃ (k o ck : Nat), Hid (k ≤ nbk (n + 21)) ∧ v9 = .slice (some ⟨B, o, none⟩) (n + 21 - 62 * k) ck ∧ n + 21 - 62 * k ≤ ck ∧ v10 = .int .i64 (wrL s fin ((rowL g (frameB g no p)).take k)).1 ∧
      Hid ((wrL s fin ((rowL g (frameB g no p)).take k)).1 ≠ 0 → M = wrL s fin ((rowL g (frameB g no p)).take k)) ∧ Hid (∃ Fk, DK wr Fk q (wrL s fin ((rowL g (frameB g no p)).take k)).2 ∧ ∀ k, Fk k → FX F w wr k ∧ k ≠ hb ∧ k ≠ B) ∧
      Hid (Chg (fun k => F k ∨ k = hb) w wr) ∧ Hid (wr.there hb 0 5) ∧ Hid (wr.rangeAt hb 0 [v0, .int .i64 (g : Int), v2, v3, .int .i64 ((fin + k : Nat) : Int)]) ∧ Hid (Bys wr (some ⟨B, o, none⟩) (n + 21 - 62 * k) ((frameB g no p).drop (62 * k))) ∧ Hid (B < wr.heap.size)) (fun v9 _ _ => lenV v9)
  case atStart => exact ⟨0, 0, c2, Nat.zero_le _, rfl, hc2, rfl, fun h => absurd rfl h, HD0.out, HC0, HT0, HR0, HBy0, hBlt⟩
  case round =>
    obtain ⟨k, o, ck, hk, rfl, hck, rfl, HMs, HD, HC, HTH, HRG, HBy, HBl⟩ := hrel
    clear HD0 HC0 HR0 HT0 HBy0
    obtain ⟨r, sk, hzk⟩ : ∃ r sk, wrL s fin ((rowL g (frameB g no p)).take k) = (r, sk) := ⟨_, _, rfl⟩
    rw [hzk] at HMs HD
    have HZK := Lib.hid hzk
    clear hzk
    obtain ⟨nk, hnk⟩ : ∃ nk, nk = n + 21 - 62 * k := ⟨_, rfl⟩
    have HNK := Lib.hid hnk
    rw [← hnk] at hck HBy
    have hlv : lenV (.slice (some ⟨B, o, none⟩) (n + 21 - 62 * k) ck) = nk := hnk.symm
    have HLV := Lib.hid hlv
    rw [HZK.out]
    rw [← hnk]
    rw [← hnk] at HLV
    clear hnk hlv
    dsimp only at HMs HD
    dsimp only
    by_cases hr0 : r = 0
    · subst hr0
      by_cases hn0 : nk = 0
      · subst hn0
        have hkk : k = nbk (n + 21) := by
          have h1 := HK.out k
          have h2 := HNK.out
          have h3 := hk.out
          omega
        have HMr : Hid (M = (0, sk)) := by
          show M = _
          rw [HM.out, ← HZK.out, List.take_of_length_le (by rw [HRL.out]; omega)]
        have HPost : Hid (PutPost F hb q M v0 v2 v3 g (fin + nbk (n + 21)) w (.returned (.int .i64 0)) wr) := by
          show PutPost _ _ _ _ _ _ _ _ _ _ _ _
          rw [HMr.out, ← hkk]
          obtain ⟨Fk, h1, h2⟩ := HD.out
          exact ⟨rfl, HC.out, ⟨Fk, h1, fun k hk => ⟨(h2 k hk).1, (h2 k hk).2.1⟩⟩, HTH.out, fun _ => HRG.out⟩
        clear HMr HM HZK HD HC HTH HRG HBy HNK HLV HSPL HTK hlen
        go_wp2
        go_ret
        exact HPost.out
      · have d1 : (0 : Int) < (nk : Int) := by omega
        have hkn : k < nbk (n + 21) := by
          have h1 := HK.out k
          have h2 := HNK.out
          omega
        have hhl : hb < wr.heap.size := Nat.lt_of_lt_of_le hlt HC.out.size
        have hBl := HBl.out
        obtain ⟨r0, r1, r2, r3, r4⟩ := range5 HRG.out
        simp only [Nat.zero_add] at r1 r2 r3 r4
        -- region 3: the block with its marks
        have hth3 : (wr.alloc (.cells ZZ 61)).drew.there wr.heap.size 0 64 := by
          refine (World.there_drew _ _ _ _).2 (fun j hj => ⟨?_, by simp⟩)
          rw [World.cell?_alloc_at _ _ _ _ rfl]
          simp [HZl.out]; omega
        have cS : ((wr.alloc (.cells ZZ 61)).drew.setCells wr.heap.size 0 cs).cell? ⟨hb, 1, none⟩ = some (.int .i64 (g : Int)) := by
          rw [World.cell?_setCells_out _ _ _ _ _ (fun h _ => absurd h (by show hb ≠ _; omega))]
          exact (World.cell?_alloc_lt _ _ _ hhl).trans r1
        have hZl := HZl.out
        go_upto_region 3 with fail
        have hcW : Chg (fun _ => False) wr ((wr.alloc (.cells ZZ 61)).drew.setCells wr.heap.size 0 cs) := ((((Chg.refl _ _).alloc _).drew).setCells _ _ _ (fun h => by omega))
        have hXW : ((wr.alloc (.cells ZZ 61)).drew.setCells wr.heap.size 0 cs).heap[wr.heap.size]? = some (.cells cs.toArray 61 (0, 0)) := heap_new wr _ ZZ _ cs (by rw [HZl.out, hl]) rfl
        have HCW := Lib.hid hcW
        have HXW := Lib.hid hXW
        clear hcW hXW
        go_cut [11] from 22 to 58 (fun s11 wx => ∃ X, s11 = .pointer (some ⟨X, 0, none⟩) ∧ Hid (X = wr.heap.size) ∧ Chg (fun _ => False) wr wx ∧ wx.heap[X]? = some (.cells cs.toArray 61 (0, 0)))
        case first =>
          clear HK HTK HSPL HRL HM hlen HNK HLV HD HC HTH HRG HBy HMs hfit HZK HBl
          go_region_held3 (fun w' => w'.cell? ⟨hb, 1, none⟩ = some (.int .i64 (g : Int))) (first | exact r1 | exact (World.cell?_alloc_lt _ _ _ hhl).trans r1 | exact cS) (first
            | (go_at_call 61; ((with_reducible refine (CM.out _).mono ?_); rintro e w2 ⟨rfl, rfl⟩)))
          all_goals (go_wp2; go_meet; exact ⟨_, rfl, rfl, HCW.out, HXW.out⟩)
        case rest =>
          obtain ⟨X, rfl, hXe, hcW, hXW⟩ := hcut
          have hXs := own_at_lt hXW
          clear hth3 cS hZl hne heq hz HCW HXW
          obtain ⟨m, hm⟩ : ∃ m, m = min nk 62 := ⟨_, rfl⟩
          have hm1 : 0 < m := by omega
          have hm2 : m ≤ nk := by omega
          have hm3 : m ≤ 62 := by omega
          have hBy2 : Bys wc (some ⟨B, o, none⟩) nk ((frameB g no p).drop (62 * k)) := HBy.out.chg hcW (fun a _ h => h)
          have hsp := HSPL.out k m (by rw [← HNK.out]; exact hm)
          have hll := hBy2.1
          have HSR : Hid (∀ j v, (((((frameB g no p).drop (62 * k)).take m).map byv))[j]? = some v → wc.cell? ((⟨B, o, none⟩ : Addr).add j) = some v) := by
            intro j v hv
            rw [List.getElem?_map] at hv
            obtain ⟨x, hx, rfl⟩ := Option.map_eq_some_iff.1 hv
            have hj : j < m := by have := (List.getElem?_eq_some_iff.1 hx).1; rw [List.length_take] at this; omega
            rw [addr_add, hBy2.cell (by omega)]
            rw [List.getElem?_take, if_pos hj] at hx
            rw [List.getD_eq_getElem?_getD, hx]; rfl
          have HCN : Hid (((((frameB g no p).drop (62 * k)).take m).map byv).length = m) := by
            show _ = _
            rw [List.length_map, List.length_take]; omega
          have HON : Hid (∀ v ∈ ((((frameB g no p).drop (62 * k)).take m).map byv), v.oneCell' = true) := bytesV_one _
          have HBn : Hid (Bys wc (some ⟨B, o + m, none⟩) (nk - m) ((frameB g no p).drop (62 * k + m))) := by
            have := hBy2.drop (k := m) hm2
            rw [List.drop_drop] at this
            exact this
          have HSW : Hid (wc.setRow X (cs.take 1 ++ ((((frameB g no p).drop (62 * k)).take m).map byv ++ cs.drop (1 + m))).toArray = wc.setRow X (bytesV (rowBlk g (frameB g no p) k)).toArray) := by
            show _ = _; rw [hsp]
          have i1 : (m : Int) ≤ (nk : Int) := by omega
          have i2 : (nk : Int) ≤ (ck : Int) := by omega
          have i3 : (0 : Int) ≤ (m : Int) := by omega
          have i4 : (m : Int) ≤ (ck : Int) := by omega
          have HMI : Hid (m = min nk 62) := hm
          have HBd : Hid ((frameB g no p).drop (62 * k + m) = (frameB g no p).drop (62 * (k + 1))) := by
            show _ = _
            have hfl2 : (frameB g no p).length = n + 21 := by rw [frameB_len, hnp]
            by_cases h62 : 62 ≤ nk
            · rw [show 62 * k + m = 62 * (k + 1) by omega]
            · have := HNK.out
              rw [List.drop_of_length_le (by omega), List.drop_of_length_le (by omega)]
          generalize hcp : ((((frameB g no p).drop (62 * k)).take m).map byv) = cp at *
          clear hcp hll hsp HSPL hBy2
          have hct : cs.toArray.toList = cs := rfl
          have hfit2 : 1 + cp.length ≤ cs.toArray.size := by have := HCN.out; simp; omega
          have hcn2 : cp.length = Nat.min nk 62 := by rw [HCN.out]; exact hm
          obtain ⟨o2, ho2⟩ : ∃ o2, (if ck = m then some (⟨B, o, none⟩ : Addr) else some ⟨B, o + m, none⟩) = some ⟨B, o2, none⟩ := by
            by_cases hcm : ck = m
            · exact ⟨o, if_pos hcm⟩
            · exact ⟨o + m, if_neg hcm⟩
          have HB2 : Hid (Bys wc (some ⟨B, o2, none⟩) (nk - m) ((frameB g no p).drop (62 * (k + 1)))) := by
            show Bys _ _ _ _
            have hb2 := HBn.out
            rw [HBd.out] at hb2
            by_cases hcm : ck = m
            · have h0 : nk - m = 0 := by omega
              rw [h0] at hb2 ⊢
              rw [hb2.nil]; exact bys0 _ _
            · rw [if_neg hcm] at ho2
              rw [← ho2]; exact hb2
          clear hm HBn HBd
          go_upto_region 5 with (refine (wpList_copy_own (by rfl) _ _ _ _ (by rfl) 5 Try.underlying37 (by kernel_rfl) X 1 62 63 ⟨B, o, none⟩ nk ck (by rfl) (by rfl) cs.toArray 61 hXW cp hcn2 HSR.out hfit2 HON.out ?_); rw [HCN.out]; (change wpList _ _ _ _ _ (wc.setRow X (cs.take 1 ++ (cp ++ cs.drop (1 + m))).toArray)); rw [HSW.out])
          clear hnp hct hfit2 hcn2 HON HSR HCN HSW ho2
          obtain ⟨Fk, hdk, hFk⟩ := HD.out
          have hXe2 := hXe.out
          have hc5 : Chg (fun _ => False) wr (wc.setRow X (bytesV (rowBlk g (frameB g no p) k)).toArray) := chg_setRow hcW _ _ (fun h => by omega)
          have hrX : (wc.setRow X (bytesV (rowBlk g (frameB g no p) k)).toArray).rangeAt X 0 (bytesV (rowBlk g (frameB g no p) k)) := range_row (setRow_heap _ _ _ _ _ _ hXW)
          have HBy5 : Hid (Bys (wc.setRow X (bytesV (rowBlk g (frameB g no p) k)).toArray) (some ⟨B, o2, none⟩) (nk - m) ((frameB g no p).drop (62 * (k + 1)))) := HB2.out.chg (chg_setRow (F := fun k => k = X) (Chg.refl _ _) X _ (fun _ => rfl)) (fun a ha he => by cases ha; have h1 := HBl.out; have he' : B = X := he; omega)
          have hlb := rowBlk_len g (frameB g no p) k
          have hop := hlen.out k
          rw [HZK.out] at hop
          have hop2 : sk.opn.length ≤ 1000000 := by
            dsimp only at hop
            have h1 : ((rowL g (frameB g no p)).take k).length ≤ 1058 := by rw [List.length_take, HRL.out]; omega
            omega
          have hX5 : X < (wc.setRow X (bytesV (rowBlk g (frameB g no p) k)).toArray).heap.size := by rw [setRow_size]; exact hXs
          generalize wc.setRow X (bytesV (rowBlk g (frameB g no p) k)).toArray = w5 at *
          have hhb5 : hb < w5.heap.size := Nat.lt_of_lt_of_le hhl hc5.size
          have r45 := (hc5.cell (p := ⟨hb, 4, none⟩) hhl (fun h => h)).trans r4
          have hdk5 : DK w5.drew Fk q sk := hdk.chg (hc5.drew) (fun _ _ h => h)
          have hFX : ¬ Fk X := fun h => by have := hdk.fit X h; omega
          have hFh : ¬ Fk hb := fun h => (hFk hb h).2.1 rfl
          have CW0 := write_any Fk q sk ((fin + k : Nat) : Int) (rowBlk g (frameB g no p) k) w5.drew hdk5 hlb hop2
          have CW : Hid (Calls Try.prog 25 #[.pointer (some ⟨q, 0, none⟩), .int .i64 ((fin + k : Nat) : Int), .agg (bytesV (rowBlk g (frameB g no p) k)).toArray] w5.drew (DPost Fk q w5.drew (.int .i64 (dWrite sk ((fin + k : Nat) : Int) (rowBlk g (frameB g no p) k)).1) (dWrite sk ((fin + k : Nat) : Int) (rowBlk g (frameB g no p) k)).2)) := CW0
          have hsn : wrL s fin ((rowL g (frameB g no p)).take (k + 1)) = dWrite sk ((fin + k : Nat) : Int) (rowBlk g (frameB g no p) k) := by
            rw [HTK.out k hkn, wrL_snoc _ _ _ _ (by rw [HZK.out]), HZK.out, List.length_take, HRL.out, Nat.min_eq_left (by omega)]
          have hbl5 := bytesV_len (rowBlk g (frameB g no p) k)
          rw [hlb] at hbl5
          have hone5 := bytesV_one (rowBlk g (frameB g no p) k)
          rw [← hsn] at CW
          have HSN := Lib.hid hsn
          clear CW0 hsn hdk5 HB2 hXW hcW hop hop2 hlb hXs
          generalize bytesV (rowBlk g (frameB g no p) k) = cb at *
          obtain ⟨r2', s2, hz2⟩ : ∃ r s2, wrL s fin ((rowL g (frameB g no p)).take (k + 1)) = (r, s2) := ⟨_, _, rfl⟩
          rw [hz2] at CW
          dsimp only at CW
          have HZ2 := Lib.hid hz2
          clear hz2
          have hi5 : (Try.prog.info? 61).map (·.size) = some cb.length := size40 hbl5.symm
          rw [Int.natCast_add] at CW r45
          go_region_held3 (fun w' => w'.cell? ⟨hb, 4, none⟩ = some (.int .i64 ((fin : Int) + (k : Int))) ∧ w'.rangeAt X 0 cb)
            (first
              | exact ⟨r45, (World.rangeAt_drew _ _ _ _).2 hrX⟩
              | exact ⟨(hc6.cell (p := ⟨hb, 4, none⟩) hhb5 hFh).trans r45, rangeAt_of ((World.rangeAt_drew _ _ _ _).2 hrX) (hc6.block X hX5 hFX)⟩)
            (first
              | (go_at_call 25; ((with_reducible refine CW.out.mono ?_); rintro e w6 ⟨rfl, hc6, hd6⟩)))
          have hhb6 : hb < w6.heap.size := Nat.lt_of_lt_of_le hhb5 hc6.size
          have r46 := (hc6.cell (p := ⟨hb, 4, none⟩) hhb5 hFh).trans r45
          have hblk : w6.heap[hb]? = wr.heap[hb]? := (hc6.block hb hhb5 hFh).trans (hc5.block hb hhl (fun h => h))
          have f46 : w6.frozen? ⟨hb, 4, none⟩ = false := by
            have := (there_of HTH.out hblk 4 (by omega)).2
            rwa [Nat.zero_add] at this
          have i5 : IntKind.i64.wrap ((fin : Int) + (k : Int) + 1) = (fin : Int) + (k : Int) + 1 := by rw [IntKind.wrap_i64]; omega
          -- the round's end
          have hc57 : Chg (fun i => Fk i ∨ i = hb) w5.drew (w6.setCell ⟨hb, 4, none⟩ (.int .i64 ((fin : Int) + (k : Int) + 1))) := (hc6.mono fun i hi => Or.inl hi).setCell _ _ (fun _ => Or.inr rfl)
          have HC7 : Hid (Chg (fun k => F k ∨ k = hb) w (w6.setCell ⟨hb, 4, none⟩ (.int .i64 ((fin : Int) + (k : Int) + 1)))) := by
            refine (HC.out.trans (hc5.drew.mono fun i hi => hi.elim)).then hc57 (fun i hi hG => ?_)
            rcases hG with hG | hG
            · rcases (hFk i hG).1 with h1 | h1
              · exact Or.inl h1
              · omega
            · exact Or.inr hG
          have HD7 : Hid (∃ Fk', DK (w6.setCell ⟨hb, 4, none⟩ (.int .i64 ((fin : Int) + (k : Int) + 1))) Fk' q s2 ∧ ∀ i, Fk' i → FX F w (w6.setCell ⟨hb, 4, none⟩ (.int .i64 ((fin : Int) + (k : Int) + 1))) i ∧ i ≠ hb ∧ i ≠ B) := by
            have hsz7 : (w6.setCell ⟨hb, 4, none⟩ (.int .i64 ((fin : Int) + (k : Int) + 1))).heap.size = w6.heap.size := by simp [World.setCell]
            have hw56 : w5.heap.size ≤ w6.heap.size := hc6.size
            have hw5 := hc5.size
            have hww := HC.out.size
            have hBw := HBl.out
            have hne : ∀ i, FX Fk w5.drew w6 i → i ≠ hb ∧ i ≠ B := fun i hi => by
              rcases hi with hi | hi
              · exact ⟨(hFk i hi).2.1, (hFk i hi).2.2⟩
              · have : w5.heap.size ≤ i := hi.1
                exact ⟨by omega, by omega⟩
            refine ⟨_, hd6.chg (G := fun i => i = hb) ((Chg.refl _ _).setCell _ _ (fun _ => rfl)) (fun i hi h => (hne i hi).1 h), fun i hi => ⟨?_, hne i hi⟩⟩
            rcases hi with hi | hi
            · rcases (hFk i hi).1 with h1 | h1
              · exact Or.inl h1
              · exact Or.inr ⟨h1.1, by rw [hsz7]; omega⟩
            · have h3 : w5.heap.size ≤ i := hi.1
              exact Or.inr ⟨by omega, by rw [hsz7]; exact hi.2⟩
          have HT7 : Hid ((w6.setCell ⟨hb, 4, none⟩ (.int .i64 ((fin : Int) + (k : Int) + 1))).there hb 0 5) := there_set (there_of HTH.out hblk) _ _
          have HR7 : Hid ((w6.setCell ⟨hb, 4, none⟩ (.int .i64 ((fin : Int) + (k : Int) + 1))).rangeAt hb 0 [v0, .int .i64 (g : Int), v2, v3, .int .i64 ((fin + (k + 1) : Nat) : Int)]) := by
            have h1 := rangeAt_set (rangeAt_of HRG.out hblk) 4 (by simp) (.int .i64 ((fin : Int) + (k : Int) + 1))
            show World.rangeAt _ _ _ _
            rw [show ((fin + (k + 1) : Nat) : Int) = (fin : Int) + (k : Int) + 1 by omega]
            simpa using h1
          have HBy7 : Hid (Bys (w6.setCell ⟨hb, 4, none⟩ (.int .i64 ((fin : Int) + (k : Int) + 1))) (some ⟨B, o2, none⟩) (n + 21 - 62 * (k + 1)) ((frameB g no p).drop (62 * (k + 1)))) := by
            have h1 : n + 21 - 62 * (k + 1) = nk - m := by have := HNK.out; have := HMI.out; omega
            rw [h1]
            refine (HBy5.out.chg ((Chg.refl (fun _ => False) _).drew) (fun _ _ h => h)).chg hc57 (fun a ha he => ?_)
            cases ha
            rcases he with he | he
            · exact (hFk _ he).2.2 rfl
            · exact hBhb he
          have HBl7 : Hid (B < (w6.setCell ⟨hb, 4, none⟩ (.int .i64 ((fin : Int) + (k : Int) + 1))).heap.size) := by
            have hw56 : w5.heap.size ≤ w6.heap.size := hc6.size
            have hw5 := hc5.size
            have hBw := HBl.out
            show B < _
            simp [World.setCell]; omega
          have HM7 : Hid (r2' ≠ 0 → M = (r2', s2)) := fun hne => by
            have h1 : rowL g (frameB g no p) = (rowL g (frameB g no p)).take (k + 1) ++ (rowL g (frameB g no p)).drop (k + 1) := (List.take_append_drop _ _).symm
            rw [HM.out, h1, wrL_stop _ _ _ _ (by rw [HZ2.out]; exact hne), HZ2.out]
          have hck7 : n + 21 - 62 * (k + 1) ≤ ck - m := by have := HNK.out; have := HMI.out; omega
          have hnk7 : nk - m = n + 21 - 62 * (k + 1) := by have := HNK.out; have := HMI.out; omega
          have hdec : nk - m < nk := by omega
          have HDec := Lib.hid hdec
          have HNK7 := Lib.hid hnk7
          have HCK7 := Lib.hid hck7
          clear hc57 hblk hhb6 hXe2 hnk7 hck7 hdec hm1 hm2 hm3 i1 i2 i3 i4 hc5 hc6 hd6 r45 hrX hbl5 hone5 hi5 hFk hdk hFX hFh
          go_wp2
          go_roundw
          case rel => exact ⟨k + 1, o2, ck - m, hkn, by rw [HNK7.out], HCK7.out, by rw [HZ2.out], by rw [HZ2.out]; exact HM7.out, by rw [HZ2.out]; exact HD7.out, HC7, HT7, HR7, HBy7, HBl7⟩
          case measure => simp only [lenV]; have := HDec.out; have := HNK.out; omega
    · have d1 : (r == 0) = false := by simpa using hr0
      have HPost : Hid (PutPost F hb q M v0 v2 v3 g (fin + nbk (n + 21)) w (.returned (.int .i64 r)) wr) := by
        show PutPost _ _ _ _ _ _ _ _ _ _ _ _
        rw [HMs.out hr0]
        obtain ⟨Fk, h1, h2⟩ := HD.out
        exact ⟨rfl, HC.out, ⟨Fk, h1, fun k hk => ⟨(h2 k hk).1, (h2 k hk).2.1⟩⟩, HTH.out, fun h => absurd h hr0⟩
      clear HM HZK HD HC HTH HRG HBy HNK HLV HSPL HTK hlen HMs
      go_wp2
      go_ret
      exact HPost.out
end Go.Proofs.Ythnhhhfjgbgpgaa.NumK
