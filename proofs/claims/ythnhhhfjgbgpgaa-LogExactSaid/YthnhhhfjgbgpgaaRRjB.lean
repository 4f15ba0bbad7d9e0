/- The document's journal: put. -/
import Derived.Test.YthnhhhfjgbgpgaaRRjA
import Derived.Test.YthnhhhfjgbgpgaaRRefE
import Derived.Test.YthnhhhfjgbgpgaaRJnN
import Derived.Deep.CutBlock
namespace Go.Proofs.Ythnhhhfjgbgpgaa.NumK
open Go.RowKit

/-- A block of 64 bytes of the call's own, its bytes one by one. -/
def RU (w : World) (V : Nat) (d : Nat → UInt8) : Prop := V < w.heap.size ∧ ∀ j, j < 64 → w.cell? ⟨V, j, none⟩ = some (byv (d j)) ∧ w.frozen? ⟨V, j, none⟩ = false
theorem RU.of {w w' : World} {V : Nat} {d : Nat → UInt8} (h : RU w V d) (e : w'.heap[V]? = w.heap[V]?) (hs : w.heap.size ≤ w'.heap.size) : RU w' V d :=
  ⟨Nat.lt_of_lt_of_le h.1 hs, fun j hj => ⟨(World.cell?_of_block (w := w) (a := ⟨V, j, none⟩) e).trans (h.2 j hj).1, (World.frozen?_of_block (w := w) (a := ⟨V, j, none⟩) e).trans (h.2 j hj).2⟩⟩
theorem RU.set {w : World} {V : Nat} {d : Nat → UInt8} (h : RU w V d) (k : Nat) (x : UInt8) : RU (w.setCell ⟨V, k, none⟩ (byv x)) V (fun j => if j = k then x else d j) := by
  refine ⟨by simpa [World.setCell] using h.1, fun j hj => ⟨?_, by rw [World.frozen?_setCell]; exact (h.2 j hj).2⟩⟩
  by_cases e : j = k
  · subst e
    rw [World.cell?_setCell_same _ _ _ (h.2 j hj).1]; dsimp only; rw [if_pos rfl]
  · rw [World.cell?_setCell_other _ _ _ _ (by intro e'; simp only [Addr.mk.injEq] at e'; omega), (h.2 j hj).1]; dsimp only; rw [if_neg e]
theorem RU.new (w : World) (Z : Array Value) (t : TypeId) (hZ : Z = (bytesV blk0).toArray) : RU (w.alloc (.cells Z t)) w.heap.size (fun _ => 0) := by
  refine ⟨by simp, fun j hj => ⟨?_, by simp⟩⟩
  rw [World.cell?_alloc_at _ _ _ _ rfl, hZ, bytesV_zero, List.getElem?_toArray, List.getElem?_replicate, if_pos hj]
theorem RU.mk (w : World) (Z : Array Value) (t : TypeId) (d : Nat → UInt8) (h : ∀ j, j < 64 → Z[j]? = some (byv (d j))) : RU (w.alloc (.cells Z t)) w.heap.size d :=
  ⟨by simp, fun j hj => ⟨by rw [World.cell?_alloc_at _ _ _ _ rfl]; exact h j hj, by simp⟩⟩
theorem RU.range {w : World} {V : Nat} {d : Nat → UInt8} (h : RU w V d) (b : Blk) (hb : b.length = 64) (hd : ∀ j, j < 64 → b.getD j 0 = d j) : w.rangeAt V 0 (bytesV b) := by
  intro j v hv
  have hj : j < 64 := by
    have := (List.getElem?_eq_some_iff.1 hv).1
    rw [bytesV_len, hb] at this
    exact this
  rw [Nat.zero_add, (h.2 j hj).1, ← hd j hj, ← hv]
  unfold bytesV
  rw [List.getElem?_map, List.getD_eq_getElem?_getD, List.getElem?_eq_getElem (by rw [hb]; exact hj)]
  rfl
theorem rowBlk_at (g : Nat) (l : List UInt8) (k j : Nat) (hj : j < 64) : (rowBlk g l k).getD j 0 = if j = 0 ∨ j = 63 then markG g else l.getD (62 * k + (j - 1)) 0 := by
  unfold rowBlk cut62
  match j with
  | 0 => rfl
  | m + 1 =>
    rw [List.getD_cons_succ]
    by_cases hm : m = 62
    · subst hm
      rw [if_pos (Or.inr rfl), List.getD_eq_getElem?_getD, List.getElem?_append_right (by simp)]
      simp
    · rw [if_neg (by omega), List.getD_eq_getElem?_getD, List.getElem?_append_left (by simp; omega), List.getElem?_map, List.getElem?_range (by omega)]
      rfl
/-- A block while it is filled: i bytes of the k-th part. -/
def fillD (g : Nat) (l : List UInt8) (k i : Nat) (j : Nat) : UInt8 := if j = 0 ∨ j = 63 then markG g else if j ≤ i then l.getD (62 * k + (j - 1)) 0 else 0
theorem fillD_done (g : Nat) (l : List UInt8) (k i : Nat) (h : i = 62 ∨ l.length ≤ 62 * k + i) (j : Nat) (hj : j < 64) : (rowBlk g l k).getD j 0 = fillD g l k i j := by
  rw [rowBlk_at g l k j hj]
  unfold fillD
  by_cases h0 : j = 0 ∨ j = 63
  · rw [if_pos h0, if_pos h0]
  · rw [if_neg h0, if_neg h0]
    by_cases h1 : j ≤ i
    · rw [if_pos h1]
    · rw [if_neg h1, List.getD_eq_getElem?_getD, List.getElem?_eq_none (by omega)]; rfl
theorem fillD_succ (g : Nat) (l : List UInt8) (k i : Nat) (hi : i < 62) (j : Nat) : (if j = 1 + i then l.getD (62 * k + i) 0 else fillD g l k i j) = fillD g l k (i + 1) j := by
  unfold fillD
  by_cases e : j = 1 + i
  · subst e
    rw [if_pos rfl, if_neg (by omega), if_pos (by omega), show 1 + i - 1 = i by omega]
  · rw [if_neg e]
    by_cases h0 : j = 0 ∨ j = 63
    · rw [if_pos h0, if_pos h0]
    · rw [if_neg h0, if_neg h0]
      by_cases h1 : j ≤ i
      · rw [if_pos h1, if_pos (by omega)]
      · rw [if_neg h1, if_neg (by omega)]
theorem fillD_zero (g : Nat) (l : List UInt8) (k : Nat) (j : Nat) : (if j = 63 then markG g else if j = 0 then markG g else 0) = fillD g l k 0 j := by
  unfold fillD
  by_cases e : j = 63
  · rw [if_pos e, if_pos (Or.inr e)]
  · rw [if_neg e]
    by_cases e0 : j = 0
    · rw [if_pos e0, if_pos (Or.inl e0)]
    · rw [if_neg e0, if_neg (by omega), if_neg (by omega)]
theorem RU.congr {w : World} {V : Nat} {d d' : Nat → UInt8} (h : RU w V d) (e : ∀ j, j < 64 → d j = d' j) : RU w V d' := ⟨h.1, fun j hj => by rw [← e j hj]; exact h.2 j hj⟩
theorem rp_mk {F : Nat → Prop} {q : Nat} {w w0 w1 w2 : World} {r : Value} {s' : DS} {e : Ending} (hf : ∀ k, F k → k < w.heap.size) (h0 : w.heap.size ≤ w0.heap.size) (h01 : w0.heap.size ≤ w1.heap.size) (hc : Chg (fun i => F i ∨ w.heap.size ≤ i) w w1) (p : RPost (FX F w w0) q w1 r s' e w2) : RPost F q w r s' e w2 := by
  obtain ⟨he, h2, hk⟩ := p
  have h12 := h2.size
  have hc2 : Chg (fun i => F i ∨ w.heap.size ≤ i) w w2 := hc.then h2 (fun i hi hx => by
    rcases hx with hx | hx
    · exact Or.inl hx
    · exact Or.inr hx.1)
  refine ⟨he, ⟨hc2.os, hc2.tape, hc2.output, hc2.size, fun i hi hn => hc2.block i hi (fun hx => hx.elim hn (fun h => by omega))⟩, hk.more (fun i hi => ?_) (fun i hi => ?_)⟩
  · rcases hi with hi | hi
    · rcases hi with hi | hi
      · exact Or.inl hi
      · exact Or.inr ⟨hi.1, by omega⟩
    · exact Or.inr ⟨by omega, hi.2⟩
  · rcases hi with hi | hi
    · have := hf i hi; omega
    · exact hi.2
set_option maxRecDepth 100000 in
set_option maxHeartbeats 4000000 in
theorem rput_any (F : Nat → Prop) (q : Nat) (s : DS) (hf at' g : Nat) (l : List UInt8) (A : Option Addr) (n c : Nat) (w : World) (h : RK w F q s) (hb : Bys w A n l) (hAF : ∀ a, A = some a → 0 < n → ¬ F a.block) (hn : n ≤ 1000000) (h2 : hf < 2) (ha : at' ≤ 1000000) (hg : g ≤ 1099511627777) (hop : s.opn.length ≤ 900000) :
    Calls Try.prog 51 #[.pointer (some ⟨q, 0, none⟩), .int .i64 (hf : Int), .int .i64 (at' : Int), .int .i64 (g : Int), .slice A n c] w (RPost F q w (.int .i64 (wrL s (hf * roomD s + at') (rowL g l)).1) (wrL s (hf * roomD s + at') (rowL g l)).2) := by
  have hl : l.length = n := hb.1
  have hfew := h.ok.few
  have hrl : (rowL g l).length = nbk n := by rw [← hl]; simp [rowL]
  have hnb : nbk n ≤ 20000 := by unfold nbk; omega
  have hnl : ∀ k, k * 62 < n ↔ k < nbk n := fun k => by unfold nbk; omega
  have HB := Lib.hid hb
  have HFit := Lib.hid h.fit
  have HL := Lib.hid hl
  have HRL := Lib.hid hrl
  have HNL := Lib.hid hnl
  have HAF := Lib.hid hAF
  have CM := Lib.hid (fun w => rmark_any g (by omega) w)
  have HRK := Lib.hid h
  obtain ⟨Z, hZ⟩ : ∃ Z, Z = (bytesV blk0).toArray := ⟨_, rfl⟩
  have hz := fun w => zero40 w
  rw [← hZ] at hz
  have HZ := Lib.hid hZ
  have hmk : Hid (∀ x : UInt8, byv x = .int .u8 (x.toNat : Int)) := fun _ => rfl
  clear h hb hl hrl hnl hAF hZ
  go_enter Try.func51, Try.ntmps51
  go_wp2
  go_loopw [11] (fun v11 wr => ∃ k : Nat, v11 = .int .i64 k ∧ k ≤ nbk n ∧ Hid ((wrL s (hf * roomD s + at') ((rowL g l).take k)).1 = 0) ∧ Hid (RPost F q w (.int .i64 0) (wrL s (hf * roomD s + at') ((rowL g l).take k)).2 (.returned (.int .i64 0)) wr)) (fun v11 _ => nbk n - (intOf v11).toNat)
  case atStart => exact ⟨0, rfl, Nat.zero_le _, rfl, rfl, rk_same HRK.out⟩
  case round =>
    obtain ⟨k, rfl, hk, HZ0, HP⟩ := hrel
    by_cases hlt : k < nbk n
    · have a3 : (k : Int) * 62 < (n : Int) := by have := (HNL.out k).2 hlt; omega
      have i1 : IntKind.i64.wrap ((k : Int) * 62) = (k : Int) * 62 := by rw [IntKind.wrap_i64]; omega
      have hzz : ∀ j, j < 64 → Z[j]? = some (.int .u8 0) := fun j hj => by rw [HZ.out, bytesV_zero, List.getElem?_toArray, List.getElem?_replicate, if_pos hj]; rfl
      have z0 := hzz 0 (by omega)
      have z63 := hzz 63 (by omega)
      have hzs : Z.size = 64 := by rw [HZ.out, bytesV_zero]; simp
      obtain ⟨mk, hmk2⟩ : ∃ mk : Int, mk = ((markG g).toNat : Int) := ⟨_, rfl⟩
      have HU1 : Hid (RU (wr.alloc (.cells ((Z.setIfInBounds 0 (.int .u8 mk)).setIfInBounds 63 (.int .u8 mk)) 61)) wr.heap.size (fillD g l k 0)) := RU.mk wr _ _ _ fun j hj => by
        rw [← fillD_zero, Array.getElem?_setIfInBounds, Array.getElem?_setIfInBounds, hzz j hj]
        by_cases e : j = 63
        · subst e; simp [hzs, byv, hmk2]
        · by_cases e0 : j = 0
          · subst e0; simp [hzs, byv, hmk2]
          · rw [if_neg (fun h => e h.symm), if_neg (fun h => e0 h.symm), if_neg e, if_neg e0]; rfl
      have HC1 : Hid (Chg (fun i => i = wr.heap.size) wr (wr.alloc (.cells ((Z.setIfInBounds 0 (.int .u8 mk)).setIfInBounds 63 (.int .u8 mk)) 61))) := (Chg.refl _ wr).alloc _
      rw [← hmk2] at CM
      clear hzz hzs hmk2
      go_upto_region 6 with (first
        | (go_at_call 62; ((with_reducible refine (CM.out _).mono ?_); rintro e w2 ⟨rfl, rfl⟩)))
      clear z0 z63
      generalize wr.alloc (.cells ((Z.setIfInBounds 0 (.int .u8 mk)).setIfInBounds 63 (.int .u8 mk)) 61) = w2 at *
      obtain ⟨V, hV⟩ : ∃ V, V = wr.heap.size := ⟨_, rfl⟩
      rw [← hV] at HU1 HC1 ⊢
      have HV := Lib.hid hV
      have HN : Hid (∀ i, F i → i < w.heap.size) := HFit.out
      have hVw : w.heap.size ≤ V := by rw [hV]; exact HP.out.2.1.size
      have HVW := Lib.hid hVw
      have HBW : Hid (∀ w', Chg (fun i => F i ∨ w.heap.size ≤ i) w w' → Bys w' A n l) := fun w' g => HB.out.chg0 g (fun a ha h0 hh => by
        rcases hh with hh | hh
        · exact HAF.out a ha h0 hh
        · obtain ⟨b', o', e', hb', _⟩ := HB.out.2 h0
          rw [e'] at ha; cases ha
          have hh2 : w.heap.size ≤ b' := hh
          omega)
      have HC2 : Hid (Chg (fun i => F i ∨ w.heap.size ≤ i) w w2) := (HP.out.2.1.mono (fun i hi => Or.inl hi)).trans (HC1.out.mono (fun i hi => Or.inr (by rw [hi]; exact hVw)))
      have hwr0 : ∀ i, FX F w wr i → ¬ i = V := fun i hi he => by
        have h3 : i < wr.heap.size := fx_lt HFit.out HP.out.2.1.size i hi
        omega
      have HVN : Hid (∀ i, FX F w wr i → ¬ i = V) := hwr0
      have HRKK : Hid (∀ w', Chg (fun i => i = V) wr w' → RK w' (FX F w wr) q (wrL s (hf * roomD s + at') ((rowL g l).take k)).2) := fun w' g => HP.out.2.2.chg g hwr0
      obtain ⟨wr0, hwr⟩ : ∃ wr0, wr0 = wr := ⟨_, rfl⟩
      rw [← hwr] at HRKK HC1 HP HVN
      clear hV hVw hwr0 hwr
      go_upto_region 7 with fail
      go_loopw [13] (fun v13 wx => ∃ i : Nat, v13 = .int .i64 i ∧ i ≤ 62 ∧ Hid (RU wx V (fillD g l k i)) ∧ Hid (Chg (fun i => i = V) wr0 wx) ∧ Hid (Chg (fun i => F i ∨ w.heap.size ≤ i) w wx)) (fun v13 _ => 62 - (intOf v13).toNat)
      case atStart => exact ⟨0, rfl, Nat.zero_le _, HU1, HC1, HC2⟩
      case round =>
        obtain ⟨i, rfl, hi, HU, HC, HCW⟩ := hrel
        clear HU1 HC1 HC2
        by_cases hi2 : i < 62 ∧ 62 * k + i < n
        · have d1 : (i : Int) < 62 := by omega
          obtain ⟨m, hm⟩ : ∃ m : Nat, m = 62 * k + i := ⟨_, rfl⟩
          obtain ⟨p, hp⟩ : ∃ p : Nat, p = 1 + i := ⟨_, rfl⟩
          have i2 : IntKind.i64.wrap ((k : Int) * 62 + (i : Int)) = (m : Int) := by rw [IntKind.wrap_i64]; omega
          have i3 : IntKind.i64.wrap (1 + (i : Int)) = (p : Int) := by rw [IntKind.wrap_i64]; omega
          have d2 : (m : Int) < (n : Int) := by omega
          have d3 : (0 : Int) ≤ (m : Int) := by omega
          have d4 : (p : Int) < 64 := by omega
          have d5 : (0 : Int) ≤ (p : Int) := by omega
          obtain ⟨b, o, rfl, hbl, hcs⟩ := (HBW.out wr HCW.out).2 (by omega)
          have g1 := hcs m (by omega)
          have g2 := (HU.out.2 p (by omega)).1
          have g3 := (HU.out.2 p (by omega)).2
          have HN1 : Hid (RU (wr.setCell ⟨V, p, none⟩ (.int .u8 ((l.getD m 0).toNat : Int))) V (fillD g l k (i + 1))) := (HU.out.set p (l.getD m 0)).congr fun j _ => by rw [hp, hm]; exact fillD_succ g l k i hi2.1 j
          have HN2 := Lib.hid (HC.out.setCell (F := fun i => i = V) ⟨V, p, none⟩ (.int .u8 ((l.getD m 0).toNat : Int)) (fun _ => rfl))
          have HN3 := Lib.hid (HCW.out.setCell (F := fun i => F i ∨ w.heap.size ≤ i) ⟨V, p, none⟩ (.int .u8 ((l.getD m 0).toNat : Int)) (fun _ => Or.inr HVW.out))
          clear hcs hbl HU HC HCW hm hp
          generalize (l.getD m 0).toNat = x at *
          generalize fillD g l k i p = y at *
          go_wp2
          go_roundw
          case rel => exact ⟨i + 1, by go_num, by omega, HN1, HN2, HN3⟩
          case measure => simp only [intOf]; omega
        · have hrg := HU.out.range (rowBlk g l k) (rowBlk_len _ _ _) (fillD_done g l k i (by have := HL.out; omega))
          have hl64 : (bytesV (rowBlk g l k)).length = 64 := by rw [bytesV_len, rowBlk_len]
          obtain ⟨e1, s1, hws⟩ : ∃ e1 s1, wrL s (hf * roomD s + at') ((rowL g l).take (k + 1)) = (e1, s1) := ⟨_, _, rfl⟩
          have hdw : dWrite (wrL s (hf * roomD s + at') ((rowL g l).take k)).2 ((hf * roomD s + at' + k : Nat) : Int) (rowBlk g l k) = (e1, s1) := by
            rw [← hws, rowL_take g l k (by rw [HL.out]; exact hlt), wrL_snoc _ _ _ _ HZ0.out, List.length_take, HRL.out, Nat.min_eq_left (by omega)]
          have hrk := HRKK.out wr HC.out
          have hrkd : RK wr.drew (FX F w wr0) q (wrL s (hf * roomD s + at') ((rowL g l).take k)).2 := hrk.chg ((Chg.refl (fun _ => False) wr).drew) (fun _ _ h => h)
          have hop2 := wrL_opn s (hf * roomD s + at') ((rowL g l).take k)
          have CWR := rwrite_any (FX F w wr0) q (wrL s (hf * roomD s + at') ((rowL g l).take k)).2 ((hf * roomD s + at' + k : Nat) : Int) (rowBlk g l k) wr.drew hrkd (rowBlk_len _ _ _) (by rw [List.length_take, HRL.out] at hop2; omega)
          rw [hdw] at CWR
          have hx0 : wr.cell? ⟨q, 0, none⟩ = some (.int .i64 (s.safe.length : Int)) := by
            obtain ⟨Y, v, LL, H, _⟩ := hrk.ex
            have := H.c0
            rw [wrL_keeps] at this
            exact this
          have hs1 : s1.safe = s.safe := by have := dWrite_safe (wrL s (hf * roomD s + at') ((rowL g l).take k)).2 ((hf * roomD s + at' + k : Nat) : Int) (rowBlk g l k); rw [hdw, wrL_keeps] at this; exact this
          have HPN : Hid (∀ e w9, RPost (FX F w wr0) q wr.drew (.int .i64 e1) s1 e w9 → RPost F q w (.int .i64 e1) s1 e w9 ∧ w9.cell? ⟨q, 0, none⟩ = some (.int .i64 (s.safe.length : Int)) ∧ w9.rangeAt V 0 (bytesV (rowBlk g l k))) := fun e w9 p => by
            refine ⟨rp_mk HFit.out HP.out.2.1.size (by have := HC.out.size; exact this) (HCW.out.drew) p, ?_, rangeAt_of hrg (p.2.1.block V HU.out.1 (fun hh => HVN.out V hh rfl))⟩
            obtain ⟨Y, v, LL, H, _⟩ := p.2.2.ex
            have := H.c0
            rw [hs1] at this
            exact this
          have hrm : roomD s ≤ 32768 := by unfold roomD; omega
          have hhr : hf * roomD s ≤ 32768 := by rcases (by omega : hf = 0 ∨ hf = 1) with hh | hh <;> rw [hh] <;> omega
          have t1 : ((s.safe.length : Int)).tdiv 2 = (roomD s : Int) := by unfold roomD; rw [Int.tdiv_eq_ediv_of_nonneg (by omega)]; omega
          obtain ⟨hr, hhr2⟩ : ∃ hr : Nat, hr = hf * roomD s := ⟨_, rfl⟩
          have t3 : (hf : Int) * (roomD s : Int) = (hr : Int) := by rw [hhr2, Int.natCast_mul]
          have t2 : IntKind.i64.wrap (roomD s : Int) = (roomD s : Int) := by rw [IntKind.wrap_i64]; omega
          have t4 : IntKind.i64.wrap (hr : Int) = (hr : Int) := by rw [IntKind.wrap_i64]; omega
          have t5 : IntKind.i64.wrap ((hr : Int) + (at' : Int)) = (hr : Int) + (at' : Int) := by rw [IntKind.wrap_i64]; omega
          have t6 : IntKind.i64.wrap ((hr : Int) + (at' : Int) + (k : Int)) = (hr : Int) + (at' : Int) + (k : Int) := by rw [IntKind.wrap_i64]; omega
          rw [← hhr2, Int.natCast_add, Int.natCast_add] at CWR
          have HWS := Lib.hid hws
          have hV9 : blkV' (rowBlk g l k) = .agg (bytesV (rowBlk g l k)).toArray := rfl
          rw [hV9] at CWR
          have hone := bytesV_one (rowBlk g l k)
          have CWR := Lib.hid CWR
          clear hws hdw hrk hrkd hop2 hhr2 hhr hrm hV9 HRKK hs1
          generalize bytesV (rowBlk g l k) = cs at *
          generalize hNN : s.safe.length = NN at *
          have hu := Try.underlying61
          have hi9 : (Try.prog.info? 61).map (·.size) = some cs.length := size40 hl64.symm
          by_cases hi62 : i < 62
          · have d1 : (i : Int) < 62 := by omega
            have i2 : IntKind.i64.wrap ((k : Int) * 62 + (i : Int)) = (k : Int) * 62 + (i : Int) := by rw [IntKind.wrap_i64]; omega
            have d2 : ¬ (k : Int) * 62 + (i : Int) < (n : Int) := by omega
            go_upto_region 10 with fail
            clear d1
            go_region_held3 (fun w' => w'.cell? ⟨q, 0, none⟩ = some (.int .i64 (NN : Int)) ∧ w'.rangeAt V 0 cs)
              (first | exact ⟨hx0, (World.rangeAt_drew _ _ _ _).2 hrg⟩ | exact ⟨hx9, hr9⟩)
              (first
                | (go_at_call 26; ((with_reducible refine CWR.out.mono ?_); rintro e w9 hp9; obtain ⟨⟨rfl, hc9, hk9⟩, hx9, hr9⟩ := HPN.out e w9 hp9; have HC9 := Lib.hid hc9; have HK9 := Lib.hid hk9; clear hp9 hc9 hk9)))
            by_cases he : e1 = 0
            · subst he
              go_wp2
              go_roundw
              case rel => exact ⟨k + 1, by go_num, by omega, by show _ = _; rw [HWS.out], by rw [HWS.out]; exact ⟨rfl, HC9.out, HK9.out⟩⟩
              case measure => simp only [intOf]; omega
            · have d9 : (e1 != 0) = true := bne_iff_ne.2 he
              have HF9 : Hid (RPost F q w (.int .i64 (wrL s (hf * roomD s + at') (rowL g l)).1) (wrL s (hf * roomD s + at') (rowL g l)).2 (.returned (.int .i64 e1)) w9) := by
                have h1 : rowL g l = (rowL g l).take (k + 1) ++ (rowL g l).drop (k + 1) := (List.take_append_drop _ _).symm
                have h3 : wrL s (hf * roomD s + at') (rowL g l) = (e1, s1) := by rw [h1, wrL_stop _ _ _ _ (by rw [HWS.out]; exact he), HWS.out]
                rw [h3]
                exact ⟨rfl, HC9.out, HK9.out⟩
              go_wp2
              go_ret
              exact HF9.out
          · have d1 : ¬ (i : Int) < 62 := by omega
            go_upto_region 10 with fail
            clear d1
            go_region_held3 (fun w' => w'.cell? ⟨q, 0, none⟩ = some (.int .i64 (NN : Int)) ∧ w'.rangeAt V 0 cs)
              (first | exact ⟨hx0, (World.rangeAt_drew _ _ _ _).2 hrg⟩ | exact ⟨hx9, hr9⟩)
              (first
                | (go_at_call 26; ((with_reducible refine CWR.out.mono ?_); rintro e w9 hp9; obtain ⟨⟨rfl, hc9, hk9⟩, hx9, hr9⟩ := HPN.out e w9 hp9; have HC9 := Lib.hid hc9; have HK9 := Lib.hid hk9; clear hp9 hc9 hk9)))
            by_cases he : e1 = 0
            · subst he
              go_wp2
              go_roundw
              case rel => exact ⟨k + 1, by go_num, by omega, by show _ = _; rw [HWS.out], by rw [HWS.out]; exact ⟨rfl, HC9.out, HK9.out⟩⟩
              case measure => simp only [intOf]; omega
            · have d9 : (e1 != 0) = true := bne_iff_ne.2 he
              have HF9 : Hid (RPost F q w (.int .i64 (wrL s (hf * roomD s + at') (rowL g l)).1) (wrL s (hf * roomD s + at') (rowL g l)).2 (.returned (.int .i64 e1)) w9) := by
                have h1 : rowL g l = (rowL g l).take (k + 1) ++ (rowL g l).drop (k + 1) := (List.take_append_drop _ _).symm
                have h3 : wrL s (hf * roomD s + at') (rowL g l) = (e1, s1) := by rw [h1, wrL_stop _ _ _ _ (by rw [HWS.out]; exact he), HWS.out]
                rw [h3]
                exact ⟨rfl, HC9.out, HK9.out⟩
              go_wp2
              go_ret
              exact HF9.out
    · obtain rfl : k = nbk n := by omega
      have a3 : ¬ ((nbk n : Nat) : Int) * 62 < (n : Int) := by have := (HNL.out (nbk n)); omega
      have i1 : IntKind.i64.wrap (((nbk n : Nat) : Int) * 62) = ((nbk n : Nat) : Int) * 62 := by rw [IntKind.wrap_i64]; omega
      have HF9 : Hid (RPost F q w (.int .i64 (wrL s (hf * roomD s + at') (rowL g l)).1) (wrL s (hf * roomD s + at') (rowL g l)).2 (.returned (.int .i64 0)) wr) := by
        have h1 := HP.out
        have h2 := HZ0.out
        rw [List.take_of_length_le (by rw [HRL.out]; exact Nat.le_refl _)] at h1 h2
        rw [h2]; exact h1
      go_wp2
      go_ret
      exact HF9.out
end Go.Proofs.Ythnhhhfjgbgpgaa.NumK
