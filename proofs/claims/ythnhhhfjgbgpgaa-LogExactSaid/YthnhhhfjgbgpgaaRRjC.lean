/- The document's journal: Row. -/
import Derived.Test.YthnhhhfjgbgpgaaRRjB
import Derived.Test.YthnhhhfjgbgpgaaRRefD
namespace Go.Proofs.Ythnhhhfjgbgpgaa.NumK
open Go.RowKit

def RRowPost (r : Option (Nat × Nat × List UInt8 × Nat)) (w : World) (e : Ending) (w' : World) : Prop :=
  Grew w w' ∧ ((r = none ∧ ∃ (a b c : Int) (v : Value), e = .returned (.tuple #[.int .i64 a, .int .i64 b, v, .int .i64 c, .bool false])) ∨
    ∃ g k p nb v, r = some (g, k, p, nb) ∧ e = .returned (.tuple #[.int .i64 (g : Int), .int .i64 (k : Int), v, .int .i64 (nb : Int), .bool true]) ∧ w'.ownsRow w.heap.size 5 1 v p.length (p.map byv))
theorem seeL_len (l : List (Nat × Blk)) (b : Blk) (k : Nat) (hb : b.length = 64) (hl : ∀ v ∈ l, v.2.length = 64) : (seeL b l k).length = 64 := by
  induction l generalizing b with
  | nil => exact hb
  | cons v r ih =>
    refine ih _ ?_ (fun v hv => hl v (by simp [hv]))
    show (if v.1 = k then v.2 else b).length = 64
    split
    · exact hl v (by simp)
    · exact hb
theorem rsee_half (F : Nat → Prop) (q : Nat) (s : DS) (hf i : Nat) (w : World) (h : RK w F q s) (h2 : hf < 2) (hi : i < roomD s) (hop : s.opn.length ≤ 1000000) :
    (halfF s hf i).length = 64 ∧ Calls Try.prog 56 #[.pointer (some ⟨q, 0, none⟩), .int .i64 ((hf * roomD s + i : Nat) : Int)] w fun e w' => e = .returned (.agg (bytesV (halfF s hf i)).toArray) ∧ Grew w w' := by
  have hlt : hf * roomD s + i < s.safe.length := half_lt h2 hi
  have e : (cont s).getD (hf * roomD s + i) blk0 = halfF s hf i := see_of hlt
  have h5 := rsee_any F q s (hf * roomD s + i) hlt hop w h
  rw [e] at h5
  refine ⟨?_, h5⟩
  have ok := h.ok
  refine seeL_len _ _ _ ?_ (fun v hv => (ok.all.2 v hv).2)
  rw [List.getD_eq_getElem?_getD, List.getElem?_eq_getElem hlt]
  exact ok.all.1 _ (List.getElem_mem _)
set_option maxRecDepth 100000 in
set_option maxHeartbeats 4000000 in
theorem rrow_any (F : Nat → Prop) (q : Nat) (s : DS) (hf at' : Nat) (w : World) (h : RK w F q s) (h2 : hf < 2) (ha : at' ≤ 1000000) (hop : s.opn.length ≤ 1000000) :
    Calls Try.prog 58 #[.pointer (some ⟨q, 0, none⟩), .int .i64 (hf : Int), .int .i64 (at' : Int)] w (RRowPost (rowAt (halfF s hf) (roomD s) at') w) := by
  have hfew := h.ok.few
  have c0 : w.cell? ⟨q, 0, none⟩ = some (.int .i64 (s.safe.length : Int)) := by
    obtain ⟨Y, v, L, H, _⟩ := h.ex
    exact H.c0
  have hrm : roomD s ≤ 32768 := by unfold roomD; omega
  have t1 : ((s.safe.length : Int)).tdiv 2 = (roomD s : Int) := by unfold roomD; rw [Int.tdiv_eq_ediv_of_nonneg (by omega)]; omega
  have t2 : IntKind.i64.wrap (roomD s : Int) = (roomD s : Int) := by rw [IntKind.wrap_i64]; omega
  by_cases hat : roomD s ≤ at'
  · have d1 : (roomD s : Int) ≤ (at' : Int) := by omega
    have HP : Hid (RRowPost (rowAt (halfF s hf) (roomD s) at') w (.returned (.tuple #[.int .i64 0, .int .i64 0, .slice none 0 0, .int .i64 0, .bool false])) w) := ⟨grew_refl _, Or.inl ⟨rowAt_room hat, 0, 0, 0, _, rfl⟩⟩
    clear h
    generalize roomD s = room at *
    generalize s.safe.length = N at *
    go_enter Try.func58, Try.ntmps58
    go_wp2
    (try simp only [Exit.inBlock, Exit.then]); refine bodyPost_ret (results_tmp5 rfl _ _ _) rfl ?_
    exact HP.out
  · have d1 : ¬ (roomD s : Int) ≤ (at' : Int) := by omega
    obtain ⟨hr, hhr2⟩ : ∃ hr : Nat, hr = hf * roomD s := ⟨_, rfl⟩
    have hhr : hr ≤ 32768 := by rw [hhr2]; rcases (by omega : hf = 0 ∨ hf = 1) with hh | hh <;> rw [hh] <;> omega
    have t3 : (hf : Int) * (roomD s : Int) = (hr : Int) := by rw [hhr2, Int.natCast_mul]
    have t4 : IntKind.i64.wrap (hr : Int) = (hr : Int) := by rw [IntKind.wrap_i64]; omega
    have t5 : IntKind.i64.wrap ((hr : Int) + (at' : Int)) = (hr : Int) + (at' : Int) := by rw [IntKind.wrap_i64]; omega
    have CSE : Hid (∀ i w', i < roomD s → Grew w w' → (halfF s hf i).length = 64 ∧ Calls Try.prog 56 #[.pointer (some ⟨q, 0, none⟩), .int .i64 ((hr : Int) + (i : Int))] w' fun e w'' => e = .returned (.agg (bytesV (halfF s hf i)).toArray) ∧ Grew w' w'') := fun i w' hi g => by
      have h5 := rsee_half F q s hf i w' (h.grew g) h2 hi hop
      rw [← hhr2, Int.natCast_add] at h5
      exact h5
    obtain ⟨hl0, C0⟩ := CSE.out at' w (by omega) (grew_refl _)
    have C0 := Lib.hid C0
    have HRO : Hid (rowAt (halfF s hf) (roomD s) at' = rowAt (halfF s hf) (roomD s) at') := rfl
    have hil := inner_len hl0
    obtain ⟨Z, hZ⟩ : ∃ Z, Z = (bytesV blk0).toArray := ⟨_, rfl⟩
    have hz := fun w => zero40 w
    rw [← hZ] at hz
    have hone := Lib.hid (bytesV_one' (b := halfF s hf at'))
    have hl64 : (bytesV (halfF s hf at')).length = 64 := by rw [bytesV_len, hl0]
    have HPT := Lib.hid (fun w1 => put_new w1 Z hZ 61 (bytesV (halfF s hf at')) hl64)
    have HBI : Hid (∀ w1 V, w1.rangeAt V 0 (bytesV (halfF s hf at')) → V < w1.heap.size → Bys w1 (some ⟨V, 1, none⟩) 62 (innerB (halfF s hf at'))) := fun w1 V hr hV => ⟨hil, fun _ => ⟨V, 1, rfl, hV, fun j hj => by
      have := hr (1 + j) (byv ((innerB (halfF s hf at')).getD j 0)) (by
        unfold innerB bytesV
        rw [List.getElem?_map, List.getD_eq_getElem?_getD, List.getElem?_take_of_lt (by omega), List.getElem?_drop, List.getElem?_eq_getElem (by omega)]
        rfl)
      rw [Nat.zero_add] at this
      exact this⟩⟩
    have CH := Lib.hid (fun w1 V hb => rhead_any V 1 62 63 (innerB (halfF s hf at')) w1 hb (by omega) (by omega) (by omega))
    have hN1 : headOf (innerB (halfF s hf at')) = none → rowAt (halfF s hf) (roomD s) at' = none := fun hh => by unfold rowAt; rw [if_neg hat, hh]
    have HN1 := Lib.hid hN1
    clear h hhr2 hZ hil hN1
    cases hho : headOf (innerB (halfF s hf at')) with
    | none =>
      rw [hho] at CH
      have HP : Hid (∀ w', Grew w w' → RRowPost (rowAt (halfF s hf) (roomD s) at') w (.returned (.tuple #[.int .i64 0, .int .i64 0, .slice none 0 0, .int .i64 0, .bool false])) w') := fun w' g => ⟨g, Or.inl ⟨HN1.out hho, 0, 0, 0, _, rfl⟩⟩
      have CH2 : Hid (∀ (w1 : World) (V : Nat), Bys w1 (some ⟨V, 1, none⟩) 62 (innerB (halfF s hf at')) → Calls Try.prog 67 #[.slice (some ⟨V, 1, none⟩) 62 63] w1 fun e w' => e = .returned (.tuple #[.int .i64 0, .int .i64 0, .int .i64 0, .bool false]) ∧ Grew w1 w') := CH.out
      clear CH hho HN1
      generalize bytesV (halfF s hf at') = cs at *
      generalize hfr : roomD s = room at *
      generalize s.safe.length = N at *
      go_enter Try.func58, Try.ntmps58
      go_wp2_with (first
        | (go_at_call 56; ((with_reducible refine C0.out.mono ?_); rintro e w1 ⟨rfl, hg⟩; have P1 := Lib.hid (HPT.out w1); have G1 := Lib.hid (grew_trans hg P1.out.2.2.1); have B1 := Lib.hid (HBI.out _ _ P1.out.1 P1.out.2.2.2.2); clear hg))
        | (refine wpList_store_mid (by rfl) 61 _ _ (by rfl) w1.heap.size 0 cs.toArray (by rfl) (by rfl) (by simpa [hl64] using P1.out.2.1) (size40 (by simpa using hl64.symm)) hone.out ?_)
        | (go_at_call 67; ((with_reducible refine (CH2.out _ _ B1.out).mono ?_); rintro e w2 ⟨rfl, hg⟩; have G2 := Lib.hid (grew_trans G1.out hg); clear hg)))
      (try simp only [Exit.inBlock, Exit.then]); refine bodyPost_ret (results_tmp5 rfl _ _ _) rfl ?_
      exact HP.out _ G2.out
    | some x =>
    obtain ⟨g, k0, n⟩ := x
    have hbd : g ≤ 1099511627776 ∧ k0 ≤ 2147483647 ∧ n ≤ 65536 := by
      unfold headOf at hho
      split at hho
      · cases hho
      · split at hho
        · cases hho
        · rename_i hc
          simp only [Option.some.injEq, Prod.mk.injEq] at hho
          obtain ⟨rfl, rfl, rfl⟩ := hho
          omega
    rw [hho] at CH
    have CH2 : Hid (∀ (w1 : World) (V : Nat), Bys w1 (some ⟨V, 1, none⟩) 62 (innerB (halfF s hf at')) → Calls Try.prog 67 #[.slice (some ⟨V, 1, none⟩) 62 63] w1 fun e w' => e = .returned (.tuple #[.int .i64 (g : Int), .int .i64 (k0 : Int), .int .i64 (n : Int), .bool true]) ∧ Grew w1 w') := CH.out
    obtain ⟨nb, hnb⟩ : ∃ nb, nb = nbk (n + 21) := ⟨_, rfl⟩
    have hnbS : nb ≤ 1058 := by rw [hnb]; unfold nbk; omega
    have CB : Hid (∀ w1, Calls Try.prog 49 #[.int .i64 ((n : Int) + 21)] w1 fun e w' => e = .returned (.int .i64 (nb : Int)) ∧ w1 = w') := fun w1 => by
      have := rblocks_any (n + 21) (by omega) w1
      rw [hnb, Int.natCast_add] at *
      exact this
    have HRW : Hid (rowAt (halfF s hf) (roomD s) at' = if roomD s < at' + nb ∨ ¬ markedF (halfF s hf) at' g nb then none else match frs (joinF (halfF s hf) at' nb) with | none => none | some (g2, k2, n2) => some (g2, k2, ((joinF (halfF s hf) at' nb).drop 21).take n2, nb)) := by
      show _ = _
      unfold rowAt
      rw [if_neg hat, hho, hnb]
      rfl
    have t6 : IntKind.i64.wrap ((n : Int) + 21) = (n : Int) + 21 := by rw [IntKind.wrap_i64]; omega
    have t7 : IntKind.i64.wrap ((roomD s : Int) - (at' : Int)) = (roomD s : Int) - (at' : Int) := by rw [IntKind.wrap_i64]; omega
    clear CH hho HN1 hnb
    by_cases hbig : roomD s < at' + nb
    · have d2 : (roomD s : Int) - (at' : Int) < (nb : Int) := by omega
      have HP : Hid (∀ w', Grew w w' → RRowPost (rowAt (halfF s hf) (roomD s) at') w (.returned (.tuple #[.int .i64 0, .int .i64 0, .slice none 0 0, .int .i64 0, .bool false])) w') := fun w' g => ⟨g, Or.inl ⟨by rw [HRW.out, if_pos (Or.inl hbig)], 0, 0, 0, _, rfl⟩⟩
      clear HRW CSE HRO
      generalize bytesV (halfF s hf at') = cs at *
      generalize hfr : roomD s = room at *
      generalize s.safe.length = N at *
      go_enter Try.func58, Try.ntmps58
      go_wp2_with (first
        | (go_at_call 56; ((with_reducible refine C0.out.mono ?_); rintro e w1 ⟨rfl, hg⟩; have P1 := Lib.hid (HPT.out w1); have G1 := Lib.hid (grew_trans hg P1.out.2.2.1); have B1 := Lib.hid (HBI.out _ _ P1.out.1 P1.out.2.2.2.2); clear hg))
        | (refine wpList_store_mid (by rfl) 61 _ _ (by rfl) w1.heap.size 0 cs.toArray (by rfl) (by rfl) (by simpa [hl64] using P1.out.2.1) (size40 (by simpa using hl64.symm)) hone.out ?_)
        | (go_at_call 67; ((with_reducible refine (CH2.out _ _ B1.out).mono ?_); rintro e w2 ⟨rfl, hg⟩; have G2 := Lib.hid (grew_trans G1.out hg); clear hg))
        | (go_at_call 49; ((with_reducible refine (CB.out _).mono ?_); rintro e w3 ⟨rfl, rfl⟩)))
      (try simp only [Exit.inBlock, Exit.then]); refine bodyPost_ret (results_tmp5 rfl _ _ _) rfl ?_
      exact HP.out _ G2.out
    · have d2 : ¬ (roomD s : Int) - (at' : Int) < (nb : Int) := by omega
      have HNM : Hid (∀ i, i < nb → ¬ ((halfF s hf (at' + i)).getD 0 0 = markG g ∧ (halfF s hf (at' + i)).getD 63 0 = markG g) → ∀ w', Grew w w' → RRowPost (rowAt (halfF s hf) (roomD s) at') w (.returned (.tuple #[.int .i64 0, .int .i64 0, .slice none 0 0, .int .i64 0, .bool false])) w') := fun i hi hm w' gg => ⟨gg, Or.inl ⟨by rw [HRW.out, if_pos (Or.inr (fun hh => hm (hh i hi)))], 0, 0, 0, _, rfl⟩⟩
      have HYM : Hid ((∀ i, i < nb → (halfF s hf (at' + i)).getD 0 0 = markG g ∧ (halfF s hf (at' + i)).getD 63 0 = markG g) → rowAt (halfF s hf) (roomD s) at' = match frs (joinF (halfF s hf) at' nb) with | none => none | some (g2, k2, n2) => some (g2, k2, ((joinF (halfF s hf) at' nb).drop 21).take n2, nb)) := fun hm => by rw [HRW.out, if_neg (by rw [not_or]; exact ⟨by omega, fun hh => hh hm⟩)]
      have HJL : Hid (∀ i, i ≤ nb → (joinF (halfF s hf) at' i).length = 62 * i) := fun i hi => by
        induction i with
        | zero => rfl
        | succ i ih =>
          show (joinF (halfF s hf) at' i ++ innerB (halfF s hf (at' + i))).length = _
          rw [List.length_append, ih (by omega), inner_len (CSE.out (at' + i) w (by omega) (grew_refl _)).1]
          omega
      have CM := Lib.hid (fun w1 => rmark_any g (by omega) w1)
      have hbg := hbd
      clear HRW HRO hbd
      generalize hfr : roomD s = room at *
      generalize s.safe.length = N at *
      generalize halfF s hf = f at *
      obtain ⟨cs, hcs⟩ : ∃ cs, cs = bytesV (f at') := ⟨_, rfl⟩
      rw [← hcs] at HPT HBI hone hl64 C0
      have HCS := Lib.hid hcs
      clear hcs
      go_enter Try.func58, Try.ntmps58
      go_upto_region 13 with (first
        | (go_at_call 56; ((with_reducible refine C0.out.mono ?_); rintro e w1 ⟨rfl, hg⟩; have Q1 := Lib.hid hg.size; have P1 := Lib.hid (HPT.out w1); have G1 := Lib.hid (grew_trans hg P1.out.2.2.1); have B1 := Lib.hid (HBI.out _ _ P1.out.1 P1.out.2.2.2.2); clear hg))
        | (refine wpList_store_mid (by rfl) 61 _ _ (by rfl) w1.heap.size 0 cs.toArray (by rfl) (by rfl) (by simpa [hl64] using P1.out.2.1) (size40 (by simpa using hl64.symm)) hone.out ?_)
        | (go_at_call 67; ((with_reducible refine (CH2.out _ _ B1.out).mono ?_); rintro e w2 ⟨rfl, hg⟩; have G2 := Lib.hid (grew_trans G1.out hg); have K2 := Lib.hid hg; clear hg))
        | (go_at_call 49; ((with_reducible refine (CB.out _).mono ?_); rintro e w3 ⟨rfl, rfl⟩)))
      obtain ⟨V, hV⟩ : ∃ V, V = w1.heap.size := ⟨_, rfl⟩
      have hP := P1.out
      rw [← hV] at hP ⊢
      obtain ⟨hp1, -, -, hp4, hp5⟩ := hP
      have hVw : w.heap.size ≤ V := by rw [hV]; exact Q1.out
      have hV2 : V < w2.heap.size := Nat.lt_of_lt_of_le hp5 (by rw [hV]; exact K2.out.size)
      have hth : w2.there V 0 64 := there_of hp4 (by rw [hV]; exact K2.out.block _ (by rw [← hV]; exact hp5))
      have HTH := Lib.hid hth
      clear hp1 hp4 hp5 hth hV
      go_loopw [6, 9, 15, 16] (fun v6 v9 v15 v16 wr => ∃ i : Nat, v16 = .int .i64 i ∧ v6 = .int .i64 g ∧ v9 = .int .i64 nb ∧ i ≤ nb ∧ Hid (∀ j, j < i → (f (at' + j)).getD 0 0 = markG g ∧ (f (at' + j)).getD 63 0 = markG g) ∧ Hid (wr.ownsRow w2.heap.size 5 1 v15 (62 * i) ((joinF f at' i).map byv)) ∧ Hid (wr.there V 0 64) ∧ Hid (Chg (fun k => k = V) w2 wr)) (fun _ _ _ v16 _ => nb - (intOf v16).toNat)
      case atStart => exact ⟨0, rfl, rfl, rfl, Nat.zero_le _, fun j hj => absurd hj (by omega), World.ownsRow_nil _ _ _ _, HTH.out, Chg.refl _ _⟩
      case round =>
        obtain ⟨i, rfl, rfl, rfl, hi, HM, HO, HT, HC⟩ := hrel
        by_cases hlt : i < nb
        · have a3 : (i : Int) < (nb : Int) := by omega
          have hGR : Grew w wr := Chg.grew G2.out HC.out (fun k hk => by rw [hk]; exact hVw)
          obtain ⟨hl1, C1⟩ := CSE.out (at' + i) wr (by omega) hGR
          rw [Int.natCast_add, ← Int.add_assoc] at C1
          have C1 := Lib.hid C1
          have t8 : IntKind.i64.wrap ((hr : Int) + (at' : Int) + (i : Int)) = (hr : Int) + (at' : Int) + (i : Int) := by rw [IntKind.wrap_i64]; omega
          have hone1 := Lib.hid (bytesV_one' (b := f (at' + i)))
          have hl6 : (bytesV (f (at' + i))).length = 64 := by rw [bytesV_len, hl1]
          have hc0 : (bytesV (f (at' + i)))[0]? = some (byv ((f (at' + i)).getD 0 0)) := by unfold bytesV; rw [List.getElem?_map, List.getD_eq_getElem?_getD, List.getElem?_eq_getElem (by omega)]; rfl
          have hc63 : (bytesV (f (at' + i)))[63]? = some (byv ((f (at' + i)).getD 63 0)) := by unfold bytesV; rw [List.getElem?_map, List.getD_eq_getElem?_getD, List.getElem?_eq_getElem (by omega)]; rfl
          obtain ⟨ci, hci⟩ : ∃ ci, ci = bytesV (f (at' + i)) := ⟨_, rfl⟩
          rw [← hci] at C1 hone1 hl6 hc0 hc63
          have HCI := Lib.hid hci
          clear hci
          go_upto_region 16 with (first
            | (go_at_call 56; ((with_reducible refine C1.out.mono ?_); rintro e w4 ⟨rfl, hg⟩; have HT4 := Lib.hid (there_of HT.out (hg.block V (Nat.lt_of_lt_of_le hV2 HC.out.size))); have K4 := Lib.hid hg; clear hg))
            | (refine wpList_store_mid (by rfl) 61 _ _ (by rfl) V 0 ci.toArray (by rfl) (by rfl) (by simpa [hl6] using HT4.out) (size40 (by simpa using hl6.symm)) hone1.out ?_))
          have hr5 : (w4.setCells V 0 ci).rangeAt V 0 ci := World.rangeAt_setCells_same _ _ _ _ (by rw [hl6]; exact HT4.out)
          have x0 := hr5 0 _ hc0
          have x63 := hr5 63 _ hc63
          simp only [Nat.zero_add] at x0 x63
          unfold byv at x0 x63
          have HT5 : Hid ((w4.setCells V 0 ci).there V 0 64) := World.there_setCells HT4.out _ _ _
          have HC5 : Hid (Chg (fun k => k = V) w2 (w4.setCells V 0 ci)) := (HC.out.trans (Grew.chg K4.out)).setCells V 0 ci (fun _ => rfl)
          have hG5 : Grew w (w4.setCells V 0 ci) := Chg.grew G2.out HC5.out (fun k hk => by rw [hk]; exact hVw)
          have HG5 := Lib.hid hG5
          have HO5 : Hid ((w4.setCells V 0 ci).ownsRow w2.heap.size 5 1 u15 (62 * i) ((joinF f at' i).map byv)) := ownsRow_of HO.out (fun k hk => by
            have := HO.out.lt k hk
            exact (((Chg.refl (fun k => k = V) w4).setCells V 0 ci (fun _ => rfl)).block k (Nat.lt_of_lt_of_le this.2 K4.out.size) (by omega)).trans (K4.out.block k this.2))
          have HBY : Hid (Bys (w4.setCells V 0 ci) (some ⟨V, 1, none⟩) 62 (innerB (f (at' + i)))) := ⟨inner_len hl1, fun _ => ⟨V, 1, rfl, by rw [setCells_size]; exact Nat.lt_of_lt_of_le (Nat.lt_of_lt_of_le hV2 HC.out.size) K4.out.size, fun j hj => by
            have := hr5 (1 + j) (byv ((innerB (f (at' + i))).getD j 0)) (by
              rw [HCI.out]
              unfold innerB bytesV
              rw [List.getElem?_map, List.getD_eq_getElem?_getD, List.getElem?_take_of_lt (by omega), List.getElem?_drop, List.getElem?_eq_getElem (by omega)]
              rfl)
            rw [Nat.zero_add] at this
            exact this⟩⟩
          generalize w4.setCells V 0 ci = w5 at *
          obtain ⟨A0, hA0⟩ : ∃ A0, A0 = ((f (at' + i)).getD 0 0).toNat := ⟨_, rfl⟩
          obtain ⟨B0, hB0⟩ : ∃ B0, B0 = ((f (at' + i)).getD 63 0).toNat := ⟨_, rfl⟩
          rw [← hA0] at x0
          rw [← hB0] at x63
          have HA0 := Lib.hid hA0
          have HB0 := Lib.hid hB0
          generalize hmk : (markG g).toNat = mk at *
          have HMK := Lib.hid hmk
          clear hr5 hc0 hc63 hA0 hB0 hmk hG5 C1
          by_cases e0 : A0 = mk
          · by_cases e63 : B0 = mk
            · have HMI : Hid ((f (at' + i)).getD 0 0 = markG g ∧ (f (at' + i)).getD 63 0 = markG g) := ⟨UInt8.toNat_inj.1 (by rw [← HA0.out, HMK.out, e0]), UInt8.toNat_inj.1 (by rw [← HB0.out, HMK.out, e63])⟩
              rw [e0] at x0
              rw [e63] at x63
              clear e0 e63 HA0 HB0
              go_quiet (first | (go_at_call 62; with_reducible exact quiet_same (CM.out _)))
              have gN := grew_drewN (grew_refl w5) nq
              have hV5 : V < w5.heap.size := Nat.lt_of_lt_of_le hV2 HC5.out.size
              have HBY6 := Lib.hid (HBY.out.keep gN)
              have HO6 := Lib.hid (ownR_grew HO5.out gN)
              have HT6 := Lib.hid (there_of HT5.out (gN.block V hV5))
              have HC6 := Lib.hid (HC5.out.trans (Grew.chg gN))
              clear gN hV5 HBY HO5 HT5 HC5 x0 x63 HG5 HO HT HC K4 HT4 hl6 hone1 HCI
              generalize w5.drewN nq = w6 at *
              have HJ1 : Hid (joinF f at' (i + 1) = joinF f at' i ++ innerB (f (at' + i))) := rfl
              go_wp2_with (at_builtin; refine (wpList_append_bytes rfl _ _ rfl w2.heap.size _ (62 * i) _ rfl HO6.out (some ⟨V, 1, none⟩) 62 63 _ rfl (fun h => by cases h) HBY6.out (by omega) HC6.out.size ?_); intro v9 w9 hv hb; have HO9 := Lib.hid hv; have HT9 := Lib.hid (there_of HT6.out (hb.block V hV2)); have HB9 := Lib.hid hb; clear hv hb)
              have HC9 : Hid (Chg (fun k => k = V) w2 w9) := ⟨HB9.out.os.trans HC6.out.os, HB9.out.tape.trans HC6.out.tape, HB9.out.output.trans HC6.out.output, Nat.le_trans HC6.out.size HB9.out.size, fun j hj hn => (HB9.out.block j hj).trans (HC6.out.block j hj hn)⟩
              have HO10 : Hid (w9.ownsRow w2.heap.size 5 1 v9 (62 * (i + 1)) ((joinF f at' (i + 1)).map byv)) := by rw [HJ1.out]; exact HO9.out
              have HM2 : Hid (∀ j, j < i + 1 → (f (at' + j)).getD 0 0 = markG g ∧ (f (at' + j)).getD 63 0 = markG g) := fun j hj => by
                by_cases e : j = i
                · subst e; exact HMI.out
                · exact HM.out j (by omega)
              clear HO9 HB9 HC6 HT6 HO6 HBY6 HMI HJ1 HM
              go_roundw
              case rel => exact ⟨i + 1, by go_num, rfl, rfl, by omega, HM2, HO10, HT9, HC9⟩
              case measure => simp only [intOf]; omega
            · have d9 : ((B0 : Int) != (mk : Int)) = true := bne_iff_ne.2 (by omega)
              have HFL := Lib.hid (HNM.out i hlt (fun hh => e63 (by rw [HB0.out, hh.2, HMK.out])))
              rw [e0] at x0
              clear e0 e63 HA0 HB0
              go_quiet (first | (go_at_call 62; with_reducible exact quiet_same (CM.out _)))
              go_wp2
              (try simp only [Exit.inBlock, Exit.then]); refine bodyPost_ret (results_tmp5 rfl _ _ _) rfl ?_
              exact HFL.out _ (grew_drewN HG5.out _)
          · have d9 : ((A0 : Int) != (mk : Int)) = true := bne_iff_ne.2 (by omega)
            have HFL := Lib.hid (HNM.out i hlt (fun hh => e0 (by rw [HA0.out, hh.1, HMK.out])))
            clear e0 HA0 HB0
            go_quiet (first | (go_at_call 62; with_reducible exact quiet_same (CM.out _)))
            go_wp2
            (try simp only [Exit.inBlock, Exit.then]); refine bodyPost_ret (results_tmp5 rfl _ _ _) rfl ?_
            exact HFL.out _ (grew_drewN HG5.out _)
        · obtain rfl : i = nb := by omega
          have hGR : Grew w wr := Chg.grew G2.out HC.out (fun k hk => by rw [hk]; exact hVw)
          have HGR := Lib.hid hGR
          obtain ⟨AB, cB, rfl, hbB, hAB, hnB, hmB, -⟩ := bys_own2 HO.out
          have CF := Lib.hid (refFirst_any AB (62 * i) cB (joinF f at' i) wr hbB hAB hnB hmB)
          have HY := Lib.hid (HYM.out HM.out)
          clear hGR hbB hAB hnB hmB HO HT HC HM
          go_upto_region 20 with (go_at_call 68; ((with_reducible refine CF.out.mono ?_); rintro e w7 hp; have HF7 := Lib.hid hp; obtain ⟨hg7, hc7⟩ := hp; rcases hc7 with ⟨hn7, rfl⟩ | ⟨g2, m2, s2, v2, hs7, rfl, ho7⟩))
          · have hy := HY.out
            rw [hn7] at hy
            have HP : Hid (RRowPost (rowAt f room at') w (.returned (.tuple #[.int .i64 0, .int .i64 0, .slice none 0 0, .int .i64 (i : Int), .bool false])) w7) := ⟨grew_trans HGR.out hg7, Or.inl ⟨hy, 0, 0, (i : Int), _, rfl⟩⟩
            clear hy HY HF7 hn7 hg7 CF
            go_wp2
            (try simp only [Exit.inBlock, Exit.then]); refine bodyPost_ret (results_tmp5 rfl _ _ _) rfl ?_
            exact HP.out
          · have hy := HY.out
            rw [hs7] at hy
            have hfl := frs_some hs7
            have HP : Hid (RRowPost (rowAt f room at') w (.returned (.tuple #[.int .i64 (g2 : Int), .int .i64 (m2 : Int), v2, .int .i64 (i : Int), .bool true])) w7) := ⟨grew_trans HGR.out hg7, Or.inr ⟨g2, m2, _, i, v2, hy, rfl, by
              have hl : (((joinF f at' i).drop 21).take s2).length = s2 := by
                rw [List.length_take, List.length_drop]
                omega
              rw [hl]
              exact own_mono ho7 HGR.out.size⟩⟩
            clear hy HY HF7 hs7 hg7 CF ho7 hfl
            go_wp2
            (try simp only [Exit.inBlock, Exit.then]); refine bodyPost_ret (results_tmp5 rfl _ _ _) rfl ?_
            exact HP.out
end Go.Proofs.Ythnhhhfjgbgpgaa.NumK
