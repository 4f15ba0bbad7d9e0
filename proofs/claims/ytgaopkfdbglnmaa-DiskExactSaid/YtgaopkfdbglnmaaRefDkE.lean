/- The document's own disk: Crash, Start. -/
import Derived.Test.YtgaopkfdbglnmaaRefDkD
namespace Go.Proofs.Ytgaopkfdbglnmaa.NumK
open Go.RowKit

theorem BlkRow.put {w : World} {C : Nat} {bs : List Blk} (h : BlkRow w C bs) {k : Nat} (hk : k < bs.length) (j : Nat) (hj : j < 64) (x : UInt8) : BlkRow (w.setCell ⟨C, k * 64 + j, none⟩ (byv x)) C (bs.set k ((bs.getD k blk0).set j x)) := by
  have ho := h.one hk
  refine ⟨by simpa [World.setCell] using h.lt, fun y hy => ?_, fun i hi => ⟨?_, ?_⟩⟩
  · rcases List.mem_or_eq_of_mem_set hy with hy | rfl
    · exact h.len y hy
    · rw [List.length_set]; exact ho
  · have hi2 : i < bs.length := by simpa using hi
    by_cases e : k = i
    · subst e
      rw [getD_set_eq hi2]
      intro m v hv
      unfold bytesV at hv
      rw [List.getElem?_map] at hv
      obtain ⟨y, hy, rfl⟩ := Option.map_eq_some_iff.1 hv
      have hm : m < 64 := by have := (List.getElem?_eq_some_iff.1 hy).1; rw [List.length_set] at this; omega
      by_cases em : j = m
      · subst em
        rw [List.getElem?_set_self (by omega)] at hy
        cases hy
        obtain ⟨u, hu⟩ := Option.isSome_iff_exists.1 ((h.at' k hk).2 j hj).1
        exact World.cell?_setCell_same _ _ _ hu
      · rw [List.getElem?_set_ne em] at hy
        rw [World.cell?_setCell_other _ _ _ _ (by intro e; simp only [Addr.mk.injEq] at e; omega)]
        refine (h.at' k hk).1 m _ ?_
        unfold bytesV
        rw [List.getElem?_map, hy]; rfl
    · rw [getD_set_ne e]
      intro m v hv
      have hm : m < 64 := by have := (List.getElem?_eq_some_iff.1 hv).1; rw [bytesV_len, h.one hi2] at this; exact this
      rw [World.cell?_setCell_other _ _ _ _ (by intro e'; simp only [Addr.mk.injEq] at e'; omega)]
      exact (h.at' i hi2).1 m v hv
  · intro m hm
    have hi2 : i < bs.length := by simpa using hi
    obtain ⟨h1, h2⟩ := (h.at' i hi2).2 m hm
    exact ⟨World.isSome_setCells C [byv x] (k * 64 + j) w _ h1, by rw [World.frozen?_setCell]; exact h2⟩
theorem mixB_at (a b : Blk) (m i : Nat) (hb : b.length = 64) (hm : m ≤ 64) : (mixB a b m)[i]? = if i < m then b[i]? else a[i]? := by
  unfold mixB
  have hl : (b.take m).length = m := by rw [List.length_take]; omega
  by_cases h : i < m
  · rw [if_pos h, List.getElem?_append_left (by omega), List.getElem?_take, if_pos h]
  · rw [if_neg h, List.getElem?_append_right (by omega), List.getElem?_drop, hl, show m + (i - m) = i by omega]
theorem mixB_step (a b : Blk) (k : Nat) (ha : a.length = 64) (hb : b.length = 64) (hk : k < 64) : (mixB a b k).set k (b.getD k 0) = mixB a b (k + 1) := by
  have hl := mixB_len (m := k) ha hb
  apply List.ext_getElem?
  intro i
  rw [List.getElem?_set, mixB_at a b (k + 1) i hb (by omega), mixB_at a b k i hb (by omega), hl]
  by_cases e : k = i
  · subst e
    rw [if_pos rfl, if_pos hk, if_pos (by omega), List.getD_eq_getElem?_getD, List.getElem?_eq_getElem (by omega)]; rfl
  · rw [if_neg e]
    by_cases hi : i < k
    · rw [if_pos hi, if_pos (by omega)]
    · rw [if_neg hi, if_neg (by omega)]
theorem mixB_none (a b : Blk) : mixB a b 0 = a := by simp [mixB]
theorem set_same {l : List Blk} {k : Nat} (hk : k < l.length) : l.set k (l.getD k blk0) = l := by
  have : l.getD k blk0 = l[k] := by simp [List.getD, hk]
  rw [this]; exact List.set_getElem_self hk

/-- The worlds that a Crash leaves. -/
theorem rk_crash {F : Nat → Prop} {q : Nat} {s : DS} {picks : List Int} {w wA w2 : World} {Y : Nat} {v : Value} (hf : ∀ k, F k → k < w.heap.size) (ok : DOK s) (L : RLie F q Y v) (gA : Chg (fun i => i = q) w wA) (H : RHead wA q s.safe.length Y v 0 true false)
    (g : Chg (fun i => i = Y) wA w2) (h2 : BlkRow w2 Y (crashL picks 0 s.safe s.opn)) : Chg F w (w2.setCell ⟨q, 2, none⟩ (.slice none 0 0)) ∧ RK (w2.setCell ⟨q, 2, none⟩ (.slice none 0 0)) (FX F w (w2.setCell ⟨q, 2, none⟩ (.slice none 0 0))) q (dCrash s picks) := by
  have c5 : Chg (fun i => i = q) w2 (w2.setCell ⟨q, 2, none⟩ (.slice none 0 0)) := (Chg.refl (fun i => i = q) w2).setCell ⟨q, 2, none⟩ _ (fun _ => rfl)
  have hall : Chg F w (w2.setCell ⟨q, 2, none⟩ (.slice none 0 0)) := ((gA.mono (G := F) (fun i hi => hi ▸ L.fq)).trans (g.mono (G := F) (fun i hi => hi ▸ L.fY))).trans (c5.mono (G := F) (fun i hi => hi ▸ L.fq))
  have hl : (dCrash s picks).safe.length = s.safe.length := crashL_len _ _ _ _
  refine ⟨hall, fx_fit hf hall.size, dok_crash ok h2.len, Y, .slice none 0 0, ⟨Or.inl L.fq, Or.inl L.fY, (fun i hi => by cases hi), L.qY⟩, ?_, h2.chg c5 (fun h => L.qY h.symm), World.ownsRow_nil _ _ _ _⟩
  rw [hl]; exact (H.chg g (fun h => L.qY h)).set2 _

set_option maxRecDepth 100000 in
set_option maxHeartbeats 4000000 in
theorem rcrash_any (F : Nat → Prop) (q : Nat) (s : DS) (A : Option Addr) (pn pc : Nat) (zs : List Int) (w : World) (h : RK w F q s) (hp : Ints w A pn zs) (hpF : ∀ a, A = some a → 0 < pn → ¬ F a.block) (hpn : pn ≤ 9223372036854775807) (hn : s.opn.length ≤ 1000000) :
    Calls Try.prog 28 #[.pointer (some ⟨q, 0, none⟩), .slice A pn pc] w (RPost F q w (.tuple #[]) (dCrash s zs)) := by
  have HP := Lib.hid hp
  have HPF := Lib.hid hpF
  have HD := Lib.hid h
  obtain ⟨Y, v, L, H, h2, h3⟩ := h.ex
  obtain ⟨A0, cap, rfl⟩ := own_form h3
  have HL := Lib.hid L
  have H2 := Lib.hid h2
  have H3 := Lib.hid h3
  have c3 := H.c3
  have f3 := H.f3
  have c4 := H.c4
  have f4 := H.f4
  have c5 := H.c5
  have f5 := H.f5
  have HH : Hid (RHead (((w.setCell ⟨q, 3, none⟩ (.bool true)).setCell ⟨q, 5, none⟩ (.bool false)).setCell ⟨q, 4, none⟩ (.int .i64 0)) q s.safe.length Y (.slice A0 s.opn.length cap) 0 true false) := ((H.set3 true).set5 false).set4 0
  have HGA : Hid (Chg (fun i => i = q) w (((w.setCell ⟨q, 3, none⟩ (.bool true)).setCell ⟨q, 5, none⟩ (.bool false)).setCell ⟨q, 4, none⟩ (.int .i64 0))) :=
    (((Chg.refl (fun k => k = q) w).setCell ⟨q, 3, none⟩ _ (fun _ => rfl)).setCell ⟨q, 5, none⟩ _ (fun _ => rfl)).setCell ⟨q, 4, none⟩ _ (fun _ => rfl)
  clear h L H h2 h3 hp hpF
  obtain ⟨m, hm⟩ : ∃ m, s.opn.length = m := ⟨_, rfl⟩
  have hm2 := Lib.hid hm
  rw [hm] at hn
  clear hm
  go_enter Try.func28, Try.ntmps28
  go_wp2
  have HBA : Hid (BlkRow (((w.setCell ⟨q, 3, none⟩ (.bool true)).setCell ⟨q, 5, none⟩ (.bool false)).setCell ⟨q, 4, none⟩ (.int .i64 0)) Y s.safe) := H2.out.chg HGA.out (fun h => HL.out.qY h.symm)
  generalize ((w.setCell ⟨q, 3, none⟩ (.bool true)).setCell ⟨q, 5, none⟩ (.bool false)).setCell ⟨q, 4, none⟩ (.int .i64 0) = wA at *
  clear c3 f3 c4 f4 c5 f5
  go_loopw [4] (fun v4 wr => ∃ k : Nat, v4 = .int .i64 k ∧ k ≤ m ∧ Hid (Chg (fun i => i = Y) wA wr) ∧ Hid (BlkRow wr Y (crashL zs 0 s.safe (s.opn.take k)))) (fun v4 _ => m - (intOf v4).toNat)
  case atStart => exact ⟨0, rfl, Nat.zero_le _, Chg.refl _ _, HBA.out⟩
  case round =>
    obtain ⟨k, rfl, hk, HC, HB⟩ := hrel
    clear HBA
    have hqY := HL.out.qY
    have d1 := (HC.out.cell (p := ⟨q, 1, none⟩) HH.out.lt hqY).trans HH.out.c1
    have d2 := (HC.out.cell (p := ⟨q, 2, none⟩) HH.out.lt hqY).trans HH.out.c2
    have f2 := (HC.out.frozen (p := ⟨q, 2, none⟩) HH.out.lt hqY).trans HH.out.f2
    rw [hm2.out] at d2
    by_cases hlt : k < m
    · have hk2 : k < s.opn.length := by rw [hm2.out]; exact hlt
      have hall := HD.out.ok.all
      obtain ⟨O, cap', hA, hcap, hO, hrng⟩ := opn_at H3.out (fun x hx => (hall.2 x hx).2) hk2
      obtain ⟨rfl, rfl⟩ : A0 = some ⟨O, 0, none⟩ ∧ cap = cap' := by simpa [hm2.out] using hA
      have hOY : O ≠ Y := (HL.out.fv O rfl).2.2
      have hOq : O ≠ q := (HL.out.fv O rfl).2.1
      have hrng2 := rangeAt_of (rangeAt_of hrng (HGA.out.block O hO hOq)) (HC.out.block O (Nat.lt_of_lt_of_le hO HGA.out.size) hOY)
      have HS := Lib.hid (take_snocW s.opn k hk2)
      have HSL : Hid ((s.opn.take k).length = k) := by show _ = _; rw [List.length_take]; omega
      have hx := hall.2 s.opn[k] (List.getElem_mem hk2)
      generalize s.opn[k] = x at *
      obtain ⟨at', b⟩ := x
      obtain ⟨hx1, hx2⟩ := hx
      rw [show wrC (at', b) = .int .i64 (at' : Int) :: bytesV b from rfl] at hrng2
      obtain ⟨t0, t1⟩ := range_tail hrng2
      have HT1 := Lib.hid t1
      have hLen : Hid ((crashL zs 0 s.safe (s.opn.take k)).length = s.safe.length) := crashL_len _ _ _ _
      have hob := HB.out.one (k := at') (by rw [hLen.out]; exact hx1)
      have HX2 := Lib.hid hx2
      have HOB := Lib.hid hob
      have HX1 : Hid (at' < (crashL zs 0 s.safe (s.opn.take k)).length) := by show _ < _; rw [hLen.out]; exact hx1
      have j1 : (k : Int) < (m : Int) := by omega
      have j0 : (0 : Int) ≤ (k : Int) := Int.natCast_nonneg _
      have j2 : (at' : Int) < (s.safe.length : Int) := by omega
      have j3 : (0 : Int) ≤ (at' : Int) := Int.natCast_nonneg _
      have HPK : Hid (k < pn → ∃ b0 o0, A = some ⟨b0, o0, none⟩ ∧ wr.cell? ⟨b0, o0 + k, none⟩ = some (.int .i64 (zs.getD k 0))) := fun hkp => by
        obtain ⟨b0, o0, e0, hb0, hc0⟩ := HP.out.2 (by omega)
        have hnF := HPF.out _ e0 (by omega)
        have e1 := (HGA.out.cell (p := ⟨b0, o0 + k, none⟩) hb0 (fun e => hnF (by rw [show (⟨b0, o0, none⟩ : Addr).block = q from e]; exact HL.out.fq))).trans (hc0 k hkp)
        exact ⟨b0, o0, e0, (HC.out.cell (p := ⟨b0, o0 + k, none⟩) (Nat.lt_of_lt_of_le hb0 HGA.out.size) (fun e => hnF (by rw [show (⟨b0, o0, none⟩ : Addr).block = Y from e]; exact HL.out.fY))).trans e1⟩
      have HPZ : Hid (¬ k < pn → zs.getD k 0 = 0) := fun hkp => by
        have := HP.out.1
        rw [List.getD_eq_getElem?_getD, List.getElem?_eq_none (by omega)]; rfl
      have HST := Lib.hid (stay_stN zs k)
      generalize zs.getD k 0 = p at *
      have hst := stN_le p
      have HSI := Lib.hid hst
      clear hrng hrng2 hall hA hk2 hO hx1 hx2 hcap hob t1 hst f2
      generalize s.safe.length = n at *
      obtain ⟨wb, rfl⟩ : ∃ wb, wb = wr := ⟨_, rfl⟩
      go_upto_if 29 with fail
      go_cut [5] from 17 to 73 (fun s5 wx => s5 = .int .i64 (p % 66) ∧ wb = wx)
      case first =>
        by_cases hkp : k < pn
        · obtain ⟨b0, o0, rfl, hpc⟩ := HPK.out hkp
          have k1 : (k : Int) < (pn : Int) := by omega
          have hf := tdiv_facts p 66 (by omega)
          by_cases h3 : p.tmod 66 < 0
          · have h4 : IntKind.i64.wrap (p.tmod 66 + 66) = p % 66 := by rw [IntKind.wrap_i64]; omega
            clear hf
            go_wp2
            go_meet
            case rel => exact ⟨rfl, rfl⟩
          · have h4 : p.tmod 66 = p % 66 := by omega
            have h5 : ¬ p % 66 < 0 := by omega
            clear hf h3
            go_wp2
            go_meet
            case rel => exact ⟨rfl, rfl⟩
        · have hp0 := HPZ.out hkp
          have k1 : ¬ (k : Int) < (pn : Int) := by omega
          subst hp0
          go_wp2
          go_meet
          case rel => exact ⟨rfl, rfl⟩
      case rest =>
        obtain ⟨rfl, rfl⟩ := hcut
        clear HPK HPZ
        go_upto_if 40 with fail
        go_cut [6] from 17 to 73 (fun s6 wx => s6 = .int .i64 (stN p : Int) ∧ wb = wx)
        case first =>
          have h1 : (stN p : Int) = if p % 66 = 65 then 64 else if p % 66 = 0 then 0 else p % 66 - 1 := (stN_I p).symm
          have h2 : 0 ≤ p % 66 ∧ p % 66 < 66 := by omega
          generalize p % 66 = u at *
          have h3 : IntKind.i64.wrap (u - 1) = u - 1 := by rw [IntKind.wrap_i64]; omega
          by_cases h4 : u < 65
          · by_cases h5 : u = 0
            · have HE : Hid ((stN p : Int) = 0) := by show _ = _; rw [h1, if_neg (by omega), if_pos h5]
              subst h5
              clear h1
              go_wp2
              go_meet
              case rel => exact ⟨by rw [HE.out], rfl⟩
            · have HE : Hid ((stN p : Int) = u - 1) := by show _ = _; rw [h1, if_neg (by omega), if_neg h5]
              have h6 : ¬ u - 1 < 0 := by omega
              clear h1
              go_wp2
              go_meet
              case rel => exact ⟨by rw [HE.out], rfl⟩
          · have HE : Hid ((stN p : Int) = 64) := by show _ = _; rw [h1, if_pos (by omega)]
            clear h1
            go_wp2
            go_meet
            case rel => exact ⟨by rw [HE.out], rfl⟩
        case rest =>
          obtain ⟨rfl, rfl⟩ := hcut
          obtain ⟨mm, hmm⟩ : ∃ mm, stN p = mm := ⟨_, rfl⟩
          rw [hmm] at HST HSI ⊢
          clear hmm
          have HB0 : Hid (BlkRow wb Y ((crashL zs 0 s.safe (s.opn.take k)).set at' (mixB ((crashL zs 0 s.safe (s.opn.take k)).getD at' blk0) b 0))) := by
            show BlkRow _ _ _
            rw [mixB_none, set_same HX1.out]; exact HB.out
          go_wp2
          go_loopw [7] (fun v7 wr => ∃ i : Nat, v7 = .int .i64 i ∧ i ≤ mm ∧ Hid (Chg (fun i => i = Y) wA wr) ∧ Hid (BlkRow wr Y ((crashL zs 0 s.safe (s.opn.take k)).set at' (mixB ((crashL zs 0 s.safe (s.opn.take k)).getD at' blk0) b i)))) (fun v7 _ => mm - (intOf v7).toNat)
          case atStart => exact ⟨0, rfl, Nat.zero_le _, HC.out, HB0.out⟩
          case round =>
            obtain ⟨i, rfl, hi, HC7, HB7⟩ := hrel
            clear HB0
            by_cases hlm : i < mm
            · have hi64 : i < 64 := by have := HSI.out; omega
              have x1 := (HC7.out.cell (p := ⟨q, 1, none⟩) HH.out.lt hqY).trans HH.out.c1
              have x2 := (HC7.out.cell (p := ⟨q, 2, none⟩) HH.out.lt hqY).trans HH.out.c2
              rw [hm2.out] at x2
              have hOlt : O < wA.heap.size := by
                have := World.block_lt_of_cell? _ _ t0
                have h9 := HH.out.lt
                rcases Nat.lt_or_ge O wA.heap.size with h | h
                · exact h
                · exact absurd ((HL.out.fv O rfl).1) (fun hF => by have := HD.out.fit O hF; have := HGA.out.size; omega)
              have hOwb : O < wb.heap.size := World.block_lt_of_cell? _ _ t0
              have ewb : wr.heap[O]? = wb.heap[O]? := (HC7.out.block O hOlt hOY).trans (HC.out.block O hOlt hOY).symm
              have x3 : wr.cell? ⟨O, k * 65, none⟩ = some (.int .i64 (at' : Int)) := (World.cell?_of_block (w := wb) (a := ⟨O, k * 65, none⟩) ewb).trans t0
              have hbi : (bytesV b)[i]? = some (byv (b.getD i 0)) := by
                unfold bytesV
                rw [List.getElem?_map, List.getD_eq_getElem?_getD, List.getElem?_eq_getElem (by rw [HX2.out]; exact hi64)]; rfl
              have x4 : wr.cell? ⟨O, k * 65 + 1 + i, none⟩ = some (byv (b.getD i 0)) := (World.cell?_of_block (w := wb) (a := ⟨O, k * 65 + 1 + i, none⟩) ewb).trans (HT1.out i _ hbi)
              have hlen7 : at' < ((crashL zs 0 s.safe (s.opn.take k)).set at' (mixB ((crashL zs 0 s.safe (s.opn.take k)).getD at' blk0) b i)).length := by rw [List.length_set]; exact HX1.out
              obtain ⟨y1, y2⟩ := (HB7.out.at' at' hlen7).2 i hi64
              obtain ⟨uo, y3⟩ := Option.isSome_iff_exists.1 y1
              have HN7 := Lib.hid (HB7.out.put hlen7 i hi64 (b.getD i 0))
              have HN8 : Hid (BlkRow (wr.setCell ⟨Y, at' * 64 + i, none⟩ (byv (b.getD i 0))) Y ((crashL zs 0 s.safe (s.opn.take k)).set at' (mixB ((crashL zs 0 s.safe (s.opn.take k)).getD at' blk0) b (i + 1)))) := by
                have := HN7.out
                rw [List.set_set, getD_set_eq HX1.out, mixB_step _ _ _ HOB.out HX2.out hi64] at this
                exact this
              have r1 : (i : Int) < (mm : Int) := by omega
              have r2 : (i : Int) < 64 := by omega
              have r0 : (0 : Int) ≤ (i : Int) := Int.natCast_nonneg _
              have hbv : byv (b.getD i 0) = .int .u8 ((b.getD i 0).toNat : Int) := rfl
              rw [hbv] at x4 HN8
              clear hOlt ewb hbi hlen7 y1 HN7 hbv d1 d2
              generalize (b.getD i 0).toNat = u at *
              go_upto_region 17 with (fail)
              have z1 : (wr.drew.setCell ⟨Y, at' * 64 + i, none⟩ (.int .u8 (u : Int))).cell? ⟨q, 1, none⟩ = some (.slice (some ⟨Y, 0, none⟩) n n) := (World.cell?_setCell_other _ _ _ _ (by intro e; simp only [Addr.mk.injEq] at e; omega)).trans x1
              have z2 : (wr.drew.setCell ⟨Y, at' * 64 + i, none⟩ (.int .u8 (u : Int))).cell? ⟨q, 2, none⟩ = some (.slice (some ⟨O, 0, none⟩) m cap) := (World.cell?_setCell_other _ _ _ _ (by intro e; simp only [Addr.mk.injEq] at e; omega)).trans x2
              have z3 : (wr.drew.setCell ⟨Y, at' * 64 + i, none⟩ (.int .u8 (u : Int))).cell? ⟨O, k * 65, none⟩ = some (.int .i64 (at' : Int)) := (World.cell?_setCell_other _ _ _ _ (by intro e; simp only [Addr.mk.injEq] at e; omega)).trans x3
              have z4 : (wr.drew.setCell ⟨Y, at' * 64 + i, none⟩ (.int .u8 (u : Int))).cell? ⟨O, k * 65 + 1 + i, none⟩ = some (.int .u8 (u : Int)) := (World.cell?_setCell_other _ _ _ _ (by intro e; simp only [Addr.mk.injEq] at e; omega)).trans x4
              go_region_held3 (fun w' => w'.cell? ⟨q, 1, none⟩ = some (.slice (some ⟨Y, 0, none⟩) n n) ∧ w'.cell? ⟨q, 2, none⟩ = some (.slice (some ⟨O, 0, none⟩) m cap) ∧ w'.cell? ⟨O, k * 65, none⟩ = some (.int .i64 (at' : Int)) ∧ w'.cell? ⟨O, k * 65 + 1 + i, none⟩ = some (.int .u8 (u : Int)))
                (first | exact ⟨x1, x2, x3, x4⟩ | exact ⟨z1, z2, z3, z4⟩) (fail)
              have HCE : Hid (Chg (fun i => i = Y) wA ((wr.setCell ⟨Y, at' * 64 + i, none⟩ (.int .u8 (u : Int))).drew)) := (HC7.out.setCell ⟨Y, at' * 64 + i, none⟩ (.int .u8 (u : Int)) (fun _ => rfl)).drew
              have HBE : Hid (BlkRow ((wr.setCell ⟨Y, at' * 64 + i, none⟩ (.int .u8 (u : Int))).drew) Y ((crashL zs 0 s.safe (s.opn.take k)).set at' (mixB ((crashL zs 0 s.safe (s.opn.take k)).getD at' blk0) b (i + 1)))) := HN8.out.of rfl (Nat.le_refl _)
              clear z1 z2 z3 z4 x1 x2 x3 x4 HN8 y2 y3
              go_wp2
              go_roundw
              case rel => exact ⟨i + 1, by go_num, by omega, HCE, HBE⟩
              case measure => simp only [intOf]; omega
            · obtain rfl : mm = i := by omega
              have HBE : Hid (BlkRow wr Y (crashL zs 0 s.safe (s.opn.take (k + 1)))) := by
                show BlkRow _ _ _
                rw [HS.out, crashL_snoc, HSL.out, Nat.zero_add, HST.out]
                exact HB7.out
              clear d1 d2 t0
              go_wp2
              go_roundw
              case rel => exact ⟨k + 1, by go_num, by omega, HC7, HBE⟩
              case measure => simp only [intOf]; omega
    · obtain rfl : m = k := by omega
      have HPP := Lib.hid (rk_crash (picks := zs) HD.out.fit HD.out.ok HL.out HGA.out HH.out HC.out (by have := HB.out; rwa [List.take_of_length_le (by rw [hm2.out]; exact Nat.le_refl _)] at this))
      go_wp2
      go_end0
      exact ⟨rfl, HPP.out⟩
theorem rstart_any (F : Nat → Prop) (q : Nat) (s : DS) (w : World) (h : RK w F q s) (hn : s.opn.length ≤ 1000000) : Calls Try.prog 29 #[.pointer (some ⟨q, 0, none⟩)] w (RPost F q w (.tuple #[]) (dStart s)) := by
  have hD := Lib.hid h
  obtain ⟨Y, v, L, H, h2, h3⟩ := h.ex
  have c5 := H.c5
  have c3 := H.c3
  have f3 := H.f3
  have HOK := Lib.hid (dok_start h.ok)
  cases hc : s.cut with
  | false =>
    have HS : Hid (dStart s = { s with off := false }) := by show _ = _; unfold dStart; rw [hc]; rfl
    have HP : Hid (RPost F q w (.tuple #[]) (dStart s) (.returned (.tuple #[])) (w.setCell ⟨q, 3, none⟩ (.bool false))) := by
      have hok := HOK.out
      rw [HS.out] at hok ⊢
      exact ⟨rfl, rk_head (s := s) hD.out.fit L ((Chg.refl (fun k => k = q) w).setCell ⟨q, 3, none⟩ _ (fun _ => rfl)) hok rfl rfl (H.set3 false) h2 h3⟩
    rw [hc] at c5
    clear L H h2 h3 h
    go_enter Try.func29, Try.ntmps29
    go_wp2
    go_end0
    exact HP.out
  | true =>
    rw [hc] at c5
    have CC := Lib.hid (rcrash_any F q s none 0 0 [] w h (ints0 _ _) (fun a e => by cases e) (by omega) hn)
    have HS : Hid (dStart s = { dCrash s [] with off := false }) := by show _ = _; unfold dStart; rw [hc]; rfl
    have HF := Lib.hid h.fit
    clear L H h2 h3 h c3 f3
    go_enter Try.func29, Try.ntmps29
    go_wp2_with (go_at_call 28; ((with_reducible refine CC.out.mono ?_); rintro e w6 ⟨rfl, hc, hd⟩; obtain ⟨Y', v', L', H', h2', h3'⟩ := hd.ex; have k4 := H'.c3; have f4 := H'.f3; have HC := Lib.hid hc; have HX := Lib.hid hd.fit; have HL' := Lib.hid L'; have HH' := Lib.hid H'; have H2' := Lib.hid h2'; have H3' := Lib.hid h3'; clear hc hd L' H' h2' h3'))
    go_end0
    rw [HS.out]
    refine rpost_then HF.out HC.out ⟨rfl, rk_head (s := dCrash s []) HX.out HL'.out ((Chg.refl (fun k => k = q) _).setCell ⟨q, 3, none⟩ _ (fun _ => rfl)) ?_ rfl rfl (HH'.out.set3 false) H2'.out H3'.out⟩
    rw [← HS.out]; exact HOK.out
end Go.Proofs.Ytgaopkfdbglnmaa.NumK
