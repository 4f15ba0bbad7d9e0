/- Numbers: the same, written over; whose state is one of some. -/
import Derived.Test.YtnbgbfbiieimgaaRF
import Derived.Test.YtnbgbfbiieimgaaRA2
import Derived.Test.YtnbgbfbiieimgaaRC
namespace Go.Proofs.Ytnbgbfbiieimgaa.NumK
open Go.RowKit
set_option linter.unusedVariables false

def enInt : En Int := ⟨1, fun n => [.int .i64 n], fun _ => rfl, fun n v hv => by simp at hv; rw [hv]; rfl, by decide⟩
theorem info_int1 : (Try.prog.info? 3).map (fun i => (i.zero, i.size, i.bytes)) = some (some (.int .i64 0), 1, 8) := by kernel_rfl
theorem ints_of_E {w : World} {A : Option Addr} {n : Nat} {l : List Int} (h : RowE enInt w A n l) : Ints w A n l := by
  refine ⟨h.len, fun hn => ?_⟩
  obtain ⟨b, o, e, hb, hc⟩ := h.at hn
  refine ⟨b, o, e, hb, fun j hj => ?_⟩
  have hj2 : j < l.length := by rw [h.len]; exact hj
  have := hc j hj2 0 (by decide)
  rw [show o + j * enInt.size + 0 = o + j by show o + j * 1 + 0 = _; omega] at this
  rw [this]
  simp [enInt, List.getD, hj2]

set_option maxRecDepth 100000 in
theorem keepInts_yes (A B : Option Addr) (n c d : Nat) (zs : List Int) (w : World) (h : Ints w A n zs) (h2 : Ints w B n zs) (hn : n ≤ 1000000) :
    Calls Try.prog 27 #[.slice A n c, .slice B n d] w fun e w' => e = .returned (.bool true) ∧ Grew w w' := by
  have HI := Lib.hid h
  have HJ := Lib.hid h2
  clear h h2
  go_enter Try.func27, Try.ntmps27
  go_wp2
  go_loopw [5] (fun v wr => ∃ j : Nat, v = .int .i64 j ∧ j ≤ n ∧ Hid (Grew w wr)) (fun v _ => n - (intOf v).toNat)
  case atStart => exact ⟨0, rfl, by omega, grew_refl _⟩
  case round =>
    obtain ⟨j, rfl, hj, HG⟩ := hrel
    by_cases hlt : j < n
    · obtain ⟨b, o, rfl, hb, hc⟩ := HI.out.2 (by omega)
      obtain ⟨b2, o2, rfl, hb2, hc2⟩ := HJ.out.2 (by omega)
      have a1 := (grew_cell HG.out (p := ⟨b, _, none⟩) hb).trans (hc j hlt)
      have a2 := (grew_cell HG.out (p := ⟨b2, _, none⟩) hb2).trans (hc2 j hlt)
      have hb3 := Nat.lt_of_lt_of_le hb HG.out.size
      have hb4 := Nat.lt_of_lt_of_le hb2 HG.out.size
      have i0 : (0 : Int) ≤ (j : Int) := by omega
      have i1 : (j : Int) < (n : Int) := by omega
      clear hc hc2 hb hb2
      generalize zs.getD j 0 = x at *
      have x1 : ∀ p : GrewTo wr, p.to.cell? ⟨b, o + j, none⟩ = _ := fun p => (grew_cell p.h (p := ⟨b, _, none⟩) hb3).trans a1
      have x2 : ∀ p : GrewTo wr, p.to.cell? ⟨b2, o2 + j, none⟩ = _ := fun p => (grew_cell p.h (p := ⟨b2, _, none⟩) hb4).trans a2
      clear a1 a2 hb3 hb4
      go_wp2_with fail
      refine wp_region_grew (by kernel_rfl) (by kernel_rfl) ?_
      repeat (go_big_quiet_step (fail))
      refine wpQuiet_nil ?_
      intro w5 hw'
      have HG5 := Lib.hid (grew_of hw')
      clear hw' x1 x2
      go_wp2
      go_roundw
      case rel => exact ⟨j + 1, by go_num, by omega, grew_trans HG.out HG5.out⟩
      case measure => simp only [intOf]; omega
    · obtain rfl : j = n := by omega
      go_wp2
      go_ret
      exact ⟨rfl, HG.out⟩

theorem spoilInts_any (A : Option Addr) (n c base : Nat) (w : World) (hA : n = 0 ∨ ∃ g, A = some ⟨g, 0, none⟩ ∧ base ≤ g ∧ Slab w g n) (hn : n ≤ 1000000) :
    Calls Try.prog 29 #[.slice A n c] w fun e w' => e = .returned (.tuple #[]) ∧ Below base w w' := by
  have HA := Lib.hid hA
  clear hA
  go_enter Try.func29, Try.ntmps29
  go_wp2
  go_loopw [2] (fun vi wr => ∃ k : Nat, vi = .int .i64 k ∧ k ≤ n ∧ Hid (∀ g, A = some ⟨g, 0, none⟩ → 0 < n → Slab wr g n) ∧ Hid (Below base w wr)) (fun vi _ => n - (intOf vi).toNat)
  case atStart =>
    refine ⟨0, rfl, Nat.zero_le _, fun g hg h0 => ?_, Below.refl _ _⟩
    rcases HA.out with h | ⟨g', e, _, hs⟩
    · omega
    · rw [hg] at e; cases e; exact hs
  case round =>
    obtain ⟨k, rfl, hk, HS, HB⟩ := hrel
    by_cases hlt : k < n
    · obtain ⟨g, rfl, hb, _⟩ : ∃ g, A = some ⟨g, 0, none⟩ ∧ base ≤ g ∧ Slab w g n := by
        rcases HA.out with h | h
        · omega
        · exact h
      have HS2 := Lib.hid (HS.out g rfl (by omega))
      obtain ⟨⟨x, a1⟩, a2⟩ := HS2.out.2 k (by omega)
      have a3 : (k : Int) < (n : Int) := by omega
      have HB2 : Hid (Below base w (wr.setCell ⟨g, k, none⟩ (.int .i64 (-77)))) := Below.setCell HB.out hb _
      have HS3 := Lib.hid (HS2.out.set g k (.int .i64 (-77)))
      go_wp2
      go_roundw
      case rel => exact ⟨k + 1, by go_num, by omega, fun g' hg' _ => by cases hg'; exact HS3.out, HB2⟩
      case measure => simp only [intOf]; omega
    · go_wp2
      go_end0
      exact ⟨rfl, HB.out⟩

/-- The numbers of those in one of the states. -/
def thoseL (ss : List Int) (l : List Mb) : List Int := (l.filter fun m => ss.contains m.2.1).map fun m => m.1
theorem those_len (ss : List Int) (l : List Mb) : (thoseL ss l).length ≤ l.length := by unfold thoseL; rw [List.length_map]; exact List.length_filter_le _ _
theorem those_snoc (ss : List Int) (l : List Mb) (j : Nat) (h : j < l.length) : thoseL ss (l.take (j + 1)) = if ss.contains (l.getD j mb0).2.1 = true then thoseL ss (l.take j) ++ [(l.getD j mb0).1] else thoseL ss (l.take j) := by
  unfold thoseL
  rw [List.take_succ_eq_append_getElem h, List.filter_append, List.map_append, getD_at l mb0 j h]
  by_cases hc : ss.contains l[j].2.1 = true
  · rw [if_pos hc, List.filter_cons, if_pos hc]; simp
  · rw [if_neg hc, List.filter_cons, if_neg hc]; simp

set_option maxRecDepth 100000 in
set_option maxHeartbeats 2000000 in
theorem those_any (r : Rl) (A1 A2 A3 S : Option Addr) (n1 n2 n3 c1 c2 c3 n c : Nat) (ss : List Int) (w : World) (h : RowE enMb w A1 n1 r.1) (hS : Ints w S n ss) (hn : n1 ≤ 1000000) (hn2 : n ≤ 1000000) :
    Calls Try.prog 26 #[rlV A1 A2 A3 n1 n2 n3 c1 c2 c3, .slice S n c] w fun e w' => ∃ v, e = .returned v ∧ OwnE enInt w' w.heap.size 3 v (thoseL ss r.1) ∧ Grew w w' := by
  have HI := Lib.hid h
  have HL := Lib.hid h.len
  have HS := Lib.hid hS
  clear h hS
  dsimp only [rlV]
  go_enter Try.func26, Try.ntmps26
  go_wp2
  go_loopw [5, 11] (fun v5 v11 wr => ∃ j : Nat, v11 = .int .i64 j ∧ j ≤ n1 ∧ Hid (OwnE enInt wr w.heap.size 3 v5 (thoseL ss (r.1.take j))) ∧ Hid (Grew w wr)) (fun _ v11 _ => n1 - (intOf v11).toNat)
  case atStart => exact ⟨0, rfl, by omega, OwnE.nil _ _ _ _, grew_alloc _ _ _⟩
  case round =>
    obtain ⟨j, rfl, hj, HO, HG⟩ := hrel
    by_cases hlt : j < n1
    · have hjl : j < r.1.length := by rw [HL.out]; exact hlt
      obtain ⟨b, o, rfl, hb, hc⟩ := (HI.out.keep HG.out).mb hlt
      obtain ⟨a0, a1, a2⟩ := hc j hlt
      clear hc hb
      have HSN := Lib.hid (those_snoc ss r.1 j hjl)
      have HTL : Hid ((thoseL ss (r.1.take j)).length ≤ 1000000) := by show _ ≤ _; have := those_len ss (r.1.take j); rw [List.length_take] at this; omega
      have CC := fun w' (g : Grew w w') => contains_any S n c ss (r.1.getD j mb0).2.1 w' (HS.out.keep g) (by omega)
      have i0 : (0 : Int) ≤ (j : Int) := by omega
      have i1 : (j : Int) < (n1 : Int) := by omega
      generalize hcs : ss.contains (r.1.getD j mb0).2.1 = cs at *
      clear hcs
      generalize r.1.getD j mb0 = x at *
      obtain ⟨q1, q2, q3⟩ := x
      dsimp only at a0 a1 a2 CC HSN
      have HGA : Hid (Grew w (wr.alloc (.cells #[.int .i64 q1, .int .i64 q2, .int .i64 q3] 33))) := grew_trans HG.out (grew_alloc _ _ _)
      have HOA := Lib.hid (HO.out.keep (grew_alloc wr #[.int .i64 q1, .int .i64 q2, .int .i64 q3] 33))
      cases cs
      · have HSN2 : Hid (thoseL ss (r.1.take (j + 1)) = thoseL ss (r.1.take j)) := HSN.out
        rw [← HSN2.out] at HOA
        clear HSN HSN2
        go_wp2_with (go_at_call 60; ((with_reducible refine (CC _ HGA.out).mono ?_); rintro e w5 ⟨rfl, rfl⟩))
        go_roundw
        case rel => exact ⟨j + 1, by go_num, by omega, HOA.out, HGA.out⟩
        case measure => simp only [intOf]; omega
      · have HSN2 : Hid (thoseL ss (r.1.take (j + 1)) = thoseL ss (r.1.take j) ++ [q1]) := HSN.out
        have HSZ : Hid (w.heap.size ≤ (wr.alloc (.cells #[.int .i64 q1, .int .i64 q2, .int .i64 q3] 33)).heap.size) := HGA.out.size
        clear HSN
        go_upto_region 6 with (go_at_call 60; ((with_reducible refine (CC _ HGA.out).mono ?_); rintro e w5 ⟨rfl, rfl⟩))
        have e0 : (wr.alloc (.cells #[.int .i64 q1, .int .i64 q2, .int .i64 q3] 33)).cell? ⟨wr.heap.size, 0, none⟩ = some (.int .i64 q1) := by simp
        generalize wr.alloc (.cells #[.int .i64 q1, .int .i64 q2, .int .i64 q3] 33) = wa at *
        go_wp2_with (at_builtin; refine (wpList_append_E rfl _ _ 27 3 (.int .i64 0) 8 rfl Try.underlying27 info_int1 rfl w.heap.size _ _ rfl (HOA.out.keep (grew_alloc _ _ _)) (some ⟨wa.heap.size, 0, none⟩) 1 1 [q1] rfl (by intro h; cases h) (RowE.one enInt wa q1 3 _ rfl) (by have := HTL.out; unfold maxLen; omega) (by have := HTL.out; omega) (Nat.le_trans HSZ.out (grew_alloc wa _ _).size) ?_); intro v6 w6 hv hb6; rw [← HSN2.out] at hv; have HV6 := Lib.hid hv; have HG6 : Hid (Grew w w6) := Below.trans (grew_trans HGA.out (grew_alloc _ _ _)) hb6; clear hv hb6)
        go_roundw
        case rel => exact ⟨j + 1, by go_num, by omega, HV6.out, HG6.out⟩
        case measure => simp only [intOf]; omega
    · obtain rfl : j = n1 := by omega
      rw [List.take_of_length_le (by rw [HL.out]; exact Nat.le_refl _)] at HO
      go_wp2
      go_ret
      exact ⟨_, rfl, HO.out, HG.out⟩

theorem has_snoc (zs : List Int) (x : Int) (k : Nat) (h : k < zs.length) : (zs.take (k + 1)).contains x = ((zs.take k).contains x || decide (zs.getD k 0 = x)) := by
  rw [List.take_succ_eq_append_getElem h, contains_snoc', show zs.getD k 0 = zs[k] by simp [List.getD, h]]

set_option maxRecDepth 100000 in
set_option maxHeartbeats 4000000 in
theorem rthose_any (r : Rl) (A1 A2 A3 S : Option Addr) (n1 n2 n3 c1 c2 c3 n c : Nat) (ss : List Int) (w : World) (h : RowE enMb w A1 n1 r.1) (hS : Ints w S n ss) (hn : n1 ≤ 1000000) (hn2 : n ≤ 1000000) :
    Calls Try.prog 28 #[rlV A1 A2 A3 n1 n2 n3 c1 c2 c3, .slice S n c] w fun e w' => ∃ v, e = .returned v ∧ OwnE enInt w' w.heap.size 3 v (thoseL ss r.1) ∧ Grew w w' := by
  have HI := Lib.hid h
  have HL := Lib.hid h.len
  have HS := Lib.hid hS
  have HSL := Lib.hid hS.1
  clear h hS
  dsimp only [rlV]
  have HX0 : Hid (OwnC (w.alloc (.cells #[.slice A1 n1 c1, .slice A2 n2 c2, .slice A3 n3 c3] 26)) w.heap.size [.slice A1 n1 c1, .slice A2 n2 c2, .slice A3 n3 c3]) := OwnC.new w [.slice A1 n1 c1, .slice A2 n2 c2, .slice A3 n3 c3] _ _ rfl
  have HG0 : Hid (Grew w (w.alloc (.cells #[.slice A1 n1 c1, .slice A2 n2 c2, .slice A3 n3 c3] 26))) := grew_alloc _ _ _
  go_enter Try.func28, Try.ntmps28
  go_wp2
  generalize w.alloc (.cells #[.slice A1 n1 c1, .slice A2 n2 c2, .slice A3 n3 c3] 26) = w0 at *
  go_loopw [5, 6] (fun v5 v6 wr => ∃ j : Nat, v6 = .int .i64 j ∧ j ≤ n1 ∧ Hid (OwnE enInt wr (w.heap.size + 1) 3 v5 (thoseL ss (r.1.take j))) ∧ Hid (Below (w.heap.size + 1) w0 wr)) (fun _ v6 _ => n1 - (intOf v6).toNat)
  case atStart => exact ⟨0, rfl, by omega, OwnE.nil _ _ _ _, Below.refl _ _⟩
  case round =>
    obtain ⟨j, rfl, hj, HO, HGx⟩ := hrel
    have HG : Hid (Grew w wr) := Below.trans HG0.out (Below.mono HGx.out (by omega))
    have HX := Lib.hid (HX0.out.below HGx.out (by omega))
    have px : wr.cell? ⟨w.heap.size, 0, none⟩ = some (.slice A1 n1 c1) := HX.out.at 0 _ rfl
    have HZ : Hid (w.heap.size + 1 ≤ wr.heap.size) := HX.out.lt
    by_cases hlt : j < n1
    · have hjl : j < r.1.length := by rw [HL.out]; exact hlt
      obtain ⟨b, o, rfl, hb, hc⟩ := (HI.out.keep HG.out).mb hlt
      obtain ⟨a0, a1, a2⟩ := hc j hlt
      have HB := Lib.hid hb
      clear hc hb
      have HSN := Lib.hid (those_snoc ss r.1 j hjl)
      have HTL : Hid ((thoseL ss (r.1.take j)).length ≤ 1000000) := by show _ ≤ _; have := those_len ss (r.1.take j); rw [List.length_take] at this; omega
      have i0 : (0 : Int) ≤ (j : Int) := by omega
      have i1 : (j : Int) < (n1 : Int) := by omega
      generalize r.1.getD j mb0 = x at *
      obtain ⟨q1, q2, q3⟩ := x
      dsimp only at a0 a1 a2 HSN
      have HK : Hid (∀ w', Grew wr w' → w'.cell? ⟨w.heap.size, 0, none⟩ = some (.slice (some ⟨b, o, none⟩) n1 c1) ∧ w'.cell? ⟨b, o + j * 3, none⟩ = some (.int .i64 q1) ∧ w'.cell? ⟨b, o + j * 3 + 1, none⟩ = some (.int .i64 q2)) := fun w' g =>
        ⟨(HX.out.keep g).at 0 _ rfl, (grew_cell g (p := ⟨b, _, none⟩) HB.out).trans a0, (grew_cell g (p := ⟨b, _, none⟩) HB.out).trans a1⟩
      clear a0 a1 a2
      go_wp2_with fail
      generalize hwo : wr = wo at *
      clear hwo
      go_loopw [7, 8] (fun v7 v8 wr => ∃ k : Nat, v8 = .int .i64 k ∧ k ≤ n ∧ v7 = .bool ((ss.take k).contains q2) ∧ Hid (Grew wo wr)) (fun _ v8 _ => n - (intOf v8).toNat)
      case atStart => exact ⟨0, rfl, by omega, rfl, grew_refl _⟩
      case round =>
        obtain ⟨k, rfl, hk, rfl, HGi⟩ := hrel
        have HGw := Lib.hid (grew_trans HG.out HGi.out)
        by_cases hlk : k < n
        · have k0 : (0 : Int) ≤ (k : Int) := by omega
          have k1 : (k : Int) < (n : Int) := by omega
          have HCS := Lib.hid (has_snoc ss q2 k (by rw [HSL.out]; exact hlk))
          obtain ⟨sb, so, rfl, hsb, hsc⟩ := (HS.out.keep HGw.out).2 (by omega)
          have s1 := hsc k hlk
          obtain ⟨t0, t1, t2⟩ := HK.out _ HGi.out
          have hxb : w.heap.size < wr.heap.size := World.block_lt_of_cell? wr _ t0
          have hbb : b < wr.heap.size := World.block_lt_of_cell? wr _ t1
          have x0 : ∀ p : GrewTo wr, p.to.cell? ⟨w.heap.size, 0, none⟩ = _ := fun p => (grew_cell p.h (p := ⟨w.heap.size, 0, none⟩) hxb).trans t0
          have x1 : ∀ p : GrewTo wr, p.to.cell? ⟨b, o + j * 3 + 1, none⟩ = _ := fun p => (grew_cell p.h (p := ⟨b, _, none⟩) hbb).trans t2
          have x2 : ∀ p : GrewTo wr, p.to.cell? ⟨sb, so + k, none⟩ = _ := fun p => (grew_cell p.h (p := ⟨sb, _, none⟩) hsb).trans s1
          clear hsc s1 t0 t1 t2 hxb hbb hsb px
          generalize (ss.take k).contains q2 = cs at *
          generalize ss.getD k 0 = y at *
          cases cs
          · by_cases hy : y = q2
            · have HCS2 : Hid ((ss.take (k + 1)).contains q2 = true) := by show _ = _; rw [HCS.out, decide_eq_true hy]; rfl
              have hy2 : (y == q2) = true := by simpa using hy
              clear HCS hy
              go_wp2_with fail
              refine wp_region_grew (by kernel_rfl) (by kernel_rfl) ?_
              repeat (go_big_quiet_step (fail))
              refine wpQuiet_nil ?_
              intro w5 hw'
              have HG5 := Lib.hid (grew_of hw')
              clear hw' x0 x1 x2
              go_wp2
              go_roundw
              case rel => exact ⟨k + 1, by go_num, by omega, by rw [HCS2.out], grew_trans HGi.out HG5.out⟩
              case measure => simp only [intOf]; omega
            · have HCS2 : Hid ((ss.take (k + 1)).contains q2 = false) := by show _ = _; rw [HCS.out, decide_eq_false hy]; rfl
              have hy2 : (y == q2) = false := by simpa using hy
              clear HCS hy
              go_wp2_with fail
              refine wp_region_grew (by kernel_rfl) (by kernel_rfl) ?_
              repeat (go_big_quiet_step (fail))
              refine wpQuiet_nil ?_
              intro w5 hw'
              have HG5 := Lib.hid (grew_of hw')
              clear hw' x0 x1 x2
              go_wp2
              go_roundw
              case rel => exact ⟨k + 1, by go_num, by omega, by rw [HCS2.out], grew_trans HGi.out HG5.out⟩
              case measure => simp only [intOf]; omega
          · have HCS2 : Hid ((ss.take (k + 1)).contains q2 = true) := by show _ = _; rw [HCS.out]; rfl
            clear HCS
            go_wp2_with fail
            refine wp_region_grew (by kernel_rfl) (by kernel_rfl) ?_
            repeat (go_big_quiet_step (fail))
            refine wpQuiet_nil ?_
            intro w5 hw'
            have HG5 := Lib.hid (grew_of hw')
            clear hw' x0 x1 x2
            go_wp2
            go_roundw
            case rel => exact ⟨k + 1, by go_num, by omega, by rw [HCS2.out], grew_trans HGi.out HG5.out⟩
            case measure => simp only [intOf]; omega
        · obtain rfl : k = n := by omega
          obtain ⟨t0, t1, t2⟩ := HK.out _ HGi.out
          rw [List.take_of_length_le (by rw [HSL.out]; exact Nat.le_refl _)]
          have HGB : Hid (Below (w.heap.size + 1) w0 wr) := Below.trans HGx.out (Below.mono HGi.out HZ.out)
          have HZ2 : Hid (w.heap.size + 1 ≤ wr.heap.size) := Nat.le_trans HZ.out HGi.out.size
          have HO2 := Lib.hid (HO.out.keep HGi.out)
          generalize ss.contains q2 = cs at *
          clear px
          cases cs
          · have HSN2 : Hid (thoseL ss (r.1.take (j + 1)) = thoseL ss (r.1.take j)) := HSN.out
            rw [← HSN2.out] at HO2
            clear HSN HSN2
            go_wp2
            go_roundw
            case rel => exact ⟨j + 1, by go_num, by omega, HO2.out, HGB.out⟩
            case measure => simp only [intOf]; omega
          · have HSN2 : Hid (thoseL ss (r.1.take (j + 1)) = thoseL ss (r.1.take j) ++ [q1]) := HSN.out
            clear HSN
            go_wp2_with (at_builtin; refine (wpList_append_E rfl _ _ 27 3 (.int .i64 0) 8 rfl Try.underlying27 info_int1 rfl (w.heap.size + 1) _ _ rfl (HO2.out.keep (grew_alloc _ _ _)) (some ⟨wr.heap.size, 0, none⟩) 1 1 [q1] rfl (by intro h; cases h) (RowE.one enInt wr q1 3 _ rfl) (by have := HTL.out; unfold maxLen; omega) (by have := HTL.out; omega) (Nat.le_trans HZ2.out (grew_alloc wr _ _).size) ?_); intro v6 w6 hv hb6; rw [← HSN2.out] at hv; have HV6 := Lib.hid hv; have HG6 : Hid (Below (w.heap.size + 1) w0 w6) := Below.trans (Below.trans HGB.out (Below.mono (grew_alloc _ _ _) HZ2.out)) hb6; clear hv hb6)
            go_roundw
            case rel => exact ⟨j + 1, by go_num, by omega, HV6.out, HG6.out⟩
            case measure => simp only [intOf]; omega
    · obtain rfl : j = n1 := by omega
      rw [List.take_of_length_le (by rw [HL.out]; exact Nat.le_refl _)] at HO
      go_wp2
      go_ret
      exact ⟨_, rfl, HO.out.mono (by omega), HG.out⟩
end Go.Proofs.Ytnbgbfbiieimgaa.NumK
