/- The law PackEnds. -/
import Derived.Test.YtfhfgninjelfbaaPackRT
import Derived.Test.YtfhfgninjelfbaaPackWrites
import Derived.Deep.CutBlock
namespace Go.Proofs.Ytfhfgninjelfbaa.NumK
open Go.RowKit

/-- A row of zeros whose first one is b. -/
theorem bys_first (w : World) (N : Nat) (hN : 0 < N) (b : UInt8) (x : Int) (hx : x = (b.toNat : Int)) (t : TypeId) :
    Bys (w.alloc (.cells ((madeCells #[.int .u8 0] N).setIfInBounds 0 (.int .u8 x)) t)) (some ⟨w.heap.size, 0, none⟩) N (b :: List.replicate (N - 1) 0) := by
  refine ⟨by simp; omega, fun _ => ⟨_, _, rfl, by simp, fun j hj => ?_⟩⟩
  have hs : (madeCells #[.int .u8 0] N).size = N := size_madeCells _ _
  rw [Nat.zero_add, World.cell?_alloc_at _ _ _ _ rfl, Array.getElem?_setIfInBounds]
  cases j with
  | zero => rw [if_pos rfl, if_pos (by omega), hx]; rfl
  | succ j =>
    rw [if_neg (by omega)]
    simp [madeCells, hj, Nat.mod_one, List.getD, show j < N - 1 by omega]

set_option maxRecDepth 100000 in
set_option maxHeartbeats 2000000 in
theorem packEnds_walk (b n : Int) (w : World) (hb0 : 0 ≤ b) (hb1 : b ≤ 255) :
    Calls Try.prog 8 #[.int .u8 b, .int .i64 n] w fun e w' => e = .returned (.bool true) ∧ Grew w w' := by
  by_cases h1 : n < 0
  · go_enter Try.func8, Try.ntmps8
    go_wp2
    go_ret
    exact ⟨rfl, grew_refl _⟩
  by_cases h2 : 2 < n
  · go_enter Try.func8, Try.ntmps8
    go_wp2
    go_ret
    exact ⟨rfl, grew_refl _⟩
  have hN : ∃ N : Nat, 65535 + n = (N : Int) := ⟨(65535 + n).toNat, by omega⟩
  obtain ⟨N, hN⟩ := hN
  obtain ⟨u, hu⟩ : ∃ u : UInt8, b = (u.toNat : Int) := ⟨UInt8.ofNat b.toNat, by rw [u8_ofNat (by omega)]; omega⟩
  have hn0 : 0 < N := by omega
  have hn1 : N ≤ 65537 := by omega
  have hmk := fun w => run_u8s w N (by omega)
  have c0 : (w.alloc (.cells (madeCells #[.int .u8 0] N) 5)).cell? ⟨w.heap.size, 0, none⟩ = some (.int .u8 0) := by
    rw [World.cell?_alloc_at _ _ _ _ rfl]
    simp [madeCells, hn0]
  have HBY := Lib.hid (bys_first w N hn0 u b hu 5)
  have HG0 : Hid (Grew w (w.alloc (.cells ((madeCells #[.int .u8 0] N).setIfInBounds 0 (.int .u8 b)) 5))) := grew_alloc _ _ _
  have CW := fun w => wakes04_any w
  have i0 : (0 : Int) < (N : Int) := by omega
  clear hu hb0 hb1
  go_enter Try.func8, Try.ntmps8
  go_upto_region 5 with fail
  have HSZ : Hid (w.heap.size < (w.alloc (.cells ((madeCells #[.int .u8 0] N).setIfInBounds 0 (.int .u8 b)) 5)).heap.size) := by show _ < _; simp
  generalize w.alloc (.cells ((madeCells #[.int .u8 0] N).setIfInBounds 0 (.int .u8 b)) 5) = w1 at *
  have hT : ∃ T : List UInt8, T = u :: List.replicate (N - 1) 0 := ⟨_, rfl⟩
  obtain ⟨T, hT⟩ := hT
  rw [← hT] at HBY
  have HTL : Hid (T.length = N) := HBY.out.1
  clear hT hmk c0
  go_upto_region 6 with fail
  have HW2 : Hid (WR (w1.alloc (.cells #[.pointer none, .int .i64 0, .int .i64 0] 28)) w1.heap.size (some [])) := WR.new _ _
  have HBY2 : Hid (Bys (w1.alloc (.cells #[.pointer none, .int .i64 0, .int .i64 0] 28)) (some ⟨w.heap.size, 0, none⟩) N T) := HBY.out.keep (grew_alloc _ _ _)
  have HG2 : Hid (Grew w (w1.alloc (.cells #[.pointer none, .int .i64 0, .int .i64 0] 28))) := grew_trans HG0.out (grew_alloc _ _ _)
  have hqn : w.heap.size < w1.heap.size := HSZ.out
  generalize w1.alloc (.cells #[.pointer none, .int .i64 0, .int .i64 0] 28) = w2 at *
  have HWQ : Hid (w.heap.size ≤ w1.heap.size) := by show _ ≤ _; omega
  generalize w1.heap.size = q at *
  have C1 := Lib.hid (wText_any q (some []) (some ⟨w.heap.size, 0, none⟩) N N T w2 HW2.out HBY2.out (fun h => by cases h) (fun _ a ha => by cases ha; show w.heap.size ≠ q; omega) (by omega) (by simp [wLen]))
  clear HBY HG0 HSZ HW2
  go_upto_region 7 with (go_at_call 30; ((with_reducible refine C1.out.mono ?_); rintro e w3 ⟨rfl, hw, ht⟩; have HW3 := Lib.hid hw; have HT3 := Lib.hid ht; clear hw ht C1))
  have HG3 : Hid (Grew w w3) := Turn.new HG2.out HT3.out HWQ.out
  have HBY3 : Hid (Bys w3 (some ⟨w.heap.size, 0, none⟩) N T) := HBY2.out.turn HT3.out (fun _ a ha => by cases ha; show w.heap.size ≠ q; omega)
  have hst : ∃ st, st = (if T.length ≤ 65536 then Option.map (· ++ encT T) (some []) else none) := ⟨_, rfl⟩
  obtain ⟨st, hst⟩ := hst
  rw [← hst] at HW3
  have HST : Hid (st = if N ≤ 65536 then some (encT T) else none) := by show _ = _; rw [hst, HTL.out]; simp
  have hEL : (encT T).length ≤ 65600 ∨ 65536 < N := by
    by_cases hc : N ≤ 65536
    · left
      have := encI_len (n := (T.length : Int)) (by omega) (by have := HTL.out; omega)
      unfold encT; simp; have := HTL.out; omega
    · right; omega
  have HWL : Hid (wLen st ≤ 65600) := by
    show _ ≤ _
    rw [HST.out]; split <;> simp [wLen]; omega
  have HI5 : Hid ((encI 5).length ≤ 10) := encI_len (by omega) (by omega)
  have C2 := Lib.hid (wInt_any q st (some ⟨w3.heap.size, 0, none⟩) 1 1 [5] (w3.alloc (.cells #[.int .i64 5] 3)) (HW3.out.keep (grew_alloc _ _ _)) (ints1 w3 5 _) (by intro z hz; simp at hz; omega) (by have := HWL.out; omega) (by omega))
  clear hst hEL HBY2 HT3 HG2
  go_upto_region 8 with (go_at_call 28; ((with_reducible refine C2.out.mono ?_); rintro e w4 ⟨rfl, hw, ht⟩; have HW4 := Lib.hid hw; have HT4 := Lib.hid (((Turn.refl q w3).grew (grew_alloc _ _ _)).trans ht); clear hw ht C2))
  have HG4 : Hid (Grew w w4) := Turn.new HG3.out HT4.out HWQ.out
  have HBY4 : Hid (Bys w4 (some ⟨w.heap.size, 0, none⟩) N T) := HBY3.out.turn HT4.out (fun _ a ha => by cases ha; show w.heap.size ≠ q; omega)
  clear HW3 HG3 HBY3 HT4
  by_cases hc : N ≤ 65536
  · have hn2 : ¬ 1 < n := by omega
    rw [HST.out, if_pos hc] at HW4
    have HW5 : Hid (WR w4 q (some (encT T ++ encI 5))) := by have := HW4.out; simp [encL] at this; exact this
    have hm : ∃ m, m = (encT T ++ encI 5).length := ⟨_, rfl⟩
    obtain ⟨m, hm⟩ := hm
    have hml : m ≤ 70000 := by
      have := HWL.out; rw [HST.out, if_pos hc] at this
      rw [hm]; simp [wLen] at *; have := HI5.out; omega
    have C3 := Lib.hid (wBytes_some q m (encT T ++ encI 5) w4 HW5.out hm.symm (by omega))
    have HRT : Hid (rT ⟨encT T ++ encI 5, 0⟩ = (T, ⟨encI 5, 0⟩)) := rT_enc (by rw [HTL.out]; exact hc) _
    have HRI : Hid (rI ⟨encI 5, 0⟩ = (5, ⟨[], 0⟩)) := by have := rI_enc (n := 5) (by omega) (by omega) []; rwa [List.append_nil] at this
    clear HW4 HST HWL hm HI5
    go_upto_region 12 with (first
      | (go_at_call 13; ((with_reducible refine C3.out.mono ?_); rintro e w5 ⟨hg, B, rfl, hb, hf⟩; have HG5 := Lib.hid (grew_trans HG4.out hg); have HBY5 := Lib.hid (HBY4.out.keep hg); have C4 := Lib.hid (newReader_any (some ⟨B, 0, none⟩) m m _ w5 hb (fun h => by cases h) (by omega)); clear hg hb hf C3))
      | (go_at_call 18; ((with_reducible refine C4.out.mono ?_); rintro e w6 ⟨rfl, hr, hg⟩; have HR6 := Lib.hid hr; have HG6 := Lib.hid (grew_trans HG5.out hg); have HBY6 := Lib.hid (HBY5.out.keep hg); clear hr hg C4)))
    have hpn : w.heap.size ≠ w5.heap.size := by have := HBY5.out.2 hn0; obtain ⟨b', o', e, hb', _⟩ := this; cases e; omega
    have HPW : Hid (w.heap.size ≤ w5.heap.size) := HG5.out.size
    generalize w5.heap.size = p at *
    have D1 := Lib.hid (rText_any p _ w6 HR6.out)
    rw [HRT.out] at D1
    dsimp only at D1
    have D2 := Lib.hid (fun w7 (h : RD w7 p ⟨encI 5, 0⟩) => rInt_any p _ w7 h)
    rw [HRI.out] at D2
    have D3 := Lib.hid (fun w7 (h : RD w7 p ⟨[], 0⟩) => done_any p _ w7 h)
    rw [(rD_left []).2 rfl] at D3
    have HPN := Lib.hid hpn
    clear hpn
    go_wp2_with (first
      | (go_at_call 23; ((with_reducible refine D1.out.mono ?_); rintro e w7 ⟨A3, n3, c3, rfl, hb3, hf3, hA3, hr, ht⟩; have HR7 := Lib.hid hr; have HT7 := Lib.hid ht; have D4 := Lib.hid (keepBytes_any A3 (some ⟨w.heap.size, 0, none⟩) n3 N c3 N T T w7 hb3 (HBY6.out.turn ht (fun _ a ha => by cases ha; exact HPN.out)) (by have := hb3.1; have := HTL.out; omega) (by omega)); rw [decide_eq_true (rfl : T = T)] at D4; clear hb3 hf3 hA3 hr ht D1))
      | (go_at_call 15; ((with_reducible refine D4.out.mono ?_); rintro e w8 ⟨rfl, hg⟩; have HG8 := Lib.hid hg; have D5 := Lib.hid (D2.out w8 (HR7.out.keep hg)); clear hg D4))
      | (go_at_call 19; ((with_reducible refine D5.out.mono ?_); rintro e w9 ⟨rfl, hr, ht⟩; have HT9 := Lib.hid ht; have D6 := Lib.hid (D3.out w9 hr); clear hr ht D5))
      | (go_at_call 25; ((with_reducible refine D6.out.mono ?_); rintro e w10 ⟨rfl, rfl⟩))
      | (go_at_call 14; ((with_reducible refine (CW _).mono ?_); rintro e w11 ⟨rfl, hg⟩; have HG11 := Lib.hid hg; clear hg)))
    go_ret
    exact ⟨rfl, grew_trans (Turn.new (grew_trans (Turn.new HG6.out HT7.out HPW.out) HG8.out) HT9.out HPW.out) HG11.out⟩
  · have hn2 : 1 < n := by omega
    rw [HST.out, if_neg hc] at HW4
    have HW5 : Hid (WR w4 q none) := HW4.out
    have C3 := Lib.hid (wBytes_none q w4 HW5.out)
    clear HW4 HST HWL HI5
    go_wp2_with (first
      | (go_at_call 13; ((with_reducible refine C3.out.mono ?_); rintro e w5 ⟨hg, rfl⟩; have HG5 := Lib.hid (grew_trans HG4.out hg); clear hg C3))
      | (go_at_call 14; ((with_reducible refine (CW _).mono ?_); rintro e w11 ⟨rfl, hg⟩; have HG11 := Lib.hid hg; clear hg)))
    go_ret
    exact ⟨rfl, grew_trans HG5.out HG11.out⟩
end Go.Proofs.Ytfhfgninjelfbaa.NumK
