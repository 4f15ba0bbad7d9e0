/-
  For whatever is written into records, as frames of later generations: it is never read as a record that nobody appended (P7.2, P7.4); inputs beyond the sizes that the statement names it lets by.
-/
import Derived.Test.YthmdbfbhcnjghaaRJnN
import Derived.Test.YthmdbfbhcnjghaaRRefF
import Derived.Test.YthmdbfbhcnjghaaRGrd
import Derived.Test.YthmdbfbhcnjghaaRows
import Derived.WalkKit
import Derived.ProofKit
import Derived.OpenShut
import Derived.ShutString
import Derived.ChangeOld
import Derived.Below
import Derived.Carry
namespace Go.Proofs.Ythmdbfbhcnjghaa.NumK
open Go.RowKit

set_option maxRecDepth 100000 in
set_option maxHeartbeats 2000000 in
theorem logStale_big (x0 x1 x2 : Int) (A3 A4 : Option Addr) (n3 n4 c3 c4 : Nat) (W : World) (h : x0 < 1 ∨ 12 < x0 ∨ x1 < 0 ∨ 20 < x1 ∨ x2 < 0 ∨ 20 < x2 ∨ 60 < n3 ∨ 8 < n4) :
    Calls Try.prog 6 #[.int .i64 x0, .int .i64 x1, .int .i64 x2, .slice A3 n3 c3, .slice A4 n4 c4] W fun e w' => e = .returned (.bool true) ∧ Grew W w' := by
  by_cases d0 : x0 < 1
  · clear h
    go_enter Try.func6, Try.ntmps6
    go_wp2
    go_ret
    exact ⟨rfl, grew_refl _⟩
  · skip
    by_cases d1 : 12 < x0
    · clear h
      go_enter Try.func6, Try.ntmps6
      go_wp2
      go_ret
      exact ⟨rfl, grew_refl _⟩
    · skip
      by_cases d2 : x1 < 0
      · clear h
        go_enter Try.func6, Try.ntmps6
        go_wp2
        go_ret
        exact ⟨rfl, grew_refl _⟩
      · skip
        by_cases d3 : 20 < x1
        · clear h
          go_enter Try.func6, Try.ntmps6
          go_wp2
          go_ret
          exact ⟨rfl, grew_refl _⟩
        · skip
          by_cases d4 : x2 < 0
          · clear h
            go_enter Try.func6, Try.ntmps6
            go_wp2
            go_ret
            exact ⟨rfl, grew_refl _⟩
          · skip
            by_cases d5 : 20 < x2
            · clear h
              go_enter Try.func6, Try.ntmps6
              go_wp2
              go_ret
              exact ⟨rfl, grew_refl _⟩
            · skip
              by_cases d6 : (60 : Int) < (n3 : Int)
              · clear h
                go_enter Try.func6, Try.ntmps6
                go_wp2
                go_ret
                exact ⟨rfl, grew_refl _⟩
              · skip
                have d7 : (8 : Int) < (n4 : Int) := by omega
                clear h
                go_enter Try.func6, Try.ntmps6
                go_wp2
                go_ret
                exact ⟨rfl, grew_refl _⟩

/-! ### in the model -/
def stF (g k : Nat) (b : List UInt8) : Nat → List UInt8
  | 0 => []
  | i + 1 => stF g k b i ++ frameB g (k + i) b
theorem stF_len (g k : Nat) (b : List UInt8) (i : Nat) : (stF g k b i).length = i * (b.length + 21) := by
  induction i with
  | zero => simp [stF]
  | succ i ih => simp only [stF, List.length_append, ih, frameB_len, Nat.add_mul, Nat.one_mul]
/-- Between two lives: k times begun. -/
structure IS (s : DS) (k : Nat) : Prop where
  on : s.off = false
  arm : s.armed = 0
  opn : s.opn = []
  len : s.safe.length = 120
  gen : (lPick s).gen = k
theorem is_new : IS (dNew 120) 0 := ⟨rfl, rfl, rfl, dNew_len 120, by rw [lPick_new]⟩
theorem is_step {s : DS} {k : Nat} (h : IS s k) (hk : k ≤ 8) (m : Nat) (hm : m < 130) (R : List UInt8) (hR : R.length ≤ 1000) :
    ∃ s1 s2 s3 a, lBegin s (lPick s) (List.replicate m 0) = (0, s1, lgL a (k + 1) (List.replicate m 0) [] true) ∧ LL s1 a (k + 1) (List.replicate m 0) [] [] ∧ s1.safe.length = 120 ∧
      lAppend s1 (lgL a (k + 1) (List.replicate m 0) [] true) [R] = (0, s2, lgL a (k + 1) (List.replicate m 0) [R] true) ∧ LL s2 a (k + 1) (List.replicate m 0) [] [R] ∧
      dSync s2 = (0, s3) ∧ LL s3 a (k + 1) (List.replicate m 0) [R] [] ∧ s3.safe.length = 120 ∧ IS s3 (k + 1) := by
  have hrm : roomD s = 60 := by unfold roomD; rw [h.len]
  obtain ⟨s1, e1, L1, o1, k1, _⟩ := LL.begin (s := s) (l := lPick s) (snap := List.replicate m 0) h.on h.arm h.opn (by rw [h.len]; omega) (lPick_half _) (by rw [lPick_part]; exact Nat.le_refl _) (by rw [h.gen]; omega) (by simp; omega) (by rw [hrm]; simp; unfold nbk; omega)
  have hr1 : roomD s1 = 60 := by unfold roomD; rw [k1, h.len]
  rw [h.gen] at e1 L1
  obtain ⟨s2, e2, L2, f2⟩ := L1.append [R] (by simp; omega) (by rw [hr1]; simp [spanL]; unfold nbk; omega)
  obtain ⟨s3, e3, L3, o3, k3, f3⟩ := L2.sync
  simp only [List.nil_append] at e2 L2 L3
  have hk3 : s3.safe.length = 120 := by rw [k3, f2, k1, h.len]
  exact ⟨s1, s2, s3, 1 - (lPick s).half, e1, L1, by rw [k1, h.len], e2, L2, e3, L3, hk3, ⟨L3.on, L3.arm, o3, hk3, by rw [L3.pick]; rfl⟩⟩
theorem Bys.same {w w' : World} {A : Option Addr} {n : Nat} {l : List UInt8} (h : Bys w A n l) (e : ∀ a, A = some a → w'.heap[a.block]? = w.heap[a.block]?) (hs : w.heap.size ≤ w'.heap.size) : Bys w' A n l :=
  ⟨h.1, fun hn => by
    obtain ⟨b, o, ea, hb, hc⟩ := h.2 hn
    exact ⟨b, o, ea, Nat.lt_of_lt_of_le hb hs, fun j hj => (World.cell?_of_block (w := w) (a := ⟨b, o + j, none⟩) (e ⟨b, o, none⟩ ea)).trans (hc j hj)⟩⟩
set_option maxRecDepth 100000 in
set_option maxHeartbeats 8000000 in
theorem logStale_go (n gen no : Nat) (A3 A4 : Option Addr) (n3 n4 c3 c4 : Nat) (b : List UInt8) (zs : List Int) (W : World) (hb3 : Bys W A3 n3 b) (hA3 : A3 = none → c3 = 0) (i4 : Ints W A4 n4 zs)
    (hn1 : 1 ≤ n) (hn : n ≤ 12) (hg : gen ≤ 20) (hno : no ≤ 20) (h3 : n3 ≤ 60) (h4 : n4 ≤ 8) :
    Calls Try.prog 6 #[.int .i64 n, .int .i64 gen, .int .i64 no, .slice A3 n3 c3, .slice A4 n4 c4] W fun e w' => e = .returned (.bool true) ∧ Grew W w' := by
  have d0 : ¬ (n : Int) < 1 := by omega
  have d1 : ¬ (12 : Int) < (n : Int) := by omega
  have d2 : ¬ (gen : Int) < 0 := by omega
  have d3 : ¬ (20 : Int) < (gen : Int) := by omega
  have d4 : ¬ (no : Int) < 0 := by omega
  have d5 : ¬ (20 : Int) < (no : Int) := by omega
  have d6 : ¬ (60 : Int) < (n3 : Int) := by omega
  have d7 : ¬ (8 : Int) < (n4 : Int) := by omega
  have CN : Hid (Calls Try.prog 12 #[.int .i64 120] W fun e w' => ∃ q, e = .returned (.tuple #[.pointer (some ⟨q, 0, none⟩), .int .i64 0]) ∧ DI N0 W w' q (dNew 120)) := newD 120 W (by omega) (by omega)
  have CS := Lib.hid (fun i (hi : i < n) w (g : Grew W w) => refSeal_any gen (no + i) A3 n3 c3 b w (hb3.keep g) hA3 (by omega) (by omega) (by omega))
  have CW := Lib.hid (fun w => wakes07_any w)
  have CK := Lib.hid (fun (A B : Option Addr) (n m c c2 : Nat) (xs ys : List UInt8) w hx hy hn hm => keepBytes_any A B n m c c2 xs ys w hx hy hn hm)
  have HBL : Hid (b.length = n3) := hb3.1
  have I4 := Lib.hid i4
  clear hb3 i4 hA3
  go_enter Try.func6, Try.ntmps6
  go_upto_region 8 with (go_at_call 12; ((with_reducible refine CN.out.mono ?_); rintro e w1 ⟨q, rfl, hd⟩; have D0 := Lib.hid hd; clear hd))
  clear CN
  go_loopw [13, 14] (fun v13 v14 wr => ∃ i : Nat, v14 = .int .i64 i ∧ i ≤ n ∧ Hid (wr.ownsRow w1.heap.size 5 1 v13 (i * (n3 + 21)) ((stF gen no b i).map byv)) ∧ Hid (Grew w1 wr)) (fun _ v14 _ => n - (intOf v14).toNat)
  case atStart => exact ⟨0, rfl, Nat.zero_le _, by rw [Nat.zero_mul]; exact World.ownsRow_nil _ _ _ _, grew_refl _⟩
  case round =>
    obtain ⟨i, rfl, hi, HO, HG⟩ := hrel
    by_cases hlt : i < n
    · have a3 : (i : Int) < (n : Int) := by omega
      have i1 : IntKind.i64.wrap ((no : Int) + (i : Int)) = (no : Int) + (i : Int) := by rw [IntKind.wrap_i64]; omega
      have CSi := Lib.hid (CS.out i hlt wr (grew_trans D0.out.grew HG.out))
      rw [Int.natCast_add] at CSi
      have HE : Hid (∀ (v : Value) (w5 : World), w5.ownsRow w1.heap.size 5 1 v (i * (n3 + 21) + (n3 + 21)) ((stF gen no b i ++ frameB gen (no + i) b).map byv) → w5.ownsRow w1.heap.size 5 1 v ((i + 1) * (n3 + 21)) ((stF gen no b (i + 1)).map byv)) := fun v w5 h => by
        rw [Nat.add_mul, Nat.one_mul]; exact h
      go_wp2_with (first
        | (go_at_call 35; ((with_reducible refine CSi.out.mono ?_); rintro e w2 ⟨hg2, v2, rfl, ho2⟩; obtain ⟨A2, c2, rfl, hb2, hA2, -⟩ := bys_own2 ho2; have HO2 := Lib.hid (ownR_grew HO.out hg2); have HB2 := Lib.hid hb2; have HA2 := Lib.hid hA2; have HG2 := Lib.hid (grew_trans HG.out hg2); clear ho2 hb2 hA2 hg2))
        | (at_builtin; refine (wpList_append_bytes rfl _ _ rfl w1.heap.size _ (i * (n3 + 21)) _ rfl HO2.out A2 (n3 + 21) c2 _ rfl HA2.out HB2.out (by have : i * (n3 + 21) ≤ 12 * 81 := Nat.mul_le_mul (by omega) (by omega); omega) HG2.out.size ?_); intro v5 w5 hv hb; have HV5 := Lib.hid (HE.out v5 w5 hv); have HG5 := Lib.hid (HG2.out.trans hb); clear hv hb))
      go_roundw
      case rel => exact ⟨i + 1, by go_num, by omega, HV5, HG5⟩
      case measure => simp only [intOf]; omega
    · obtain rfl : i = n := by omega
      obtain ⟨R, hR⟩ : ∃ R, R = stF gen no b i := ⟨_, rfl⟩
      obtain ⟨nR, hnR⟩ : ∃ nR, nR = i * (n3 + 21) := ⟨_, rfl⟩
      have hnR2 : nR ≤ 1000 := by rw [hnR]; have : i * (n3 + 21) ≤ 12 * 81 := Nat.mul_le_mul (by omega) (by omega); omega
      have HRL : Hid (R.length = nR) := by show _ = _; rw [hR, stF_len, HBL.out, hnR]
      rw [← hR, ← hnR] at HO
      obtain ⟨AR, cR, rfl, hbR, hAR, hcR, -, hfR⟩ := bys_own2 HO.out
      have hNR : ∀ a, AR = some a → w1.heap.size ≤ a.block ∧ a.block < wr.heap.size := fun a ha => by
        rcases hfR w1 (Nat.le_refl _) with h | ⟨B, h1, h2, h5⟩
        · rw [h.1] at ha; cases ha
        · rw [h1] at ha; cases ha; exact ⟨h2, h5.1⟩
      obtain ⟨NR, hNR2⟩ : ∃ NR : Nat → Prop, NR = fun k => w1.heap.size ≤ k ∧ k < wr.heap.size := ⟨_, rfl⟩
      have hNR3 : ∀ a, AR = some a → NR a.block := by rw [hNR2]; exact hNR
      have HNR := Lib.hid hNR3
      have HBR := Lib.hid hbR
      have D1 : Hid (DI NR W wr q (dNew 120)) := D0.out.besides HG.out (fun k hk => Or.inr (by rw [hNR2] at hk; exact hk))
      clear hR hnR hbR hfR hNR hNR2 hNR3 HO HG D0 CS HBL
      go_upto_region 12 with fail
      go_loopw [15] (fun v15 wx => ∃ (k : Nat) (s : DS), v15 = .int .i64 k ∧ k ≤ n4 ∧ Hid (DI NR W wx q s) ∧ Hid (IS s k) ∧ Hid (Bys wx AR nR R)) (fun v15 _ => n4 - (intOf v15).toNat)
      case atStart => exact ⟨0, dNew 120, rfl, Nat.zero_le _, D1, is_new, HBR⟩
      case round =>
        obtain ⟨k, s, rfl, hk, HD, HI, HB⟩ := hrel
        clear D1 HBR
        by_cases hlk : k < n4
        · have a4 : (k : Int) < (n4 : Int) := by omega
          obtain ⟨b4, o4, rfl, hbw, hcs⟩ := I4.out.2 (by omega)
          have HC4 : Hid (∀ w', Grew W w' → w'.cell? ⟨b4, o4 + k, none⟩ = some (.int .i64 (zs.getD k 0))) := fun w' g => (grew_cell g (p := ⟨b4, o4 + k, none⟩) hbw).trans (hcs k hlk)
          clear hcs hbw
          generalize zs.getD k 0 = z at *
          obtain ⟨Z, hZ⟩ : ∃ Z, IntKind.u64.wrap z = Z := ⟨_, rfl⟩
          have hZ2 : 0 ≤ Z := by rw [← hZ, IntKind.wrap_u64]; omega
          obtain ⟨m, hm⟩ : ∃ m : Nat, Z.tmod 130 = (m : Int) := ⟨(Z % 130).toNat, by rw [Int.tmod_eq_emod_of_nonneg hZ2]; omega⟩
          have hm1 : m < 130 := by rw [Int.tmod_eq_emod_of_nonneg hZ2] at hm; omega
          have hw1 : IntKind.u64.wrap (m : Int) = (m : Int) := by rw [IntKind.wrap_u64]; omega
          have hw2 : IntKind.i64.wrap (m : Int) = (m : Int) := by rw [IntKind.wrap_i64]; omega
          obtain ⟨s1, s2, s3, ha, e1, L1, k1, e2, L2, e3, L3, k3, IS3⟩ := is_step HI.out (by omega) m hm1 R (by rw [HRL.out]; omega)
          have hs := HI.out
          have ho1 : s1.opn.length ≤ 500000 := by have := L1.opn; omega
          have ho2 : s2.opn.length ≤ 1000000 := by have := L2.opn; omega
          have p1 := L1.pick
          have p3 := L3.pick
          simp only [List.append_nil] at p1 p3
          have CO := Lib.hid (HD.out.openJ (lOpen_ok hs.on (by rw [hs.len]; omega)))
          have CO1 := Lib.hid (fun N w1 (h : DI N W w1 q s1) => h.openJ (lOpen_ok L1.on (by rw [k1]; omega)))
          rw [p1] at CO1
          have CO3 := Lib.hid (fun N w1 (h : DI N W w1 q s3) => h.openJ (lOpen_ok L3.on (by rw [k3]; omega)))
          rw [p3] at CO3
          have hmk := fun w => run_u8s w m (by omega)
          have CB : Hid (∀ N w1 lb (B : Nat), JI N W w1 lb q s (lPick s) → Bys w1 (some ⟨B, 0, none⟩) m (List.replicate m 0) → N B → Calls Try.prog 29 #[.pointer (some ⟨lb, 0, none⟩), .slice (some ⟨B, 0, none⟩) m m] w1 (JOutK N W w1 lb q 0 s1 (lgL ha (k + 1) (List.replicate m 0) [] true))) := fun N w1 lb B h hb hN =>
            h.beginK (grew_refl _) (List.replicate m 0) _ m m hb (fun h => by cases h) (Nat.le_refl _) (fun a ha _ => by cases ha; exact Or.inr (Or.inl hN)) (by omega) (by rw [hs.opn]; simp) e1 L1.on
          have CA : Hid (∀ N w1 lb, JI N W w1 lb q s1 (lgL ha (k + 1) (List.replicate m 0) [] true) → Bys w1 AR nR R → (∀ a, AR = some a → N a.block) → Calls Try.prog 30 #[.pointer (some ⟨lb, 0, none⟩), .slice (some ⟨w1.heap.size, 0, none⟩) 1 1] (w1.alloc (.cells #[.slice AR nR cR] 37)) (JOutK N W w1 lb q 0 s2 (lgL ha (k + 1) (List.replicate m 0) [R] true))) := fun N w1 lb h hb hN =>
            h.appendK (grew_alloc _ _ _) [R] _ 1 1 (rows1S _ hb hAR hcR (by omega) (fun a ha h0 hm => hm.2 (Or.inl (hN a ha))) (fun hm => hm.2 (Or.inr ⟨Nat.le_refl _, by simp⟩))) (by omega) ho1 e2 L2.on
          have CY := Lib.hid (fun N w1 lb (h : JI N W w1 lb q s2 (lgL ha (k + 1) (List.replicate m 0) [R] true)) => h.syncK ho2 e3 L3.on)
          have CP := Lib.hid (fun N w1 lb (h : JI N W w1 lb q s1 (lgL ha (k + 1) (List.replicate m 0) [] false)) => h.snapL)
          have CR1 := Lib.hid (fun N w1 lb (h : JI N W w1 lb q s1 (lgL ha (k + 1) (List.replicate m 0) [] false)) => h.recsL)
          have CR3 := Lib.hid (fun N w1 lb (h : JI N W w1 lb q s3 (lgL ha (k + 1) (List.replicate m 0) [R] false)) => h.recsL)
          rw [List.length_replicate] at CP
          have HIS := Lib.hid IS3
          have HZR : Hid (∀ w : World, Bys (w.alloc (.cells (madeCells #[.int .u8 0] m) 5)) (some ⟨w.heap.size, 0, none⟩) m (List.replicate m 0)) := fun w => bys_zeros _ _ _
          clear e1 L1 k1 e2 L2 e3 L3 k3 IS3 hs ho1 ho2 p1 p3 HI hZ2
          generalize List.replicate m (0 : UInt8) = zr at *
          generalize lPick s = lp at *
          go_upto_region 16 with (first
            | (go_at_call 23; ((with_reducible refine CO.out.mono ?_); rintro e w2 ⟨hg, lb, rfl, hj⟩; have J0 := Lib.hid hj; have HB0 := Lib.hid (HB.out.keep hg); have g0 := HC4.out w2 hj.grew; clear hj hg)))
          have J1 : Hid (JI (fun k => NR k ∨ k = w2.heap.size) W (w2.alloc (.cells (madeCells #[.int .u8 0] m) 5)) lb q s lp) := J0.out.beside (grew_alloc _ _ _) (fun k hk => hk.imp id (fun h => by rw [h]; simp))
          have HZ1 := Lib.hid (HZR.out w2)
          have HB1 := Lib.hid (HB0.out.keep (grew_alloc w2 (madeCells #[.int .u8 0] m) 5))
          obtain ⟨NW, hNW⟩ : ∃ NW : Nat → Prop, NW = fun k => NR k ∨ k = w2.heap.size := ⟨_, rfl⟩
          have HN1 : Hid (∀ a, AR = some a → NW a.block) := fun a ha => by rw [hNW]; exact Or.inl (HNR.out a ha)
          have HN2 : Hid (NW w2.heap.size) := by rw [hNW]; exact Or.inr rfl
          have HN3 : Hid (∀ k, NR k → NW k) := fun k hk => by rw [hNW]; exact Or.inl hk
          rw [← hNW] at J1
          clear hNW J0 HB0 g0 CO HD HB HZR
          generalize w2.heap.size = B2 at *
          generalize w2.alloc (.cells (madeCells #[.int .u8 0] m) 5) = w3 at *
          have hmz : zr.length = m := HZ1.out.1
          go_upto_region 21 with (first
            | (go_at_call 29; ((with_reducible refine (CB.out _ _ _ _ J1.out HZ1.out HN2.out).mono ?_); rintro e w4 ⟨rfl, hj, hk1, hk2⟩; have J2 := Lib.hid hj; have HZ2 := Lib.hid (HZ1.out.same (fun a ha => by cases ha; exact hk1 _ HN2.out) hk2); have HB2 := Lib.hid (HB1.out.same (fun a ha => hk1 _ (HN1.out a ha)) hk2); clear hj hk1 hk2))
            | (go_at_call 23; ((with_reducible refine (CO1.out _ _ J2.out.di).mono ?_); rintro e w5 ⟨hg, lb2, rfl, hj⟩; have K3 := Lib.hid hj; have J3 := Lib.hid (J2.out.grows hg); have HZ3 := Lib.hid (HZ2.out.keep hg); have HB3 := Lib.hid (HB2.out.keep hg); clear hj hg))
            | (go_at_call 27; ((with_reducible refine (CR1.out _ _ _ K3.out).mono ?_); rintro e w6 ⟨hg, v, rfl, hv⟩; obtain ⟨A6, c6, rfl, -⟩ := hv.toB; have K4 := Lib.hid (K3.out.grows hg); have J4 := Lib.hid (J3.out.grows hg); have HZ4 := Lib.hid (HZ3.out.keep hg); have HB4 := Lib.hid (HB3.out.keep hg); clear hg hv))
            | (go_at_call 26; ((with_reducible refine (CP.out _ _ _ K4.out).mono ?_); rintro e w8 ⟨hg, A8, c8, rfl, _, hb8, _⟩; have J5 := Lib.hid (J4.out.grows hg); have HZ5 := Lib.hid (HZ4.out.keep hg); have HB5 := Lib.hid (HB4.out.keep hg); have CK8 := Lib.hid (CK.out A8 (some ⟨B2, 0, none⟩) m m c8 m zr zr w8 hb8 HZ5.out (by omega) (by omega)); clear hg hb8; rw [decide_eq_true rfl] at CK8))
            | (go_at_call 32; ((with_reducible refine CK8.out.mono ?_); rintro e w9 ⟨rfl, hg⟩; have J6 := Lib.hid (J5.out.grows hg); have HB6 := Lib.hid (HB5.out.keep hg); clear hg)))
          clear J1 HZ1 HB1 J2 HZ2 HB2 K3 J3 HZ3 HB3 K4 J4 HZ4 HB4 J5 HZ5 HB5 CK8 CB CO1 CP CR1
          go_wp2_with (first
            | (go_at_call 30; ((with_reducible refine (CA.out _ _ _ J6.out HB6.out HN1.out).mono ?_); rintro e w10 ⟨rfl, hj, hk1, hk2⟩; have J7 := Lib.hid hj; have HB7 := Lib.hid (HB6.out.same (fun a ha => hk1 _ (HN1.out a ha)) hk2); clear hj hk1 hk2))
            | (go_at_call 31; ((with_reducible refine (CY.out _ _ _ J7.out).mono ?_); rintro e w11 ⟨rfl, hj, hk1, hk2⟩; have J8 := Lib.hid hj; have HB8 := Lib.hid (HB7.out.same (fun a ha => hk1 _ (HN1.out a ha)) hk2); clear hj hk1 hk2))
            | (go_at_call 23; ((with_reducible refine (CO3.out _ _ J8.out.di).mono ?_); rintro e w12 ⟨hg, lb3, rfl, hj⟩; have K9 := Lib.hid hj; have HB9 := Lib.hid (HB8.out.keep hg); clear hj hg))
            | (go_at_call 27; ((with_reducible refine (CR3.out _ _ _ K9.out).mono ?_); rintro e w13 ⟨hg, v, rfl, hv⟩; obtain ⟨A13, c13, rfl, -⟩ := hv.toB; have K10 := Lib.hid (K9.out.grows hg); have HB10 := Lib.hid (HB9.out.keep hg); clear hg hv K9 HB9))
            | (go_at_call 27; ((with_reducible refine (CR3.out _ _ _ K10.out).mono ?_); rintro e w14 ⟨hg, v, rfl, hv⟩; obtain ⟨A14, c14, rfl, -⟩ := hv.toB; have K11 := Lib.hid (K10.out.grows hg); have HB11 := Lib.hid (HB10.out.keep hg); clear hg hv K10 HB10))
            | (go_at_call 27; ((with_reducible refine (CR3.out _ _ _ K11.out).mono ?_); rintro e w15 ⟨hg, v, rfl, hv⟩; obtain ⟨A15, c15, rfl, -⟩ := hv.toB; have K12 := Lib.hid (K11.out.grows hg); have HB12 := Lib.hid (HB11.out.keep hg); clear hg hv K11 HB11))
            | (go_at_call 27; ((with_reducible refine (CR3.out _ _ _ K12.out).mono ?_); rintro e w16 ⟨hg, v, rfl, hv⟩; obtain ⟨A16, c16, rfl, hb16, -⟩ := hv.toB; have K13 := Lib.hid (K12.out.grows hg); have HB13 := Lib.hid (HB12.out.keep hg); obtain ⟨bb, oo, X1, x1, y1, rfl, g1, hx1, hX1, hn1', hm1'⟩ := hb16.at (k := 0) (by simp); rw [Nat.add_zero] at g1; have hx1' : Bys w16 X1 x1 R := hx1; have CK9 := Lib.hid (CK.out X1 AR x1 nR y1 cR R R w16 hx1' HB13.out hm1' (by omega)); rw [decide_eq_true rfl] at CK9; clear hg hv hb16 hx1 hx1' hX1 hn1' hm1' K12 HB12))
            | (go_at_call 32; ((with_reducible refine CK9.out.mono ?_); rintro e w17 ⟨rfl, hg⟩; have D14 := Lib.hid ((K13.out.grows hg).di.less HN3.out); have HB14 := Lib.hid (HB13.out.keep hg); clear hg)))
          go_roundw
          case rel => exact ⟨k + 1, s3, by go_num, by omega, D14, HIS, HB14⟩
          case measure => simp only [intOf]; omega
        · obtain rfl : k = n4 := by omega
          go_wp2_with (go_at_call 21; ((with_reducible refine (CW.out _).mono ?_); rintro e w15 ⟨rfl, hg⟩; have GE := Lib.hid (grew_trans HD.out.grew hg); clear hg))
          go_ret
          exact ⟨rfl, GE.out⟩
theorem logStale_row (x0 x1 x2 : Int) (A3 A4 : Option Addr) (n3 n4 c3 c4 : Nat) (l3 l4 : List Int) (W : World) (r3 : Row (spInt .u8) W A3 n3 l3) (r4 : Row (spInt .i64) W A4 n4 l4) (a3 : A3 = none → c3 = 0) :
    Calls Try.prog 6 #[.int .i64 x0, .int .i64 x1, .int .i64 x2, .slice A3 n3 c3, .slice A4 n4 c4] W fun e w' => e = .returned (.bool true) ∧ Grew W w' := by
  by_cases h : x0 < 1 ∨ 12 < x0 ∨ x1 < 0 ∨ 20 < x1 ∨ x2 < 0 ∨ 20 < x2 ∨ 60 < n3 ∨ 8 < n4
  · exact logStale_big x0 x1 x2 A3 A4 n3 n4 c3 c4 W h
  · obtain ⟨n, rfl⟩ : ∃ n : Nat, x0 = (n : Int) := ⟨x0.toNat, by omega⟩
    obtain ⟨g, rfl⟩ : ∃ n : Nat, x1 = (n : Int) := ⟨x1.toNat, by omega⟩
    obtain ⟨k, rfl⟩ : ∃ n : Nat, x2 = (n : Int) := ⟨x2.toNat, by omega⟩
    obtain ⟨bs, hb⟩ := bys_of_row r3
    exact logStale_go n g k A3 A4 n3 n4 c3 c4 bs l4 W hb a3 (ints_of_spec r4).1 (by omega) (by omega) (by omega) (by omega) (by omega) (by omega)
end Go.Proofs.Ythmdbfbhcnjghaa.NumK
namespace Go.Proofs.Ythmdbfbhcnjghaa.logStale
open Go.ChangeShapes Go.WideShapes Go.ChangeAt Go.RowKit
set_option linter.unusedVariables false

theorem own : ownKnob Try.prog.godebug = none := by kernel_rfl
theorem laidOut : laidOutB Try.prog = true := by kernel_rfl

set_option maxRecDepth 100000 in
theorem lifted (os : Os) (started : os.Started) (H : Type) (enc : TypeId × Value → H) :
    ReturnsInHanded {} Try.checked os 6 .any (Rows.logStaleSpec.pre6 enc Try.prog Try.f6 Rows.logStaleRow.domain false) (Rows.logStaleSpec.post enc Try.prog Try.f6 false true false false) := by
  refine returnsInHanded_of_change (C := Try.checked) own started (by kernel_rfl) Try.func6
    (ChangeSpec.witness6 (enc := enc) (C := Try.checked) false ⟨#[], #[.int .i64 0, .int .i64 0, .int .i64 0, .slice none 0 0, .slice none 0 0], []⟩ 8 (by kernel_rfl) (by kernel_rfl) (by kernel_rfl) (by kernel_rfl)) ?_
  intro W base args ds gs before hval0 hW hcnd _
  have hval : ∀ (j : Nat) t v, Try.f6.params[j]? = some t → args[j]? = some v → Value.okWide Try.prog W .any base t v := hval0
  have hW' := hW
  obtain ⟨p, q, hA0, hV, rfl, hfz, hnd⟩ := hW
  have hA : DataW.TrodAll enc Try.prog W 0 (fun _ => true) true Try.f6.params.toList args.toList ds p := hA0
  skip
  rw [Try.params6] at hA hval
  obtain ⟨v0, vs0, d0, ds0, p0, q0, hargs, rfl, rfl, h0, r0⟩ := trodAll_cons hA
  obtain ⟨v1, vs1, d1, ds1, p1, q1, rfl, rfl, rfl, h1, r1⟩ := trodAll_cons r0
  obtain ⟨v2, vs2, d2, ds2, p2, q2, rfl, rfl, rfl, h2, r2⟩ := trodAll_cons r1
  obtain ⟨v3, vs3, d3, ds3, p3, q3, rfl, rfl, rfl, h3, r3⟩ := trodAll_cons r2
  obtain ⟨v4, vs4, d4, ds4, p4, q4, rfl, rfl, rfl, h4, r4⟩ := trodAll_cons r3
  obtain ⟨rfl, rfl, rfl⟩ := trodAll_nil r4
  obtain rfl : args = #[v0, v1, v2, v3, v4] := by cases args; simp_all
  obtain ⟨rfl, rfl⟩ := trodVars_none hV
  obtain ⟨a0, rfl, rfl, rfl, w0⟩ := open_int Try.underlying3 (hval 0 3 v0 rfl rfl) h0
  obtain ⟨a1, rfl, rfl, rfl, w1⟩ := open_int Try.underlying3 (hval 1 3 v1 rfl rfl) h1
  obtain ⟨a2, rfl, rfl, rfl, w2⟩ := open_int Try.underlying3 (hval 2 3 v2 rfl rfl) h2
  have k3 := h3
  have lt3 : ∀ x ∈ p3, x.block < W.heap.size := by obtain ⟨m, hm⟩ := k3; exact DataW.trod_lt m _ _ _ hm
  obtain ⟨A3, len3, cap3, l3, rfl, ro3, n3, c3, m3⟩ := NumK.arg_slice Try.underlying37 NumK.opens_bytes (hval 3 37 v3 rfl rfl) h3
  have k4 := h4
  have lt4 : ∀ x ∈ p4, x.block < W.heap.size := by obtain ⟨m, hm⟩ := k4; exact DataW.trod_lt m _ _ _ hm
  obtain ⟨A4, len4, cap4, l4, rfl, ro4, n4, c4, m4⟩ := NumK.arg_slice Try.underlying39 NumK.opens_ints (hval 4 39 v4 rfl rfl) h4
  clear hA0 hval0
  refine (NumK.logStale_row a0 a1 a2 A3 A4 len3 len4 cap3 cap4 l3 l4 W ro3 ro4 n3).mono fun e W' ⟨he, bel⟩ => ?_
  subst he
  exact ⟨_, rfl, _, _, _, [], _, [], hW', trodAll_mk1 (shut_bool Try.underlying4 _), (trodAll_cons_mk (shut_int Try.underlying3 w0) (trodAll_cons_mk (shut_int Try.underlying3 w1) (trodAll_cons_mk (shut_int Try.underlying3 w2) (trodAll_cons_mk (Below.trod laidOut (by kernel_rfl) (of_decide_eq_true (by kernel_rfl)) k3 bel lt3) (trodAll_cons_mk (Below.trod laidOut (by kernel_rfl) (of_decide_eq_true (by kernel_rfl)) k4 bel lt4) trodAll_mk0))))), rfl, bel.frame _, fun h => by cases h⟩

theorem over : Rows.logStaleRow.holds Try.pinned (OpenSpec.ofChange Rows.logStaleSpec) :=
  OpenClaim.holds_of_wide 6 Try.f6 rfl rfl rfl rfl rfl rfl rfl ⟨rfl, rfl, rfl, rfl, rfl⟩ rfl rfl rfl rfl rfl (by kernel_rfl) Try.func6 (by kernel_rfl)
    (of_decide_eq_true (by kernel_rfl)) (by unfold Func.isWrapper; first | (rw [if_pos (by decide +kernel)]; kernel_rfl) | (rw [if_neg (by decide +kernel)]; exact ⟨rfl, rfl⟩))
    (fun os started H enc _ => lifted os started H enc)

/-! ### the statement -/
theorem proved : Rows.LogStaleSaid := over
end Go.Proofs.Ythmdbfbhcnjghaa.logStale
