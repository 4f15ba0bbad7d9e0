/- DiskArms. -/
import Derived.Test.YtgaopkfdbglnmaaDiskO
import Derived.Deep.CutBlock
import Derived.Test.YtgaopkfdbglnmaaArg06
namespace Go.Proofs.Ytgaopkfdbglnmaa.NumK
open Go.RowKit

structure ArmI (a i : Nat) (s : DS) : Prop where
  len : s.safe.length = 4
  safe : s.safe.getD 3 blk0 = blkOf 9
  opn : ∀ w ∈ s.opn, w.1 < 3
  few : s.opn.length ≤ i
  none : a = 0 → s.off = false ∧ s.armed = 0
  yet : 0 < a → i < a → s.off = false ∧ s.armed = a - i
  gone : 0 < a → a ≤ i → s.off = true ∧ s.armed = 0
def wantI (a i : Nat) : Int := if 0 < a ∧ a ≤ i + 1 then 7 else 0
theorem applyL_three (l : List (Nat × Blk)) (safe : List Blk) (h : ∀ w ∈ l, w.1 < 3) : (applyL safe l).getD 3 blk0 = safe.getD 3 blk0 := applyL_other l 3 safe (fun w hw => by have := h w hw; omega)
theorem dLast_a {s : DS} (h : s.armed = 1) : dLast s = (true, { s with armed := 0, off := true, cut := true }) := by
  unfold dLast; rw [if_neg (by omega), if_pos h]
theorem dLast_m {s : DS} (h : 1 < s.armed) : dLast s = (false, { s with armed := s.armed - 1 }) := by
  unfold dLast; rw [if_neg (by omega), if_neg (by omega)]
theorem dLast_0 {s : DS} (h : s.armed = 0) : dLast s = (false, s) := by unfold dLast; rw [if_pos h]
theorem ArmI.sync {a i : Nat} {s : DS} (h : ArmI a i s) : (dSync s).1 = wantI a i ∧ ArmI a (i + 1) (dSync s).2 := by
  have ha : (applyL s.safe s.opn).getD 3 blk0 = blkOf 9 := (applyL_three s.opn s.safe h.opn).trans h.safe
  have hl : (applyL s.safe s.opn).length = 4 := (applyL_len _ _).trans h.len
  unfold wantI
  by_cases h0 : a = 0
  · obtain ⟨h1, h2⟩ := h.none h0
    rw [if_neg (by omega), dSync_of h1 (by rw [dLast_0 h2]), dLast_0 h2]
    exact ⟨rfl, hl, ha, (fun w hw => by cases hw), Nat.zero_le _, fun _ => ⟨h1, h2⟩, fun _ => by omega, fun _ => by omega⟩
  · by_cases h3 : i < a
    · obtain ⟨h1, h2⟩ := h.yet (by omega) h3
      by_cases h4 : a = i + 1
      · have h5 := dLast_a (s := s) (by omega)
        rw [if_pos (by omega)]
        have : dSync s = (7, (dLast s).2) := by unfold dSync; rw [h1, h5]; rfl
        rw [this, h5]
        exact ⟨rfl, h.len, h.safe, h.opn, by have := h.few; show s.opn.length ≤ _; omega, fun _ => by omega, fun _ => by omega, fun _ _ => ⟨rfl, rfl⟩⟩
      · have h5 := dLast_m (s := s) (by omega)
        rw [if_neg (by omega), dSync_of h1 (by rw [h5]), h5]
        exact ⟨rfl, hl, ha, (fun w hw => by cases hw), Nat.zero_le _, fun _ => by omega, fun _ _ => ⟨h1, by show s.armed - 1 = _; omega⟩, fun _ => by omega⟩
    · obtain ⟨h1, h2⟩ := h.gone (by omega) (by omega)
      rw [if_pos (by omega)]
      have : dSync s = (7, s) := by unfold dSync; rw [h1]; rfl
      rw [this]
      exact ⟨rfl, h.len, h.safe, h.opn, (by have := h.few; show s.opn.length ≤ _; omega), fun _ => by omega, fun _ => by omega, fun _ _ => ⟨h1, h2⟩⟩
theorem ArmI.write {a i : Nat} {s : DS} (h : ArmI a i s) (k : Nat) (hk : k < 3) (b : Blk) : (dWrite s (k : Int) b).1 = wantI a i ∧ ArmI a (i + 1) (dWrite s (k : Int) b).2 := by
  have ho : ∀ w ∈ s.opn ++ [(k, b)], w.1 < 3 := fun w hw => by
    rcases List.mem_append.1 hw with hw | hw
    · exact h.opn w hw
    · rw [List.mem_singleton] at hw; subst hw; exact hk
  have hf : (s.opn ++ [(k, b)]).length ≤ i + 1 := by have := h.few; simp; omega
  unfold wantI
  by_cases h0 : a = 0
  · obtain ⟨h1, h2⟩ := h.none h0
    rw [if_neg (by omega), dWrite_on h1 h2 (by rw [h.len]; omega)]
    exact ⟨rfl, h.len, h.safe, ho, hf, fun _ => ⟨h1, h2⟩, fun _ => by omega, fun _ => by omega⟩
  · by_cases h3 : i < a
    · obtain ⟨h1, h2⟩ := h.yet (by omega) h3
      rw [dWrite_of h1 (by rw [h.len]; omega)]
      by_cases h4 : a = i + 1
      · have h5 := dLast_a (s := wrS s k b) (by show s.armed = 1; omega)
        rw [if_pos (show 0 < a ∧ a ≤ i + 1 by omega), h5]
        exact ⟨rfl, h.len, h.safe, ho, hf, fun _ => by omega, fun _ => by omega, fun _ _ => ⟨rfl, rfl⟩⟩
      · have h5 := dLast_m (s := wrS s k b) (by show 1 < s.armed; omega)
        rw [if_neg (show ¬ (0 < a ∧ a ≤ i + 1) by omega), h5]
        exact ⟨rfl, h.len, h.safe, ho, hf, fun _ => by omega, fun _ _ => ⟨h1, by show s.armed - 1 = _; omega⟩, fun _ => by omega⟩
    · obtain ⟨h1, h2⟩ := h.gone (by omega) (by omega)
      rw [if_pos (by omega)]
      have : dWrite s (k : Int) b = (7, s) := by unfold dWrite; rw [h1]; rfl
      rw [this]
      exact ⟨rfl, h.len, h.safe, h.opn, (by have := h.few; show s.opn.length ≤ _; omega), fun _ => by omega, fun _ => by omega, fun _ _ => ⟨h1, h2⟩⟩
theorem ArmI.off {a i : Nat} {s : DS} (h : ArmI a i s) : s.off = decide (0 < a ∧ a ≤ i) := by
  by_cases h0 : a = 0
  · rw [(h.none h0).1, decide_eq_false (by omega)]
  · by_cases h3 : i < a
    · rw [(h.yet (by omega) h3).1, decide_eq_false (by omega)]
    · rw [(h.gone (by omega) (by omega)).1, decide_eq_true (by omega)]
theorem ArmI.start {a i : Nat} {s : DS} (h : ArmI a i s) (hok : DOK s) : dRead (dStart s) 3 = (blkOf 9, 0) ∧ (dStart s).off = false := by
  cases ho : s.off with
  | false =>
    rw [dStart_on hok ho]
    exact ⟨by rw [show (3 : Int) = ((3 : Nat) : Int) from rfl, dRead_of ho (by rw [h.len]; omega)]; exact congrArg (·, (0 : Int)) ((applyL_three s.opn s.safe h.opn).trans h.safe), ho⟩
  | true =>
    rw [dStart_off hok ho]
    have hc := crashL_none 0 s.safe s.opn (fun w hw => (hok.all.2 w hw).1)
    refine ⟨?_, rfl⟩
    rw [show (3 : Int) = ((3 : Nat) : Int) from rfl, dRead_of rfl (by show 3 < (crashL [] 0 s.safe s.opn).length; rw [crashL_len, h.len]; omega)]
    refine congrArg (·, (0 : Int)) ?_
    show (applyL (crashL [] 0 s.safe s.opn) []).getD 3 blk0 = _
    rw [hc]
    exact h.safe
def ar0 : DS := (dSync (dWrite (dNew 4) 3 (blkOf 9)).2).2
theorem ar0_eq : dWrite (dNew 4) 3 (blkOf 9) = (0, wrS (dNew 4) 3 (blkOf 9)) ∧ dSync (wrS (dNew 4) 3 (blkOf 9)) = (0, ar0) ∧ ar0.opn = [] :=
  ⟨by rw [show (3 : Int) = ((3 : Nat) : Int) from rfl, dWrite_on rfl rfl (by decide)], by rw [ar0, show (3 : Int) = ((3 : Nat) : Int) from rfl, dWrite_on rfl rfl (by decide), dSync_on rfl rfl], rfl⟩
theorem ar0_arm (n : Int) : ArmI n.toNat 0 (dArm ar0 n) ∧ (dArm ar0 n).opn = [] := by
  have : dArm ar0 n = { ar0 with armed := n.toNat } := rfl
  rw [this]
  exact ⟨⟨rfl, rfl, (fun w hw => by cases hw), Nat.le_refl _, fun h => ⟨rfl, h⟩, fun _ _ => ⟨rfl, rfl⟩, fun _ => by omega⟩, rfl⟩

set_option maxRecDepth 100000 in
set_option maxHeartbeats 4000000 in
theorem diskArms_walk (n : Int) (hn1 : -9223372036854775808 ≤ n) (hn2 : n ≤ 9223372036854775807) (A1 : Option Addr) (n1 c1 : Nat) (ys : List Bool) (W : World) (i2 : Bols W A1 n1 ys) :
    Calls Try.prog 6 #[.int .i64 n, .slice A1 n1 c1] W fun e w' => e = .returned (.bool true) ∧ Grew W w' := by
  by_cases hbig : 300 < n1
  · have d1 : (300 : Int) < (n1 : Int) := by omega
    clear hbig
    go_enter Try.func6, Try.ntmps6
    go_wp2
    go_ret
    exact ⟨rfl, grew_refl _⟩
  have d1 : ¬ (300 : Int) < (n1 : Int) := by omega
  have CN1 : Hid (Calls Try.prog 10 #[.int .i64 4] W (NewPost 4 W)) := new_any 4 W (by omega) (by omega)
  have HO := Lib.hid i2
  have CB := Lib.hid (fun b w => block_any b w)
  have CB9 : Hid (∀ w, Calls Try.prog 20 #[.int .u8 9] w fun e w' => e = .returned (blkV' (blkOf 9)) ∧ Grew w w') := fun w => block_any 9 w
  have CW := Lib.hid (fun w => wakes06_any w)
  obtain ⟨r1, r2, r3⟩ := ar0_eq
  obtain ⟨r4, r5⟩ := ar0_arm n
  have K1 := Lib.hid (fun w' q (h : DI (fun _ => False) W w' q (dNew 4)) => h.write 3 (blkOf 9) (by simp [blkOf]) (by decide))
  rw [r1] at K1
  have K2 := Lib.hid (fun w' q (h : DI (fun _ => False) W w' q (wrS (dNew 4) 3 (blkOf 9))) => h.sync (by decide))
  rw [r2] at K2
  have K3 := Lib.hid (fun w' q (h : DI (fun _ => False) W w' q ar0) => h.arm n hn2)
  have R4 := Lib.hid r4
  clear i2 r1 r2 r3 r4 r5
  generalize dArm ar0 n = s0 at *
  generalize ar0 = t0 at *
  generalize wrS (dNew 4) 3 (blkOf 9) = t1 at *
  obtain ⟨X9, hX9⟩ : ∃ X, blkV' (blkOf 9) = X := ⟨_, rfl⟩
  have HX9 := Lib.hid hX9
  rw [hX9] at CB9 K1
  clear hX9
  go_enter Try.func6, Try.ntmps6
  go_wp2_with (first
    | (go_at_call 10; ((with_reducible refine CN1.out.mono ?_); rintro e w1 hp; obtain ⟨q, rfl, hd, hg⟩ := di_new (N := fun _ => False) (grew_refl W) (fun _ h => h.elim) hp; have D0 := Lib.hid hd; clear hd hg hp))
    | (go_at_call 20; ((with_reducible refine (CB9.out _).mono ?_); rintro e w2 ⟨rfl, hg⟩; have D1 := Lib.hid (D0.out.grows hg); clear hg))
    | (go_at_call 19; ((with_reducible refine (K1.out _ _ D1.out).mono ?_); rintro e w3 ⟨rfl, hd, hg⟩; have D2 := Lib.hid hd; clear hd hg))
    | (go_at_call 21; ((with_reducible refine (K2.out _ _ D2.out).mono ?_); rintro e w4 ⟨rfl, hd, hg⟩; have D3 := Lib.hid hd; clear hd hg))
    | (go_at_call 25; ((with_reducible refine (K3.out _ _ D3.out).mono ?_); rintro e w5 ⟨rfl, hd, hg⟩; have D4 := Lib.hid hd; clear hd hg)))
  clear D0 D1 D2 D3 K1 K2 K3 CB9 CN1
  obtain ⟨a, ha⟩ : ∃ a, a = n.toNat := ⟨_, rfl⟩
  rw [← ha] at R4
  have HA := Lib.hid ha
  clear ha
  go_loopw [7] (fun v7 wr => ∃ (k : Nat) (s : DS), v7 = .int .i64 k ∧ k ≤ n1 ∧ Hid (DI (fun _ => False) W wr q s) ∧ Hid (ArmI a k s)) (fun v7 _ => n1 - (intOf v7).toNat)
  case atStart => exact ⟨0, s0, rfl, Nat.zero_le _, D4.out, R4.out⟩
  case round =>
    obtain ⟨k, s, rfl, hk, HD, HI⟩ := hrel
    clear D4 R4
    by_cases hlt : k < n1
    · have j1 : (k : Int) < (n1 : Int) := by omega
      obtain ⟨b, o, rfl, hb, hc⟩ := HO.out.2 (by omega)
      have HCk : Hid (∀ w', Grew W w' → w'.cell? ⟨b, o + k, none⟩ = some (.bool (ys.getD k false))) := fun w' g => (grew_cell g (p := ⟨b, o + k, none⟩) hb).trans (hc k hlt)
      have a1 := HCk.out _ HD.out.grew
      obtain ⟨q1, q2⟩ := HI.out.sync
      obtain ⟨p1, p2⟩ := HI.out.write (k % 3) (by omega) (blkOf (UInt8.ofNat (k % 256)))
      have hfew := HI.out.few
      have S1 := Lib.hid (HD.out.sync (by omega))
      have S2 := Lib.hid (fun w' (h : DI (fun _ => False) W w' q s) => h.write ((k % 3 : Nat) : Int) (blkOf (UInt8.ofNat (k % 256))) (by simp [blkOf]) (by omega))
      have CBk := Lib.hid (fun w => CB.out (UInt8.ofNat (k % 256)) w)
      rw [q1] at S1
      rw [p1] at S2
      have Q2 := Lib.hid q2
      have P2 := Lib.hid p2
      have m3 : (k : Int).tmod 3 = (k : Int) % 3 := Int.tmod_eq_emod_of_nonneg (by omega)
      have m4 : ((k % 3 : Nat) : Int) = (k : Int) % 3 := rfl
      have m5 : IntKind.u8.wrap (k : Int) = ((k % 256 : Nat) : Int) := by rw [IntKind.wrap_u8]; rfl
      have m6 : ((UInt8.ofNat (k % 256)).toNat : Int) = (k : Int) % 256 := by
        rw [UInt8.toNat_ofNat']; omega
      rw [m6] at CBk
      rw [m4] at S2
      clear hc hb q1 q2 p1 p2 hfew m4 m5 m6
      generalize ys.getD k false = y at *
      generalize hX : blkV' (blkOf (UInt8.ofNat (k % 256))) = X at *
      clear hX
      have m5 : IntKind.u8.wrap (k : Int) = (k : Int) % 256 := by rw [IntKind.wrap_u8]
      go_upto_region 11 with fail
      go_cut [46] from 39 to 74 (fun s46 wx => s46 = .bool (decide (0 < a ∧ a ≤ k + 1)) ∧ wr = wx)
      case first =>
        by_cases h0 : 0 < n
        · have h1 : IntKind.i64.wrap (n - 1) = n - 1 := by rw [IntKind.wrap_i64]; omega
          by_cases h2 : n - 1 ≤ (k : Int)
          · have hd : decide (0 < a ∧ a ≤ k + 1) = true := decide_eq_true (by rw [HA.out]; omega)
            go_wp2
            go_meet
            case rel => exact ⟨by rw [hd], rfl⟩
          · have hd : decide (0 < a ∧ a ≤ k + 1) = false := decide_eq_false (by rw [HA.out]; omega)
            go_wp2
            go_meet
            case rel => exact ⟨by rw [hd], rfl⟩
        · have hd : decide (0 < a ∧ a ≤ k + 1) = false := decide_eq_false (by rw [HA.out]; omega)
          go_wp2
          go_meet
          case rel => exact ⟨by rw [hd], rfl⟩
      case rest =>
        obtain ⟨rfl, rfl⟩ := hcut
        go_upto_if 46 with fail
        go_cut [8] from 33 to 74 (fun s8 wx => s8 = .int .i64 (wantI a k) ∧ wr = wx)
        case first =>
          cases hd : decide (0 < a ∧ a ≤ k + 1) with
          | true =>
            have hw : wantI a k = 7 := by unfold wantI; rw [if_pos (of_decide_eq_true hd)]
            go_wp2
            go_meet
            case rel => exact ⟨by rw [hw], rfl⟩
          | false =>
            have hw : wantI a k = 0 := by unfold wantI; rw [if_neg (of_decide_eq_false hd)]
            go_wp2
            go_meet
            case rel => exact ⟨by rw [hw], rfl⟩
        case rest =>
          obtain ⟨rfl, rfl⟩ := hcut
          generalize wantI a k = want at *
          cases y with
          | true =>
            go_wp2_with (go_at_call 21; ((with_reducible refine S1.out.mono ?_); rintro e w6 ⟨rfl, hd, hg⟩; have D6 := Lib.hid hd; have a6 := HCk.out _ hd.grew; clear hd hg))
            go_roundw
            case rel => exact ⟨k + 1, (dSync s).2, by go_num, by omega, D6, Q2⟩
            case measure => simp only [intOf]; omega
          | false =>
            go_wp2_with (first
              | (go_at_call 20; ((with_reducible refine (CBk.out wr).mono ?_); rintro e wb ⟨rfl, hg⟩; have E0 := Lib.hid (HD.out.grows hg); clear hg))
              | (go_at_call 19; ((with_reducible refine (S2.out _ E0.out).mono ?_); rintro e w6 ⟨rfl, hd, hg⟩; have D6 := Lib.hid hd; clear hd hg)))
            go_roundw
            case rel => exact ⟨k + 1, _, by go_num, by omega, D6, P2⟩
            case measure => simp only [intOf]; omega
    · obtain rfl : n1 = k := by omega
      have hoff := HI.out.off
      obtain ⟨t1, t2⟩ := HI.out.start HD.out.ok
      have hfew := HI.out.few
      have O1 := Lib.hid (HD.out.off)
      have S1 := Lib.hid (HD.out.start (by omega))
      have R1 := Lib.hid (fun w' (h : DI (fun _ => False) W w' q (dStart s)) => h.read 3)
      have O2 := Lib.hid (fun w' (h : DI (fun _ => False) W w' q (dStart s)) => h.off)
      rw [t1] at R1
      rw [t2] at O2
      rw [hoff] at O1
      have CB9 : Hid (∀ w, Calls Try.prog 20 #[.int .u8 9] w fun e w' => e = .returned (.agg (bytesV (blkOf 9)).toArray) ∧ Grew w w') := fun w => block_any 9 w
      have hEq := fun w => equal40 (blkOf 9) (blkOf 9) rfl rfl w
      simp only [decide_true] at hEq
      have hG := guard40
      have hone := Lib.hid (bytesV_one' (b := blkOf 9))
      have hl : (bytesV (blkOf 9)).length = 64 := by rw [bytesV_of]; simp
      have HV : Hid (readV (blkOf 9, 0) = .tuple #[.agg (bytesV (blkOf 9)).toArray, .int .i64 0]) := rfl
      rw [HV.out] at R1
      clear HV t1 t2 hoff hfew CB HO
      generalize bytesV (blkOf 9) = cs at *
      obtain ⟨ZZ, hZZ⟩ : ∃ ZZ, ZZ = (bytesV blk0).toArray := ⟨_, rfl⟩
      have hz := fun w => zero40 w
      rw [← hZZ] at hz
      have HZZ := Lib.hid hZZ
      clear hZZ
      go_upto_region 15 with fail
      go_cut [85] from 75 to 107 (fun s85 wx => s85 = .bool false ∧ wr = wx)
      case first =>
        by_cases h0 : 0 < n
        · by_cases h2 : n ≤ (n1 : Int)
          · have hd : decide (0 < a ∧ a ≤ n1) = true := decide_eq_true (by rw [HA.out]; omega)
            rw [hd] at O1
            go_wp2_with (go_at_call 14; ((with_reducible refine O1.out.mono ?_); rintro e w8 ⟨rfl, rfl⟩))
            go_meet
            case rel => exact ⟨rfl, rfl⟩
          · have hd : decide (0 < a ∧ a ≤ n1) = false := decide_eq_false (by rw [HA.out]; omega)
            rw [hd] at O1
            go_wp2_with (go_at_call 14; ((with_reducible refine O1.out.mono ?_); rintro e w8 ⟨rfl, rfl⟩))
            go_meet
            case rel => exact ⟨by rw [decide_eq_false (by omega)], rfl⟩
        · have hd : decide (0 < a ∧ a ≤ n1) = false := decide_eq_false (by rw [HA.out]; omega)
          rw [hd] at O1
          go_wp2_with (go_at_call 14; ((with_reducible refine O1.out.mono ?_); rintro e w8 ⟨rfl, rfl⟩))
          go_meet
          case rel => exact ⟨rfl, rfl⟩
      case rest =>
        obtain ⟨rfl, rfl⟩ := hcut
        clear O1
        go_upto_region 19 with (first
          | (go_at_call 23; ((with_reducible refine S1.out.mono ?_); rintro e w7 ⟨rfl, hd, hg⟩; have D7 := Lib.hid hd; clear hd hg))
          | (go_at_call 17; ((with_reducible refine (R1.out _ D7.out).mono ?_); rintro e w8 ⟨rfl, hg⟩; have P1 := Lib.hid (put_new w8 ZZ HZZ.out 40 cs hl); have D8 := Lib.hid (D7.out.grows (grew_trans hg P1.out.2.2.1)); clear hg))
          | (refine wpList_store_mid (by rfl) 40 _ _ (by rfl) w8.heap.size 0 cs.toArray (by rfl) (by rfl) (by simpa [hl] using P1.out.2.1) (size40 (by simpa using hl.symm)) hone.out ?_))
        have hrg := P1.out.1
        have hlt8 := P1.out.2.2.2.2
        generalize (w8.alloc (.cells ZZ 40)).setCells w8.heap.size 0 cs = w9 at *
        have hu := Try.underlying40
        have hi : (Try.prog.info? 40).map (·.size) = some cs.length := size40 hl.symm
        have gd : Grew w9 w9.drew := grew_drew (grew_refl _)
        go_region_held3 (fun w' => w'.rangeAt w8.heap.size 0 cs)
          (first
            | exact (World.rangeAt_drew _ _ _ _).2 hrg
            | exact rangeAt_of hrg ((grew_trans gd (grew_trans hg2 hg3)).block _ hlt8)
            | exact rangeAt_of hrg ((grew_trans gd hg2).block _ hlt8))
          (first
            | (go_at_call 20; ((with_reducible refine (CB9.out _).mono ?_); rintro e w10 ⟨rfl, hg2⟩))
            | (go_at_call 14; ((with_reducible refine (O2.out _ (D8.out.grows (grew_trans gd hg2))).mono ?_); rintro e w11 ⟨rfl, rfl⟩))
            | (go_at_call 11; ((with_reducible refine (CW.out _).mono ?_); rintro e w31 ⟨rfl, hg3⟩)))
        have GE := Lib.hid (grew_trans D8.out.grew (grew_trans gd (grew_trans hg2 hg3)))
        clear hrg hlt8 hu hi gd hg2 hg3
        go_wp2
        go_ret
        exact ⟨rfl, GE.out⟩
theorem diskArms_row (n : Int) (hn1 : -9223372036854775808 ≤ n) (hn2 : n ≤ 9223372036854775807) (A1 : Option Addr) (n1 c1 : Nat) (ys : List Bool) (W : World) (i2 : Row spBool W A1 n1 ys) :
    Calls Try.prog 6 #[.int .i64 n, .slice A1 n1 c1] W fun e w' => e = .returned (.bool true) ∧ Grew W w' :=
  diskArms_walk n hn1 hn2 A1 n1 c1 ys W (bols_of_spec i2)
end Go.Proofs.Ytgaopkfdbglnmaa.NumK
