/- do: an act on both disks. -/
import Derived.Test.YtgaopkfdbglnmaaDxB
namespace Go.Proofs.Ytgaopkfdbglnmaa.NumK
open Go.RowKit

def doS (s : DS) (x : Ac) (i : Nat) : DS :=
  if x.K % 8 = 3 then s else if x.K % 8 = 4 then (dSync s).2 else if x.K % 8 = 5 then dArm s x.At else if x.K % 8 = 6 then dCrash s x.P else if x.K % 8 = 7 then dStart s else (dWrite s x.At (fillB x.B i)).2
def B4 (w : World) (X : Nat) (x : Ac) (A : Option Addr) (n c : Nat) : Prop :=
  w.cell? ⟨X, 0, none⟩ = some (.int .i64 x.K) ∧ w.cell? ⟨X, 1, none⟩ = some (.int .i64 x.At) ∧ w.cell? ⟨X, 2, none⟩ = some (.int .u8 (x.B.toNat : Int)) ∧ w.cell? ⟨X, 3, none⟩ = some (.slice A n c)
theorem B4.lt {w : World} {X : Nat} {x : Ac} {A : Option Addr} {n c : Nat} (h : B4 w X x A n c) : X < w.heap.size := World.block_lt_of_cell? _ _ h.1
theorem B4.of {w w' : World} {X : Nat} {x : Ac} {A : Option Addr} {n c : Nat} (h : B4 w X x A n c) (e : w'.heap[X]? = w.heap[X]?) : B4 w' X x A n c :=
  ⟨(World.cell?_of_block (w := w) (a := ⟨X, 0, none⟩) e).trans h.1, (World.cell?_of_block (w := w) (a := ⟨X, 1, none⟩) e).trans h.2.1, (World.cell?_of_block (w := w) (a := ⟨X, 2, none⟩) e).trans h.2.2.1, (World.cell?_of_block (w := w) (a := ⟨X, 3, none⟩) e).trans h.2.2.2⟩
theorem B4.grew {w w' : World} {X : Nat} {x : Ac} {A : Option Addr} {n c : Nat} (h : B4 w X x A n c) (g : Grew w w') : B4 w' X x A n c := h.of (g.block X h.lt)
theorem B4.chg {w w' : World} {X : Nat} {x : Ac} {A : Option Addr} {n c : Nat} {N : Nat → Prop} {w0 : World} (h : B4 w X x A n c) (g : Chg (Mine (fun k => N k ∨ k = X) w0) w w') : B4 w' X x A n c := h.of (g.block X h.lt (fun hm => hm.2 (Or.inr rfl)))
theorem b4_new (w : World) (x : Ac) (A : Option Addr) (n c : Nat) (t : TypeId) : B4 (w.alloc (.cells #[.int .i64 x.K, .int .i64 x.At, .int .u8 (x.B.toNat : Int), .slice A n c] t)) w.heap.size x A n c := ⟨by simp, by simp, by simp, by simp⟩
theorem kmod (K : Int) : (IntKind.u64.wrap K).tmod 8 = K % 8 := by
  rw [Int.tmod_eq_emod_of_nonneg (by rw [IntKind.wrap_u64]; omega), IntKind.wrap_u64]; omega
theorem doS_opn (s : DS) (x : Ac) (i : Nat) : (doS s x i).opn.length ≤ s.opn.length + 1 := by
  have hL := (last_keeps s).2
  unfold doS
  split
  · omega
  · split
    · unfold dSync
      split
      · simp
      · split
        · show (dLast s).2.opn.length ≤ _; rw [hL]; omega
        · simp
    · split
      · unfold dArm; split <;> simp
      · split
        · simp [dCrash]
        · split
          · unfold dStart; split <;> simp [dCrash]
          · unfold dWrite
            split
            · simp
            · split <;> simp
def DoPost (N : Nat → Prop) (w0 : World) (d r : Nat) (s : DS) (e : Ending) (w' : World) : Prop := e = .returned (.bool true) ∧ DX N w0 w' d s r s

section
variable {N : Nat → Prop} {w0 w : World} {d r : Nat} {s : DS} {x : Ac} {A : Option Addr} {n c i : Nat}
set_option maxRecDepth 100000 in
set_option maxHeartbeats 1000000 in
theorem do_sync (h : DX N w0 w d s r s) (hs : s.opn.length ≤ 1000) (hk : x.K % 8 = 4) : Calls Try.prog 13 #[.pointer (some ⟨d, 0, none⟩), .pointer (some ⟨r, 0, none⟩), actV x A n c, .int .i64 (i : Int)] w (DoPost N w0 d r (doS s x i)) := by
  have hE : doS s x i = (dSync s).2 := by unfold doS; rw [if_neg (by omega), if_pos hk]
  rw [hE]
  have m0 := kmod x.K
  rw [hk] at m0
  have h1 := Lib.hid (h.beside (.cells #[.int .i64 x.K, .int .i64 x.At, .int .u8 (x.B.toNat : Int), .slice A n c] 34))
  have hb := b4_new w x A n c 34
  obtain ⟨b0, b1, b2, b3⟩ := hb
  have K1 := Lib.hid (dx_syncD (by omega) h1)
  have K2 := Lib.hid (fun w' (h : Hid (DX (fun k => N k ∨ k = w.heap.size) w0 w' d (dSync s).2 r s)) => dx_syncR (by omega) h)
  clear h h1
  show Calls _ _ #[_, _, .agg #[_, _, _, _], _] _ _
  generalize (dSync s).1 = e1 at *
  generalize (dSync s).2 = s2 at *
  go_enter Try.func13, Try.ntmps13
  go_wp2_with (first
    | (go_at_call 21; ((with_reducible refine K1.out.mono ?_); rintro e w2 ⟨rfl, hd, hg⟩; have D2 := Lib.hid hd; clear hg))
    | (go_at_call 26; ((with_reducible refine (K2.out _ D2.out).mono ?_); rintro e w3 ⟨rfl, hd3, hg⟩; have D3 := Lib.hid hd3; clear hg)))
  go_ret
  exact ⟨rfl, D3.out.out.less (fun k hk => Or.inl hk)⟩
set_option maxRecDepth 100000 in
set_option maxHeartbeats 1000000 in
theorem do_arm (h : DX N w0 w d s r s) (hat : x.At ≤ 9223372036854775807) (hk : x.K % 8 = 5) : Calls Try.prog 13 #[.pointer (some ⟨d, 0, none⟩), .pointer (some ⟨r, 0, none⟩), actV x A n c, .int .i64 (i : Int)] w (DoPost N w0 d r (doS s x i)) := by
  have hE : doS s x i = dArm s x.At := by unfold doS; simp [hk]
  rw [hE]
  have m0 := kmod x.K
  rw [hk] at m0
  have h1 := Lib.hid (h.beside (.cells #[.int .i64 x.K, .int .i64 x.At, .int .u8 (x.B.toNat : Int), .slice A n c] 34))
  have hb := b4_new w x A n c 34
  have HB := Lib.hid hb
  obtain ⟨b0, b1, b2, b3⟩ := hb
  have K1 := Lib.hid (dx_armD x.At hat h1)
  have K2 := Lib.hid (fun w' (h : Hid (DX (fun k => N k ∨ k = w.heap.size) w0 w' d (dArm s x.At) r s)) => dx_armR x.At hat h)
  clear h h1
  generalize dArm s x.At = s2 at *
  show Calls _ _ #[_, _, .agg #[_, _, _, _], _] _ _
  go_enter Try.func13, Try.ntmps13
  go_wp2_with (first
    | (go_at_call 25; ((with_reducible refine K1.out.mono ?_); rintro e w2 ⟨rfl, hd, hg⟩; have D2 := Lib.hid hd; have b4 := (HB.out.chg hg).2.1; clear hg))
    | (go_at_call 27; ((with_reducible refine (K2.out _ D2.out).mono ?_); rintro e w3 ⟨rfl, hd3, hg⟩; have D3 := Lib.hid hd3; clear hg)))
  go_ret
  exact ⟨rfl, D3.out.out.less (fun k hk => Or.inl hk)⟩
set_option maxRecDepth 100000 in
set_option maxHeartbeats 1000000 in
theorem do_crash (h : DX N w0 w d s r s) (hs : s.opn.length ≤ 1000) (hp : Ints w0 A n x.P) (hn : n ≤ 9223372036854775807) (hk : x.K % 8 = 6) : Calls Try.prog 13 #[.pointer (some ⟨d, 0, none⟩), .pointer (some ⟨r, 0, none⟩), actV x A n c, .int .i64 (i : Int)] w (DoPost N w0 d r (doS s x i)) := by
  have hE : doS s x i = dCrash s x.P := by unfold doS; simp [hk]
  rw [hE]
  have m0 := kmod x.K
  rw [hk] at m0
  have h1 := Lib.hid (h.beside (.cells #[.int .i64 x.K, .int .i64 x.At, .int .u8 (x.B.toNat : Int), .slice A n c] 34))
  have hb := b4_new w x A n c 34
  have HB := Lib.hid hb
  obtain ⟨b0, b1, b2, b3⟩ := hb
  have K1 := Lib.hid (dx_crashD A n c x.P hp hn (by omega) h1)
  have K2 := Lib.hid (fun w' (h : Hid (DX (fun k => N k ∨ k = w.heap.size) w0 w' d (dCrash s x.P) r s)) => dx_crashR A n c x.P hp hn (by omega) h)
  clear h h1
  generalize dCrash s x.P = s2 at *
  show Calls _ _ #[_, _, .agg #[_, _, _, _], _] _ _
  go_enter Try.func13, Try.ntmps13
  go_wp2_with (first
    | (go_at_call 22; ((with_reducible refine K1.out.mono ?_); rintro e w2 ⟨rfl, hd, hg⟩; have D2 := Lib.hid hd; have b4 := (HB.out.chg hg).2.2.2; clear hg))
    | (go_at_call 28; ((with_reducible refine (K2.out _ D2.out).mono ?_); rintro e w3 ⟨rfl, hd3, hg⟩; have D3 := Lib.hid hd3; clear hg)))
  go_ret
  exact ⟨rfl, D3.out.out.less (fun k hk => Or.inl hk)⟩
set_option maxRecDepth 100000 in
set_option maxHeartbeats 1000000 in
theorem do_start (h : DX N w0 w d s r s) (hs : s.opn.length ≤ 1000) (hk : x.K % 8 = 7) : Calls Try.prog 13 #[.pointer (some ⟨d, 0, none⟩), .pointer (some ⟨r, 0, none⟩), actV x A n c, .int .i64 (i : Int)] w (DoPost N w0 d r (doS s x i)) := by
  have hE : doS s x i = dStart s := by unfold doS; simp [hk]
  rw [hE]
  have m0 := kmod x.K
  rw [hk] at m0
  have h1 := Lib.hid (h.beside (.cells #[.int .i64 x.K, .int .i64 x.At, .int .u8 (x.B.toNat : Int), .slice A n c] 34))
  have hb := b4_new w x A n c 34
  have HB := Lib.hid hb
  obtain ⟨b0, b1, b2, b3⟩ := hb
  have K1 := Lib.hid (dx_startD (by omega) h1)
  have K2 := Lib.hid (fun w' (h : Hid (DX (fun k => N k ∨ k = w.heap.size) w0 w' d (dStart s) r s)) => dx_startR (by omega) h)
  clear h h1
  generalize dStart s = s2 at *
  show Calls _ _ #[_, _, .agg #[_, _, _, _], _] _ _
  go_enter Try.func13, Try.ntmps13
  go_wp2_with (first
    | (go_at_call 23; ((with_reducible refine K1.out.mono ?_); rintro e w2 ⟨rfl, hd, hg⟩; have D2 := Lib.hid hd; clear hg))
    | (go_at_call 29; ((with_reducible refine (K2.out _ D2.out).mono ?_); rintro e w3 ⟨rfl, hd3, hg⟩; have D3 := Lib.hid hd3; clear hg)))
  go_ret
  exact ⟨rfl, D3.out.out.less (fun k hk => Or.inl hk)⟩
set_option maxRecDepth 100000 in
set_option maxHeartbeats 1000000 in
theorem do_read (h : DX N w0 w d s r s) (hs : s.opn.length ≤ 1000) (hk : x.K % 8 = 3) : Calls Try.prog 13 #[.pointer (some ⟨d, 0, none⟩), .pointer (some ⟨r, 0, none⟩), actV x A n c, .int .i64 (i : Int)] w (DoPost N w0 d r (doS s x i)) := by
  have hE : doS s x i = s := by unfold doS; simp [hk]
  rw [hE]
  have m0 := kmod x.K
  rw [hk] at m0
  have h1 := Lib.hid (h.beside (.cells #[.int .i64 x.K, .int .i64 x.At, .int .u8 (x.B.toNat : Int), .slice A n c] 34))
  have hb := b4_new w x A n c 34
  have HB := Lib.hid hb
  obtain ⟨b0, b1, b2, b3⟩ := hb
  have K1 := Lib.hid (fun w' (h : Hid (DX (fun k => N k ∨ k = w.heap.size) w0 w' d s r s)) => dx_readD x.At h)
  have K2 := Lib.hid (fun w' (h : Hid (DX (fun k => N k ∨ k = w.heap.size) w0 w' d s r s)) => dx_readR x.At (by omega) h)
  have hlen := dRead_len h.okD x.At
  obtain ⟨pr, hpr⟩ : ∃ pr, dRead s x.At = pr := ⟨_, rfl⟩
  rw [hpr] at K1 K2 hlen
  clear hpr
  obtain ⟨B, ev⟩ := pr
  have hlen : B.length = 64 := hlen
  have hEq : Hid (∀ w, (Op.equalIn 10000 40 (.agg (bytesV B).toArray) (.agg (bytesV B).toArray)).run Try.prog w = .ok true w) := fun w => by have := equal40 B B hlen hlen w; simpa using this
  have hG := guard40
  have hone := Lib.hid (bytesV_one' (b := B))
  have hl : (bytesV B).length = 64 := by rw [bytesV_len]; exact hlen
  have HV : Hid (readV (B, ev) = .tuple #[.agg (bytesV B).toArray, .int .i64 ev]) := rfl
  rw [HV.out] at K1 K2
  clear HV hlen h
  generalize bytesV B = cs at *
  have hEq2 := hEq.out
  obtain ⟨Z, hZ⟩ : ∃ Z, Z = (bytesV blk0).toArray := ⟨_, rfl⟩
  have hz := fun w => zero40 w
  rw [← hZ] at hz
  have HZ := Lib.hid hZ
  clear hZ
  show Calls _ _ #[_, _, .agg #[_, _, _, _], _] _ _
  go_enter Try.func13, Try.ntmps13
  go_wp2_with (first
    | (go_at_call 17; ((with_reducible refine (K1.out _ h1).mono ?_); rintro e w21 ⟨rfl, hg⟩; have P1 := Lib.hid (put_new w21 Z HZ.out 40 cs hl); have G1 := Lib.hid (grew_trans hg P1.out.2.2.1); have F1 := Lib.hid (h1.out.grows G1.out); have b4 := (HB.out.grew G1.out).2.1; clear hg))
    | (refine wpList_store_mid (by rfl) 40 _ _ (by rfl) w21.heap.size 0 cs.toArray (by rfl) (by rfl) (by simpa [hl] using P1.out.2.1) (size40 (by simpa using hl.symm)) hone.out ?_)
    | (go_at_call 18; ((with_reducible refine (K2.out _ F1).mono ?_); rintro e w22 ⟨rfl, hg⟩; have P2 := Lib.hid (put_new w22 Z HZ.out 40 cs hl); have F2 := Lib.hid (F1.out.grows (grew_trans hg P2.out.2.2.1)); have Q1 := Lib.hid (rangeAt_of P1.out.1 ((grew_trans hg P2.out.2.2.1).block _ P1.out.2.2.2.2)); clear hg))
    | (refine wpList_store_mid (by rfl) 40 _ _ (by rfl) w22.heap.size 0 cs.toArray (by rfl) (by rfl) (by simpa [hl] using P2.out.2.1) (size40 (by simpa using hl.symm)) hone.out ?_)
    | (refine wpList_load_mid (by rfl) 40 _ (by rfl) w21.heap.size 0 (by rfl) cs _ Q1.out Try.underlying40 rfl (size40 hl.symm) ?_)
    | (refine wpList_load_mid (by rfl) 40 _ (by rfl) w22.heap.size 0 (by rfl) cs _ P2.out.1 Try.underlying40 rfl (size40 hl.symm) ?_))
  go_ret
  exact ⟨rfl, F2.out.less (fun k hk => Or.inl hk)⟩
set_option maxRecDepth 100000 in
set_option maxHeartbeats 1000000 in
theorem do_write (h : DX N w0 w d s r s) (hs : s.opn.length ≤ 1000) (hi : i ≤ 300) (hk : x.K % 8 = 0 ∨ x.K % 8 = 1 ∨ x.K % 8 = 2) : Calls Try.prog 13 #[.pointer (some ⟨d, 0, none⟩), .pointer (some ⟨r, 0, none⟩), actV x A n c, .int .i64 (i : Int)] w (DoPost N w0 d r (doS s x i)) := by
  have hE : doS s x i = (dWrite s x.At (fillB x.B i)).2 := by unfold doS; rw [if_neg (by omega), if_neg (by omega), if_neg (by omega), if_neg (by omega), if_neg (by omega)]
  rw [hE]
  obtain ⟨M, hM⟩ : ∃ M, (IntKind.u64.wrap x.K).tmod 8 = M := ⟨_, rfl⟩
  have hM2 : M = 0 ∨ M = 1 ∨ M = 2 := by rw [← hM, kmod]; exact hk
  have q3 : (M == 3) = false := by rcases hM2 with rfl | rfl | rfl <;> rfl
  have q4 : (M == 4) = false := by rcases hM2 with rfl | rfl | rfl <;> rfl
  have q5 : (M == 5) = false := by rcases hM2 with rfl | rfl | rfl <;> rfl
  have q6 : (M == 6) = false := by rcases hM2 with rfl | rfl | rfl <;> rfl
  have q7 : (M == 7) = false := by rcases hM2 with rfl | rfl | rfl <;> rfl
  have h1 := Lib.hid (h.beside (.cells #[.int .i64 x.K, .int .i64 x.At, .int .u8 (x.B.toNat : Int), .slice A n c] 34))
  have hb := b4_new w x A n c 34
  have HB := Lib.hid hb
  obtain ⟨b0, b1, b2, b3⟩ := hb
  have hfl := fillB_len x.B i
  have KD := Lib.hid (fun w' sr (h : Hid (DX (fun k => N k ∨ k = w.heap.size) w0 w' d s r sr)) => dx_writeD x.At (fillB x.B i) hfl (by omega) h)
  have KR := Lib.hid (fun w' sd (h : Hid (DX (fun k => N k ∨ k = w.heap.size) w0 w' d sd r s)) => dx_writeR x.At (fillB x.B i) hfl (by omega) h)
  have KF : Hid (∀ w, Calls Try.prog 30 #[.agg #[.int .i64 x.K, .int .i64 x.At, .int .u8 (x.B.toNat : Int), .slice A n c], .int .i64 (i : Int)] w fun e w' => e = .returned (blkV' (fillB x.B i)) ∧ Grew w w') := fun w => fill_any x A n c i hi w
  clear h hM2 hk
  show Calls _ _ #[_, _, .agg #[_, _, _, _], _] _ _
  generalize (dWrite s x.At (fillB x.B i)).1 = e1 at *
  generalize (dWrite s x.At (fillB x.B i)).2 = s2 at *
  generalize blkV' (fillB x.B i) = X at *
  have HG : Hid (∀ a a' sd sr, Grew a a' → Hid (DX (fun k => N k ∨ k = w.heap.size) w0 a d sd r sr) → Hid (DX (fun k => N k ∨ k = w.heap.size) w0 a' d sd r sr)) := fun a a' sd sr g h => h.out.grows g
  go_enter Try.func13, Try.ntmps13
  go_upto_region 2 with (fail)
  have h2 := HG.out _ (w.alloc (.cells #[.int .i64 x.K, .int .i64 x.At, .int .u8 (x.B.toNat : Int), .slice A n c] 34)).drew _ _ (grew_drew (grew_refl _)) h1
  have HB2 : Hid (B4 (w.alloc (.cells #[.int .i64 x.K, .int .i64 x.At, .int .u8 (x.B.toNat : Int), .slice A n c] 34)).drew w.heap.size x A n c) := HB.out.of rfl
  clear h1 HB
  have HGB : Hid (∀ a a', Grew a a' → Hid (B4 a w.heap.size x A n c) → Hid (B4 a' w.heap.size x A n c)) := fun a a' g h => h.out.grew g
  have HCB : Hid (∀ a a', Chg (Mine (fun k => N k ∨ k = w.heap.size) w0) a a' → Hid (B4 a w.heap.size x A n c) → Hid (B4 a' w.heap.size x A n c)) := fun a a' g h => h.out.chg g
  go_region_held3 (fun w' => w'.cell? ⟨w.heap.size, 0, none⟩ = some (.int .i64 x.K) ∧ w'.cell? ⟨w.heap.size, 1, none⟩ = some (.int .i64 x.At) ∧ w'.cell? ⟨w.heap.size, 2, none⟩ = some (.int .u8 (x.B.toNat : Int)) ∧ w'.cell? ⟨w.heap.size, 3, none⟩ = some (.slice A n c))
    (first
      | exact Hid.out (p := B4 _ w.heap.size x A n c) (by assumption))
    (first
      | (go_at_call 30; ((with_reducible refine (KF.out _).mono ?_); rintro e wf ⟨rfl, hgF⟩; have hx := HG.out _ _ _ _ hgF (by assumption); have hbx := HGB.out _ _ hgF (by assumption)))
      | (go_at_call 19; ((with_reducible refine (KD.out _ _ (by assumption)).mono ?_); rintro e wd ⟨rfl, hx, hgW⟩; have hbx := HCB.out _ _ hgW (by assumption)))
      | (go_at_call 31; ((with_reducible refine (KR.out _ _ (by assumption)).mono ?_); rintro e wq ⟨rfl, hx, hgW⟩; have hbx := HCB.out _ _ hgW (by assumption))))
  all_goals
    go_wp2
    go_ret
    refine ⟨rfl, ?_⟩
    exact DX.less (Hid.out (by assumption)) (fun k hk => Or.inl hk)
theorem do_any (h : DX N w0 w d s r s) (hs : s.opn.length ≤ 1000) (hi : i ≤ 300) (hp : Ints w0 A n x.P) (hn : n ≤ 9223372036854775807) (hat : x.At ≤ 9223372036854775807) : Calls Try.prog 13 #[.pointer (some ⟨d, 0, none⟩), .pointer (some ⟨r, 0, none⟩), actV x A n c, .int .i64 (i : Int)] w (DoPost N w0 d r (doS s x i)) := by
  have hb : x.K % 8 = 0 ∨ x.K % 8 = 1 ∨ x.K % 8 = 2 ∨ x.K % 8 = 3 ∨ x.K % 8 = 4 ∨ x.K % 8 = 5 ∨ x.K % 8 = 6 ∨ x.K % 8 = 7 := by omega
  rcases hb with hk | hk | hk | hk | hk | hk | hk | hk
  · exact do_write h hs hi (Or.inl hk)
  · exact do_write h hs hi (Or.inr (Or.inl hk))
  · exact do_write h hs hi (Or.inr (Or.inr hk))
  · exact do_read h hs hk
  · exact do_sync h hs hk
  · exact do_arm h hat hk
  · exact do_crash h hs hp hn hk
  · exact do_start h hs hk
theorem doS_safe (s : DS) (x : Ac) (i : Nat) : (doS s x i).safe.length = s.safe.length := by
  have hL := (last_keeps s).1
  unfold doS
  split
  · rfl
  · split
    · unfold dSync
      split
      · rfl
      · split
        · show (dLast s).2.safe.length = _; rw [hL]
        · show (applyL s.safe s.opn).length = _; rw [applyL_len]
    · split
      · unfold dArm; split <;> rfl
      · split
        · exact crashL_len _ _ _ _
        · split
          · unfold dStart; split
            · exact crashL_len _ _ _ _
            · rfl
          · unfold dWrite
            split
            · rfl
            · split
              · show (dLast s).2.safe.length = _; rw [hL]
              · rfl
end
end Go.Proofs.Ytgaopkfdbglnmaa.NumK
