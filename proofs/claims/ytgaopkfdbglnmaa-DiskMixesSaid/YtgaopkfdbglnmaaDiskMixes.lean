/- DiskMixes. -/
import Derived.Test.YtgaopkfdbglnmaaDiskO
import Derived.Deep.CutBlock
import Derived.Test.YtgaopkfdbglnmaaArg06
namespace Go.Proofs.Ytgaopkfdbglnmaa.NumK
open Go.RowKit

/-- A block of the law's own, new behind w. -/
theorem DI.app {N : Nat → Prop} {w0 w w' : World} {q : Nat} {s : DS} (h : DI N w0 w q s) (g : Chg (fun k => N k ∧ w0.heap.size ≤ k) w w') (B : Nat) (hB : N B ∨ w.heap.size ≤ B) (hlt : B < w'.heap.size) : DI (fun k => N k ∨ k = B) w0 w' q s := by
  obtain ⟨F, hd, hF⟩ := h.ex
  have h' := h.keep g
  refine ⟨⟨F, hd.chg g (fun k hk hg => (hF k hk).2 hg.1), fun k hk => ⟨(hF k hk).1, fun hn => ?_⟩⟩, h'.grew, fun k hk => ?_⟩
  · rcases hn with hn | rfl
    · exact (hF k hk).2 hn
    · rcases hB with hB | hB
      · exact (hF k hk).2 hB
      · have := hd.fit k hk; omega
  · rcases hk with hk | rfl
    · exact h'.nlt k hk
    · exact hlt

def mxW (l : List UInt8) : List (Nat × Blk) := l.map fun b => (0, blkOf b)
def mxS (s0 : UInt8) (l : List UInt8) : DS := ⟨[blkOf s0], mxW l, false, 0, false⟩
theorem mx_new (s0 : UInt8) : dWrite (dNew 1) 0 (blkOf s0) = (0, wrS (dNew 1) 0 (blkOf s0)) ∧ dSync (wrS (dNew 1) 0 (blkOf s0)) = (0, mxS s0 []) ∧ (dNew 1).opn.length = 0 ∧ (wrS (dNew 1) 0 (blkOf s0)).opn.length = 1 := by
  refine ⟨dWrite_on (s := dNew 1) (k := 0) (b := blkOf s0) rfl rfl (by decide), ?_, rfl, rfl⟩
  rw [dSync_on rfl rfl]
  rfl
theorem mx_snoc (s0 : UInt8) (l : List UInt8) (k : Nat) (hk : k < l.length) : dWrite (mxS s0 (l.take k)) 0 (blkOf (l.getD k 0)) = (0, mxS s0 (l.take (k + 1))) := by
  rw [show (0 : Int) = ((0 : Nat) : Int) from rfl, dWrite_on rfl rfl (by show 0 < 1; omega)]
  refine congrArg (Prod.mk 0) ?_
  unfold wrS mxS mxW
  rw [List.take_succ_eq_append_getElem hk, List.map_append]
  simp [List.getD, hk]
/-- Each byte of what is left is one that was written, or the synced one. -/
theorem mx_mem (zs : List Int) : ∀ (l : List UInt8) (k : Nat) (b0 : Blk) (P : UInt8 → Prop), b0.length = 64 → (∀ x ∈ b0, P x) → (∀ x ∈ l, P x) → ∃ B, crashL zs k [b0] (mxW l) = [B] ∧ B.length = 64 ∧ ∀ x ∈ B, P x
  | [], k, b0, P, hb, h0, _ => ⟨b0, rfl, hb, h0⟩
  | y :: r, k, b0, P, hb, h0, hl => by
    have := mx_mem zs r (k + 1) (mixB b0 (blkOf y) (stay zs k)) P (mixB_len hb (by simp [blkOf])) (fun x hx => ?_) (fun x hx => hl x (by simp [hx]))
    · exact this
    · rcases mixB_mem hx with h | h
      · exact h0 x h
      · rw [List.eq_of_mem_replicate h]; exact hl y (by simp)
def mxL (s0 : UInt8) (l : List UInt8) : UInt8 := (s0 :: l).getLast (by simp)
theorem mx_all : ∀ (l : List UInt8) (k n : Nat) (s0 : UInt8), k + l.length ≤ n → crashL (List.replicate n 65) k [blkOf s0] (mxW l) = [blkOf (mxL s0 l)]
  | [], k, n, s0, _ => rfl
  | y :: r, k, n, s0, h => by
    have hk : k < n := by simp at h; omega
    have hs : stay (List.replicate n 65) k = 64 := stay_all _ _ (by simp [List.getD, hk])
    have h1 : crashL (List.replicate n 65) k [blkOf s0] (mxW (y :: r)) = crashL (List.replicate n 65) (k + 1) [mixB (blkOf s0) (blkOf y) (stay (List.replicate n 65) k)] (mxW r) := rfl
    rw [h1, hs, mixB_all (by simp [blkOf]) (by simp [blkOf]), mx_all r (k + 1) n y (by simp at h; omega)]
    simp [mxL]
/-- What is read behind the crash and the start. -/
theorem mx_read (s0 : UInt8) (l : List UInt8) (zs : List Int) : ∃ B, dRead (dStart (dCrash (mxS s0 l) zs)) 0 = (B, 0) ∧ B.length = 64 ∧ (∀ x ∈ B, x = s0 ∨ x ∈ l) ∧ (zs = [] → B = blkOf s0) ∧ (zs = List.replicate l.length 65 → B = blkOf (mxL s0 l)) := by
  obtain ⟨B, h1, h2, h3⟩ := mx_mem zs l 0 (blkOf s0) (fun x => x = s0 ∨ x ∈ l) (by simp [blkOf]) (fun x hx => Or.inl (List.eq_of_mem_replicate hx)) (fun x hx => Or.inr hx)
  refine ⟨B, ?_, h2, h3, fun hz => ?_, fun hz => ?_⟩
  · have hs : (dStart (dCrash (mxS s0 l) zs)).safe = [B] := h1
    rw [show (0 : Int) = ((0 : Nat) : Int) from rfl, dRead_of rfl (by rw [hs]; simp)]
    show ((applyL (dStart (dCrash (mxS s0 l) zs)).safe []).getD 0 blk0, (0 : Int)) = _
    rw [hs]
    rfl
  · subst hz
    have := crashL_none 0 (mxS s0 l).safe (mxS s0 l).opn (fun w hw => by obtain ⟨x, _, rfl⟩ := List.mem_map.1 hw; show 0 < 1; omega)
    have h4 : [B] = [blkOf s0] := h1.symm.trans this
    simpa using h4
  · subst hz
    have h4 := h1.symm.trans (mx_all l 0 l.length s0 (by omega))
    simpa using h4
theorem mxL_last (s0 : UInt8) (l : List UInt8) (h : 0 < l.length) : mxL s0 l = l.getD (l.length - 1) 0 := by
  unfold mxL
  rw [List.getLast_eq_getElem]
  cases l with
  | nil => simp at h
  | cons y r => simp [List.getD]
theorem mxL_none (s0 : UInt8) : mxL s0 [] = s0 := rfl

/-! ### in -/
theorem in_any (x : UInt8) (A : Option Addr) (n c : Nat) (l : List UInt8) (w : World) (h : Bys w A n l) (hn : n ≤ 300) : Calls Try.prog 24 #[.int .u8 (x.toNat : Int), .slice A n c] w fun e w' => e = .returned (.bool (decide (x ∈ l))) ∧ w = w' := by
  have HB := Lib.hid h
  have HL := Lib.hid h.1
  clear h
  go_enter Try.func24, Try.ntmps24
  go_wp2
  go_loop [5] (fun v5 => ∃ k : Nat, v5 = .int .i64 k ∧ k ≤ n ∧ Hid (∀ j, j < k → l.getD j 0 ≠ x)) (fun v5 => n - (intOf v5).toNat)
  case atStart => exact ⟨0, rfl, Nat.zero_le _, fun j hj => by omega⟩
  case round =>
    obtain ⟨k, rfl, hk, HN⟩ := hrel
    by_cases hlt : k < n
    · obtain ⟨b, o, rfl, hb, hc⟩ := HB.out.2 (by omega)
      have a1 := hc k hlt
      have j1 : (k : Int) < (n : Int) := by omega
      clear hc
      by_cases e : l.getD k 0 = x
      · have hd : decide (x ∈ l) = true := decide_eq_true (by
          have : k < l.length := by rw [HL.out]; exact hlt
          rw [← e]
          simp only [List.getD, List.getElem?_eq_getElem this, Option.getD_some]
          exact List.getElem_mem this)
        have HD := Lib.hid hd
        rw [e] at a1
        clear hd e
        go_wp2
        go_ret
        exact ⟨ret_b HD.out.symm, rfl⟩
      · have HN2 : Hid (∀ j, j < k + 1 → l.getD j 0 ≠ x) := fun j hj => by
          by_cases h : j = k
          · subst h; exact e
          · exact HN.out j (by omega)
        have hu : ((l.getD k 0).toNat : Int) ≠ (x.toNat : Int) := fun h => e (UInt8.toNat_inj.1 (by omega))
        generalize (l.getD k 0).toNat = u at *
        generalize x.toNat = v at *
        have d1 : ((u : Int) == (v : Int)) = false := by simpa using hu
        clear e
        go_wp2
        go_round
        case rel => exact ⟨k + 1, by go_num, by omega, HN2⟩
        case measure => simp only [intOf]; omega
    · obtain rfl : n = k := by omega
      have hd : decide (x ∈ l) = false := decide_eq_false (fun hm => by
        obtain ⟨j, hj, he⟩ := List.getElem_of_mem hm
        refine HN.out j (by rw [← HL.out]; exact hj) ?_
        rw [← he]
        simp [List.getD, hj])
      have HD := Lib.hid hd
      clear hd
      go_wp2
      go_ret
      exact ⟨ret_b HD.out.symm, rfl⟩

theorem ownB_keepG {w w' : World} {base : Nat} {e : TypeId} {v : Value} {n : Nat} {xs : List Value} (h : w.ownsRow base e 1 v n xs) (g : Grew w w') : w'.ownsRow base e 1 v n xs := ownsRow_of h (fun k hk => g.block k (h.lt k hk).2)
theorem ints_own {w : World} {base : Nat} {e : TypeId} {v : Value} {n : Nat} {zs : List Int} (h : w.ownsRow base e 1 v n (zs.map (Value.int .i64))) : ∃ A c, v = .slice A n c ∧ Ints w A n zs ∧ (A = none → c = 0) := ints_of_own h

set_option maxRecDepth 100000 in
set_option maxHeartbeats 4000000 in
theorem diskMixes_walk (s0 : UInt8) (A1 A2 : Option Addr) (n1 n2 c1 c2 : Nat) (l : List UInt8) (z2 : List Int) (W : World) (b1 : Bys W A1 n1 l) (i2 : Ints W A2 n2 z2) :
    Calls Try.prog 5 #[.int .u8 (s0.toNat : Int), .slice A1 n1 c1, .slice A2 n2 c2] W fun e w' => e = .returned (.bool true) ∧ Grew W w' := by
  by_cases hbig1 : 300 < n1
  · have d1 : (300 : Int) < (n1 : Int) := by omega
    clear hbig1
    go_enter Try.func5, Try.ntmps5
    go_wp2
    go_ret
    exact ⟨rfl, grew_refl _⟩
  have d1 : ¬ (300 : Int) < (n1 : Int) := by omega
  by_cases hbig2 : 300 < n2
  · have d2 : (300 : Int) < (n2 : Int) := by omega
    clear hbig2 hbig1
    go_enter Try.func5, Try.ntmps5
    go_wp2
    go_ret
    exact ⟨rfl, grew_refl _⟩
  have d2 : ¬ (300 : Int) < (n2 : Int) := by omega
  have e1 : n1 ≤ 300 := by omega
  have e2 : n2 ≤ 300 := by omega
  clear hbig1 hbig2
  have CN1 : Hid (∀ w, Calls Try.prog 10 #[.int .i64 1] w (NewPost 1 w)) := fun w => new_any 1 w (by omega) (by omega)
  have HB := Lib.hid b1
  have HL := Lib.hid b1.1
  have HI := Lib.hid i2
  have CB := Lib.hid (fun b w => block_any b w)
  have CB0 := Lib.hid (fun w => block_any s0 w)
  have CW := Lib.hid (fun w => wakes06_any w)
  have CI := Lib.hid (fun x w' (g : Grew W w') => in_any x A1 n1 c1 l w' (b1.keep g) e1)
  clear b1 i2
  obtain ⟨m1, m2, m3, m4⟩ := mx_new s0
  have K1 := Lib.hid (fun w' q (h : DI (fun _ => False) W w' q (dNew 1)) => h.write 0 (blkOf s0) (by simp [blkOf]) (by omega))
  rw [m1] at K1
  have K2 := Lib.hid (fun w' q (h : DI (fun _ => False) W w' q (wrS (dNew 1) 0 (blkOf s0))) => h.sync (by omega))
  rw [m2] at K2
  clear m1 m2 m3 m4
  generalize wrS (dNew 1) 0 (blkOf s0) = t1 at *
  obtain ⟨X0, hX0⟩ : ∃ X, blkV' (blkOf s0) = X := ⟨_, rfl⟩
  rw [hX0] at CB0 K1
  clear hX0
  go_enter Try.func5, Try.ntmps5
  go_wp2
  go_loopw [7] (fun v7 wr => ∃ k : Nat, v7 = .int .i64 k ∧ k ≤ 3 ∧ Hid (Grew W wr)) (fun v7 _ => 3 - (intOf v7).toNat)
  case atStart => exact ⟨0, rfl, Nat.zero_le _, grew_refl _⟩
  case round =>
    obtain ⟨k, rfl, hk, HG⟩ := hrel
    by_cases hlt : k < 3
    · have j1 : (k : Int) < 3 := by omega
      obtain ⟨wb, rfl⟩ : ∃ wb, wb = wr := ⟨_, rfl⟩
      go_wp2_with (first
        | (go_at_call 10; ((with_reducible refine (CN1.out wb).mono ?_); rintro e w1 hp; obtain ⟨q, rfl, hd, hg⟩ := di_new (N := fun _ => False) HG.out (fun _ h => h.elim) hp; have D0 := Lib.hid hd; clear hd hg hp))
        | (go_at_call 20; ((with_reducible refine (CB0.out w1).mono ?_); rintro e w2 ⟨rfl, hg⟩; have D1 := Lib.hid (D0.out.grows hg); clear hg))
        | (go_at_call 19; ((with_reducible refine (K1.out _ _ D1.out).mono ?_); rintro e w3 ⟨rfl, hd, hg⟩; have D2 := Lib.hid hd; clear hd hg))
        | (go_at_call 21; ((with_reducible refine (K2.out _ _ D2.out).mono ?_); rintro e w4 ⟨rfl, hd, hg⟩; have D3 := Lib.hid hd; clear hd hg)))
      clear D0 D1 D2
      obtain ⟨ii, hii, hzi0, hzi1, hzi2⟩ := info_parts info_i64
      go_loopw [10, 11] (fun v10 v11 wr => ∃ (i : Nat) (N : Nat → Prop), v11 = .int .i64 i ∧ i ≤ n1 ∧ Hid (DI N W wr q (mxS s0 (l.take i))) ∧ Hid (wr.ownsRow 0 3 1 v10 i ((List.replicate i (65 : Int)).map (Value.int .i64))) ∧ Hid (∀ b, v10.ownBlock = some b → N b ∧ W.heap.size ≤ b)) (fun _ v11 _ => n1 - (intOf v11).toNat)
      case atStart => exact ⟨0, fun _ => False, rfl, Nat.zero_le _, D3.out, World.ownsRow_nil _ _ _ _, (fun b h => by cases h)⟩
      case round =>
        obtain ⟨i, N, rfl, hi, HD, HW, HN⟩ := hrel
        clear D3 CN1 K1 K2 CB0
        by_cases hli : i < n1
        · have j2 : (i : Int) < (n1 : Int) := by omega
          obtain ⟨b, o, rfl, hb, hc⟩ := HB.out.2 (by omega)
          have a1 := (grew_cell HD.out.grew (p := ⟨b, o + i, none⟩) hb).trans (hc i hli)
          have il : i < l.length := by rw [HL.out]; exact hli
          have hw := mx_snoc s0 l i il
          have W1 := Lib.hid (fun w' (h : DI N W w' q (mxS s0 (l.take i))) => h.write 0 (blkOf (l.getD i 0)) (by simp [blkOf]) (by show (mxW (l.take i)).length ≤ _; unfold mxW; rw [List.length_map, List.length_take]; omega))
          rw [hw] at W1
          have CBi := Lib.hid (fun w => CB.out (l.getD i 0) w)
          clear hc hb hw il HB
          generalize l.getD i 0 = x at *
          generalize hX : blkV' (blkOf x) = X at *
          clear hX
          generalize x.toNat = u at *
          go_wp2_with (first
            | (go_at_call 20; ((with_reducible refine (CBi.out wr).mono ?_); rintro e w5 ⟨rfl, hg⟩; have E0 := Lib.hid (HD.out.grows hg); have HW0 := Lib.hid (ownB_keepG HW.out hg); clear hg))
            | (go_at_call 19; ((with_reducible refine (W1.out _ E0.out).mono ?_); rintro e w6 ⟨rfl, hd, hg⟩; have E1 := Lib.hid hd; have HW1 := Lib.hid (ownsRow_of HW0.out (fun b hb => hg.block b (E0.out.nlt b (HN.out b hb).1) (fun h => h.2 (HN.out b hb).1))); clear hd hg))
            | (at_builtin; refine wpList_append_lies _ rfl _ _ _ rfl 0 3 ii (.int .i64 0) 1 8 Try.underlying32 hii hzi0 hzi1 hzi2 rfl (by decide) _ i _ rfl (HW1.out.alloc _) ⟨w6.heap.size, 0, none⟩ 1 1 [.int .i64 65] rfl rfl (World.news_of_block (heap_alloc_new w6 _)) (by intro u hu; rw [List.mem_singleton] at hu; subst hu; rfl) (by omega) (by unfold maxLen; omega) (by omega) (Nat.zero_le _) (w6.heap.size + 1) (by simp) ?_; intro g cap w7 hown hgr hat hlt; have HO := Lib.hid hown; have HGR := Lib.hid hgr; have HAT := Lib.hid hat; have HLT := Lib.hid hlt; clear hown hgr hat hlt))
          have E2 := Lib.hid (E1.out.grows (grew_alloc w6 #[.int .i64 65] 3))
          have E3 : Hid (DI (fun k => N k ∨ k = g) W w7 q (mxS s0 (l.take (i + 1)))) := by
            refine E2.out.app ((Chg.refl _ _).grown HGR.out (fun b hb _ => HN.out b hb)) g ?_ HLT.out
            rcases HAT.out with h | h
            · exact Or.inl (HN.out g h).1
            · exact Or.inr (by rw [h]; simp)
          have HO2 : Hid (w7.ownsRow 0 3 1 (.slice (some ⟨g, 0, none⟩) (i + 1) cap) (i + 1) ((List.replicate (i + 1) (65 : Int)).map (Value.int .i64))) := by
            have := HO.out
            rw [show (List.replicate i (65 : Int)).map (Value.int .i64) ++ [.int .i64 65] = (List.replicate (i + 1) (65 : Int)).map (Value.int .i64) by rw [List.replicate_succ', List.map_append]; rfl] at this
            exact this
          have HN2 : Hid (∀ b, (Value.slice (some ⟨g, 0, none⟩) (i + 1) cap).ownBlock = some b → (N b ∨ b = g) ∧ W.heap.size ≤ b) := fun b hb => by
            have hbg : b = g := by simpa [Value.ownBlock] using hb.symm
            subst hbg
            refine ⟨Or.inr rfl, ?_⟩
            rcases HAT.out with h | h
            · exact (HN.out b h).2
            · rw [h]; have := E1.out.grew.size; omega
          clear HO HGR HAT HLT E2 E1 E0 HW0 HW1
          go_roundw
          case rel => exact ⟨i + 1, _, by go_num, by omega, E3, HO2, HN2⟩
          case measure => simp only [intOf]; omega
        · obtain rfl : n1 = i := by omega
          rw [List.take_of_length_le (by rw [HL.out]; exact Nat.le_refl _)] at HD
          obtain ⟨AW, cW, rfl, hIW, _⟩ := ints_own HW.out
          have HIW := Lib.hid hIW
          have hml : (mxS s0 l).opn.length ≤ 1000000 := by show (mxW l).length ≤ _; unfold mxW; rw [List.length_map, HL.out]; omega
          have T0 := Lib.hid (HD.out.crash A2 n2 c2 z2 (HI.out.keep HD.out.grew) (fun a e h0 => Or.inl (by obtain ⟨b, o, e2, hb, _⟩ := HI.out.2 h0; rw [e] at e2; cases e2; exact hb)) (by omega) hml)
          have T1 := Lib.hid (HD.out.crash none 0 0 [] (ints0 _ _) (fun a e => by cases e) (by omega) hml)
          have T2 := Lib.hid (HD.out.crash AW n1 cW (List.replicate n1 65) HIW.out (fun a e h0 => Or.inr (HN.out a.block (by rw [e]; rfl)).1) (by omega) hml)
          clear hIW hml
          go_upto_block 4 with fail
          go_cut [] from 62 to 129 (fun wx => ∃ zs : List Int, Hid (k = 1 → zs = []) ∧ Hid (k = 2 → zs = List.replicate n1 65) ∧ Hid (DI N W wx q (dCrash (mxS s0 l) zs)))
          case first =>
            by_cases k0 : k = 0
            · subst k0
              go_wp2_with (go_at_call 22; ((with_reducible refine T0.out.mono ?_); rintro e w8 ⟨rfl, hd, hg⟩; have D8 := Lib.hid hd; clear hd hg))
              go_meet
              case rel => exact ⟨z2, (fun h => by omega), (fun h => by omega), D8⟩
            · by_cases k1 : k = 1
              · subst k1
                go_wp2_with (go_at_call 22; ((with_reducible refine T1.out.mono ?_); rintro e w8 ⟨rfl, hd, hg⟩; have D8 := Lib.hid hd; clear hd hg))
                go_meet
                case rel => exact ⟨[], (fun h => rfl), (fun h => by omega), D8⟩
              · obtain rfl : k = 2 := by omega
                go_wp2_with (go_at_call 22; ((with_reducible refine T2.out.mono ?_); rintro e w8 ⟨rfl, hd, hg⟩; have D8 := Lib.hid hd; clear hd hg))
                go_meet
                case rel => exact ⟨List.replicate n1 65, (fun h => by omega), (fun h => rfl), D8⟩
          case rest =>
            obtain ⟨zs, HZ1, HZ2, D8⟩ := hcut
            clear T0 T1 T2
            obtain ⟨B, r1, r2, r3, r4, r5⟩ := mx_read s0 l zs
            have hof : (dCrash (mxS s0 l) zs).opn.length ≤ 1000000 := by show 0 ≤ _; omega
            have S1 := Lib.hid (D8.out.start hof)
            have R1 := Lib.hid (fun w' (h : DI N W w' q (dStart (dCrash (mxS s0 l) zs))) => h.read 0)
            rw [r1] at R1
            obtain ⟨lv, hlv⟩ : ∃ lv : UInt8, lv = if k = 2 ∧ 0 < n1 then l.getD (n1 - 1) 0 else s0 := ⟨_, rfl⟩
            have HLV := Lib.hid hlv
            have HB1 : Hid (k ≠ 0 → ∀ i, i < 64 → B.getD i 0 = lv) := fun hk0 i hi => by
              have hb : B = blkOf lv := by
                by_cases h1 : k = 1
                · rw [hlv, if_neg (by omega)]; exact r4 (HZ1.out h1)
                · have h2 : k = 2 := by omega
                  have := r5 (by rw [HL.out]; exact HZ2.out h2)
                  rw [this, hlv]
                  by_cases h0 : 0 < n1
                  · rw [if_pos ⟨h2, h0⟩, mxL_last s0 l (by rw [HL.out]; exact h0), HL.out]
                  · rw [if_neg (by omega)]
                    have : l = [] := List.eq_nil_of_length_eq_zero (by rw [HL.out]; omega)
                    rw [this]; rfl
              rw [hb, blkOf, List.getD_eq_getElem?_getD, List.getElem?_replicate, if_pos hi]; rfl
            have HB0 : Hid (∀ i, i < 64 → B.getD i 0 = s0 ∨ B.getD i 0 ∈ l) := fun i hi => r3 _ (by
              have : i < B.length := by rw [r2]; exact hi
              simp only [List.getD, List.getElem?_eq_getElem this, Option.getD_some]
              exact List.getElem_mem this)
            have hone := Lib.hid (bytesV_one' (b := B))
            have hl : (bytesV B).length = 64 := by rw [bytesV_len]; exact r2
            have HV : Hid (readV (B, 0) = .tuple #[.agg (bytesV B).toArray, .int .i64 0]) := rfl
            rw [HV.out] at R1
            have HAT : Hid (∀ i, i < 64 → (bytesV B)[i]? = some (byv (B.getD i 0))) := fun i hi => by
              unfold bytesV
              rw [List.getElem?_map]
              have : i < B.length := by rw [r2]; exact hi
              simp [List.getD, this]
            clear HV r1 r2 r3 r4 r5 hof hlv HZ1 HZ2 HW HN HI CB HIW
            generalize dStart (dCrash (mxS s0 l) zs) = sE at *
            generalize bytesV B = cs at *
            obtain ⟨ZZ, hZZ⟩ : ∃ ZZ, ZZ = (bytesV blk0).toArray := ⟨_, rfl⟩
            have hz := fun w => zero40 w
            rw [← hZZ] at hz
            have HZZ := Lib.hid hZZ
            clear hZZ
            go_upto_region 27 with (first
              | (go_at_call 23; ((with_reducible refine S1.out.mono ?_); rintro e w9 ⟨rfl, hd, hg⟩; have D9 := Lib.hid hd; clear hd hg))
              | (go_at_call 17; ((with_reducible refine (R1.out _ D9.out).mono ?_); rintro e w10 ⟨rfl, hg⟩; have P1 := Lib.hid (put_new w10 ZZ HZZ.out 40 cs hl); have G10 := Lib.hid (grew_trans D9.out.grew (grew_trans hg P1.out.2.2.1)); clear hg))
              | (refine wpList_store_mid (by rfl) 40 _ _ (by rfl) w10.heap.size 0 cs.toArray (by rfl) (by rfl) (by simpa [hl] using P1.out.2.1) (size40 (by simpa using hl.symm)) hone.out ?_))
            have HRG := Lib.hid P1.out.1
            have HLT := Lib.hid P1.out.2.2.2.2
            generalize (w10.alloc (.cells ZZ 40)).setCells w10.heap.size 0 cs = w11 at *
            clear S1 R1 D8 D9 P1
            go_cut [91] from 62 to 129 (fun s91 wx => s91 = .bool (decide (k = 2 ∧ 0 < n1)) ∧ w11 = wx)
            case first =>
              by_cases k2 : k = 2
              · subst k2
                by_cases h0 : 0 < n1
                · have hd : decide ((2 : Nat) = 2 ∧ 0 < n1) = true := decide_eq_true ⟨rfl, h0⟩
                  have h0' : (0 : Int) < (n1 : Int) := by omega
                  go_wp2
                  go_meet
                  case rel => exact ⟨by rw [hd], rfl⟩
                · have hd : decide ((2 : Nat) = 2 ∧ 0 < n1) = false := decide_eq_false (by omega)
                  have h0' : ¬ (0 : Int) < (n1 : Int) := by omega
                  go_wp2
                  go_meet
                  case rel => exact ⟨by rw [hd], rfl⟩
              · have hd : decide (k = 2 ∧ 0 < n1) = false := decide_eq_false (by omega)
                have k2' : ¬ (k : Int) = 2 := by omega
                go_wp2
                go_meet
                case rel => exact ⟨by rw [hd], rfl⟩
            case rest =>
              obtain ⟨rfl, rfl⟩ := hcut
              go_upto_if 91 with fail
              go_cut [13] from 62 to 129 (fun s13 wx => s13 = .int .u8 (lv.toNat : Int) ∧ w11 = wx)
              case first =>
                cases hd : decide (k = 2 ∧ 0 < n1) with
                | true =>
                  have hp := of_decide_eq_true hd
                  obtain ⟨b, o, rfl, hb, hc⟩ := HB.out.2 (by omega)
                  have a1 := (grew_cell G10.out (p := ⟨b, o + (n1 - 1), none⟩) hb).trans (hc (n1 - 1) (by omega))
                  have hv : l.getD (n1 - 1) 0 = lv := by rw [HLV.out, if_pos hp]
                  rw [hv] at a1
                  have hp2 := hp.2
                  have hw1 : IntKind.i64.wrap ((n1 : Int) - 1) = ((n1 - 1 : Nat) : Int) := by rw [IntKind.wrap_i64]; omega
                  have hj : ((n1 - 1 : Nat) : Int) < (n1 : Int) := by omega
                  clear hc hv hp
                  generalize n1 - 1 = nm at *
                  go_wp2
                  go_meet
                  case rel => exact ⟨rfl, rfl⟩
                | false =>
                  have hv : s0 = lv := by rw [HLV.out, if_neg (of_decide_eq_false hd)]
                  go_wp2
                  go_meet
                  case rel => exact ⟨by rw [hv], rfl⟩
              case rest =>
                obtain ⟨rfl, rfl⟩ := hcut
                obtain ⟨kI, hkI⟩ : ∃ kI : Int, (k : Int) = kI := ⟨_, rfl⟩
                have HKI := Lib.hid hkI
                rw [hkI] at j1 ⊢
                clear hkI
                go_wp2
                go_loop [14] (fun v14 => ∃ j : Nat, v14 = .int .i64 j ∧ j ≤ 64) (fun v14 => 64 - (intOf v14).toNat)
                case atStart => exact ⟨0, rfl, by omega⟩
                case round =>
                  obtain ⟨j, rfl, hj⟩ := hrel
                  by_cases hlj : j < 64
                  · have t1 : (j : Int) < 64 := by omega
                    have t0 : (0 : Int) ≤ (j : Int) := Int.natCast_nonneg _
                    have hcell := HRG.out j _ (HAT.out j hlj)
                    rw [Nat.zero_add] at hcell
                    by_cases k0 : k = 0
                    · have hm := HB0.out j hlj
                      have k1 : decide ((0 : Int) < kI) = false := decide_eq_false (by rw [← HKI.out]; omega)
                      have k2 : (kI == 0) = true := by rw [← HKI.out]; simp; omega
                      have K0 := Lib.hid k0
                      clear HB1 HB0 HAT HRG k0
                      generalize B.getD j 0 = x at *
                      by_cases hx : x = s0
                      · subst hx
                        unfold byv at hcell
                        go_wp2
                        go_round
                        case rel => exact ⟨j + 1, by go_num, by omega⟩
                        case measure => simp only [intOf]; omega
                      · have hm2 : decide (x ∈ l) = true := decide_eq_true (hm.resolve_left hx)
                        have I1 := Lib.hid (CI.out x w11 G10.out)
                        rw [hm2] at I1
                        have hu : (x.toNat : Int) ≠ (s0.toNat : Int) := fun h => hx (UInt8.toNat_inj.1 (by omega))
                        unfold byv at hcell
                        generalize x.toNat = u at *
                        generalize s0.toNat = v at *
                        have hd : ((u : Int) != (v : Int)) = true := by simpa using hu
                        clear hm hm2 hx CI hu
                        go_wp2_with (go_at_call 24; ((with_reducible refine I1.out.mono ?_); rintro e w12 ⟨rfl, rfl⟩))
                        go_round
                        case rel => exact ⟨j + 1, by go_num, by omega⟩
                        case measure => simp only [intOf]; omega
                    · have hx := HB1.out k0 j hlj
                      rw [hx] at hcell
                      have k1 : decide ((0 : Int) < kI) = true := decide_eq_true (by rw [← HKI.out]; omega)
                      have k2 : (kI == 0) = false := by rw [← HKI.out]; simp; omega
                      have K0 := Lib.hid k0
                      unfold byv at hcell
                      clear HB1 HB0 HAT HRG hx CI k0
                      go_wp2
                      go_round
                      case rel => exact ⟨j + 1, by go_num, by omega⟩
                      case measure => simp only [intOf]; omega
                  · obtain rfl : j = 64 := by omega
                    have hkI := HKI.out
                    clear HKI HB1 HB0 HAT HRG
                    subst hkI
                    go_wp2
                    go_roundw
                    case rel => exact ⟨k + 1, by go_num, by omega, G10⟩
                    case measure => simp only [intOf]; omega
    · have j1 : ¬ (k : Int) < 3 := by omega
      have KW := Lib.hid (CW.out wr)
      clear CW CB CI
      go_wp2_with (go_at_call 11; ((with_reducible refine KW.out.mono ?_); rintro e w31 ⟨rfl, hg⟩; have GE := Lib.hid (grew_trans HG.out hg); clear hg))
      go_ret
      exact ⟨rfl, GE.out⟩
theorem diskMixes_row (s0 : Int) (hs : 0 ≤ s0 ∧ s0 ≤ 255) (A1 A2 : Option Addr) (n1 n2 c1 c2 : Nat) (l z2 : List Int) (W : World) (b1 : Row (spInt .u8) W A1 n1 l) (i2 : Row (spInt .i64) W A2 n2 z2) :
    Calls Try.prog 5 #[.int .u8 s0, .slice A1 n1 c1, .slice A2 n2 c2] W fun e w' => e = .returned (.bool true) ∧ Grew W w' := by
  obtain ⟨bs, hb⟩ := bys_of_row b1
  have := diskMixes_walk (UInt8.ofNat s0.toNat) A1 A2 n1 n2 c1 c2 bs z2 W hb (ints_of_spec i2).1
  have e : ((UInt8.ofNat s0.toNat).toNat : Int) = s0 := by rw [UInt8.toNat_ofNat']; omega
  rwa [e] at this
end Go.Proofs.Ytgaopkfdbglnmaa.NumK
