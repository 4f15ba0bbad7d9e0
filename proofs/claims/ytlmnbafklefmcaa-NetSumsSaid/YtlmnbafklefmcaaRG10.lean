/- The reference's Net. -/
import Derived.Test.YtlmnbafklefmcaaRG9
import Derived.Test.YtlmnbafklefmcaaRG4
import Derived.Deep.RegionHeld3
import Derived.Deep.DeepCutAuto
import Derived.Test.YtlmnbafklefmcaaRG6
import Derived.Test.YtlmnbafklefmcaaRG7
import Derived.Test.YtlmnbafklefmcaaRG2
namespace Go.Proofs.Ytlmnbafklefmcaa.NumK
open Go.RowKit Go.Maps
set_option linter.unusedVariables false

abbrev cD3 (x : D3) : List Value := [.int .i64 x.1, .int .i64 x.2.1, .int .i64 x.2.2]
theorem ok_alt (k : Nat) (last d : D3) : okN k last d = (decide (k = 0) || lessD last d) := rfl
theorem st_alt (k : Nat) (last : D3) (f : Bool) (nx d : D3) : stN k last (f, nx) d = if (okN k last d && (!f || lessD d nx)) = true then (true, d) else (f, nx) := rfl

set_option maxRecDepth 100000 in
set_option maxHeartbeats 8000000 in
theorem rnet_any (A : Option Addr) (n c : Nat) (l : List D3) (w : World) (h : RowE enD3 w A n l) (hn : n ≤ 100000) :
    Calls Try.prog 10 #[.slice A n c] w (NetPost l w) := by
  have C := rmoney_any A n c l w h (by omega)
  have HI := Lib.hid h
  have HL := Lib.hid h.len
  cases hok : l.all okD
  · rw [hok] at C
    have HNO : Hid (∀ w', Grew w w' → NetPost l w (.returned (.tuple #[.slice none 0 0, .int .i64 3])) w') := fun w' g => net_no hok g
    generalize NetPost l w = PP at *
    clear h
    go_enter Try.func10, Try.ntmps10
    go_wp2_with (go_at_call 26; ((with_reducible refine C.mono ?_); rintro e w1 ⟨rfl, hg⟩; have HG0 := Lib.hid hg; clear hg))
    exact HNO.out _ HG0.out
  rw [hok] at C
  have HBIG : Hid (∀ k, k ∈ keysD l → isMoney (grossV l k) = false → ∀ w', Grew w w' → NetPost l w (.returned (.tuple #[.slice none 0 0, .int .i64 1])) w') := fun k hk hm w' g => net_big hok hk hm g
  have HYES : Hid ((∀ i, i < (keysD l).length → isMoney (grossV l ((keysD l).getD i (0, 0))) = true) → ∀ w' v, OwnE enD3 w' w.heap.size 42 v ((keysD l).filterMap (netO l)) → Grew w w' → NetPost l w (.returned (.tuple #[v, .int .i64 0])) w') := fun hm w' v ho g => net_yes hok hm ho g
  have HGE : Hid (∀ k, grossE l k = if isMoney (grossV l k) then 0 else 1) := fun k => by show _ = _; unfold grossE; rw [hok]; rfl
  have HKL : Hid ((keysD l).length ≤ n) := by have := len_keys l; show _ ≤ _; rw [← h.len]; exact this
  have CG := fun who cur w' (g : Grew w w') => rgross_any A n c l who cur w' (h.keep g) hn
  clear hok h
  generalize NetPost l w = PP at *
  go_enter Try.func10, Try.ntmps10
  go_wp2_with (go_at_call 26; ((with_reducible refine C.mono ?_); rintro e w1 ⟨rfl, hg⟩; have HG0 := Lib.hid hg; clear hg; have HLB := Lib.hid (OwnC.new w1 [.int .i64 0, .int .i64 0, .int .i64 0] 42 _ rfl); have HG1 : Hid (Grew w (w1.alloc (.cells #[.int .i64 0, .int .i64 0, .int .i64 0] 42))) := grew_trans HG0.out (grew_alloc _ _ _); have HWL : Hid (w.heap.size ≤ w1.heap.size) := HG0.out.size; have HSZ : Hid (w1.heap.size + 1 ≤ (w1.alloc (.cells #[.int .i64 0, .int .i64 0, .int .i64 0] 42)).heap.size) := (by show _ ≤ _; simp); clear HG0 C))
  generalize w1.alloc (.cells #[.int .i64 0, .int .i64 0, .int .i64 0] 42) = w2 at *
  generalize w1.heap.size = L at *
  go_loopw [4, 6] (fun v4 v6 wr => ∃ (k : Nat) (last : D3), v6 = .int .i64 k ∧ k ≤ (keysD l).length ∧ Hid (OwnC wr L (cD3 last)) ∧ Hid (OwnE enD3 wr (L + 1) 42 v4 (netK l k)) ∧ Hid (k ≠ 0 → k - 1 < (keysD l).length ∧ keyD last = (keysD l).getD (k - 1) (0, 0)) ∧ Hid (∀ t, t < k → isMoney (grossV l ((keysD l).getD t (0, 0))) = true) ∧ Hid (Grew w wr)) (fun _ v6 _ => (keysD l).length + 1 - (intOf v6).toNat)
  case atStart => exact ⟨0, (0, 0, 0), rfl, Nat.zero_le _, HLB.out, OwnE.nil _ _ _ _, fun h => absurd rfl h, fun t ht => by omega, HG1.out⟩
  case round =>
    clear HLB HG1 HSZ
    obtain ⟨k, last, rfl, hk, HLB, HO, HLA, HT, HG⟩ := hrel
    have hk9 : k ≤ 100000 := by have := HKL.out; omega
    have HFK := Lib.hid (fd_key (l := l) (k := k) (last := last) HLA.out)
    have HLW : Hid (L < wr.heap.size) := HLB.out.lt
    have HX := Lib.hid (OwnC.new wr [.int .i64 0, .int .i64 0, .int .i64 0] 42 _ rfl)
    have HGX : Hid (Grew wr (wr.alloc (.cells #[.int .i64 0, .int .i64 0, .int .i64 0] 42))) := grew_alloc _ _ _
    go_upto_region 9 with fail
    generalize wr.alloc (.cells #[.int .i64 0, .int .i64 0, .int .i64 0] 42) = wX at *
    obtain ⟨X, hX⟩ : ∃ X, X = wr.heap.size := ⟨_, rfl⟩
    have HXW : Hid (wr.heap.size ≤ X) := Nat.le_of_eq hX.symm
    rw [← hX] at HX HLW ⊢
    clear hX
    generalize wr = wo at *
    go_wp2
    clear HLA
    go_loopw [7, 9] (fun v7 v9 wi => ∃ i : Nat, v9 = .int .i64 i ∧ i ≤ n ∧ v7 = .bool (fdN k last (l.take i)).1 ∧ Hid (OwnC wi X (cD3 (fdN k last (l.take i)).2)) ∧ Hid (Grew wo wi)) (fun _ v9 _ => n - (intOf v9).toNat)
    case atStart => exact ⟨0, rfl, by omega, rfl, HX.out, HGX.out⟩
    case round =>
      clear HX HGX
      obtain ⟨i, rfl, hi, rfl, HX, HGX⟩ := hrel
      have HGW := Lib.hid (grew_trans HG.out HGX.out)
      have HLI := Lib.hid (HLB.out.keep HGX.out)
      by_cases hlt : i < n
      · have hil : i < l.length := by rw [HL.out]; exact hlt
        obtain ⟨b, o, rfl, hb, hc⟩ := (HI.out.keep HGW.out).rD3 hlt
        obtain ⟨a0, a1, a2⟩ := hc i hlt
        have HFD := Lib.hid (fd_succ k last l i hil)
        have i0 : (0 : Int) ≤ (i : Int) := by omega
        have i1 : (i : Int) < (n : Int) := by omega
        clear hc HBIG HYES HGE HFK HKL CG HI HO HT HLB
        generalize fdN k last (l.take i) = s at *
        obtain ⟨f, nx⟩ := s
        rw [st_alt, ok_alt] at HFD
        have D1 := fun w' (g : Grew wr w') => rless_any last (l.getD i (0, 0, 0)) w'
        have D2 := fun w' (g : Grew wr w') => rless_any (l.getD i (0, 0, 0)) nx w'
        generalize lessD last (l.getD i (0, 0, 0)) = b1 at *
        generalize lessD (l.getD i (0, 0, 0)) nx = b2 at *
        generalize l.getD i (0, 0, 0) = x at *
        obtain ⟨q1, q2, q3⟩ := x
        obtain ⟨p1, p2, p3⟩ := last
        obtain ⟨r1, r2, r3⟩ := nx
        dsimp only [cD3, vD3] at a0 a1 a2 HX HLI D1 D2
        go_upto_region 12 with fail
        go_cut [46] (fun s46 wx => s46 = .bool ((decide (k = 0) || b1) && (!f || b2)) ∧ Hid (Grew wr wx))
        case first =>
          clear HFD
          have z0 := grew_every (w := wr) (S := fun w' => w'.cell? ⟨L, 0, none⟩ = some (.int .i64 p1)) (fun w' g => (HLI.out.keep g).at 0 _ rfl)
          have z1 := grew_every (w := wr) (S := fun w' => w'.cell? ⟨L, 1, none⟩ = some (.int .i64 p2)) (fun w' g => (HLI.out.keep g).at 1 _ rfl)
          have z2 := grew_every (w := wr) (S := fun w' => w'.cell? ⟨L, 2, none⟩ = some (.int .i64 p3)) (fun w' g => (HLI.out.keep g).at 2 _ rfl)
          have y0 := grew_every (w := wr) (S := fun w' => w'.cell? ⟨X, 0, none⟩ = some (.int .i64 r1)) (fun w' g => (HX.out.keep g).at 0 _ rfl)
          have y1 := grew_every (w := wr) (S := fun w' => w'.cell? ⟨X, 1, none⟩ = some (.int .i64 r2)) (fun w' g => (HX.out.keep g).at 1 _ rfl)
          have y2 := grew_every (w := wr) (S := fun w' => w'.cell? ⟨X, 2, none⟩ = some (.int .i64 r3)) (fun w' g => (HX.out.keep g).at 2 _ rfl)
          have x0 := grew_every (w := wr) (S := fun w' => w'.cell? ⟨b, o + i * 3, none⟩ = some (.int .i64 q1)) (fun w' g => (grew_cell g (p := ⟨b, _, none⟩) hb).trans a0)
          have x1 := grew_every (w := wr) (S := fun w' => w'.cell? ⟨b, o + i * 3 + 1, none⟩ = some (.int .i64 q2)) (fun w' g => (grew_cell g (p := ⟨b, _, none⟩) hb).trans a1)
          have x2 := grew_every (w := wr) (S := fun w' => w'.cell? ⟨b, o + i * 3 + 2, none⟩ = some (.int .i64 q3)) (fun w' g => (grew_cell g (p := ⟨b, _, none⟩) hb).trans a2)
          clear a0 a1 a2 hb HX HLI HGX HGW
          by_cases hk0 : k = 0
          · subst hk0
            clear D1
            cases f
            · refine wp_region_grew (by kernel_rfl) (by kernel_rfl) ?_
              repeat (go_big_quiet_step (with_reducible (exact calls_every D2)))
              refine wpQuiet_nil ?_
              intro w6 hw'
              have HG6 := Lib.hid (grew_of hw')
              clear hw'
              go_wp2
              go_meet
              exact ⟨by simp, HG6.out⟩
            · refine wp_region_grew (by kernel_rfl) (by kernel_rfl) ?_
              repeat (go_big_quiet_step (with_reducible (exact calls_every D2)))
              refine wpQuiet_nil ?_
              intro w6 hw'
              have HG6 := Lib.hid (grew_of hw')
              clear hw'
              go_wp2
              go_meet
              exact ⟨by simp, HG6.out⟩
          · have k0 : ((k : Int) == 0) = false := by simp; omega
            have kd : decide (k = 0) = false := decide_eq_false hk0
            clear hk0
            cases b1
            · refine wp_region_grew (by kernel_rfl) (by kernel_rfl) ?_
              repeat (go_big_quiet_step (with_reducible (first | exact calls_every D1 | exact calls_every D2)))
              refine wpQuiet_nil ?_
              intro w6 hw'
              have HG6 := Lib.hid (grew_of hw')
              clear hw'
              go_wp2
              go_meet
              exact ⟨by simp [kd], HG6.out⟩
            · cases f
              · refine wp_region_grew (by kernel_rfl) (by kernel_rfl) ?_
                repeat (go_big_quiet_step (with_reducible (first | exact calls_every D1 | exact calls_every D2)))
                refine wpQuiet_nil ?_
                intro w6 hw'
                have HG6 := Lib.hid (grew_of hw')
                clear hw'
                go_wp2
                go_meet
                exact ⟨by simp [kd], HG6.out⟩
              · refine wp_region_grew (by kernel_rfl) (by kernel_rfl) ?_
                repeat (go_big_quiet_step (with_reducible (first | exact calls_every D1 | exact calls_every D2)))
                refine wpQuiet_nil ?_
                intro w6 hw'
                have HG6 := Lib.hid (grew_of hw')
                clear hw'
                go_wp2
                go_meet
                exact ⟨by simp [kd], HG6.out⟩
        case rest =>
          obtain ⟨rfl, HR6⟩ := hcut
          clear D1 D2
          have HXc := Lib.hid (HX.out.keep HR6.out)
          have HGc := Lib.hid (grew_trans HGX.out HR6.out)
          have b0 := (grew_cell HR6.out (p := ⟨b, o + i * 3, none⟩) hb).trans a0
          have b1' := (grew_cell HR6.out (p := ⟨b, o + i * 3 + 1, none⟩) hb).trans a1
          have b2' := (grew_cell HR6.out (p := ⟨b, o + i * 3 + 2, none⟩) hb).trans a2
          clear a0 a1 a2 HX HLI HGW HGX HR6 hb
          generalize ((decide (k = 0) || b1) && (!f || b2)) = TT at *
          cases TT
          · have HFD2 : Hid (fdN k (p1, p2, p3) (l.take (i + 1)) = (f, (r1, r2, r3))) := HFD.out
            clear HFD b0 b1' b2'
            go_wp2
            go_roundw
            case rel => exact ⟨i + 1, by go_num, by omega, by rw [HFD2.out], by rw [HFD2.out]; exact HXc.out, HGc.out⟩
            case measure => simp only [intOf]; omega
          · have HFD2 : Hid (fdN k (p1, p2, p3) (l.take (i + 1)) = (true, (q1, q2, q3))) := HFD.out
            clear HFD
            have y0 : wc.cell? ⟨X, 0, none⟩ = some (.int .i64 r1) := HXc.out.at 0 _ rfl
            have y1 : wc.cell? ⟨X, 1, none⟩ = some (.int .i64 r2) := HXc.out.at 1 _ rfl
            have y2 : wc.cell? ⟨X, 2, none⟩ = some (.int .i64 r3) := HXc.out.at 2 _ rfl
            have f0 : wc.frozen? ⟨X, 0, none⟩ = false := HXc.out.fr 0 (by simp)
            have f1 : wc.frozen? ⟨X, 1, none⟩ = false := HXc.out.fr 1 (by simp)
            have f2 : wc.frozen? ⟨X, 2, none⟩ = false := HXc.out.fr 2 (by simp)
            go_upto_region 13 with fail
            go_region
            have HXP := Lib.hid (HXc.out.all [.int .i64 q1, .int .i64 q2, .int .i64 q3] rfl)
            have HGP := Lib.hid (grew_put X HXW.out [.int .i64 q1, .int .i64 q2, .int .i64 q3] 0 _ HGc.out)
            change Exit.inBlock _ _ _ _ (World.drew (putC wc X 0 [.int .i64 q1, .int .i64 q2, .int .i64 q3]))
            clear y0 y1 y2 f0 f1 f2 HXc HGc b0 b1' b2'
            generalize putC wc X 0 [.int .i64 q1, .int .i64 q2, .int .i64 q3] = w9 at *
            go_wp2
            go_roundw
            case rel => exact ⟨i + 1, by go_num, by omega, by rw [HFD2.out], by rw [HFD2.out]; exact HXP.out.drew, grew_drew HGP.out⟩
            case measure => simp only [intOf]; omega
      · obtain rfl : i = n := by omega
        have ht : l.take i = l := List.take_of_length_le (by rw [HL.out]; exact Nat.le_refl _)
        rw [ht] at HX ⊢
        clear ht hlt hi HI
        generalize fdN k last l = s at *
        obtain ⟨f, nx⟩ := s
        by_cases hkl : k < (keysD l).length
        · obtain ⟨e1, e2, e3⟩ := HFK.out.1 hkl
          have HBG := Lib.hid (HBIG.out _ (getD_mem (keysD l) (0, 0) k hkl))
          have HE := Lib.hid (HGE.out ((keysD l).getD k (0, 0)))
          have HR : Hid (grossR l ((keysD l).getD k (0, 0)) = if grossE l ((keysD l).getD k (0, 0)) = 0 then grossV l ((keysD l).getD k (0, 0)) else 0) := rfl
          have HFM : Hid (netK l (k + 1) = netK l k ++ (netO l ((keysD l).getD k (0, 0))).toList) := fm_succ (netO l) (keysD l) (0, 0) k hkl
          have HFL : Hid ((netK l k).length ≤ k) := fm_len l (keysD l) k
          have HLA : Hid (k + 1 ≠ 0 → k + 1 - 1 < (keysD l).length ∧ keyD nx = (keysD l).getD (k + 1 - 1) (0, 0)) := fun _ => ⟨hkl, e3⟩
          have HT1 : Hid (isMoney (grossV l ((keysD l).getD k (0, 0))) = true → ∀ t, t < k + 1 → isMoney (grossV l ((keysD l).getD t (0, 0))) = true) := fun h t ht => by
            rcases Nat.lt_or_ge t k with h1 | h1
            · exact HT.out t h1
            · obtain rfl : t = k := by omega
              exact h
          have HNO : Hid (netO l ((keysD l).getD k (0, 0)) = if grossV l ((keysD l).getD k (0, 0)) = 0 then none else some (((keysD l).getD k (0, 0)).1, ((keysD l).getD k (0, 0)).2, grossV l ((keysD l).getD k (0, 0)))) := rfl
          obtain rfl : f = true := e1
          have CX := CG nx.1 nx.2.1
          have ek : (nx.1, nx.2.1) = (keysD l).getD k (0, 0) := e3
          rw [ek] at CX
          rw [← ek] at HNO
          clear HFK HBIG HGE HYES CG HT e2 e3
          rw [ek] at HNO
          generalize netO l ((keysD l).getD k (0, 0)) = NO at *
          generalize grossR l ((keysD l).getD k (0, 0)) = R at *
          generalize grossE l ((keysD l).getD k (0, 0)) = E at *
          generalize grossV l ((keysD l).getD k (0, 0)) = G at *
          rw [← ek] at HNO
          clear ek
          obtain ⟨r1, r2, r3⟩ := nx
          obtain ⟨p1, p2, p3⟩ := last
          dsimp only [cD3] at HX HLI CX HNO
          have y0 : wr.cell? ⟨X, 0, none⟩ = some (.int .i64 r1) := HX.out.at 0 _ rfl
          have y1 : wr.cell? ⟨X, 1, none⟩ = some (.int .i64 r2) := HX.out.at 1 _ rfl
          have y2 : wr.cell? ⟨X, 2, none⟩ = some (.int .i64 r3) := HX.out.at 2 _ rfl
          have z0 : wr.cell? ⟨L, 0, none⟩ = some (.int .i64 p1) := HLI.out.at 0 _ rfl
          have z1 : wr.cell? ⟨L, 1, none⟩ = some (.int .i64 p2) := HLI.out.at 1 _ rfl
          have z2 : wr.cell? ⟨L, 2, none⟩ = some (.int .i64 p3) := HLI.out.at 2 _ rfl
          have f0 : wr.frozen? ⟨L, 0, none⟩ = false := HLI.out.fr 0 (by simp)
          have f1 : wr.frozen? ⟨L, 1, none⟩ = false := HLI.out.fr 1 (by simp)
          have f2 : wr.frozen? ⟨L, 2, none⟩ = false := HLI.out.fr 2 (by simp)
          have hLX : L ≠ X := by have := HLW.out; omega
          have HXq := Lib.hid (OwnC.putO hLX [.int .i64 r1, .int .i64 r2, .int .i64 r3] 0 _ HX.out)
          have HLq := Lib.hid (HLI.out.all [.int .i64 r1, .int .i64 r2, .int .i64 r3] rfl)
          have HOq := Lib.hid (OwnE.put (b := L) (base := L + 1) (by omega) [.int .i64 r1, .int .i64 r2, .int .i64 r3] 0 _ (HO.out.keep HGX.out))
          have HGq := Lib.hid (grew_put L HWL.out [.int .i64 r1, .int .i64 r2, .int .i64 r3] 0 _ HGW.out)
          have HSq : Hid (L + 1 ≤ (putC wr L 0 [.int .i64 r1, .int .i64 r2, .int .i64 r3]).heap.size) := by have := HLI.out.lt; show _ ≤ _; rw [size_put]; omega
          go_upto_region 17 with fail
          change Code.wp _ _ _ _ (putC wr L 0 [.int .i64 r1, .int .i64 r2, .int .i64 r3])
          clear y0 y1 y2 z0 z1 z2 f0 f1 f2 HX HLI HO HGX HGW HLB
          generalize putC wr L 0 [.int .i64 r1, .int .i64 r2, .int .i64 r3] = w9 at *
          have y0 : w9.cell? ⟨X, 0, none⟩ = some (.int .i64 r1) := HXq.out.at 0 _ rfl
          have y1 : w9.cell? ⟨X, 1, none⟩ = some (.int .i64 r2) := HXq.out.at 1 _ rfl
          have CY := CX w9 HGq.out
          clear CX
          cases hm : isMoney G
          · rw [hm] at HE
            obtain rfl : E = 1 := HE.out
            go_wp2_with (go_at_call 14; ((with_reducible refine CY.mono ?_); rintro e w7 ⟨rfl, hg⟩; have HG7 := Lib.hid (grew_trans HGq.out hg); clear hg))
            exact HBG.out hm _ HG7.out
          · rw [hm] at HE
            obtain rfl : E = 0 := HE.out
            obtain rfl : R = G := HR.out
            have HT2 := Lib.hid (HT1.out hm)
            clear HT1 HBG HE HR
            by_cases hz : R = 0
            · subst hz
              obtain rfl : NO = none := HNO.out
              have HFM2 : Hid (netK l (k + 1) = netK l k) := by show _ = _; rw [HFM.out]; simp
              go_wp2_with (go_at_call 14; ((with_reducible refine CY.mono ?_); rintro e w7 ⟨rfl, hg⟩; have HG7 := Lib.hid (grew_trans HGq.out hg); have HO7 := Lib.hid (HOq.out.keep hg); have HL7 := Lib.hid (HLq.out.keep hg); clear hg))
              go_roundw
              case rel => exact ⟨k + 1, (r1, r2, r3), by go_num, by omega, HL7.out, by rw [HFM2.out]; exact HO7.out, HLA.out, HT2.out, HG7.out⟩
              case measure => simp only [intOf]; omega
            · obtain rfl : NO = some (r1, r2, R) := by have := HNO.out; rw [if_neg hz] at this; exact this
              have d0 : (R == 0) = false := by simpa using hz
              have HFM2 : Hid (netK l (k + 1) = netK l k ++ [(r1, r2, R)]) := HFM.out
              clear hz HNO HFM
              generalize netK l k = lj at *
              go_wp2_with (go_at_call 14; ((with_reducible refine CY.mono ?_); rintro e w7 ⟨rfl, hg⟩; have HG7 := Lib.hid (grew_trans HGq.out hg); have HO7 := Lib.hid (HOq.out.keep hg); have HL7 := Lib.hid (HLq.out.keep hg); have HP7 := Lib.hid (HXq.out.keep hg); have HS7 : Hid (L + 1 ≤ w7.heap.size) := Nat.le_trans HSq.out hg.size; have p0 : w7.cell? ⟨X, 0, none⟩ = some (.int .i64 r1) := HP7.out.at 0 _ rfl; have p1 : w7.cell? ⟨X, 1, none⟩ = some (.int .i64 r2) := HP7.out.at 1 _ rfl; clear hg; refine Hid.out ?_))
              refine Lib.hid ?_
              go_wp2_with (at_builtin; refine Hid.out ?_)
              refine Lib.hid ?_
              refine (wpList_append_E rfl _ _ 22 42 (vD3 (0, 0, 0)) 24 rfl Try.underlying22 infoD3 rfl (L + 1) _ lj rfl (HO7.out.keep (grew_alloc _ _ _)) _ 1 1 [(r1, r2, R)] rfl (by intro h; cases h) (RowE.one1 enD3 _ _ _ _ _ (by simp) rfl) (by have := HFL.out; simp; unfold maxLen; omega) (by have := HFL.out; simp; omega) (Nat.le_trans HS7.out (by simp)) ?_)
              intro v' w' ho hb
              have HP := Lib.hid ho
              have HB : Hid (Grew w w') := Below.trans (grew_trans HG7.out (grew_alloc _ _ _)) (Below.mono hb (Nat.le_succ_of_le HWL.out))
              have HL8 := Lib.hid ((HL7.out.keep (grew_alloc w7 #[.int .i64 r1, .int .i64 r2, .int .i64 R] 42)).below hb (Nat.lt_succ_self L))
              clear ho hb
              go_wp2
              go_roundw
              case rel => exact ⟨k + 1, (r1, r2, r3), by go_num, by omega, HL8.out, by rw [HFM2.out]; exact HP.out, HLA.out, HT2.out, HB.out⟩
              case measure => simp only [intOf]; omega
        · obtain rfl : k = (keysD l).length := by omega
          obtain rfl : f = false := HFK.out.2 (by omega)
          clear HFK HBIG HGE CG
          go_wp2
          refine HYES.out HT.out _ _ ?_ HGW.out
          have := (HO.out.keep HGX.out).mono (Nat.le_succ_of_le HWL.out)
          rwa [netK_all] at this
end Go.Proofs.Ytlmnbafklefmcaa.NumK
namespace Go.Proofs.Ytlmnbafklefmcaa.NumK
open Go.RowKit

theorem spoilLegs_any (A : Option Addr) (n c base : Nat) (w : World) (hA : n = 0 ∨ ∃ g, A = some ⟨g, 0, none⟩ ∧ base ≤ g ∧ Slab w g (n * 4)) (hn : n ≤ 1000000) :
    Calls Try.prog 18 #[.slice A n c] w fun e w' => e = .returned (.tuple #[]) ∧ Below base w w' := by
  have HA := Lib.hid hA
  clear hA
  go_enter Try.func18, Try.ntmps18
  go_wp2
  go_loopw [2] (fun vi wr => ∃ k : Nat, vi = .int .i64 k ∧ k ≤ n ∧ Hid (∀ g, A = some ⟨g, 0, none⟩ → 0 < n → Slab wr g (n * 4)) ∧ Hid (Below base w wr)) (fun vi _ => n - (intOf vi).toNat)
  case atStart =>
    refine ⟨0, rfl, Nat.zero_le _, fun g hg h0 => ?_, Below.refl _ _⟩
    rcases HA.out with h | ⟨g', e, _, hs⟩
    · omega
    · rw [hg] at e; cases e; exact hs
  case round =>
    obtain ⟨k, rfl, hk, HS, HB⟩ := hrel
    by_cases hlt : k < n
    · obtain ⟨g, rfl, hb, _⟩ : ∃ g, A = some ⟨g, 0, none⟩ ∧ base ≤ g ∧ Slab w g (n * 4) := by
        rcases HA.out with h | h
        · omega
        · exact h
      have HS2 := Lib.hid (HS.out g rfl (by omega))
      obtain ⟨⟨x, a1⟩, a2⟩ := HS2.out.2 (k * 4 + 1) (by omega)
      have a3 : (k : Int) < (n : Int) := by omega
      have HB2 : Hid (Below base w (wr.setCell ⟨g, k * 4 + 1, none⟩ (.int .i64 (-77)))) := Below.setCell HB.out hb _
      have HS3 := Lib.hid (HS2.out.set g (k * 4 + 1) (.int .i64 (-77)))
      go_wp2
      go_roundw
      case rel => exact ⟨k + 1, by go_num, by omega, fun g' hg' _ => by cases hg'; exact HS3.out, HB2⟩
      case measure => simp only [intOf]; omega
    · go_wp2
      go_end0
      exact ⟨rfl, HB.out⟩

theorem emoney_any (n : Int) (w : World) : Calls Try.prog 53 #[.int .i64 n] w fun e w' => e = .returned (.int .i64 (capV n)) ∧ Grew w w' := by
  have C := fun w N hN => num1 n w N hN
  have HC : Hid (capV n = if isMoney n then n else 0) := rfl
  generalize capV n = c at *
  generalize isMoney n = M at *
  go_enter Try.func53, Try.ntmps53
  cases M
  · go_wp2_with (go_at_call 40; ((with_reducible refine (C _ _ rfl).mono ?_); rintro e w1 ⟨rfl, rfl⟩))
    go_ret
    exact ⟨ret_i (by rw [HC.out]; rfl), grew_alloc _ _ _⟩
  · go_wp2_with (go_at_call 40; ((with_reducible refine (C _ _ rfl).mono ?_); rintro e w1 ⟨rfl, rfl⟩))
    go_ret
    exact ⟨ret_i (by rw [HC.out]; rfl), grew_alloc _ _ _⟩

set_option maxRecDepth 100000 in
theorem move_any (k m c k' m' c' n : Int) (w : World) : Calls Try.prog 32 #[acV k m c, acV k' m' c', .int .i64 n] w fun e w' =>
    ∃ A, e = .returned (.slice A 2 2) ∧ RowE enLg w' A 2 (moveL (k, m, c) (k', m', c') n) ∧ Grew w w' := by
  have C := fun w => emoney_any n w
  have HB := capV_bounds n
  unfold moveL
  generalize capV n = x at *
  obtain ⟨b1, b2⟩ := HB
  unfold acV
  go_enter Try.func32, Try.ntmps32
  go_wp2_with (go_at_call 53; ((with_reducible refine (C _).mono ?_); rintro e w1 ⟨rfl, hg⟩; obtain ⟨g1, g2, hg⟩ := two_cells hg; have x0 := g1 0; have x1 := g1 1; have x2 := g1 2; have y0 := g2 0; have y1 := g2 1; have y2 := g2 2; have HG := Lib.hid hg; clear g1 g2 hg))
  go_ret
  exact ⟨_, rfl, rowE_two _ _ _ _ _ _ _ _ _ _ _ rfl, grew_trans HG.out (grew_alloc _ _ _)⟩

end Go.Proofs.Ytlmnbafklefmcaa.NumK
namespace Go.Proofs.Ytlmnbafklefmcaa.NumK
open Go.RowKit

theorem rowI_one (w : World) (n : Int) (t : TypeId) (N : Nat) (hN : w.heap.size = N) : RowE enInt (w.alloc (.cells #[.int .i64 n] t)) (some ⟨N, 0, none⟩) 1 [n] := by
  subst hN
  refine ⟨rfl, fun _ => ⟨_, _, rfl, by simp, fun j hj => ⟨_, rfl, fun i hi => ?_⟩⟩⟩
  have hi : i < 1 := hi
  have hj : j < 1 := hj
  match j, hj, i, hi with
  | 0, _, 0, _ => exact (World.cell?_alloc_at _ _ _ _ rfl).trans rfl

theorem same_any (k m c k' m' c' : Int) (w : World) : Calls Try.prog 59 #[acV k m c, acV k' m' c'] w fun e w' => e = .returned (.bool (sameA k m c k' m' c')) ∧ Grew w w' := by
  unfold acV
  go_enter Try.func59, Try.ntmps59
  go_wp2
  all_goals go_ret
  all_goals exact ⟨ret_b (by rw [Bool.eq_iff_iff]; simp_all [sameA]), grew_trans (grew_alloc _ _ _) (grew_alloc _ _ _)⟩

/-- The amounts of the legs of which p holds. -/
def amts (p : Lg → Bool) (l : List Lg) : List Int := (l.filter p).map (·.2)
theorem amts_snoc (p : Lg → Bool) (l : List Lg) (j : Nat) (h : j < l.length) : amts p (l.take (j + 1)) = amts p (l.take j) ++ if p (l.getD j lg0) then [(l.getD j lg0).2] else [] := by
  unfold amts
  rw [take_snoc l j lg0 h, List.filter_append, List.map_append]
  congr 1
  generalize l.getD j lg0 = x
  cases h : p x
  · simp [h]
  · simp [h]
theorem amts_len (p : Lg → Bool) (l : List Lg) : (amts p l).length ≤ l.length := by
  unfold amts; rw [List.length_map]; exact List.length_filter_le _ _
theorem amts_in (p : Lg → Bool) (l : List Lg) (h : mayL l = true) : ∀ z ∈ amts p l, -9223372036854775808 ≤ z ∧ z ≤ 9223372036854775807 := by
  intro z hz
  unfold amts at hz
  obtain ⟨x, hx, rfl⟩ := List.mem_map.1 hz
  have h1 := (List.all_eq_true.1 h) x (List.mem_filter.1 hx).1
  have := (okL_parts h1).2
  omega
theorem amts_C (l : List Lg) (c : Int) : (amts (fun x => decide (x.1.2.2 = c)) l).sum = sumC l c := rfl
theorem amts_A (l : List Lg) (a : Ac) : (amts (fun x => decide (x.1 = a)) l).sum = sumA l a := rfl
theorem intV_ne (s : Int) : (isMoney s = true ∧ intV s = 0) ↔ s = 0 := by
  unfold intV
  constructor
  · rintro ⟨h1, h2⟩; rw [h1] at h2; exact h2
  · rintro rfl; exact ⟨by decide, by decide⟩

set_option maxRecDepth 100000 in
set_option maxHeartbeats 2000000 in
theorem refCheck_any (A : Option Addr) (n c : Nat) (l : List Lg) (w : World) (h : RowE enLg w A n l) (hn : n ≤ 90000) :
    Calls Try.prog 20 #[.slice A n c] w fun e w' => e = .returned (.int .i64 (checkE l)) ∧ Grew w w' := by
  have HI := Lib.hid h
  have HL := Lib.hid h.len
  have CR := fun w (h : RowE enLg w A n l) => refMay_any A n c l w h (by omega)
  have HE : Hid (checkE l = if n = 0 then 2 else if 64 < n then 5 else if mayL l then (if evenL l then 0 else 12) else 3) := by show _ = _; unfold checkE; rw [h.len]
  generalize checkE l = R at *
  clear h
  by_cases h0 : n = 0
  · have HR : Hid (R = 2) := by show _ = _; rw [HE.out, if_pos h0]
    subst h0
    go_enter Try.func20, Try.ntmps20
    go_wp2
    go_ret
    exact ⟨ret_i HR.out.symm, grew_refl _⟩
  · have d0 : ((n : Int) == 0) = false := by simp; omega
    by_cases h1 : 64 < n
    · have HR : Hid (R = 5) := by show _ = _; rw [HE.out, if_neg h0, if_pos h1]
      have i1 : (64 : Int) < (n : Int) := by omega
      clear h0
      go_enter Try.func20, Try.ntmps20
      go_wp2
      go_ret
      exact ⟨ret_i HR.out.symm, grew_refl _⟩
    · have HR1 : Hid (R = if mayL l then (if evenL l then 0 else 12) else 3) := by show _ = _; rw [HE.out, if_neg h0, if_neg h1]
      have i1 : ¬ (64 : Int) < (n : Int) := by omega
      clear h0 HE
      by_cases hm : mayL l = true
      · rw [hm] at CR
        have HR2 : Hid (R = if evenL l then 0 else 12) := by show _ = _; rw [HR1.out, hm]; rfl
        have HM := Lib.hid hm
        have HEV : Hid ((∀ q : Nat, q < 3 → sumC l q = 0) → R = 0) := fun h => by
          rw [HR2.out]; unfold evenL; rw [show sumC l 0 = 0 from h 0 (by omega), show sumC l 1 = 0 from h 1 (by omega), show sumC l 2 = 0 from h 2 (by omega)]; rfl
        have HNE : Hid (∀ q : Nat, q < 3 → ¬ sumC l q = 0 → R = 12) := fun q hq h => by
          rw [HR2.out, if_neg]
          unfold evenL
          have : q = 0 ∨ q = 1 ∨ q = 2 := by omega
          rcases this with rfl | rfl | rfl
          · simp only [Bool.and_eq_true, decide_eq_true_eq]; exact fun hh => h hh.1.1
          · simp only [Bool.and_eq_true, decide_eq_true_eq]; exact fun hh => h hh.1.2
          · simp only [Bool.and_eq_true, decide_eq_true_eq]; exact fun hh => h hh.2
        clear HR1 HR2 hm
        go_enter Try.func20, Try.ntmps20
        go_wp2_with (go_at_call 38; ((with_reducible refine (CR _ HI.out).mono ?_); rintro e w1 ⟨rfl, hg⟩; have HG1 := Lib.hid hg; clear hg CR))
        go_loopw [3] (fun v3 wr => ∃ q : Nat, v3 = .int .i64 q ∧ q ≤ 3 ∧ Hid (∀ i : Nat, i < q → sumC l i = 0) ∧ Hid (Grew w wr)) (fun v3 _ => 3 - (intOf v3).toNat)
        case atStart => exact ⟨0, rfl, by omega, (by intro i hi; omega), HG1.out⟩
        case round =>
          clear HG1
          obtain ⟨q, rfl, hq, HQ, HG⟩ := hrel
          generalize wr = wo at *
          by_cases hq3 : q < 3
          · have i9 : (q : Int) < 3 := by omega
            go_wp2
            go_loopw [4, 5] (fun v4 v5 wx => ∃ j : Nat, v5 = .int .i64 j ∧ j ≤ n ∧ Hid (OwnE enInt wx wo.heap.size 3 v4 (amts (fun x => decide (x.1.2.2 = (q : Int))) (l.take j))) ∧ Hid (Grew wo wx)) (fun _ v5 _ => n - (intOf v5).toNat)
            case atStart => exact ⟨0, rfl, by omega, OwnE.nil enInt _ _ _, grew_refl _⟩
            case round =>
              obtain ⟨j, rfl, hj, HO, HG2⟩ := hrel
              by_cases hlt : j < n
              · have hjl : j < l.length := by rw [HL.out]; exact hlt
                obtain ⟨b, o, rfl, hb, a1, a2, a3, a4⟩ := (HI.out.keep (grew_trans HG.out HG2.out)).lg hlt
                have HA := Lib.hid (amts_snoc (fun x => decide (x.1.2.2 = (q : Int))) l j hjl)
                have HAL : Hid ((amts (fun x => decide (x.1.2.2 = (q : Int))) (l.take j)).length ≤ 90000) := by show _ ≤ _; have := amts_len (fun x => decide (x.1.2.2 = (q : Int))) (l.take j); rw [List.length_take] at this; omega
                have i2 : (j : Int) < (n : Int) := by omega
                have i3 : (0 : Int) ≤ (j : Int) := by omega
                have HSZ : Hid (wo.heap.size ≤ wr.heap.size) := HG2.out.size
                clear hb a1 a2
                generalize l.getD j lg0 = x at *
                by_cases hc : x.1.2.2 = (q : Int)
                · have HA1 : Hid (amts (fun x => decide (x.1.2.2 = (q : Int))) (l.take (j + 1)) = amts (fun x => decide (x.1.2.2 = (q : Int))) (l.take j) ++ [x.2]) := by show _ = _; rw [HA.out, if_pos (by simpa using hc)]
                  rw [hc] at a3
                  clear HA hc
                  generalize x.2 = q4 at *
                  go_wp2_with (at_builtin; refine (wpList_append_E rfl _ _ 52 3 (.int .i64 0) 8 rfl Try.underlying52 info_int1 rfl wo.heap.size _ _ rfl (HO.out.keep (grew_alloc _ _ _)) _ 1 1 [q4] rfl (by intro h; cases h) (rowI_one _ _ _ _ rfl) (by have := HAL.out; unfold maxLen; omega) (by have := HAL.out; omega) (Nat.le_trans HSZ.out (grew_alloc wr _ _).size) ?_); intro v6 w6 hv hb6; rw [← HA1.out] at hv; have HV6 := Lib.hid hv; have HG6 : Hid (Grew wo w6) := Below.trans (grew_trans HG2.out (grew_alloc _ _ _)) hb6; clear hv hb6)
                  go_roundw
                  case rel => exact ⟨j + 1, by go_num, by omega, HV6.out, HG6.out⟩
                  case measure => simp only [intOf]; omega
                · have HA1 : Hid (amts (fun x => decide (x.1.2.2 = (q : Int))) (l.take (j + 1)) = amts (fun x => decide (x.1.2.2 = (q : Int))) (l.take j)) := by show _ = _; rw [HA.out, if_neg (by simpa using hc), List.append_nil]
                  rw [← HA1.out] at HO
                  have d1 : (x.1.2.2 == (q : Int)) = false := by simpa using hc
                  clear HA hc
                  generalize x.1.2.2 = q3 at *
                  go_wp2
                  go_roundw
                  case rel => exact ⟨j + 1, by go_num, by omega, HO.out, HG2.out⟩
                  case measure => simp only [intOf]; omega
              · obtain rfl : j = n := by omega
                rw [List.take_of_length_le (by rw [HL.out]; exact Nat.le_refl _)] at HO
                obtain ⟨A3, c3, rfl, hr3, _⟩ := HO.out.form
                have CA := add_any A3 _ c3 _ wr (ints_of_E hr3) (amts_in _ l HM.out) (Nat.le_trans (amts_len _ l) (by rw [HL.out]; omega))
                rw [amts_C] at CA
                have HNE1 := Lib.hid (HNE.out q hq3)
                have HQ1 : Hid (sumC l q = 0 → ∀ i : Nat, i < q + 1 → sumC l i = 0) := fun h i hi => by
                  rcases Nat.lt_or_ge i q with h1 | h1
                  · exact HQ.out i h1
                  · obtain rfl : i = q := by omega
                    exact h
                have HIV := Lib.hid (intV_ne (sumC l q))
                generalize (amts (fun x => decide (x.1.2.2 = (q : Int))) l).length = N3 at *
                clear hr3 HO
                generalize sumC l (q : Int) = s at *
                by_cases hs : s = 0
                · have HQ2 := Lib.hid (HQ1.out hs)
                  obtain ⟨e1, e2⟩ := HIV.out.2 hs
                  rw [e1, e2] at CA
                  clear HQ1 HNE1 HIV hs e1 e2
                  go_wp2_with (go_at_call 29; ((with_reducible refine CA.mono ?_); rintro e w7 ⟨rfl, hg⟩; have HG7 := Lib.hid (grew_trans HG.out (grew_trans HG2.out hg)); clear hg CA))
                  go_roundw
                  case rel => exact ⟨q + 1, by go_num, by omega, HQ2.out, HG7.out⟩
                  case measure => simp only [intOf]; omega
                · have HR12 := Lib.hid (HNE1.out hs)
                  cases hmm : isMoney s
                  · rw [hmm] at CA
                    clear HQ1 HNE1 HIV hs hmm
                    generalize intV s = iv at *
                    go_wp2_with (go_at_call 29; ((with_reducible refine CA.mono ?_); rintro e w7 ⟨rfl, hg⟩; have HG7 := Lib.hid (grew_trans HG.out (grew_trans HG2.out hg)); clear hg CA))
                    go_ret
                    exact ⟨ret_i HR12.out.symm, HG7.out⟩
                  · rw [hmm, intV_in hmm] at CA
                    have d1 : (s != 0) = true := by simpa using hs
                    clear HQ1 HNE1 HIV hs hmm
                    go_wp2_with (go_at_call 29; ((with_reducible refine CA.mono ?_); rintro e w7 ⟨rfl, hg⟩; have HG7 := Lib.hid (grew_trans HG.out (grew_trans HG2.out hg)); clear hg CA))
                    go_ret
                    exact ⟨ret_i HR12.out.symm, HG7.out⟩
          · obtain rfl : q = 3 := by omega
            have HR0 := Lib.hid (HEV.out HQ.out)
            go_wp2
            go_ret
            exact ⟨ret_i HR0.out.symm, HG.out⟩
      · rw [Bool.not_eq_true] at hm
        rw [hm] at CR
        have HR2 : Hid (R = 3) := by show _ = _; rw [HR1.out, hm]; rfl
        clear HR1 hm
        go_enter Try.func20, Try.ntmps20
        go_wp2_with (go_at_call 38; ((with_reducible refine (CR _ HI.out).mono ?_); rintro e w1 ⟨rfl, hg⟩; have HG1 := Lib.hid hg; clear hg))
        go_ret
        exact ⟨ret_i HR2.out.symm, HG1.out⟩
end Go.Proofs.Ytlmnbafklefmcaa.NumK
namespace Go.Proofs.Ytlmnbafklefmcaa.NumK
open Go.RowKit

/-- A slice of legs that a call owns. -/
structure Mine (w : World) (base : Nat) (A : Option Addr) (n c : Nat) (l : List Lg) : Prop where
  row : RowE enLg w A n l
  nil : A = none → c = 0
  own : OwnE enLg w base 50 (.slice A n c) l
theorem Mine.of {w : World} {base : Nat} {v : Value} {l : List Lg} (h : OwnE enLg w base 50 v l) : ∃ A c, v = .slice A l.length c ∧ Mine w base A l.length c l := by
  obtain ⟨A, c, rfl, hr, hn, _⟩ := h.form
  exact ⟨A, c, rfl, hr, hn, h⟩
theorem Mine.keep {w w' : World} {base : Nat} {A : Option Addr} {n c : Nat} {l : List Lg} (h : Mine w base A n c l) (g : Grew w w') : Mine w' base A n c l := ⟨h.row.keep g, h.nil, h.own.keep g⟩
theorem Mine.slab {w : World} {base : Nat} {A : Option Addr} {n c : Nat} {l : List Lg} (h : Mine w base A n c l) : n = 0 ∨ ∃ g, A = some ⟨g, 0, none⟩ ∧ base ≤ g ∧ Slab w g (n * 4) := by
  obtain ⟨A', c', e, h2⟩ := h.own.slab
  have hl := h.row.len
  cases e
  rcases h2 with h2 | h2
  · left; omega
  · right; rw [hl] at h2; exact h2

end Go.Proofs.Ytlmnbafklefmcaa.NumK
namespace Go.Proofs.Ytlmnbafklefmcaa.NumK
open Go.RowKit Go.Maps
set_option linter.unusedVariables false

def legsV (l : List Dn) : List Lg := l.flatMap fun d => [varN d, cashN d]
theorem legsV_snoc (l : List Dn) (d : Dn) : legsV (l ++ [d]) = legsV l ++ [varN d, cashN d] := by unfold legsV; rw [List.flatMap_append]; simp
theorem legsV_len (l : List Dn) : (legsV l).length = 2 * l.length := by
  induction l with
  | nil => rfl
  | cons d l ih =>
    show (varN d :: cashN d :: legsV l).length = _
    rw [List.length_cons, List.length_cons, List.length_cons, ih]; omega
theorem legsV_may (l : List Dn) : mayL (legsV l) = mayL (legsN l) := by
  induction l with
  | nil => rfl
  | cons d l ih =>
    show (okL (varN d) && (okL (cashN d) && mayL (legsV l))) = (okL (cashN d) && (okL (varN d) && mayL (legsN l)))
    rw [ih]
    cases okL (varN d) <;> cases okL (cashN d) <;> rfl
theorem legsV_sum (l : List Dn) (a : Ac) : sumA (legsV l) a = sumA (legsN l) a := by
  induction l with
  | nil => rfl
  | cons d l ih =>
    show sumA (varN d :: cashN d :: legsV l) a = sumA (cashN d :: varN d :: legsN l) a
    rw [sumA_cons, sumA_cons, sumA_cons, sumA_cons, ih]
    omega
theorem legsV_join (l : List Dn) : joinE (legsV l) = joinE (legsN l) ∧ joinL (legsV l) = joinL (legsN l) := join_congr (legsV_may l) (legsV_sum l)
theorem legsV_succ (l : List Dn) (j : Nat) (h : j < l.length) : legsV (l.take (j + 1)) = legsV (l.take j) ++ [varN (l.getD j (0, 0, 0)), cashN (l.getD j (0, 0, 0))] := by
  rw [List.take_succ_eq_append_getElem h, legsV_snoc, getD_at l (0, 0, 0) j h]
theorem move_due {d : Dn} (h : okD d = true) : moveL (5, 0, d.2.1) (2, d.1, d.2.1) d.2.2 = [varN d, cashN d] := by
  have e : capV d.2.2 = d.2.2 := by unfold capV; unfold okD at h; rw [h]; rfl
  unfold moveL varN cashN
  rw [e]

def NlPost (l : List D3) (w : World) (e : Ending) (w' : World) : Prop := ∃ v, e = .returned (.tuple #[v, .int .i64 (nlE l)]) ∧ OwnE enLg w' w.heap.size 50 v (nlL l) ∧ Grew w w'
theorem nlP_arg {l : List D3} {w w' : World} (h : l.all heldD = false) (g : Grew w w') : NlPost l w (.returned (.tuple #[.slice none 0 0, .int .i64 3])) w' := by
  have e : nlE l = 3 := by unfold nlE; rw [h]; rfl
  refine ⟨_, by rw [e], ?_, g⟩
  unfold nlL; rw [e]; exact OwnE.nil _ _ _ _
theorem nlP_net {l : List D3} {w w' : World} (h : l.all heldD = true) (hz : netE l ≠ 0) (g : Grew w w') : NlPost l w (.returned (.tuple #[.slice none 0 0, .int .i64 (netE l)])) w' := by
  have e : nlE l = netE l := by unfold nlE; rw [if_pos h, if_neg hz]
  refine ⟨_, by rw [e], ?_, g⟩
  unfold nlL; rw [e, if_neg hz]; exact OwnE.nil _ _ _ _
theorem nlP_join {l : List D3} {w w' : World} {v : Value} (h : l.all heldD = true) (hz : netE l = 0) (ho : OwnE enLg w' w.heap.size 50 v (joinL (legsN (netF l)))) (g : Grew w w') : NlPost l w (.returned (.tuple #[v, .int .i64 (joinE (legsN (netF l)))])) w' := by
  have e : nlE l = joinE (legsN (netF l)) := by unfold nlE; rw [if_pos h, if_pos hz]
  refine ⟨_, by rw [e], ?_, g⟩
  unfold nlL
  rw [e]
  by_cases h0 : joinE (legsN (netF l)) = 0
  · rw [if_pos h0]; exact ho
  · rw [if_neg h0]
    unfold joinL at ho
    rw [if_neg h0] at ho
    exact ho

set_option maxRecDepth 100000 in
set_option maxHeartbeats 8000000 in
theorem nlegs_any (A : Option Addr) (n c : Nat) (l : List D3) (w : World) (h : RowE enD3 w A n l) (hk : ∀ x ∈ l, okDk (keyD x) = true) (hn : n ≤ 100000) :
    Calls Try.prog 15 #[.slice A n c] w (NlPost l w) := by
  have C := ncontainsH A n c l w h (by omega)
  rw [anyH] at C
  cases hok : l.all heldD
  · rw [hok] at C
    have HNO : Hid (∀ w', Grew w w' → NlPost l w (.returned (.tuple #[.slice none 0 0, .int .i64 3])) w') := fun w' g => nlP_arg hok g
    generalize NlPost l w = PP at *
    clear h hk
    go_enter Try.func15, Try.ntmps15
    go_wp2_with (go_at_call 30; ((with_reducible refine C.mono ?_); rintro e w1 ⟨rfl, hg⟩; have HG0 := Lib.hid hg; clear hg))
    exact HNO.out _ HG0.out
  rw [hok] at C
  have CN := fun w' (g : Grew w w') => net_any A n c l w' (h.keep g) hk hn
  have HLN : Hid ((netF l).length ≤ n) := by show _ ≤ _; rw [← h.len]; exact len_net l
  unfold NetPost at CN
  clear h hk
  by_cases hz : netE l = 0
  · have HMO : Hid (∀ j, j < (netF l).length → okD ((netF l).getD j (0, 0, 0)) = true) := fun j hj => List.all_eq_true.1 (net_money hz) _ (getD_mem _ (0, 0, 0) j hj)
    have HYES : Hid (∀ w' v, OwnE enLg w' w.heap.size 50 v (joinL (legsN (netF l))) → Grew w w' → NlPost l w (.returned (.tuple #[v, .int .i64 (joinE (legsN (netF l)))])) w') := fun w' v ho g => nlP_join hok hz ho g
    rw [netL_ok hz, hz] at CN
    rw [← (legsV_join (netF l)).1, ← (legsV_join (netF l)).2] at HYES
    clear hok hz
    generalize NlPost l w = PP at *
    generalize netF l = m at *
    go_enter Try.func15, Try.ntmps15
    go_wp2_with (first
      | (go_at_call 30; ((with_reducible refine C.mono ?_); rintro e w1 ⟨rfl, hg⟩; have HG0 := Lib.hid hg; clear hg))
      | (go_at_call 9; ((with_reducible refine (CN _ HG0.out).mono ?_); rintro e w2 ⟨v2, rfl, ho2, hg2⟩; obtain ⟨B, d, rfl, hrB, -, -, -⟩ := ho2.form; have HRB := Lib.hid hrB; have HGW := Lib.hid (grew_trans HG0.out hg2); clear ho2 hrB hg2)))
    clear C CN HG0
    generalize w2 = wC at *
    go_loopw [6, 21] (fun v6 v21 wr => ∃ j : Nat, v21 = .int .i64 j ∧ j ≤ m.length ∧ Hid (OwnE enLg wr wC.heap.size 50 v6 (legsV (m.take j))) ∧ Hid (Grew wC wr)) (fun _ v21 _ => m.length - (intOf v21).toNat)
    case atStart => exact ⟨0, rfl, by omega, OwnE.nil _ _ _ _, grew_refl _⟩
    case round =>
      obtain ⟨j, rfl, hj, HO, HG⟩ := hrel
      have hj9 : j ≤ 100000 := by have := HLN.out; omega
      by_cases hlt : j < m.length
      · obtain ⟨b, o, rfl, hb, hc⟩ := (HRB.out.keep HG.out).rD3 hlt
        obtain ⟨a0, a1, a2⟩ := hc j hlt
        have HS := Lib.hid (legsV_succ m j hlt)
        have HLL : Hid ((legsV (m.take j)).length ≤ 200000) := by show _ ≤ _; rw [legsV_len, List.length_take]; omega
        have HMV := Lib.hid (move_due (HMO.out j hlt))
        have i0 : (0 : Int) ≤ (j : Int) := by omega
        have i1 : (j : Int) < (m.length : Int) := by omega
        clear hc hb HYES HMO
        generalize legsV (m.take j) = lj at *
        generalize m.getD j (0, 0, 0) = x at *
        obtain ⟨q1, q2, q3⟩ := x
        dsimp only at a0 a1 a2 HMV
        have CM := fun w => move_any 5 0 q2 2 q1 q2 q3 w
        rw [HMV.out] at CM
        have CC := fun w => cash_any (q1, q2, q3) w
        unfold acV at CM
        dsimp only [vD3] at CC
        have HPN := Lib.hid (OwnC.new wr [.int .i64 q1, .int .i64 q2, .int .i64 q3] 42 _ rfl)
        have HGA : Hid (Grew wC (wr.alloc (.cells #[.int .i64 q1, .int .i64 q2, .int .i64 q3] 42))) := grew_trans HG.out (grew_alloc _ _ _)
        have HOA := Lib.hid (HO.out.keep (grew_alloc wr #[.int .i64 q1, .int .i64 q2, .int .i64 q3] 42))
        have HVL : Hid (∀ g, u6.ownBlock = some g → g < wr.heap.size) := fun g e => (World.ownsRow.lt HO.out g e).2
        go_upto_region 10 with fail
        have hN : wr.heap.size < (wr.alloc (.cells #[.int .i64 q1, .int .i64 q2, .int .i64 q3] 42)).heap.size := by simp
        generalize wr.alloc (.cells #[.int .i64 q1, .int .i64 q2, .int .i64 q3] 42) = wa at *
        generalize wr.heap.size = N at *
        have HVN : Hid (∀ w1 w2 : World, w1.grownBy w2 u6.ownBlock → wa.heap.size ≤ w1.heap.size → ∀ i, w2.cell? ⟨N, i, none⟩ = w1.cell? ⟨N, i, none⟩) := fun w1 w2 hg hs i => hg.cell_far ⟨N, i, none⟩ (Nat.lt_of_lt_of_le hN hs) (fun e => by have := HVL.out N e.symm; omega)
        have HCL : Hid (∀ w', Grew wa w' → (w'.cell? ⟨N, 0, none⟩ = some (.int .i64 q1) ∧ w'.cell? ⟨N, 1, none⟩ = some (.int .i64 q2) ∧ w'.cell? ⟨N, 2, none⟩ = some (.int .i64 q3))) := fun w' g => ⟨(HPN.out.keep g).at 0 _ rfl, (HPN.out.keep g).at 1 _ rfl, (HPN.out.keep g).at 2 _ rfl⟩
        clear HPN HO HG
        go_region_held3 (fun w' => w'.cell? ⟨N, 0, none⟩ = some (.int .i64 q1) ∧ w'.cell? ⟨N, 1, none⟩ = some (.int .i64 q2) ∧ w'.cell? ⟨N, 2, none⟩ = some (.int .i64 q3))
          (first
            | (with_reducible exact HCL.out _ (grew_drew (grew_refl _)))
            | (with_reducible exact HCL.out _ HG3.out)
            | (with_reducible exact HCL.out _ HG4.out)
            | (with_reducible exact HS5.out))
          (first
            | (go_at_call 33; ((with_reducible refine (CC _).mono ?_); rintro e w3 ⟨rfl, hg⟩; have HG3 : Hid (Grew wa w3) := grew_trans (grew_drew (grew_refl _)) hg; clear hg))
            | (go_at_call 32; ((with_reducible refine (CM _).mono ?_); rintro e w4 ⟨A4, rfl, hr, hg⟩; have HG4 : Hid (Grew wa w4) := grew_trans HG3.out hg; obtain ⟨b4, o4, rfl, -⟩ := hr.at (by omega); have HR4 := Lib.hid hr; clear hg hr))
            | (refine step_append_G rfl _ _ 33 50 (legV 0 0 0 0) 32 rfl Try.underlying33 info_lg rfl wC.heap.size _ lj (by rfl) (HOA.out.keep HG4.out) ⟨b4, o4, none⟩ 2 2 [varN (q1, q2, q3), cashN (q1, q2, q3)] (by rfl) HR4.out (by have := HLL.out; unfold maxLen; omega) (by have := HLL.out; omega) (Nat.le_trans HGA.out.size HG4.out.size) ?_; intro v5 w5 ho hb hgb; have HO5 := Lib.hid ho; have HG5 : Hid (Grew wC w5) := Below.trans (grew_trans HGA.out HG4.out) hb; have HS5 : Hid (w5.cell? ⟨N, 0, none⟩ = some (.int .i64 q1) ∧ w5.cell? ⟨N, 1, none⟩ = some (.int .i64 q2) ∧ w5.cell? ⟨N, 2, none⟩ = some (.int .i64 q3)) := ⟨(HVN.out _ _ hgb HG4.out.size 0).trans (HCL.out _ HG4.out).1, (HVN.out _ _ hgb HG4.out.size 1).trans (HCL.out _ HG4.out).2.1, (HVN.out _ _ hgb HG4.out.size 2).trans (HCL.out _ HG4.out).2.2⟩; clear ho hb hgb))
        rw [← HS.out] at HO5
        go_wp2
        go_roundw
        case rel => exact ⟨j + 1, by go_num, by omega, HO5.out, HG5.out⟩
        case measure => simp only [intOf]; omega
      · obtain rfl : j = m.length := by omega
        rw [List.take_length] at HO
        have CJ := fun (B2 : Option Addr) (d2 : Nat) w' (hr : RowE enLg w' B2 (legsV m).length (legsV m)) => ejoin_any B2 _ d2 (legsV m) w' hr (by rw [legsV_len]; omega)
        obtain ⟨B2, d2, rfl, hr2, -, -, -⟩ := HO.out.form
        have C2 := CJ B2 d2 _ hr2
        clear CJ hr2 HMO
        generalize (legsV m).length = n5 at *
        go_wp2_with (go_at_call 34; ((with_reducible refine C2.mono ?_); rintro e w7 ⟨v7, rfl, ho7, hg7⟩; have HO7 := Lib.hid ho7; have HG7 := Lib.hid hg7; clear ho7 hg7))
        exact HYES.out _ _ (HO7.out.mono (grew_trans HGW.out HG.out).size) (grew_trans (grew_trans HGW.out HG.out) HG7.out)
  · have HNO : Hid (∀ w', Grew w w' → NlPost l w (.returned (.tuple #[.slice none 0 0, .int .i64 (netE l)])) w') := fun w' g => nlP_net hok hz g
    have d0 : (netE l == 0) = false := by simpa using hz
    clear hok hz HLN
    generalize netE l = E at *
    generalize NlPost l w = PP at *
    go_enter Try.func15, Try.ntmps15
    go_wp2_with (first
      | (go_at_call 30; ((with_reducible refine C.mono ?_); rintro e w1 ⟨rfl, hg⟩; have HG0 := Lib.hid hg; clear hg))
      | (go_at_call 9; ((with_reducible refine (CN _ HG0.out).mono ?_); rintro e w2 ⟨v2, rfl, ho2, hg2⟩; have HGW := Lib.hid (grew_trans HG0.out hg2); clear ho2 hg2)))
    exact HNO.out _ HGW.out
end Go.Proofs.Ytlmnbafklefmcaa.NumK
