/-
  For the book that any acts have made, any key, amount and price: what is torn up of the position, with all that bear it, takes just so much from it, no position is greater behind it or turns round, and the legs may be added, or are too big; more than 500 acts and prices that may not be the statement lets by.
-/
import Derived.Test.YtahioajpmlochaaGreatRH19
import Derived.Test.YtahioajpmlochaaGreatRH24
import Derived.Test.YtahioajpmlochaaGreatRH25
import Derived.Test.YtahioajpmlochaaGreatRH15
import Derived.Test.YtahioajpmlochaaGreatRH28
import Derived.Test.YtahioajpmlochaaGreatRH29
import Derived.Test.YtahioajpmlochaaGreatRows
import Derived.WalkKit
import Derived.ProofKit
import Derived.OpenShut
import Derived.ShutString
import Derived.ChangeOld
import Derived.Below
import Derived.Carry
namespace Go.Proofs.YtahioajpmlochaaGreat.NumK
open Go.RowKit
set_option linter.unusedVariables false

/-- A fill at another price. -/
def setp (c : Int) (f : Fi) : Fi := (f.1, f.2.1, c)
theorem torn_len : ∀ (xs : List Po) (ps : List Int) (c : Int), (tornF xs ps c).length ≤ xs.length
  | [], _, _ => by simp [tornF]
  | x :: xs, [], _ => by simp [tornF]
  | x :: xs, p :: ps, c => by
    rw [tornF]
    have := torn_len xs ps c
    split
    · rw [List.length_cons, List.length_cons]; omega
    · rw [List.length_cons]; omega

set_option maxRecDepth 100000 in
set_option maxHeartbeats 32000000 in
theorem auctionTorn_walk (A : Option Addr) (n c : Nat) (l : List Ac13) (k : Ky) (pn price : Int) (w : World) (h : RowE enAc13 w A n l) (hpn : in64 pn) :
    Calls Tryz.prog 3 #[.slice A n c, .agg #[.int .i64 k.1, .int .i64 k.2], .int .i64 pn, .int .i64 price] w fun e w' => e = .returned (.bool true) ∧ Grew w w' := by
  have HI := Lib.hid h
  have CW := fun w => wakes19_any w
  have CG := fun (hn : n ≤ 100000) w' (g : Grew w w') => grown13_any A n c l w' (h.keep g) hn
  have hgb := GB.grow l 100
  have hgs := GS.grow l 100
  unfold BookP at CG
  clear h
  generalize growL (l.take 100) = G at *
  have hright := hgb.right
  have hps := hgb.poss
  have hlen := right_lens hright
  have hpi := (rightPs_iff _).1 hps
  have hof := of_sum hpi.2.1 (right_keys hps) k
  have HGS : Hid (GS G.2.2 209715200) := hgs.mono (by omega)
  clear hgs hpi hgb
  obtain ⟨k1, k2⟩ := k
  dsimp only at hof ⊢
  have HX0 : Hid (OwnC (w.alloc (.cells #[.int .i64 k1, .int .i64 k2] 24)) w.heap.size [.int .i64 k1, .int .i64 k2]) := OwnC.new w [.int .i64 k1, .int .i64 k2] _ _ rfl
  have HG0 : Hid (Grew w (w.alloc (.cells #[.int .i64 k1, .int .i64 k2] 24))) := grew_alloc _ _ _
  go_enter Tryz.func3, Tryz.ntmps3
  go_upto_region 1 with (fail)
  generalize w.alloc (.cells #[.int .i64 k1, .int .i64 k2] 24) = w0 at *
  generalize w.heap.size = N0 at *
  by_cases hn : n > 500
  · have j1 : (n : Int) > 500 := by omega
    clear CW CG
    go_wp2
    go_ret
    exact ⟨rfl, HG0.out⟩
  have j1 : ¬ (n : Int) > 500 := by omega
  by_cases hp0 : price < 0
  · clear CW CG
    go_wp2
    go_ret
    exact ⟨rfl, HG0.out⟩
  by_cases hp1 : price > 1073741824
  · clear CW CG
    go_wp2
    go_ret
    exact ⟨rfl, HG0.out⟩
  have CG1 := CG (by omega) w0 HG0.out
  have HR := Lib.hid hright
  have HPS := Lib.hid hps
  obtain ⟨q, hq⟩ : ∃ q, q = qK G.2.2 (k1, k2) := ⟨_, rfl⟩
  obtain ⟨cc, hcc⟩ : ∃ cc, cc = cK G.2.2 (k1, k2) := ⟨_, rfl⟩
  rw [← hq, ← hcc] at hof
  have HQ := Lib.hid hq
  clear hq hcc
  have HOF := Lib.hid hof
  have hf1 : ∀ w : World, (Instr.field 31 (.agg #[.int .i64 k1, .int .i64 k2, .int .i64 q, .int .i64 cc]) 1).run Tryz.prog w = .ok (.int .i64 q) w := fun _ => by kernel_rfl
  obtain ⟨hl1, hl2⟩ := hlen
  clear CG hright hps hof
  have CO := fun A1 A2 c1 c2 w' (ho : InB w' G A1 A2 G.2.1.length G.2.2.length c1 c2) => rof_any G A1 A2 _ _ c1 c2 k1 k2 w' ho (by omega)
  have CT := fun A1 A2 c1 c2 w' m (ho : InB w' G A1 A2 G.2.1.length G.2.2.length c1 c2) hm0 hm1 hs => tear_any G A1 A2 _ _ c1 c2 k1 k2 q cc m w' ho HR.out HOF.out hm0 hm1 hs
  rw [HOF.out] at CO
  dsimp only [vBk, vPo] at CO CT CG1
  generalize hNX : G.1 = nx at *
  generalize hLT : G.2.1.length = nt at *
  generalize hLP : G.2.2.length = np at *
  go_upto_region 4 with (go_at_call 4; ((with_reducible refine CG1.mono ?_); rintro e w1 ⟨B1, B2, d1, d2, rfl, hb, hg⟩; have HB1 := Lib.hid (hb.in.keep (grew_alloc w1 #[.int .i64 nx, .slice B1 nt d1, .slice B2 np d2] 28)); have HX1 := Lib.hid (OwnC.new w1 [.int .i64 nx, .slice B1 nt d1, .slice B2 np d2] 28 _ rfl); have HK1 := Lib.hid ((HX0.out.keep hg).keep (grew_alloc w1 #[.int .i64 nx, .slice B1 nt d1, .slice B2 np d2] 28)); have HG1 := Lib.hid (grew_trans hg (grew_alloc w1 #[.int .i64 nx, .slice B1 nt d1, .slice B2 np d2] 28)); clear hb hg CG1))
  generalize w1.alloc (.cells #[.int .i64 nx, .slice B1 nt d1, .slice B2 np d2] 28) = w2 at *
  generalize w1.heap.size = NB at *
  have HGW := Lib.hid (grew_trans HG0.out HG1.out)
  rw [hLT, hLP] at HB1
  clear HX0 HG0 HG1
  have x0 := HX1.out.at 0 _ rfl; have x1 := HX1.out.at 1 _ rfl; have x2 := HX1.out.at 2 _ rfl
  have z0 := HK1.out.at 0 _ rfl; have z1 := HK1.out.at 1 _ rfl
  have CO1 := CO B1 B2 d1 d2 w2 HB1.out
  go_upto_region 5 with (go_at_call 5; ((with_reducible refine CO1.mono ?_); rintro e w3 ⟨rfl, hg⟩; have HG3 := Lib.hid hg; clear hg CO1))
  clear x0 x1 x2 z0 z1 CO
  have HB3 := Lib.hid (HB1.out.keep HG3.out)
  have HX3 := Lib.hid (HX1.out.keep HG3.out)
  have HK3 := Lib.hid (HK1.out.keep HG3.out)
  have HGV := Lib.hid (grew_trans HGW.out HG3.out)
  clear HB1 HX1 HK1 HGW HG3
  have x0 := HX3.out.at 0 _ rfl; have x1 := HX3.out.at 1 _ rfl; have x2 := HX3.out.at 2 _ rfl
  have z0 := HK3.out.at 0 _ rfl; have z1 := HK3.out.at 1 _ rfl
  have CTZ := fun m => CT B1 B2 d1 d2 w3 m HB3.out
  clear CT hf1
  by_cases hz : q = 0
  · subst hz
    have CT0 := CTZ 0 (by omega) (by omega) (by rw [(oth_zero G.2.2 k2).2]; simp)
    rw [(oth_zero G.2.2 k2).1, (oth_zero G.2.2 k2).2] at CT0
    have CT1 := CT0.mono (fun e w' h => show ∃ A c, e = .returned (.tuple #[.slice A 0 c, .int .i64 0]) ∧ Grew w3 w' from by
      obtain ⟨v, s, t, h1, _, h3, h4⟩ := h
      rw [show ∀ ps, tornF [] ps 0 = [] from fun ps => by simp [tornF]] at h3
      obtain ⟨A, c, rfl, _⟩ := h3.form
      exact ⟨A, c, h1, h4⟩)
    clear CT0 CTZ
    go_wp2_with (first
      | (go_at_call 6; ((with_reducible refine CT1.mono ?_); rintro e w4 ⟨A4, c4, rfl, hg⟩; have HG4 := Lib.hid hg; clear hg CT1))
      | (go_at_call 7; ((with_reducible refine (CW _).mono ?_); rintro e w9 ⟨rfl, hg⟩)))
    go_ret
    exact ⟨rfl, grew_trans HGV.out (grew_trans HG4.out hg)⟩
  · have hz2 : (q == 0) = false := by simpa using hz
    obtain ⟨x, hxm, hxk, hxq⟩ := has_pos HPS.out (k := (k1, k2)) (by rw [← HQ.out]; exact hz)
    rw [← HQ.out] at hxq
    have hxn : x.2.1 = k2 := by have := congrArg Prod.snd hxk; exact this
    have hb28 := HGS.out.at HPS.out hxm
    have hmay := oth_may HPS.out hxm
    rw [hxq] at hb28 hmay
    rw [hxn] at hmay
    have hbq : -209715200 ≤ q ∧ q ≤ 209715200 := by unfold absA at hb28; omega
    have hap : 1 ≤ absA q := by unfold absA; omega
    have HXM := Lib.hid hxm
    have HXK := Lib.hid hxk
    have HXQ := Lib.hid hxq
    have HXN := Lib.hid hxn
    clear hxm hxk hxq hxn
    obtain ⟨hbq1, hbq2⟩ := hbq
    have e1 : IntKind.i64.wrap (-q) = -q := by rw [IntKind.wrap_i64]; omega
    clear x0 x1 x2 z0 z1
    go_upto_region 8 with (fail)
    go_cut [13] (fun s13 wx => s13 = .int .i64 (absA q) ∧ w3 = wx)
    case first =>
      by_cases hm : q < -q
      · have hm2 : max q (-q) = -q := by omega
        have HM : Hid (absA q = -q) := by show absA q = -q; unfold absA; exact hm2
        have hm3 : q ≤ -q := by omega
        clear hap hb28 hmay
        go_wp2_with (fail)
        go_meet
        case rel => exact ⟨by rw [HM.out], rfl⟩
      · have hm2 : max q (-q) = q := by omega
        have HM : Hid (absA q = q) := by show absA q = q; unfold absA; exact hm2
        have hm3 : ¬ q ≤ -q := by omega
        clear hap hb28 hmay
        go_wp2_with (fail)
        go_meet
        case rel => exact ⟨by rw [HM.out], rfl⟩
    case rest =>
    obtain ⟨rfl, rfl⟩ := hcut
    obtain ⟨all, hall⟩ : ∃ a, a = absA q := ⟨_, rfl⟩
    rw [← hall] at hap hb28 hmay ⊢
    have HALL := Lib.hid hall
    clear hall
    go_upto_region 9 with (fail)
    go_cut [14] (fun s14 wx => ∃ m : Int, s14 = .int .i64 m ∧ 1 ≤ m ∧ m ≤ all ∧ w3 = wx)
    case first =>
      have f1 : IntKind.u64.wrap all = all := by rw [IntKind.wrap_u64]; omega
      have f2 : all ≠ 0 := by omega
      have f3 : (all == 0) = false := by simpa using f2
      have f4 : ∀ un : Int, 0 ≤ un → 1 ≤ wrap64 (1 + wrap64 (un.tmod all)) ∧ wrap64 (1 + wrap64 (un.tmod all)) ≤ all := fun un hu => by
        have g1 := Int.emod_nonneg un f2
        have g2 := Int.emod_lt_of_pos un (show 0 < all by omega)
        rw [Int.tmod_eq_emod_of_nonneg hu]
        generalize un % all = r at *
        unfold wrap64
        omega
      have f5 := f4 (IntKind.u64.wrap pn) (by rw [IntKind.wrap_u64]; omega)
      clear f4
      go_wp2_with (fail)
      go_meet
      case rel => exact ⟨_, rfl, f5.1, f5.2, rfl⟩
    case rest =>
    obtain ⟨m, rfl, hm1, hm2, rfl⟩ := hcut
    have hmle : m ≤ (othW G.2.2 k2 q).sum := by omega
    have CT1 := CTZ m (by omega) (by omega) hmle
    clear CTZ
    have x0 := HX3.out.at 0 _ rfl; have x1 := HX3.out.at 1 _ rfl; have x2 := HX3.out.at 2 _ rfl
    have z0 := HK3.out.at 0 _ rfl; have z1 := HK3.out.at 1 _ rfl
    go_upto_region 11 with (go_at_call 6; ((with_reducible refine CT1.mono ?_); rintro e w4 ⟨v, s, t, rfl, hpl, hf, hg⟩; have HPL := Lib.hid hpl; have HF0 := Lib.hid hf; have HG4 := Lib.hid hg; clear hpl hf hg CT1))
    clear x0 x1 x2 z0 z1
    have HBO := Lib.hid (borne_of (l := G.2.2) (n := k2) (q := q) (by omega : (0:Int) ≤ m) hmle HPL.out)
    generalize (List.range (othW G.2.2 k2 q).length).map (pt m (othW G.2.2 k2 q) t) = ps at *
    clear HPL hmle hmay
    have HFM := Lib.hid (torn_price (othP G.2.2 k2 q) ps 0 price)
    have htl := torn_len (othP G.2.2 k2 q) ps 0
    have hol : (othP G.2.2 k2 q).length ≤ np := by rw [← hLP]; exact List.length_filter_le _ _
    obtain ⟨F0, hF0⟩ : ∃ f, f = tornF (othP G.2.2 k2 q) ps 0 := ⟨_, rfl⟩
    rw [← hF0] at HF0 HFM htl
    obtain ⟨D, d, rfl, _⟩ := HF0.out.form
    obtain ⟨nf, hnf⟩ : ∃ n, n = F0.length := ⟨_, rfl⟩
    rw [← hnf] at HF0 htl ⊢
    have HNF := Lib.hid hnf
    have hnf2 : nf ≤ 128 := by omega
    clear hnf hF0 htl hol
    obtain ⟨bs, hbs⟩ : ∃ b, b = w3.heap.size := ⟨_, rfl⟩
    rw [← hbs] at HF0
    have HBS := Lib.hid hbs
    clear hbs
    go_upto_block 0 with (fail)
    go_wp2
    go_loopw [17] (fun v wr => ∃ i : Nat, v = .int .i64 i ∧ i ≤ nf ∧ Hid (OwnE enD3 wr bs 40 (.slice D nf d) (preL (setp price) F0 i)) ∧ Hid (Grew w3 wr)) (fun v _ => nf - (intOf v).toNat)
    case atStart => exact ⟨0, rfl, by omega, (by rw [pre_zero]; exact HF0.out), HG4.out⟩
    case round =>
      clear HF0 HG4
      obtain ⟨i, rfl, hi, HO, HG⟩ := hrel
      by_cases hlt : i < nf
      · have hil : i < F0.length := by rw [← HNF.out]; exact hlt
        obtain ⟨db, rfl, hdb, hds, hfz, hcl⟩ := OwnE.at0 HO.out (by rw [pre_len]; omega)
        have hx := pre_get (setp price) F0 i hil
        have hset := HO.out.put1 (by rw [pre_len]; exact HNF.out) i 2 (.int .i64 price) (setp price F0[i]) (by rw [pre_len]; exact hil) (by decide) (by rw [hx]; rfl)
        rw [pre_set (setp price) F0 i hil] at hset
        have HSET := Lib.hid hset
        have hcell2 : wr.cell? ⟨db, i * 3 + 2, none⟩ = some (.int .i64 (F0[i]).2.2) := by have h9 := hcl i (by rw [pre_len]; exact hil) 2 (by decide); rw [hx] at h9; exact h9
        have hfz2 := hfz (i * 3 + 2)
        change Hid (OwnE enD3 (wr.setCell ⟨db, i * 3 + 2, none⟩ _) _ _ _ _) at HSET
        clear hcl hfz hset hx
        generalize (F0[i]).2.2 = pq at *
        clear hil
        have i0 : (0 : Int) ≤ (i : Int) := by omega
        have i1 : (i : Int) < (nf : Int) := by omega
        have HGs := Lib.hid (grew_set HG.out (p := ⟨db, i * 3 + 2, none⟩) (.int .i64 price) (by show _ ≤ db; rw [← HBS.out]; omega))
        clear HG HO
        go_wp2
        go_roundw
        case rel => exact ⟨i + 1, by go_num, by omega, HSET.out, HGs.out⟩
        case measure => simp only [intOf]; omega
      · obtain rfl : nf = i := by omega
        have ho := HO.out
        rw [pre_all _ _ _ (by rw [← HNF.out]; exact Nat.le_refl _), show F0.map (setp price) = _ from HFM.out] at ho
        have hrow := (own_form ho).1
        have hln : (tornF (othP G.2.2 k2 q) ps price).length = nf := by rw [← HFM.out, List.length_map, ← HNF.out]
        rw [hln] at hrow
        have HP := Lib.hid hrow
        have HLN := Lib.hid hln
        clear ho HO hrow hln HFM HNF
        obtain ⟨wq, hwq⟩ : ∃ x, x = wr := ⟨_, rfl⟩
        subst hwq
        have hT := torn_legs HPS.out HGS.out (by omega) HXM.out (ps := ps) (m := m) (c := price) ⟨by omega, by omega⟩ (by rw [HXQ.out, HXN.out]; exact HBO.out)
        rw [HXQ.out, HXN.out, HXK.out] at hT
        have CL := flegs_any (k1, k2) (decide (q > 0)) D nf d _ wq HP.out (by omega)
        have HK4 := Lib.hid (HK3.out.keep HG.out)
        have z0 := HK4.out.at 0 _ rfl; have z1 := HK4.out.at 1 _ rfl
        go_upto_region 18 with (go_at_call 8; ((with_reducible refine CL.mono ?_); rintro e w5 ⟨v, rfl, hf, hg⟩; have HLG := Lib.hid hf; have HG5 := Lib.hid (grew_trans HG.out hg); clear hf hg CL))
        clear z0 z1
        rw [hT.ok]
        obtain ⟨FS, hFS⟩ : ∃ f, f = tornF (othP G.2.2 k2 q) ps price := ⟨_, rfl⟩
        have hTB : addE G (legsF (k1, k2) (sg (decide (q > 0))) FS) = 0 → ∀ j, okK j = true → ∃ y cc, ofP (addB G (legsF (k1, k2) (sg (decide (q > 0))) FS)).2.2 j = (j.1, j.2, y, cc) ∧ (0 ≤ qK G.2.2 j → 0 ≤ y ∧ y ≤ qK G.2.2 j) ∧ (qK G.2.2 j ≤ 0 → qK G.2.2 j ≤ y ∧ y ≤ 0) ∧ (j = (k1, k2) → absA y = absA q - m) := by
          intro he j hj
          rw [hFS] at he ⊢
          have h9 := torn_behind HR.out HXM.out (by rw [HXQ.out]; exact hz) (ps := ps) (m := m) (c := price) (by rw [HXN.out, HXQ.out]; exact HBO.out) (by rw [HXQ.out, ← HALL.out]; omega) (by rw [HXQ.out, HXN.out, HXK.out]; exact he) j hj
          rw [HXQ.out, HXN.out, HXK.out] at h9
          exact h9
        rw [← hFS] at HLG HLN hT
        have hlg := HLG.out
        rw [show legsL (k1, k2) (decide (q > 0)) FS = legsF (k1, k2) (sg (decide (q > 0))) FS from if_pos hT.ok] at hlg
        have hadd : addE G (legsF (k1, k2) (sg (decide (q > 0))) FS) = 0 ∨ addE G (legsF (k1, k2) (sg (decide (q > 0))) FS) = 1 := by
          have h9 := torn_add HR.out HXM.out (s := sg (decide (q > 0))) (by unfold sg; split <;> simp) (fs := FS) (by rw [HXN.out]; exact hT.sum)
          rw [HXK.out] at h9; exact h9
        have hll : (legsF (k1, k2) (sg (decide (q > 0))) FS).length = 2 * nf := by rw [legsF_len, HLN.out]
        clear HLG HLN hT hFS HP HBO HXN HXQ HXM HXK
        generalize legsF (k1, k2) (sg (decide (q > 0))) FS = LG at *
        obtain ⟨L, lc, rfl, _⟩ := hlg.form
        have hlr := (own_form hlg).1
        rw [hll] at hlr ⊢
        clear hlg
        have CA := radd_any G B1 B2 L nt np (2 * nf) d1 d2 lc LG w5 (HB3.out.keep HG5.out) hlr ⟨by omega, by omega, by omega⟩
        unfold BookE at CA
        rw [hNX] at CA
        dsimp only [vBk] at CA
        clear hlr hll
        have HX5 := Lib.hid (HX3.out.keep HG5.out)
        have x0 := HX5.out.at 0 _ rfl; have x1 := HX5.out.at 1 _ rfl; have x2 := HX5.out.at 2 _ rfl
        rcases hadd with he | he
        · have hrC := right_add he
          obtain ⟨hlc1, hlc2⟩ := right_lens hrC
          have hkk : okK (k1, k2) = true := by
            obtain ⟨y, hy, hyk, _⟩ := has_pos HPS.out (k := (k1, k2)) (by rw [← HQ.out]; exact hz)
            rw [← hyk]; exact right_keys HPS.out y hy
          have hk8 := (okK_iff _).1 hkk
          dsimp only at hk8
          have HB0 := Lib.hid (add_both he k2 hk8.2.1 hk8.2.2)
          have HTB := Lib.hid (hTB he)
          have HKK := Lib.hid hkk
          rw [he] at CA
          clear hTB he hkk hk8 hrC HI
          generalize addB G LG = C at *
          have HTP : Hid (∀ j, j < np → ∃ y cc, ofP C.2.2 ((G.2.2.getD j po0).1, (G.2.2.getD j po0).2.1) = ((G.2.2.getD j po0).1, (G.2.2.getD j po0).2.1, y, cc) ∧ (0 ≤ (G.2.2.getD j po0).2.2.1 → 0 ≤ y ∧ y ≤ (G.2.2.getD j po0).2.2.1) ∧ ((G.2.2.getD j po0).2.2.1 ≤ 0 → (G.2.2.getD j po0).2.2.1 ≤ y ∧ y ≤ 0) ∧ -209715200 ≤ (G.2.2.getD j po0).2.2.1 ∧ (G.2.2.getD j po0).2.2.1 ≤ 209715200) := Lib.hid (fun j hj => by
            have hm := getD_mem G.2.2 po0 j (by omega)
            obtain ⟨y, cc, h1, h2, h3, _⟩ := HTB.out (keyP (G.2.2.getD j po0)) (right_keys HPS.out _ hm)
            rw [(of_self HPS.out hm).1] at h2 h3
            have hb := HGS.out.at HPS.out hm
            unfold absA at hb
            exact ⟨y, cc, h1, h2, h3, by omega, by omega⟩)
          generalize hCX : C.1 = cx at *
          generalize hCT : C.2.1.length = ct at *
          generalize hCP : C.2.2.length = cp at *
          go_upto_region 21 with (go_at_call 9; ((with_reducible refine CA.mono ?_); rintro e w6 ⟨C1, C2, ca, cb, rfl, hb, hg⟩; have HC7 := Lib.hid (hb.in.keep (grew_alloc w6 #[.int .i64 cx, .slice C1 ct ca, .slice C2 cp cb] 28)); have HY7 := Lib.hid (OwnC.new w6 [.int .i64 cx, .slice C1 ct ca, .slice C2 cp cb] 28 _ rfl); have HG7 := Lib.hid (grew_trans HG5.out (grew_trans hg (grew_alloc w6 #[.int .i64 cx, .slice C1 ct ca, .slice C2 cp cb] 28))); clear hb hg CA))
          rw [hCT, hCP] at HC7
          clear x0 x1 x2 HX5 HK4 HG5 HG
          generalize w6.alloc (.cells #[.int .i64 cx, .slice C1 ct ca, .slice C2 cp cb] 28) = w7 at *
          generalize w6.heap.size = NC at *
          have HX7 := Lib.hid (HX3.out.keep HG7.out)
          have HK7 := Lib.hid (HK3.out.keep HG7.out)
          have HB7 := Lib.hid (HB3.out.keep HG7.out)
          have HG8 := Lib.hid (grew_trans HGV.out HG7.out)
          clear HX3 HK3 HB3 HGV HG7 HBS
          have CO2 := fun (j1 j2 : Int) w' (g : Grew w7 w') => rof_any C C1 C2 ct cp ca cb j1 j2 w' (HC7.out.keep g) (by omega)
          have CB2 := fun w' (g : Grew w7 w') => rboth_any C C1 C2 ct cp ca cb k2 w' (HC7.out.keep g) (by omega)
          dsimp only [vBk] at CO2 CB2
          rw [hCX] at CO2 CB2
          rw [HB0.out] at CB2
          clear HB0
          have xw0 := HX7.out.at 2 _ rfl
          go_upto_block 1 with (fail)
          go_wp2
          clear xw0
          go_loopw [20] (fun v wr => ∃ j : Nat, v = .int .i64 j ∧ j ≤ np ∧ Hid (Grew w7 wr)) (fun v _ => np - (intOf v).toNat)
          case atStart => exact ⟨0, rfl, by omega, grew_refl _⟩
          case round =>
            obtain ⟨j, rfl, hj, HG⟩ := hrel
            by_cases hlt : j < np
            · obtain ⟨bb, o, rfl, hb, hc⟩ := (HB7.out.p.keep HG.out).po hlt
              have HK : Hid (∀ w', Grew wr w' → CPo w' bb (o + j * 4) (G.2.2.getD j po0)) := fun w' g => (hc j hlt).keep g hb
              obtain ⟨y, ycc, h1, h2, h3, h4, h5⟩ := HTP.out j hlt
              have CD1 := fun w' (g : Grew wr w') => CO2 (G.2.2.getD j po0).1 (G.2.2.getD j po0).2.1 w' (grew_trans HG.out g)
              rw [h1] at CD1
              clear hc hb h1 CO2 CB2 HTP HTB CW HOF HR HPS HGS HQ HKK
              generalize G.2.2.getD j po0 = x9 at *
              obtain ⟨q1, q2, q3, q4⟩ := x9
              dsimp only [vPo] at CD1 h2 h3 h4 h5
              have i0 : (0 : Int) ≤ (j : Int) := by omega
              have i1 : (j : Int) < (np : Int) := by omega
              have hf1 : ∀ w : World, (Instr.field 31 (.agg #[.int .i64 q1, .int .i64 q2, .int .i64 y, .int .i64 ycc]) 1).run Tryz.prog w = .ok (.int .i64 y) w := fun _ => by kernel_rfl
              have x2 : ∀ p : GrewTo wr, p.to.cell? ⟨NB, 2, none⟩ = some (.slice (some ⟨bb, o, none⟩) np d2) := grew_every (fun w' g => (HX7.out.keep (grew_trans HG.out g)).at 2 _ rfl)
              have y0 : ∀ p : GrewTo wr, p.to.cell? ⟨NC, 0, none⟩ = some (.int .i64 cx) := grew_every (fun w' g => (HY7.out.keep (grew_trans HG.out g)).at 0 _ rfl)
              have y1 : ∀ p : GrewTo wr, p.to.cell? ⟨NC, 1, none⟩ = some (.slice C1 ct ca) := grew_every (fun w' g => (HY7.out.keep (grew_trans HG.out g)).at 1 _ rfl)
              have y2 : ∀ p : GrewTo wr, p.to.cell? ⟨NC, 2, none⟩ = some (.slice C2 cp cb) := grew_every (fun w' g => (HY7.out.keep (grew_trans HG.out g)).at 2 _ rfl)
              have z0 : ∀ p : GrewTo wr, p.to.cell? ⟨bb, o + j * 4, none⟩ = some (.int .i64 q1) := grew_every (fun w' g => (HK.out w' g).1)
              have z1 : ∀ p : GrewTo wr, p.to.cell? ⟨bb, o + j * 4 + 1, none⟩ = some (.int .i64 q2) := grew_every (fun w' g => (HK.out w' g).2.1)
              have z2 : ∀ p : GrewTo wr, p.to.cell? ⟨bb, o + j * 4 + 2, none⟩ = some (.int .i64 q3) := grew_every (fun w' g => (HK.out w' g).2.2.1)
              have xw : wr.cell? ⟨NB, 2, none⟩ = some (.slice (some ⟨bb, o, none⟩) np d2) := (HX7.out.keep HG.out).at 2 _ rfl
              clear HK HX7 HK7 HY7 HC7 HB7
              go_wp2_with fail
              refine wp_region_grew (by kernel_rfl) (by kernel_rfl) ?_
              repeat (go_big_quiet_step (first | with_reducible exact calls_every CD1))
              refine wpQuiet_nil ?_
              intro wy hw'
              have HGy := Lib.hid (grew_of hw')
              clear hw' x2 y0 y1 y2 z0 z1 z2 xw CD1 hf1
              have e2 : IntKind.i64.wrap (-q3) = -q3 := by rw [IntKind.wrap_i64]; omega
              have e3 : IntKind.i64.wrap (-y) = -y := by rw [IntKind.wrap_i64]; omega
              by_cases hs : 0 < q3
              · have p1 : ¬ q3 < -q3 := by omega
                have p2 : ¬ q3 ≤ -q3 := by omega
                have p3 : max q3 (-q3) = q3 := by omega
                by_cases ht : 0 < y
                · have r1 : ¬ y < -y := by omega
                  have r2 : ¬ y ≤ -y := by omega
                  have r3 : max y (-y) = y := by omega
                  have r4 : ¬ y > q3 := by omega
                  have r5 : ¬ y < 0 := by omega
                  have r6 : ¬ q3 < 0 := by omega
                  clear h2 h3 h4 h5
                  go_wp2
                  go_roundw
                  case rel => exact ⟨j + 1, by go_num, by omega, grew_trans HG.out HGy.out⟩
                  case measure => simp only [intOf]; omega
                · have r1 : ¬ y < -y := by omega
                  have r2 : y ≤ -y := by omega
                  have r3 : max y (-y) = -y := by omega
                  have r4 : ¬ -y > q3 := by omega
                  have r5 : ¬ y < 0 := by omega
                  have r6 : ¬ q3 < 0 := by omega
                  clear h2 h3 h4 h5
                  go_wp2
                  go_roundw
                  case rel => exact ⟨j + 1, by go_num, by omega, grew_trans HG.out HGy.out⟩
                  case measure => simp only [intOf]; omega
              · have p2 : q3 ≤ -q3 := by omega
                have p3 : max q3 (-q3) = -q3 := by omega
                have r2 : y ≤ -y := by omega
                have r3 : max y (-y) = -y := by omega
                have r4 : ¬ -y > -q3 := by omega
                have r5 : ¬ 0 < y := by omega
                by_cases hs2 : q3 < 0
                · have p1 : q3 < -q3 := by omega
                  clear h2 h3 h4 h5
                  go_wp2
                  go_roundw
                  case rel => exact ⟨j + 1, by go_num, by omega, grew_trans HG.out HGy.out⟩
                  case measure => simp only [intOf]; omega
                · have p1 : ¬ q3 < -q3 := by omega
                  clear h2 h3 h4 h5
                  go_wp2
                  go_roundw
                  case rel => exact ⟨j + 1, by go_num, by omega, grew_trans HG.out HGy.out⟩
                  case measure => simp only [intOf]; omega
            · obtain rfl : np = j := by omega
              obtain ⟨y, ycc, h1, _, _, h4⟩ := HTB.out (k1, k2) HKK.out
              have h5 := h4 rfl
              rw [← HALL.out] at h5
              have CD1 := fun w' (g : Grew w7 w') => CO2 k1 k2 w' g
              rw [h1] at CD1
              dsimp only [vPo] at CD1
              have hf1 : ∀ w : World, (Instr.field 31 (.agg #[.int .i64 k1, .int .i64 k2, .int .i64 y, .int .i64 ycc]) 1).run Tryz.prog w = .ok (.int .i64 y) w := fun _ => by kernel_rfl
              clear h1 h4 CO2 HTP HTB HOF HR HPS HGS HQ HKK HALL
              have x2 := (HX7.out.keep HG.out).at 2 _ rfl
              have HYr := Lib.hid (HY7.out.keep HG.out)
              have HKr := Lib.hid (HK7.out.keep HG.out)
              have y0 := HYr.out.at 0 _ rfl; have y1 := HYr.out.at 1 _ rfl; have y2 := HYr.out.at 2 _ rfl
              have z0 := HKr.out.at 0 _ rfl; have z1 := HKr.out.at 1 _ rfl
              obtain ⟨wq2, hwq2⟩ : ∃ x, x = wr := ⟨_, rfl⟩
              subst hwq2
              go_upto_region 30 with (go_at_call 5; ((with_reducible refine (CD1 _ HG.out).mono ?_); rintro e w8 ⟨rfl, hg⟩; have HG8b := Lib.hid (grew_trans HG.out hg); have HY8 := Lib.hid (HYr.out.keep hg); have HK8 := Lib.hid (HKr.out.keep hg); clear hg CD1 HG HYr HKr x2 y0 y1 y2 z0 z1))
              have y0 := HY8.out.at 0 _ rfl; have y1 := HY8.out.at 1 _ rfl; have y2 := HY8.out.at 2 _ rfl
              have z0 := HK8.out.at 0 _ rfl; have z1 := HK8.out.at 1 _ rfl
              clear hf1
              go_upto_region 31 with (go_at_call 10; ((with_reducible refine (CB2 _ HG8b.out).mono ?_); rintro e w9 ⟨rfl, hg⟩; have HG9 := Lib.hid (grew_trans HG8.out (grew_trans HG8b.out hg)); clear hg CB2))
              clear HY8 HK8 y0 y1 y2 z0 z1 HX7 HY7 HK7 HC7 HB7 HG8b HG8
              have f1 : IntKind.i64.wrap (all - m) = all - m := by rw [IntKind.wrap_i64]; omega
              have f2 : -209715200 ≤ y ∧ y ≤ 209715200 := by unfold absA at h5; omega
              obtain ⟨f21, f22⟩ := f2
              have f3 : IntKind.i64.wrap (-y) = -y := by rw [IntKind.wrap_i64]; omega
              by_cases hs : 0 < y
              · have r1 : ¬ y < -y := by omega
                have r2 : ¬ y ≤ -y := by omega
                have r3 : max y (-y) = y := by omega
                have hy : absA y = y := by show max _ _ = _; exact r3
                rw [hy] at h5
                have r4 : (y == all - m) = true := by rw [beq_iff_eq]; exact h5
                clear hy h5
                go_wp2_with (go_at_call 7; ((with_reducible refine (CW _).mono ?_); rintro e w10 ⟨rfl, hg⟩))
                go_ret
                exact ⟨rfl, grew_trans HG9.out hg⟩
              · have r2 : y ≤ -y := by omega
                have r3 : max y (-y) = -y := by omega
                have hy : absA y = -y := by show max _ _ = _; exact r3
                rw [hy] at h5
                have r4 : (-y == all - m) = true := by rw [beq_iff_eq]; exact h5
                clear hy h5
                by_cases ht : y < 0
                · have r1 : y < -y := by omega
                  go_wp2_with (go_at_call 7; ((with_reducible refine (CW _).mono ?_); rintro e w10 ⟨rfl, hg⟩))
                  go_ret
                  exact ⟨rfl, grew_trans HG9.out hg⟩
                · have r1 : ¬ y < -y := by omega
                  go_wp2_with (go_at_call 7; ((with_reducible refine (CW _).mono ?_); rintro e w10 ⟨rfl, hg⟩))
                  go_ret
                  exact ⟨rfl, grew_trans HG9.out hg⟩
        · rw [he] at CA
          clear hTB
          go_wp2_with (first
            | (go_at_call 9; ((with_reducible refine CA.mono ?_); rintro e w6 ⟨C1, C2, ca, cb, rfl, hb, hg⟩; have HG6 := Lib.hid hg; clear hb hg CA))
            | (go_at_call 7; ((with_reducible refine (CW _).mono ?_); rintro e w9 ⟨rfl, hg⟩)))
          go_ret
          exact ⟨rfl, grew_trans HGV.out (grew_trans HG5.out (grew_trans HG6.out (grew_trans (grew_alloc _ _ _) hg)))⟩
end Go.Proofs.YtahioajpmlochaaGreat.NumK
namespace Go.Proofs.YtahioajpmlochaaGreat.NumK
open Go.RowKit
theorem auctionTorn_row (w : World) {A : Option Addr} {n c : Nat} {l : List Ac13} (h : Row spAc w A n l) {cs : Array Value} {k : Int × Int} (hk : spKey.rd w cs.toList k) {pn price : Int} (hw : (Lit.int .i64 pn).wf = true) :
    Calls Tryz.prog 3 #[.slice A n c, .agg cs, .int .i64 pn, .int .i64 price] w fun e w' => e = .returned (.bool true) ∧ Grew w w' := by
  rw [key_of hk]
  exact auctionTorn_walk A n c l k pn price w (acs13_of h) (by unfold in64; exact Go.bounds_i64 hw)
end Go.Proofs.YtahioajpmlochaaGreat.NumK
namespace Go.Proofs.YtahioajpmlochaaGreat.auctionTorn
open Go.ChangeShapes Go.WideShapes Go.ChangeAt Go.RowKit
set_option linter.unusedVariables false

theorem own : ownKnob Tryz.prog.godebug = none := by kernel_rfl
theorem laidOut : laidOutB Tryz.prog = true := by kernel_rfl

set_option maxRecDepth 100000 in
theorem lifted (os : Os) (started : os.Started) (H : Type) (enc : TypeId × Value → H) :
    ReturnsInHanded {} Tryz.checked os 3 .any (Rows.auctionTornSpec.pre6 enc Tryz.prog Tryz.f3 Rows.auctionTornRow.domain false) (Rows.auctionTornSpec.post enc Tryz.prog Tryz.f3 false true false false) := by
  refine returnsInHanded_of_change (C := Tryz.checked) own started (by kernel_rfl) Tryz.func3
    (ChangeSpec.witness6 (enc := enc) (C := Tryz.checked) false ⟨#[], #[.slice none 0 0, .agg #[.int .i64 0, .int .i64 0], .int .i64 0, .int .i64 0], []⟩ 8 (by kernel_rfl) (by kernel_rfl) (by kernel_rfl) (by kernel_rfl)) ?_
  intro W base args ds gs before hval0 hW hcnd _
  have hval : ∀ (j : Nat) t v, Tryz.f3.params[j]? = some t → args[j]? = some v → Value.okWide Tryz.prog W .any base t v := hval0
  have hW' := hW
  obtain ⟨p, q, hA0, hV, rfl, hfz, hnd⟩ := hW
  have hA : DataW.TrodAll enc Tryz.prog W 0 (fun _ => true) true Tryz.f3.params.toList args.toList ds p := hA0
  skip
  rw [Tryz.params3] at hA hval
  obtain ⟨v0, vs0, d0, ds0, p0, q0, hargs, rfl, rfl, h0, r0⟩ := trodAll_cons hA
  obtain ⟨v1, vs1, d1, ds1, p1, q1, rfl, rfl, rfl, h1, r1⟩ := trodAll_cons r0
  obtain ⟨v2, vs2, d2, ds2, p2, q2, rfl, rfl, rfl, h2, r2⟩ := trodAll_cons r1
  obtain ⟨v3, vs3, d3, ds3, p3, q3, rfl, rfl, rfl, h3, r3⟩ := trodAll_cons r2
  obtain ⟨rfl, rfl, rfl⟩ := trodAll_nil r3
  obtain rfl : args = #[v0, v1, v2, v3] := by cases args; simp_all
  obtain ⟨rfl, rfl⟩ := trodVars_none hV
  have k0 := h0
  have lt0 : ∀ x ∈ p0, x.block < W.heap.size := by obtain ⟨m, hm⟩ := k0; exact DataW.trod_lt m _ _ _ hm
  obtain ⟨A0, len0, cap0, l0, rfl, ro0, n0, c0, m0⟩ := NumK.arg_slice Tryz.underlying22 NumK.opens_acts (hval 0 22 v0 rfl rfl) h0
  have k1 := h1
  have lt1 : ∀ x ∈ p1, x.block < W.heap.size := by obtain ⟨m, hm⟩ := k1; exact DataW.trod_lt m _ _ _ hm
  obtain ⟨cs1, x1, rfl, e1⟩ := NumK.arg_struct Tryz.underlying24 NumK.opens_key (hval 1 24 v1 rfl rfl) h1
  obtain ⟨a2, rfl, rfl, rfl, w2⟩ := open_int Tryz.underlying3 (hval 2 3 v2 rfl rfl) h2
  obtain ⟨a3, rfl, rfl, rfl, w3⟩ := open_int Tryz.underlying3 (hval 3 3 v3 rfl rfl) h3
  clear hA0 hval0
  refine (NumK.auctionTorn_row W ro0 e1 w2).mono fun e W' ⟨he, bel⟩ => ?_
  subst he
  exact ⟨_, rfl, _, _, _, [], _, [], hW', trodAll_mk1 (shut_bool Tryz.underlying4 _), (trodAll_cons_mk (Below.trod laidOut (by kernel_rfl) (of_decide_eq_true (by kernel_rfl)) k0 bel lt0) (trodAll_cons_mk (Below.trod laidOut (by kernel_rfl) (of_decide_eq_true (by kernel_rfl)) k1 bel lt1) (trodAll_cons_mk (shut_int Tryz.underlying3 w2) (trodAll_cons_mk (shut_int Tryz.underlying3 w3) trodAll_mk0)))), rfl, bel.frame _, fun h => by cases h⟩

theorem over : Rows.auctionTornRow.holds Tryz.pinned (OpenSpec.ofChange Rows.auctionTornSpec) :=
  OpenClaim.holds_of_wide 3 Tryz.f3 rfl rfl rfl rfl rfl rfl rfl ⟨rfl, rfl, rfl, rfl, rfl⟩ rfl rfl rfl rfl rfl (by kernel_rfl) Tryz.func3 (by kernel_rfl)
    (of_decide_eq_true (by kernel_rfl)) (by unfold Func.isWrapper; first | (rw [if_pos (by decide +kernel)]; kernel_rfl) | (rw [if_neg (by decide +kernel)]; exact ⟨rfl, rfl⟩))
    (fun os started H enc _ => lifted os started H enc)

/-! ### the statement -/
theorem proved : Rows.AuctionTornSaid := over
end Go.Proofs.YtahioajpmlochaaGreat.auctionTorn
