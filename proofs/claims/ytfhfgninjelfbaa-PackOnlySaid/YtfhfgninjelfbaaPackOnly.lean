/- The law PackOnly. -/
import Derived.Test.YtfhfgninjelfbaaPackF
import Derived.Test.YtfhfgninjelfbaaPackH
import Derived.Test.YtfhfgninjelfbaaPackFr
import Derived.Deep.CutBlock
namespace Go.Proofs.Ytfhfgninjelfbaa.NumK
open Go.RowKit

theorem rD_zero {s : RS} (h : rD s = 0) : s.e = 0 ∧ s.l = [] := by
  unfold rD at h
  split at h
  · cases h
  · rename_i hn
    refine ⟨h, ?_⟩
    cases hs : s.l with
    | nil => rfl
    | cons c r => exact absurd ⟨h, by rw [hs]; simp⟩ hn

/-- A Reader of the bytes bs in block p, and a Writer in block q that holds what was read. -/
structure Copies (w0 w : World) (p q : Nat) (bs : List UInt8) (s : RS) (l : List UInt8) (k : Nat) : Prop where
  rd : RD w p s
  wr : WR w q (some l)
  g : Grew w0 w
  hp : w0.heap.size ≤ p
  hq : p < q
  same : s.e = 0 → bs = l ++ s.l
  len : l.length ≤ 70000 * k
theorem Copies.mid {w0 w w1 : World} {p q k : Nat} {bs l : List UInt8} {s : RS} (h : Copies w0 w p q bs s l k) (ht : Turn p w w1) : WR w1 q (some l) := h.wr.turn ht h.hq
theorem Copies.next {w0 w w1 w2 : World} {p q k : Nat} {bs l xs : List UInt8} {s s' : RS} (h : Copies w0 w p q bs s l k) (hr : RD w1 p s') (ht : Turn p w w1) (hw : WR w2 q (some (l ++ xs))) (ht2 : Turn q w1 w2) (hs : s'.e = 0 → s.e = 0 ∧ s.l = xs ++ s'.l) (hx : xs.length ≤ 70000) : Copies w0 w2 p q bs s' (l ++ xs) (k + 1) :=
  ⟨hr.turn ht2 (by have := h.hq; omega), hw, Turn.new (Turn.new h.g ht h.hp) ht2 (by have := h.hp; have := h.hq; omega), h.hp, h.hq, fun he => by rw [h.same (hs he).1, (hs he).2, List.append_assoc], by have := h.len; simp; omega⟩

set_option maxRecDepth 100000 in
set_option maxHeartbeats 2000000 in
theorem packOnly_walk (A A1 : Option Addr) (n c m c1 : Nat) (bs : List UInt8) (ks : List Int) (w : World) (hb : Bys w A n bs) (hA : A = none → c = 0) (hn : n ≤ 9223372036854775807) (hk : Ints w A1 m ks) (hm : m ≤ 9223372036854775807) :
    Calls Try.prog 6 #[.slice A n c, .slice A1 m c1] w fun e w' => e = .returned (.bool true) ∧ Grew w w' := by
  have HK := Lib.hid hk
  have HB := Lib.hid hb
  clear hk
  by_cases h1 : 131072 < n
  · have d : (131072 : Int) < (n : Int) := by omega
    go_enter Try.func6, Try.ntmps6
    go_wp2
    go_ret
    exact ⟨rfl, grew_refl _⟩
  have d1 : ¬ (131072 : Int) < (n : Int) := by omega
  by_cases h2 : 200 < m
  · have d : (200 : Int) < (m : Int) := by omega
    go_enter Try.func6, Try.ntmps6
    go_wp2
    go_ret
    exact ⟨rfl, grew_refl _⟩
  have d2 : ¬ (200 : Int) < (m : Int) := by omega
  have CN := Lib.hid (newReader_any A n c bs w hb hA (by omega))
  have CW := fun w => wakes04_any w
  clear hb hA
  go_enter Try.func6, Try.ntmps6
  go_upto_region 6 with (go_at_call 18; ((with_reducible refine CN.out.mono ?_); rintro e w2 ⟨rfl, hr, hg⟩; have HR2 := Lib.hid hr; have HG2 := Lib.hid hg; clear hr hg CN))
  generalize hp : w.heap.size = p at *
  have HPW : Hid (w.heap.size ≤ p) := by show _ ≤ _; omega
  clear hp
  go_wp2
  have HC0 : Hid (Copies w (w2.alloc (.cells #[.pointer none, .int .i64 0, .int .i64 0] 28)) p w2.heap.size bs ⟨bs, 0⟩ [] 0) :=
    ⟨HR2.out.keep (grew_alloc _ _ _), WR.new _ _, grew_trans HG2.out (grew_alloc _ _ _), HPW.out, HR2.out.1, fun _ => rfl, by simp⟩
  clear HR2 HG2 HPW
  generalize w2.heap.size = q at *
  generalize w2.alloc (.cells #[.pointer none, .int .i64 0, .int .i64 0] 28) = W at *
  go_loopw [7] (fun v7 wr => ∃ (k : Nat) (s : RS) (l : List UInt8), v7 = .int .i64 k ∧ k ≤ m ∧ Hid (Copies w wr p q bs s l k)) (fun v7 _ => m - (intOf v7).toNat)
  case atStart => exact ⟨0, _, [], rfl, Nat.zero_le _, HC0⟩
  case round =>
    clear HC0
    obtain ⟨k, s, l, rfl, hkm, HC⟩ := hrel
    have HLL : Hid (l.length ≤ 14000000) := by show _ ≤ _; have := HC.out.len; omega
    by_cases hlt : k < m
    · obtain ⟨b, o, rfl, hbb, hcc⟩ := (HK.out.keep HC.out.g).2 (by omega)
      have hcell := hcc k hlt
      generalize ks.getD k 0 = K at *
      have hU : ∃ U : Int, U = IntKind.u64.wrap K := ⟨_, rfl⟩
      obtain ⟨U, hU⟩ := hU
      have hU0 : 0 ≤ U := by rw [hU, IntKind.wrap_u64]; omega
      have hKU := hU.symm
      clear hcc hU
      by_cases k0 : U % 3 = 0
      · have C0 := Lib.hid (rInt_any p s wr HC.out.rd)
        have HWAS := Lib.hid (@rI_was s)
        have hbd := rI_bd s
        have HI := Lib.hid (encI_len hbd.1 hbd.2)
        have CI := Lib.hid (fun w1 (ht : Turn p wr w1) => wInt_any q (some l) (some ⟨w1.heap.size, 0, none⟩) 1 1 [(rI s).1] (w1.alloc (.cells #[.int .i64 (rI s).1] 3)) ((HC.out.mid ht).keep (grew_alloc _ _ _)) (ints1 w1 _ _) (by intro z hz; simp at hz; subst hz; exact hbd) (by have := HLL.out; simp [wLen]; omega) (by omega))
        clear hbd
        generalize (rI s).1 = v at *
        generalize (rI s).2 = s' at *
        go_wp2_with (first
          | (go_at_call 19; ((with_reducible refine C0.out.mono ?_); rintro e w1 ⟨rfl, hr, ht⟩; have HR1 := Lib.hid hr; have HT1 := Lib.hid ht; have C1 := Lib.hid (CI.out w1 ht); clear hr ht C0 CI))
          | (go_at_call 28; ((with_reducible refine C1.out.mono ?_); rintro e w3 ⟨rfl, hw, ht⟩; have HW3 := Lib.hid (show WR w3 q (some (l ++ encL [v])) from hw); have HT3 := Lib.hid (((Turn.refl q w1).grew (grew_alloc _ _ _)).trans ht); clear hw ht C1)))
        go_roundw
        case rel => exact ⟨k + 1, s', l ++ encL [v], by go_num, by omega, HC.out.next HR1.out HT1.out HW3.out HT3.out (fun he => by have := HWAS.out he; rwa [show encL [v] = encI v from by simp [encL]]) (by have := HI.out; simp [encL]; omega)⟩
        case measure => simp only [intOf]; omega
      · by_cases k1 : U % 3 = 1
        · have C0 := Lib.hid (rMark_any p s wr HC.out.rd)
          have HWAS := Lib.hid (@rM_was s)
          have CI := Lib.hid (fun w1 (ht : Turn p wr w1) => wMark_any q (some l) (rM s).1 w1 (HC.out.mid ht) (by have := HLL.out; simp [wLen]; omega))
          generalize (rM s).1 = v at *
          generalize (rM s).2 = s' at *
          go_wp2_with (first
            | (go_at_call 21; ((with_reducible refine C0.out.mono ?_); rintro e w1 ⟨rfl, hr, ht⟩; have HR1 := Lib.hid hr; have HT1 := Lib.hid ht; have C1 := Lib.hid (CI.out w1 ht); clear hr ht C0 CI))
            | (go_at_call 29; ((with_reducible refine C1.out.mono ?_); rintro e w3 ⟨rfl, hw, ht⟩; have HW3 := Lib.hid (show WR w3 q (some (l ++ encM v)) from hw); have HT3 := Lib.hid ht; clear hw ht C1)))
          go_roundw
          case rel => exact ⟨k + 1, s', l ++ encM v, by go_num, by omega, HC.out.next HR1.out HT1.out HW3.out HT3.out (fun he => HWAS.out he) (by unfold encM; split <;> simp)⟩
          case measure => simp only [intOf]; omega
        · have C0 := Lib.hid (rText_any p s wr HC.out.rd)
          have HWAS := Lib.hid (@rT_was s)
          have HTO := Lib.hid (rT_out s)
          have CI := Lib.hid (fun w1 (ht : Turn p wr w1) => wText_any q (some l) (w := w1) (t := (rT s).1) (hW := HC.out.mid ht) (hl := (by have := HLL.out; simp [wLen]; omega)))
          generalize (rT s).1 = v at *
          generalize (rT s).2 = s' at *
          go_wp2_with (first
            | (go_at_call 23; ((with_reducible refine C0.out.mono ?_); rintro e w1 ⟨A3, n3, c3, rfl, hb3, hf3, hA3, hr, ht⟩; have HR1 := Lib.hid hr; have HT1 := Lib.hid ht; have C1 := Lib.hid (CI.out w1 ht A3 n3 c3 hb3 hA3 (fun _ a ha => by have := hf3.ge a ha; have := HC.out.wr.1; omega) (by have := hb3.1; have := HTO.out; omega)); clear hb3 hf3 hA3 hr ht C0 CI))
            | (go_at_call 30; ((with_reducible refine C1.out.mono ?_); rintro e w3 ⟨rfl, hw, ht⟩; rw [if_pos HTO.out] at hw; have HW3 := Lib.hid (show WR w3 q (some (l ++ encT v)) from hw); have HT3 := Lib.hid ht; clear hw ht C1)))
          go_roundw
          case rel => exact ⟨k + 1, s', l ++ encT v, by go_num, by omega, HC.out.next HR1.out HT1.out HW3.out HT3.out (fun he => HWAS.out he) (by have := HTO.out; have := encI_len (n := (v.length : Int)) (by omega) (by omega); unfold encT; simp; omega)⟩
          case measure => simp only [intOf]; omega
    · obtain rfl : k = m := by omega
      have DN := Lib.hid (done_any p s wr HC.out.rd)
      by_cases hd : rD s = 0
      · have HZ := Lib.hid (rD_zero hd)
        have HSM : Hid (bs = l) := by show _ = _; rw [HC.out.same HZ.out.1, HZ.out.2, List.append_nil]
        rw [hd] at DN
        clear hd
        have C1 := Lib.hid (wBytes_any q (some l) wr HC.out.wr (by have := HLL.out; simp [wLen]; omega))
        go_upto_region 19 with (first
          | (go_at_call 25; ((with_reducible refine DN.out.mono ?_); rintro e w3 ⟨rfl, rfl⟩))
          | (go_at_call 13; ((with_reducible refine C1.out.mono ?_); rintro e w4 ⟨hg, B, hB, rfl, hb4, _⟩; have HG4 := Lib.hid hg; have C5 := Lib.hid (keepBytes_any (some ⟨B, 0, none⟩) A l.length n l.length c l bs w4 hb4 (HB.out.keep (grew_trans HC.out.g hg)) (by have := HLL.out; omega) (by omega)); rw [decide_eq_true HSM.out.symm] at C5; clear hg hb4 hB)))
        go_wp2_with (first
          | (go_at_call 15; ((with_reducible refine C5.out.mono ?_); rintro e w5 ⟨rfl, hg⟩; have HG5 := Lib.hid hg; clear hg))
          | (go_at_call 14; ((with_reducible refine (CW _).mono ?_); rintro e w7 ⟨rfl, hg⟩; have HG7 := Lib.hid hg; clear hg)))
        go_ret
        exact ⟨rfl, grew_trans HC.out.g (grew_trans HG4.out (grew_trans HG5.out HG7.out))⟩
      · have d : (rD s != 0) = true := by simpa using hd
        go_wp2_with (first
          | (go_at_call 25; ((with_reducible refine DN.out.mono ?_); rintro e w3 ⟨rfl, rfl⟩))
          | (go_at_call 14; ((with_reducible refine (CW _).mono ?_); rintro e w7 ⟨rfl, hg⟩; have HG7 := Lib.hid hg; clear hg)))
        go_ret
        exact ⟨rfl, grew_trans HC.out.g HG7.out⟩

theorem packOnly_row (A A1 : Option Addr) (n c m c1 : Nat) (l : List Int) (ks : List Int) (w : World) (hb : Row (spInt .u8) w A n l) (hA : A = none → c = 0) (hn : n ≤ 9223372036854775807) (hk : Row (spInt .i64) w A1 m ks) (hm : m ≤ 9223372036854775807) :
    Calls Try.prog 6 #[.slice A n c, .slice A1 m c1] w fun e w' => e = .returned (.bool true) ∧ Grew w w' := by
  obtain ⟨bs, hbs⟩ := bys_of_row hb
  exact packOnly_walk A A1 n c m c1 bs ks w hbs hA hn (ints_of_spec hk).1 hm
end Go.Proofs.Ytfhfgninjelfbaa.NumK
