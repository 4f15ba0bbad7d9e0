/- The law PackReads. -/
import Derived.Test.YtfhfgninjelfbaaRefPackE
import Derived.Test.YtfhfgninjelfbaaPackH
import Derived.Test.YtfhfgninjelfbaaPackFr
import Derived.Deep.CutBlock
namespace Go.Proofs.Ytfhfgninjelfbaa.NumK
open Go.RowKit

def rK (K : Int) (s : RS) : RS := if kd K = 0 then (rI s).2 else if kd K = 1 then (rM s).2 else (rT s).2

/-- Both Readers at one state. -/
structure Both (w0 w : World) (p q : Nat) (A : Option Addr) (n c : Nat) (bs : List UInt8) (s : RS) : Prop where
  rd : RD w p s
  qd : QD w q A n c bs s
  g : Grew w0 w
  hp : w0.heap.size ≤ p
  hq : w0.heap.size ≤ q
  ne : p ≠ q
  old : 0 < n → ∀ a, A = some a → a.block < w0.heap.size
theorem Both.keep {w0 w w' : World} {p q : Nat} {A : Option Addr} {n c : Nat} {bs : List UInt8} {s : RS} (h : Both w0 w p q A n c bs s) (g : Grew w w') : Both w0 w' p q A n c bs s :=
  ⟨h.rd.keep g, h.qd.keep g, grew_trans h.g g, h.hp, h.hq, h.ne, h.old⟩
theorem Both.turn {w0 w w' : World} {p q b : Nat} {A : Option Addr} {n c : Nat} {bs : List UInt8} {s : RS} (h : Both w0 w p q A n c bs s) (g : Turn b w w') (h1 : b ≠ p) (h2 : b ≠ q) (h3 : w0.heap.size ≤ b) : Both w0 w' p q A n c bs s :=
  ⟨h.rd.turn g h1.symm, h.qd.turn g h2.symm (fun hn a ha => by have := h.old hn a ha; omega), Turn.new h.g g h3, h.hp, h.hq, h.ne, h.old⟩
/-- The one has read, then the other one. -/
theorem Both.two {w0 w w1 w2 : World} {p q : Nat} {A : Option Addr} {n c : Nat} {bs : List UInt8} {s s' : RS} (h : Both w0 w p q A n c bs s) (hr : RD w1 p s') (ht : Turn p w w1) (hq : QD w2 q A n c bs s') (ht2 : Turn q w1 w2) : Both w0 w2 p q A n c bs s' :=
  ⟨hr.turn ht2 h.ne, hq, Turn.new (Turn.new h.g ht h.hp) ht2 h.hq, h.hp, h.hq, h.ne, h.old⟩
theorem Both.mid {w0 w w1 : World} {p q : Nat} {A : Option Addr} {n c : Nat} {bs : List UInt8} {s : RS} (h : Both w0 w p q A n c bs s) (ht : Turn p w w1) : QD w1 q A n c bs s :=
  h.qd.turn ht h.ne.symm (fun hn a ha => by have := h.old hn a ha; have := h.hp; omega)

set_option maxRecDepth 100000 in
set_option maxHeartbeats 2000000 in
theorem packReads_walk (A A1 : Option Addr) (n c m c1 : Nat) (bs : List UInt8) (ks : List Int) (w : World) (hb : Bys w A n bs) (hA : A = none → c = 0) (hnc : n ≤ c) (hc : c ≤ 9223372036854775807) (hk : Ints w A1 m ks) (hm : m ≤ 9223372036854775807) :
    Calls Try.prog 4 #[.slice A n c, .slice A1 m c1] w fun e w' => e = .returned (.bool true) ∧ Grew w w' := by
  have HB := Lib.hid hb
  have HA := Lib.hid hA
  have HK := Lib.hid hk
  clear hb hA hk
  by_cases h1 : 131072 < n
  · have d : (131072 : Int) < (n : Int) := by omega
    go_enter Try.func4, Try.ntmps4
    go_wp2
    go_ret
    exact ⟨rfl, grew_refl _⟩
  have d1 : ¬ (131072 : Int) < (n : Int) := by omega
  by_cases h2 : 200 < m
  · have d : (200 : Int) < (m : Int) := by omega
    go_enter Try.func4, Try.ntmps4
    go_wp2
    go_ret
    exact ⟨rfl, grew_refl _⟩
  have d2 : ¬ (200 : Int) < (m : Int) := by omega
  have CT := Lib.hid (twinB_any A n c bs w HB.out HA.out (by omega))
  have CW := fun w => wakes04_any w
  go_enter Try.func4, Try.ntmps4
  go_upto_region 4 with (go_at_call 17; ((with_reducible refine CT.out.mono ?_); rintro e w1 ⟨hg, A2, c2, rfl, _, hb2, hA2, hf2⟩; have HG1 := Lib.hid hg; have HF2 := Lib.hid hf2; have CN := Lib.hid (newReader_any A2 n c2 bs w1 hb2 hA2 (by omega)); clear hg hb2 hA2 hf2))
  clear CT
  go_upto_region 7 with (go_at_call 18; ((with_reducible refine CN.out.mono ?_); rintro e w2 ⟨rfl, hr, hg⟩; have HR2 := Lib.hid hr; have HG2 := Lib.hid hg; clear hr hg CN))
  have CS := Lib.hid (spoilB_any A2 n c2 w w2 (HF2.out.keep HG2.out) (grew_trans HG1.out HG2.out) (by omega))
  go_upto_region 8 with (go_at_call 16; ((with_reducible refine CS.out.mono ?_); rintro e w3 hs; have HS := Lib.hid hs; obtain ⟨rfl, _⟩ := hs))
  have hp1 : w.heap.size ≤ w1.heap.size := HG1.out.size
  generalize hp : w1.heap.size = p at *
  have HP : Hid (RD w3 p ⟨bs, 0⟩ ∧ Grew w w3) := by
    obtain ⟨b, g1, g2, g3, g4⟩ := spoil_turn (HF2.out.keep HG2.out) HS.out p p (fun a ha => by have := HF2.out.lt a ha; omega) (fun a ha => by have := HF2.out.lt a ha; omega)
    exact ⟨HR2.out.turn g4 g1.symm, HS.out.2.1⟩
  have HB0 : Hid (Both w (w3.alloc (.cells #[.slice A n c, .int .i64 0, .int .i64 0] 45)) p w3.heap.size A n c bs ⟨bs, 0⟩) := by
    have hg := grew_alloc w3 #[.slice A n c, .int .i64 0, .int .i64 0] 45
    have hold : 0 < n → ∀ a, A = some a → a.block < w.heap.size := fun hn a ha => old_of_bys HB.out a ha hn
    have hpl := HP.out.1.1
    refine ⟨HP.out.1.keep hg, ⟨by simp, fun h => absurd rfl h, by omega, (HB.out.keep HP.out.2).keep hg, fun hn a ha => ?_, 0, by omega, fun _ => rfl, by simp, by simp, by simp, by simp, by simp, hnc, hc⟩, grew_trans HP.out.2 hg, hp1, HP.out.2.size, by omega, hold⟩
    have h1 := hold hn a ha
    have h2 := HP.out.2.size
    omega
  go_wp2
  clear HP HR2 HG2 HF2 HG1 HS CS hp
  generalize w3.heap.size = q at *
  generalize w3.alloc (.cells #[.slice A n c, .int .i64 0, .int .i64 0] 45) = W at *
  go_loopw [8] (fun v8 wr => ∃ (k : Nat) (s : RS), v8 = .int .i64 k ∧ k ≤ m ∧ Hid (Both w wr p q A n c bs s)) (fun v8 _ => m - (intOf v8).toNat)
  case atStart => exact ⟨0, _, rfl, Nat.zero_le _, HB0⟩
  case round =>
    clear HB0
    obtain ⟨k, s, rfl, hkm, HBO⟩ := hrel
    by_cases hlt : k < m
    · obtain ⟨b, o, rfl, hbb, hcc⟩ := (HK.out.keep HBO.out.g).2 (by omega)
      have hcell := hcc k hlt
      generalize ks.getD k 0 = K at *
      have hU : ∃ U : Int, U = IntKind.u64.wrap K := ⟨_, rfl⟩
      obtain ⟨U, hU⟩ := hU
      have hU0 : 0 ≤ U := by rw [hU, IntKind.wrap_u64]; omega
      have hKU := hU.symm
      have DN := Lib.hid (fun w' s' (h : Both w w' p q A n c bs s') => done_any p s' w' h.rd)
      have DM := Lib.hid (fun w' s' (h : Both w w' p q A n c bs s') => refDone_any q A n c bs s' w' h.qd)
      clear hcc hU
      by_cases k0 : U % 3 = 0
      · have C1 := Lib.hid (rInt_any p s wr HBO.out.rd)
        have C2 := Lib.hid (fun w1 (ht : Turn p wr w1) => refRInt_any q A n c bs s w1 (HBO.out.mid ht))
        generalize (rI s).1 = v at *
        generalize (rI s).2 = s' at *
        go_upto_region 21 with (first
          | (go_at_call 19; ((with_reducible refine C1.out.mono ?_); rintro e w1 ⟨rfl, hr, ht⟩; have HR1 := Lib.hid hr; have HT1 := Lib.hid ht; have C3 := Lib.hid (C2.out w1 ht); clear hr ht C1 C2))
          | (go_at_call 20; ((with_reducible refine C3.out.mono ?_); rintro e w2 ⟨rfl, hq, ht⟩; have HB2 := Lib.hid (HBO.out.two HR1.out HT1.out hq ht); clear hq ht C3)))
        go_wp2_with (first
          | (go_at_call 25; ((with_reducible refine (DN.out _ _ HB2.out).mono ?_); rintro e w8 ⟨rfl, rfl⟩))
          | (go_at_call 26; ((with_reducible refine (DM.out _ _ HB2.out).mono ?_); rintro e w9 ⟨rfl, hg⟩; have HB9 := Lib.hid (HB2.out.keep hg); clear hg)))
        go_roundw
        case rel => exact ⟨k + 1, s', by go_num, by omega, HB9⟩
        case measure => simp only [intOf]; omega
      · by_cases k1 : U % 3 = 1
        · have C1 := Lib.hid (rMark_any p s wr HBO.out.rd)
          have C2 := Lib.hid (fun w1 (ht : Turn p wr w1) => refRMark_any q A n c bs s w1 (HBO.out.mid ht))
          generalize (rM s).1 = v at *
          generalize (rM s).2 = s' at *
          go_upto_region 21 with (first
            | (go_at_call 21; ((with_reducible refine C1.out.mono ?_); rintro e w1 ⟨rfl, hr, ht⟩; have HR1 := Lib.hid hr; have HT1 := Lib.hid ht; have C3 := Lib.hid (C2.out w1 ht); clear hr ht C1 C2))
            | (go_at_call 22; ((with_reducible refine C3.out.mono ?_); rintro e w2 ⟨rfl, hq, ht⟩; have HB2 := Lib.hid (HBO.out.two HR1.out HT1.out hq ht); clear hq ht C3)))
          go_wp2_with (first
            | (go_at_call 25; ((with_reducible refine (DN.out _ _ HB2.out).mono ?_); rintro e w8 ⟨rfl, rfl⟩))
            | (go_at_call 26; ((with_reducible refine (DM.out _ _ HB2.out).mono ?_); rintro e w9 ⟨rfl, hg⟩; have HB9 := Lib.hid (HB2.out.keep hg); clear hg)))
          go_roundw
          case rel => exact ⟨k + 1, s', by go_num, by omega, HB9⟩
          case measure => simp only [intOf]; omega
        · have C1 := Lib.hid (rText_any p s wr HBO.out.rd)
          have C2 := Lib.hid (fun w1 (ht : Turn p wr w1) => refRText_any q A n c bs s w1 (HBO.out.mid ht))
          have hto := rT_out s
          have HTO := Lib.hid hto
          generalize (rT s).1 = tx at *
          generalize (rT s).2 = s' at *
          clear hto
          go_upto_region 16 with (first
            | (go_at_call 23; ((with_reducible refine C1.out.mono ?_); rintro e w1 ⟨A3, n3, c3, rfl, hb3, hf3, _, hr, ht⟩; have HB3 := Lib.hid hb3; have HF3 := Lib.hid hf3; have HR1 := Lib.hid hr; have HT1 := Lib.hid ht; have C3 := Lib.hid (C2.out w1 ht); clear hb3 hf3 hr ht C1 C2))
            | (go_at_call 24; ((with_reducible refine C3.out.mono ?_); rintro e w2 ⟨A4, n4, c4, rfl, hb4, hq, ht⟩; have HT2 := Lib.hid ht; have HBT := Lib.hid (HBO.out.two HR1.out HT1.out hq ht); have C5 := Lib.hid (keepBytes_any A3 A4 n3 n4 c3 c4 tx tx w2 (HB3.out.turn ht (fun hn a ha => by have := HF3.out.ge a ha; have := HBO.out.qd.1; omega)) hb4 (by have := HTO.out; have := HB3.out.1; omega) (by have := HTO.out; have := hb4.1; omega)); rw [decide_eq_true (rfl : tx = tx)] at C5; clear hb4 hq ht C3))
            | (go_at_call 15; ((with_reducible refine C5.out.mono ?_); rintro e w3 ⟨rfl, hg⟩; have HG3 := Lib.hid hg; clear hg C5)))
          have HF5 : Hid (FreshB w w3 A3 n3 c3) := ((HF3.out.mono HBO.out.g).turn HT2.out (fun a ha => by have := HF3.out.ge a ha; have := HBO.out.qd.1; omega)).keep HG3.out
          have HNE : Hid ((∀ a, A3 = some a → a.block ≠ p) ∧ (∀ a, A3 = some a → a.block ≠ q)) := ⟨fun a ha => by have := HF3.out.ge a ha; have := HBO.out.rd.1; omega, fun a ha => by have := HF3.out.ge a ha; have := HBO.out.qd.1; omega⟩
          have C6 := Lib.hid (spoilB_any A3 n3 c3 w w3 HF5.out (HBT.out.keep HG3.out).g (by have := HTO.out; have := HB3.out.1; omega))
          go_upto_region 21 with (go_at_call 16; ((with_reducible refine C6.out.mono ?_); rintro e w4 hs; have HS4 := Lib.hid hs; obtain ⟨rfl, _⟩ := hs))
          have HB2 : Hid (Both w w4 p q A n c bs s') := by
            obtain ⟨b, g1, g2, g3, g4⟩ := spoil_turn HF5.out HS4.out p q HNE.out.1 HNE.out.2
            exact (HBT.out.keep HG3.out).turn g4 g1 g2 g3
          go_wp2_with (first
            | (go_at_call 25; ((with_reducible refine (DN.out _ _ HB2.out).mono ?_); rintro e w8 ⟨rfl, rfl⟩))
            | (go_at_call 26; ((with_reducible refine (DM.out _ _ HB2.out).mono ?_); rintro e w9 ⟨rfl, hg⟩; have HB9 := Lib.hid (HB2.out.keep hg); clear hg)))
          go_roundw
          case rel => exact ⟨k + 1, s', by go_num, by omega, HB9⟩
          case measure => simp only [intOf]; omega
    · obtain rfl : k = m := by omega
      go_wp2_with (go_at_call 14; ((with_reducible refine (CW _).mono ?_); rintro e w7 ⟨rfl, hg⟩; have HG7 := Lib.hid hg; clear hg))
      go_ret
      exact ⟨rfl, grew_trans HBO.out.g HG7.out⟩

theorem packReads_row (A A1 : Option Addr) (n c m c1 : Nat) (l : List Int) (ks : List Int) (w : World) (hb : Row (spInt .u8) w A n l) (hA : A = none → c = 0) (hnc : n ≤ c) (hc : c ≤ 9223372036854775807) (hk : Row (spInt .i64) w A1 m ks) (hm : m ≤ 9223372036854775807) :
    Calls Try.prog 4 #[.slice A n c, .slice A1 m c1] w fun e w' => e = .returned (.bool true) ∧ Grew w w' := by
  obtain ⟨bs, hbs⟩ := bys_of_row hb
  exact packReads_walk A A1 n c m c1 bs ks w hbs hA hnc hc (ints_of_spec hk).1 hm
end Go.Proofs.Ytfhfgninjelfbaa.NumK
