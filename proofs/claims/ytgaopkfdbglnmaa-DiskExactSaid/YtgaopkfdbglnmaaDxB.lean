/- Acts among the arguments; fill, heavy. -/
import Derived.Test.YtgaopkfdbglnmaaDxA
import Derived.Deep.CutBlock
import Derived.Deep.QuietTactic
import Derived.BigQuiet
namespace Go.Proofs.Ytgaopkfdbglnmaa.NumK
open Go.RowKit

structure Ac where
  K : Int
  At : Int
  B : UInt8
  P : List Int
instance : Inhabited Ac := ⟨⟨0, 0, 0, []⟩⟩
abbrev AcV := Int × (Int × (Int × List Int))
def spAct : Sp AcV := spPair (spInt .i64) (spPair (spInt .i64) (spPair (spInt .u8) (spSlice (spInt .i64))))
theorem opens_act : Opens Try.prog 34 spAct :=
  opens_struct Try.underlying34 (by kernel_rfl)
    (.cons _ _ _ rfl (opens_int Try.underlying3 (by kernel_rfl))
      (.cons _ _ _ rfl (opens_int Try.underlying3 (by kernel_rfl))
        (.cons _ _ _ rfl (opens_int Try.underlying5 (by kernel_rfl))
          (.last _ _ rfl (opens_slice Try.underlying32 (by kernel_rfl) (opens_int Try.underlying3 (by kernel_rfl)) (by decide))))))
theorem opens_acts : Opens Try.prog 22 (spSlice spAct) := opens_slice Try.underlying22 (by kernel_rfl) opens_act (by decide)
/-- An act in memory. -/
def AcAt (w : World) (b p : Nat) (x : Ac) : Prop := ∃ A n c, Ints w A n x.P ∧ n ≤ 9223372036854775807 ∧ (-9223372036854775808 ≤ x.K ∧ x.K ≤ 9223372036854775807) ∧ (-9223372036854775808 ≤ x.At ∧ x.At ≤ 9223372036854775807) ∧
  w.cell? ⟨b, p, none⟩ = some (.int .i64 x.K) ∧ w.cell? ⟨b, p + 1, none⟩ = some (.int .i64 x.At) ∧ w.cell? ⟨b, p + 2, none⟩ = some (.int .u8 (x.B.toNat : Int)) ∧ w.cell? ⟨b, p + 3, none⟩ = some (.slice A n c)
def Acts (w : World) (A : Option Addr) (n : Nat) (l : List Ac) : Prop := l.length = n ∧ (0 < n → ∃ b o, A = some ⟨b, o, none⟩ ∧ b < w.heap.size ∧ ∀ j, j < n → AcAt w b (o + j * 4) (l.getD j default))
theorem acts_of_row {w : World} {A : Option Addr} {n : Nat} {l : List AcV} (h : Row spAct w A n l) : Acts w A n (l.map fun x => ⟨x.1, x.2.1, UInt8.ofNat x.2.2.1.toNat, x.2.2.2⟩) := by
  refine ⟨by simp; exact h.1, fun hn => ?_⟩
  obtain ⟨b, o, e, hb, hc⟩ := h.2 hn
  refine ⟨b, o, e, hb, fun j hj => ?_⟩
  have hj2 : j < l.length := by rw [h.1]; exact hj
  obtain ⟨cs, hr, h3⟩ := hc j hj2
  obtain ⟨c1, c2, rfl, ⟨rfl, k1⟩, d1, d2, rfl, ⟨rfl, k2⟩, f1, f2, rfl, ⟨rfl, k3⟩, A1, n1, cc, rfl, hrow, _, hl1, hl2⟩ := hr
  have hg : (l.map fun x : AcV => (⟨x.1, x.2.1, UInt8.ofNat x.2.2.1.toNat, x.2.2.2⟩ : Ac)).getD j default = ⟨l[j].1, l[j].2.1, UInt8.ofNat l[j].2.2.1.toNat, l[j].2.2.2⟩ := by simp [List.getD, hj2]
  rw [hg]
  have e4 : spAct.size = 4 := rfl
  have g0 := h3 0 (by rw [e4]; omega)
  have g1 := h3 1 (by rw [e4]; omega)
  have g2 := h3 2 (by rw [e4]; omega)
  have g3 := h3 3 (by rw [e4]; omega)
  rw [e4] at g0 g1 g2 g3
  have hu := Go.bounds_u8 k3
  refine ⟨A1, n1, cc, (ints_of_spec hrow).1, by unfold maxLen at hl2; omega, Go.bounds_i64 k1, Go.bounds_i64 k2, g0, g1, ?_, g3⟩
  rw [g2]
  have : ((UInt8.ofNat l[j].2.2.1.toNat).toNat : Int) = l[j].2.2.1 := by rw [UInt8.toNat_ofNat']; omega
  simp only [this]
  rfl
def fillB (b : UInt8) (i : Nat) : Blk := ((blkOf b).set 0 (UInt8.ofNat (i % 256))).set 63 (UInt8.ofNat (i / 7 % 256))
theorem fillB_len (b : UInt8) (i : Nat) : (fillB b i).length = 64 := by simp [fillB, blkOf]
theorem blkRow_one {w : World} {V : Nat} {b : Blk} (hb : b.length = 64) (h1 : w.rangeAt V 0 (bytesV b)) (h2 : w.there V 0 64) (h3 : V < w.heap.size) : BlkRow w V [b] :=
  ⟨h3, fun x hx => by rw [List.mem_singleton] at hx; subst hx; exact hb, fun k hk => by
    obtain rfl : k = 0 := by simpa using hk
    exact ⟨by simpa using h1, by simpa using h2⟩⟩
def actV (x : Ac) (A : Option Addr) (n c : Nat) : Value := .agg #[.int .i64 x.K, .int .i64 x.At, .int .u8 (x.B.toNat : Int), .slice A n c]

set_option maxRecDepth 100000 in
set_option maxHeartbeats 1000000 in
theorem fill_any (x : Ac) (A : Option Addr) (n c : Nat) (i : Nat) (hi : i ≤ 300) (w : World) : Calls Try.prog 30 #[actV x A n c, .int .i64 (i : Int)] w fun e w' => e = .returned (blkV' (fillB x.B i)) ∧ Grew w w' := by
  obtain ⟨Z, hZ⟩ : ∃ Z, Z = (bytesV blk0).toArray := ⟨_, rfl⟩
  have hz := fun w => zero40 w
  rw [← hZ] at hz
  have HZ := Lib.hid hZ
  clear hZ
  have CB : Hid (∀ w, Calls Try.prog 20 #[.int .u8 (x.B.toNat : Int)] w fun e w' => e = .returned (.agg (bytesV (blkOf x.B)).toArray) ∧ Grew w w') := fun w => block_any x.B w
  have hl0 : (bytesV (blkOf x.B)).length = 64 := by rw [bytesV_of]; simp
  have hone0 := Lib.hid (bytesV_one' (b := blkOf x.B))
  have hone := Lib.hid (bytesV_one' (b := fillB x.B i))
  have hl : (bytesV (fillB x.B i)).length = 64 := by rw [bytesV_len, fillB_len]
  have m1 : IntKind.u8.wrap (i : Int) = ((UInt8.ofNat (i % 256)).toNat : Int) := by rw [IntKind.wrap_u8, UInt8.toNat_ofNat']; omega
  have m2 : (i : Int).tdiv 7 = ((i / 7 : Nat) : Int) := by rw [Int.tdiv_eq_ediv_of_nonneg (by omega)]; rfl
  have m3 : IntKind.u8.wrap ((i / 7 : Nat) : Int) = ((UInt8.ofNat (i / 7 % 256)).toNat : Int) := by rw [IntKind.wrap_u8, UInt8.toNat_ofNat']; omega
  obtain ⟨x0, hx0⟩ : ∃ x0, UInt8.ofNat (i % 256) = x0 := ⟨_, rfl⟩
  obtain ⟨x1, hx1⟩ : ∃ x1, UInt8.ofNat (i / 7 % 256) = x1 := ⟨_, rfl⟩
  have HF : Hid (fillB x.B i = ((blkOf x.B).set 0 x0).set 63 x1) := by show _ = _; rw [← hx0, ← hx1]; rfl
  rw [hx0] at m1
  rw [hx1] at m3
  have m4 : IntKind.i64.wrap ((i / 7 : Nat) : Int) = ((i / 7 : Nat) : Int) := by rw [IntKind.wrap_i64]; omega
  clear hx0 hx1
  generalize hI7 : i / 7 = i7 at *
  clear hI7
  obtain ⟨W1, hW1⟩ : ∃ W1, W1 = w.alloc (.cells #[.int .i64 x.K, .int .i64 x.At, .int .u8 (x.B.toNat : Int), .slice A n c] 34) := ⟨_, rfl⟩
  have hs1 : W1.heap.size = w.heap.size + 1 := by rw [hW1]; simp
  have g1 : Grew w W1 := by rw [hW1]; exact grew_alloc _ _ _
  have b2 : W1.cell? ⟨w.heap.size, 2, none⟩ = some (.int .u8 (x.B.toNat : Int)) := by rw [hW1]; simp
  have g2 := grew_alloc W1 Z 40
  have hs2 : (W1.alloc (.cells Z 40)).heap.size = w.heap.size + 2 := by simp [hs1]
  have b3 : (W1.alloc (.cells Z 40)).cell? ⟨w.heap.size, 2, none⟩ = some (.int .u8 (x.B.toNat : Int)) := (grew_cell g2 (p := ⟨w.heap.size, 2, none⟩) (by show w.heap.size < W1.heap.size; omega)).trans b2
  have HR : Hid ((W1.alloc (.cells Z 40)).there (w.heap.size + 1) 0 64) := by
    have := there_new W1 Z 40 HZ.out
    rw [hs1] at this; exact this
  have HG2 : Hid (Grew w (W1.alloc (.cells Z 40))) := grew_trans g1 g2
  have HS2 := Lib.hid hs2
  subst hW1
  clear g1 g2 b2 hs1 hs2
  show Calls _ _ #[.agg #[_, _, _, _], _] _ fun e w' => e = .returned (.agg (bytesV (fillB x.B i)).toArray) ∧ Grew w w'
  obtain ⟨cs0, hcs0⟩ : ∃ cs0, cs0 = bytesV (blkOf x.B) := ⟨_, rfl⟩
  have HCS0 := Lib.hid hcs0
  rw [← hcs0] at CB hl0 hone0
  clear hcs0
  have HV := Lib.hid (fun (w4 : World) (V : Nat) (h1 : w4.rangeAt V 0 cs0) (h2 : w4.there V 0 64) (h3 : V < w4.heap.size) => by
    have hb := blkRow_one (w := w4) (V := V) (b := blkOf x.B) (by simp [blkOf]) (by rw [← HCS0.out]; exact h1) h2 h3
    have h4 := hb.put (k := 0) (by simp) 0 (by omega) x0
    have h5 := h4.put (k := 0) (by simp) 63 (by omega) x1
    have h6 := (h5.at' 0 (by simp)).1
    have e1 : (([blkOf x.B].set 0 (([blkOf x.B].getD 0 blk0).set 0 x0)).set 0 ((([blkOf x.B].set 0 (([blkOf x.B].getD 0 blk0).set 0 x0)).getD 0 blk0).set 63 x1)).getD 0 blk0 = fillB x.B i := by rw [HF.out]; rfl
    rw [e1] at h6
    exact h6)
  have hx0v : Hid (byv x0 = .int .u8 (x0.toNat : Int)) := rfl
  have hx1v : Hid (byv x1 = .int .u8 (x1.toNat : Int)) := rfl
  go_enter Try.func30, Try.ntmps30
  go_upto_region 2 with (first
    | (go_at_call 20; ((with_reducible refine (CB.out _).mono ?_); rintro e w3 ⟨rfl, hg⟩; have P1 := Lib.hid (put_new w3 Z HZ.out 40 cs0 hl0); have G3 := Lib.hid hg; clear hg))
    | (refine wpList_store_mid (by rfl) 40 _ _ (by rfl) w3.heap.size 0 cs0.toArray (by rfl) (by rfl) (by simpa [hl0] using P1.out.2.1) (size40 (by simpa using hl0.symm)) hone0.out ?_))
  have p1 := P1.out.1
  have p2 := P1.out.2.2.2.1
  have p3 := P1.out.2.2.2.2
  have HGA := Lib.hid (grew_trans HG2.out (grew_trans G3.out P1.out.2.2.1))
  have HRA := Lib.hid (there_of HR.out ((grew_trans G3.out P1.out.2.2.1).block _ (by rw [HS2.out]; omega)))
  have hVw : w.heap.size + 1 < w3.heap.size := by have := G3.out.size; have := HS2.out; omega
  generalize (w3.alloc (.cells Z 40)).setCells w3.heap.size 0 cs0 = w4 at *
  have HV2 := Lib.hid (HV.out w4 w3.heap.size p1 p2 p3)
  obtain ⟨u0, y0⟩ := Option.isSome_iff_exists.1 (p2 0 (by omega)).1
  obtain ⟨u1, y1⟩ := Option.isSome_iff_exists.1 (p2 63 (by omega)).1
  have f0 := (p2 0 (by omega)).2
  have f1 := (p2 63 (by omega)).2
  rw [Nat.zero_add] at y0 y1 f0 f1
  have y2 : (w4.setCell ⟨w3.heap.size, 0, none⟩ (.int .u8 (x0.toNat : Int))).cell? ⟨w3.heap.size, 63, none⟩ = some u1 := (World.cell?_setCell_other _ _ _ _ (by intro e; simp only [Addr.mk.injEq] at e; omega)).trans y1
  have HR5 : Hid (((w4.setCell ⟨w3.heap.size, 0, none⟩ (.int .u8 (x0.toNat : Int))).setCell ⟨w3.heap.size, 63, none⟩ (.int .u8 (x1.toNat : Int))).rangeAt w3.heap.size 0 (bytesV (fillB x.B i))) := by
    have := HV2.out
    rw [hx0v.out, hx1v.out] at this
    show World.rangeAt _ _ _ _
    simpa using this
  have HG5 : Hid (Grew w ((w4.setCell ⟨w3.heap.size, 0, none⟩ (.int .u8 (x0.toNat : Int))).setCell ⟨w3.heap.size, 63, none⟩ (.int .u8 (x1.toNat : Int)))) := grew_set (grew_set HGA.out _ (by show w.heap.size ≤ w3.heap.size; omega)) _ (by show w.heap.size ≤ w3.heap.size; omega)
  have HT5 : Hid (((w4.setCell ⟨w3.heap.size, 0, none⟩ (.int .u8 (x0.toNat : Int))).setCell ⟨w3.heap.size, 63, none⟩ (.int .u8 (x1.toNat : Int))).there (w.heap.size + 1) 0 64) := by
    refine there_of HRA.out ?_
    rw [Below.heap_setCell _ _ _ _ (by show w.heap.size + 1 ≠ w3.heap.size; omega), Below.heap_setCell _ _ _ _ (by show w.heap.size + 1 ≠ w3.heap.size; omega)]
  clear HV HV2 p1 p2 p3 HRA HGA P1 hx0v hx1v HF HCS0
  generalize hcsE : bytesV (fillB x.B i) = cs at *
  have HCE := Lib.hid hcsE
  clear hcsE
  generalize hw5 : (w4.setCell ⟨w3.heap.size, 0, none⟩ (.int .u8 (x0.toNat : Int))).setCell ⟨w3.heap.size, 63, none⟩ (.int .u8 (x1.toNat : Int)) = w5 at HR5 HG5 HT5
  have hout := Lib.hid (World.rangeAt_setCells_same w5 (w.heap.size + 1) 0 cs (by rw [hl]; exact HT5.out))
  have HGE : Hid (Grew w (w5.setCells (w.heap.size + 1) 0 cs)) := ((Chg.refl (fun k => k = w.heap.size + 1) w5).setCells _ _ _ (fun _ => rfl)).grew HG5.out (fun k hk => by subst hk; omega)
  go_wp2_with (first
    | (refine wpList_load_mid (by rfl) 40 _ (by rfl) w3.heap.size 0 (by rfl) cs _ HR5.out Try.underlying40 rfl (size40 hl.symm) ?_)
    | (refine wpList_store_mid (by rfl) 40 _ _ (by rfl) (w.heap.size + 1) 0 cs.toArray (by rfl) (by rfl) (by simpa [hl] using HT5.out) (size40 (by simpa using hl.symm)) hone.out ?_))
  (try simp only [Exit.inBlock, Exit.then]); refine bodyPost_ret (results_cell_mid rfl _ _ (w.heap.size + 1) cs _ rfl hout.out Try.underlying40 rfl (size40 hl.symm)) rfl ?_
  exact ⟨by rw [HCE.out], HGE.out⟩

def HeavyPost (w : World) (e : Ending) (w' : World) : Prop := (∃ b, e = .returned (.bool b)) ∧ Grew w w'
theorem heavyPost_mk (b : Bool) (w : World) : HeavyPost w (.returned (.bool b)) w := ⟨⟨b, rfl⟩, grew_refl _⟩
/-- It tells something, and turns nothing. -/
theorem heavy_any (A : Option Addr) (n c : Nat) (l : List Ac) (w : World) (h : Acts w A n l) : Calls Try.prog 9 #[.slice A n c] w (HeavyPost w) := by
  have HA := Lib.hid h
  clear h
  by_cases h1 : 1200 < n
  · have d1 : (1200 : Int) < (n : Int) := by omega
    go_enter Try.func9, Try.ntmps9
    go_wp2
    go_ret
    first | exact heavyPost_mk true _ | exact heavyPost_mk false _
  · have d1 : ¬ (1200 : Int) < (n : Int) := by omega
    go_enter Try.func9, Try.ntmps9
    go_wp2
    go_loop [3] (fun v3 => ∃ k : Nat, v3 = .int .i64 k ∧ k ≤ n) (fun v3 => n - (intOf v3).toNat)
    case atStart => exact ⟨0, rfl, Nat.zero_le _⟩
    case round =>
      obtain ⟨k, rfl, hk⟩ := hrel
      by_cases hlt : k < n
      · obtain ⟨b, o, rfl, hb, hc⟩ := HA.out.2 (by omega)
        obtain ⟨A1, n1, c1, _, _, _, _, _, _, _, g3⟩ := hc k hlt
        have j1 : (k : Int) < (n : Int) := by omega
        clear hc
        by_cases h3 : (k : Int) < 300
        · by_cases h4 : (300 : Int) < (n1 : Int)
          · go_wp2
            go_ret
            first | exact heavyPost_mk true _ | exact heavyPost_mk false _
          · go_wp2
            go_round
            case rel => exact ⟨k + 1, by go_num, by omega⟩
            case measure => simp only [intOf]; omega
        · go_wp2
          go_ret
          first | exact heavyPost_mk true _ | exact heavyPost_mk false _
      · obtain rfl : n = k := by omega
        go_wp2
        go_ret
        first | exact heavyPost_mk true _ | exact heavyPost_mk false _
end Go.Proofs.Ytgaopkfdbglnmaa.NumK
