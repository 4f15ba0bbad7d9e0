/- journal: mark, blocksFor, payloadLength, copied. -/
import Derived.Test.YthnhhhfjgbgpgaaRGrd
import Derived.Test.YthnhhhfjgbgpgaaRDiskJ
import Derived.Test.YthnhhhfjgbgpgaaRFrame
import Derived.Test.YthnhhhfjgbgpgaaRMath
import Derived.Deep.CutBlock
namespace Go.Proofs.Ythnhhhfjgbgpgaa.NumK
open Go.RowKit

theorem markG_nat (g : Nat) : (markG g).toNat = 1 + g % 255 := by
  unfold markG; rw [u8_ofNat_mod]; omega
theorem mark_any (g : Nat) (hg : g ≤ 9223372036854775807) (w : World) : Calls Try.prog 61 #[.int .i64 (g : Int)] w fun e w' => e = .returned (.int .u8 ((markG g).toNat : Int)) ∧ w = w' := by
  have H : Hid ((markG g).toNat = 1 + g % 255) := markG_nat g
  have h1 : (g : Int).tmod 255 = ((g % 255 : Nat) : Int) := by rw [Int.tmod_eq_emod_of_nonneg (by omega)]; omega
  have h2 : g % 255 < 255 := Nat.mod_lt _ (by omega)
  generalize (markG g).toNat = r at *
  generalize g % 255 = u at *
  have h3 : IntKind.i64.wrap (1 + (u : Int)) = 1 + (u : Int) := by rw [IntKind.wrap_i64]; omega
  have h4 : IntKind.u8.wrap (1 + (u : Int)) = 1 + (u : Int) := by rw [IntKind.wrap_u8]; omega
  go_enter Try.func61, Try.ntmps61
  go_wp2
  go_ret
  exact ⟨ret_i (by rw [H.out]; omega), rfl⟩
theorem blocksFor_any (n : Nat) (hn : n ≤ 9223372036854775700) (w : World) : Calls Try.prog 59 #[.int .i64 (n : Int)] w fun e w' => e = .returned (.int .i64 (nbk (n + 21) : Int)) ∧ w = w' := by
  have H : Hid (nbk (n + 21) = (n + 82) / 62) := rfl
  generalize nbk (n + 21) = r at *
  have h1 : IntKind.i64.wrap (21 + (n : Int)) = 21 + (n : Int) := by rw [IntKind.wrap_i64]; omega
  have h2 : IntKind.i64.wrap (21 + (n : Int) + 62) = 21 + (n : Int) + 62 := by rw [IntKind.wrap_i64]; omega
  have h3 : IntKind.i64.wrap (21 + (n : Int) + 62 - 1) = 21 + (n : Int) + 62 - 1 := by rw [IntKind.wrap_i64]; omega
  have h4 : (21 + (n : Int) + 62 - 1).tdiv 62 = (((n + 82) / 62 : Nat) : Int) := by rw [Int.tdiv_eq_ediv_of_nonneg (by omega)]; omega
  have h5 : IntKind.i64.wrap (((n + 82) / 62 : Nat) : Int) = (((n + 82) / 62 : Nat) : Int) := by rw [IntKind.wrap_i64]; omega
  generalize (n + 82) / 62 = u at *
  go_enter Try.func59, Try.ntmps59
  go_wp2
  go_ret
  exact ⟨ret_i (by rw [H.out]), rfl⟩

/-- The same bytes, in memory of the call's own. -/
theorem copied_any (A : Option Addr) (n c : Nat) (l : List UInt8) (w : World) (hb : Bys w A n l) (hA : A = none → c = 0) (hn : n ≤ 140737488355328) :
    Calls Try.prog 46 #[.slice A n c] w (TwinBPost l n w) := by
  have HZ := Lib.hid hb
  have HA := Lib.hid hA
  clear hb hA
  go_enter Try.func46, Try.ntmps46
  go_wp2_with (at_builtin; refine (wpList_append_bytes rfl _ _ rfl w.heap.size (.slice none 0 0) 0 [] rfl (World.ownsRow_nil _ _ _ _) A n c l rfl HA.out HZ.out (by omega) (Nat.le_refl _) ?_); intro v' w' ho hb; rw [Nat.zero_add, List.nil_append] at ho; have HP := Lib.hid (twinB_of_own hb ho); clear ho hb)
  go_ret
  exact HP.out

theorem bytesV_at (b : Blk) (k : Nat) (hk : k < b.length) : (bytesV b)[k]? = some (.int .u8 ((b.getD k 0).toNat : Int)) := by
  unfold bytesV
  rw [List.getElem?_map]
  simp [List.getD_eq_getElem?_getD, List.getElem?_eq_getElem hk, byv]
/-- Bytes of a block in memory. -/
theorem bys_range {w : World} {B : Nat} {b : Blk} (h : w.rangeAt B 0 (bytesV b)) (hB : B < w.heap.size) (k n : Nat) (hk : k + n ≤ b.length) : Bys w (some ⟨B, k, none⟩) n ((b.drop k).take n) := by
  refine ⟨by simp; omega, fun _ => ⟨B, k, rfl, hB, fun j hj => ?_⟩⟩
  have := h (k + j) _ (bytesV_at b (k + j) (by omega))
  rw [Nat.zero_add] at this
  rw [this]
  simp [List.getD_eq_getElem?_getD, hj]
theorem lenB_lt (b : Blk) (hb : b.length = 64) : lenB b < 4294967296 := by
  have := num_lt ((b.drop 14).take 4)
  have hl : ((b.drop 14).take 4).length = 4 := by simp; omega
  rw [hl] at this
  exact this
theorem shl8 (t : Nat) (ht : t < 16777216) : IntKind.i64.wrap ((t : Int) * 256) = (t : Int) * 256 := by rw [IntKind.wrap_i64]; omega
theorem or_i64 (t u : Nat) (hu : u < 256) (ht : t < 16777216) : bits .or .i64 ((t : Int) * 256) (u : Int) = (t : Int) * 256 + (u : Int) := by
  have e : t * 256 + u = t * 256 ||| u := by
    have := Nat.two_pow_add_eq_or_of_lt (i := 8) hu t
    rw [Nat.mul_comm t 256]; exact this
  have e1 : (t : Int) * 256 = ((t * 256 : Nat) : Int) := by omega
  rw [e1]
  show IntKind.i64.wrap ((BitVec.ofInt 64 ((t * 256 : Nat) : Int) ||| BitVec.ofInt 64 (u : Int)).toNat : Int) = _
  rw [BitVec.toNat_or, ofInt_u64 _ (by omega), ofInt_u64 u (by omega), ← e, IntKind.wrap_i64]
  omega

set_option maxRecDepth 100000 in
set_option maxHeartbeats 1000000 in
theorem payloadLength_any (b : Blk) (hb : b.length = 64) (w : World) : Calls Try.prog 65 #[blkV' b] w fun e w' => e = .returned (.int .i64 (lenB b : Int)) ∧ Grew w w' := by
  have hl4 : ((b.drop 14).take 4).length = 4 := by simp; omega
  have HB : Hid (Bys (w.alloc (.cells (bytesV b).toArray 61)) (some ⟨w.heap.size, 14, none⟩) 4 ((b.drop 14).take 4)) :=
    bys_range (load_own w _ b _ (grew_refl _)) (by simp) 14 4 (by omega)
  have HG : Hid (Grew w (w.alloc (.cells (bytesV b).toArray 61))) := grew_alloc _ _ _
  have HL : Hid (lenB b = num ((b.drop 14).take 4)) := rfl
  have HN : Hid (∀ k, k < 4 → num (((b.drop 14).take 4).take k) < 16777216 ∧ num (((b.drop 14).take 4).take (k + 1)) = num (((b.drop 14).take 4).take k) * 256 + (((b.drop 14).take 4).getD k 0).toNat) := by
    intro k hk
    refine ⟨?_, ?_⟩
    · have h1 := num_lt (((b.drop 14).take 4).take k)
      refine Nat.lt_of_lt_of_le h1 ?_
      rw [List.length_take, hl4, Nat.min_eq_left (by omega)]
      exact Nat.pow_le_pow_right (n := 256) (by omega) (show k ≤ 3 by omega)
    · rw [take_snocB _ k (by omega)]; exact numF_snoc _ _ _
  have HL4 := Lib.hid hl4
  clear hl4
  show Calls _ _ #[.agg (bytesV b).toArray] _ _
  have hone := Lib.hid (bytesV_one' (b := b))
  have hn := bytesV_len b
  rw [hb] at hn
  clear hb
  generalize (b.drop 14).take 4 = l at *
  generalize lenB b = r at *
  generalize bytesV b = cs at *
  go_enter Try.func65, Try.ntmps65
  go_wp2
  go_loop [3, 8] (fun v3 v8 => ∃ k : Nat, v8 = .int .i64 k ∧ k ≤ 4 ∧ v3 = .int .i64 (num (l.take k) : Int)) (fun _ v8 => 4 - (intOf v8).toNat)
  case atStart => exact ⟨0, rfl, by omega, rfl⟩
  case round =>
    obtain ⟨k, rfl, hk, rfl⟩ := hrel
    by_cases hlt : k < 4
    · obtain ⟨b1, o1, e1, _, hc⟩ := HB.out.2 (by omega)
      cases e1
      have a1 := hc k hlt
      have a3 : (k : Int) < 4 := by omega
      obtain ⟨hb1, hb2⟩ := HN.out k hlt
      have HS := Lib.hid hb2
      have hu := (l.getD k 0).toNat_lt
      clear hc hb2
      generalize l.getD k 0 = x at *
      generalize num (l.take k) = t at *
      generalize x.toNat = u at *
      have e1 := or_i64 t u (by omega) hb1
      have e2 := shl8 t hb1
      go_wp2
      go_round
      case rel => exact ⟨k + 1, by go_num, by omega, by rw [HS.out]; congr 1⟩
      case measure => simp only [intOf]; omega
    · obtain rfl : k = 4 := by omega
      have HF : Hid (num (l.take 4) = r) := by show _ = _; rw [List.take_of_length_le (by rw [HL4.out]; omega), HL.out]
      generalize num (l.take 4) = t at *
      go_wp2
      go_ret
      exact ⟨ret_i (by rw [HF.out]), HG.out⟩
end Go.Proofs.Ythnhhhfjgbgpgaa.NumK
namespace Go.Proofs.Ythnhhhfjgbgpgaa.NumK
open Go.RowKit

theorem own_mono {w : World} {base base2 : Nat} {e : TypeId} {sz : Nat} {v : Value} {n : Nat} {xs : List Value} (h : w.ownsRow base e sz v n xs) (hb : base2 ≤ base) : w.ownsRow base2 e sz v n xs := by
  obtain ⟨h1, h2⟩ := h
  refine ⟨h1, ?_⟩
  rcases h2 with h2 | ⟨g, cap, cur, e1, e2, e3⟩
  · exact Or.inl h2
  · exact Or.inr ⟨g, cap, cur, e1, Nat.le_trans hb e2, e3⟩
theorem ownR_grew {w w' : World} {base : Nat} {e : TypeId} {sz : Nat} {v : Value} {n : Nat} {xs : List Value} (h : w.ownsRow base e sz v n xs) (g : Grew w w') : w'.ownsRow base e sz v n xs :=
  ownsRow_of h fun k hk => g.block k (h.lt k hk).2
theorem own_len_of {l : List UInt8} {w : World} {base : Nat} {e : TypeId} {v : Value} {n : Nat} (h : w.ownsRow base e 1 v n (l.map byv)) : l.length = n := by
  have := h.1; simpa using this
theorem quiet_keep {P : Program} {f : FuncId} {args : Array Value} {w : World} {n : Nat} {v : Value}
    (h : Calls P f args (w.drewN n) fun e w' => e = .returned v ∧ w.drewN n = w') : Calls P f args (w.drewN n) fun e w'' => e = .returned v ∧ ∃ m, w'' = w.drewN m :=
  h.mono fun _ _ ⟨he, hm⟩ => ⟨he, n, hm.symm⟩
/-- A struct of a few cells is stored whole. -/
theorem wpList_store_cells {ops : Array Oper} {rest : List Oper} {op : Oper} {a : Act} {w : World} {Q : Exit → Act → World → Prop} (hgd : op.guard = none) (ty : TypeId) (x y : Operand) (ho : op.op = .store ty x y)
    (b o : Nat) (cs : List Value) (hx : a.eval x = .pointer (some ⟨b, o, none⟩)) (hy : a.eval y = .agg cs.toArray) (n : Nat) (hn : cs.length = n)
    (ht : w.there b o n) (hi : (Try.prog.info? ty).map (·.size) = some n) (h1 : ∀ v ∈ cs, v.oneCell' = true)
    (h : wpList Try.prog ops Q rest (a.put op.dst undef) (w.setCells b o cs)) : wpList Try.prog ops Q (op :: rest) a w :=
  wpList_store_mid hgd ty x y ho b o cs.toArray hx hy (by simpa [hn] using ht) (by simpa [hn] using hi) (all_oneCell_toArray h1) h
theorem one4 {a b c d : Value} (ha : a.oneCell' = true) (hb : b.oneCell' = true) (hc : c.oneCell' = true) (hd : d.oneCell' = true) : ∀ v ∈ [a, b, c, d], v.oneCell' = true := by
  intro v hv
  simp only [List.mem_cons, List.not_mem_nil, or_false] at hv
  rcases hv with rfl | rfl | rfl | rfl <;> assumption
/-- The zero row. -/
def row0 : Value := .agg #[.int .i64 0, .int .i64 0, .slice none 0 0, .int .i64 0]
theorem infoRow : (Try.prog.info? 91).map (fun i => (i.zero, i.size)) = some (some row0, 4) := by kernel_rfl
theorem sizeRow {n : Nat} (h : 4 = n) : (Try.prog.info? 91).map (·.size) = some n := by subst h; exact (zero_of_info infoRow).2
theorem zeroRow (w : World) : (zeroValue 91).run Try.prog w = .ok row0 w := (zero_of_info infoRow).1 w
def RowPost (r : Option (Nat × Nat × List UInt8 × Nat)) (w : World) (e : Ending) (w' : World) : Prop :=
  Grew w w' ∧ ((r = none ∧ e = .returned (.tuple #[row0, .bool false])) ∨
    ∃ g k p nb v, r = some (g, k, p, nb) ∧ e = .returned (.tuple #[.agg #[.int .i64 (g : Int), .int .i64 (k : Int), v, .int .i64 (nb : Int)], .bool true]) ∧ w'.ownsRow w.heap.size 5 1 v p.length (p.map byv))
theorem dRead_see {s : DS} (h : DOK s) (ho : s.off = false) (k : Nat) : (dRead s (k : Int)).1 = s.see k := by
  by_cases hk : k < s.safe.length
  · rw [dRead_of ho hk]; show (applyL s.safe s.opn).getD k blk0 = _; rw [applyL_see _ _ _ hk]; rfl
  · have hr : refI s (k : Int) ≠ 0 := by
      unfold refI DS.has; rw [ho]; simp; omega
    rw [dRead_not hr]
    unfold DS.see
    rw [seeL_none _ _ _ (fun v hv e => by have := (h.all.2 v hv).1; omega), List.getD_eq_getElem?_getD, List.getElem?_eq_none (by omega)]
    rfl
theorem see_len {s : DS} (h : DOK s) (ho : s.off = false) (k : Nat) : (s.see k).length = 64 := by rw [← dRead_see h ho]; exact dRead_len h _
/-- Read, told by what is seen. -/
theorem read_see (F : Nat → Prop) (q : Nat) (s : DS) (k : Nat) (w : World) (h : DK w F q s) (ho : s.off = false) :
    Calls Try.prog 36 #[.pointer (some ⟨q, 0, none⟩), .int .i64 (k : Int)] w fun e w' => (∃ x : Int, e = .returned (.tuple #[.agg (bytesV (s.see k)).toArray, .int .i64 x])) ∧ Grew w w' :=
  (read_any F q s k w h).mono fun e w' ⟨he, hg⟩ => ⟨⟨(dRead s k).2, by rw [he, ← dRead_see h.ok ho]; rfl⟩, hg⟩

set_option maxRecDepth 100000 in
set_option maxHeartbeats 4000000 in
theorem rowP_walk (F : Nat → Prop) (q : Nat) (s : DS) (at' limit : Nat) (w : World) (h : DK w F q s) (ho : s.off = false) (ha : at' ≤ limit) (hl : limit ≤ s.safe.length) :
    Calls Try.prog 57 #[.pointer (some ⟨q, 0, none⟩), .int .i64 (at' : Int), .int .i64 (limit : Int)] w (RowPost (rowP s.see limit at') w) := by
  have hfew := h.ok.few
  obtain ⟨ZZ, hZZ⟩ : ∃ Z, Z = (bytesV blk0).toArray := ⟨_, rfl⟩
  have hz := fun w => zero40 w
  rw [← hZZ] at hz
  have HZZ := Lib.hid hZZ
  clear hZZ
  have hlen := fun k => see_len h.ok ho k
  have R0 := Lib.hid (fun w' (g : Grew w w') (k : Nat) => read_see F q s k w' (h.grew g) ho)
  have G1 : Hid (Grew w (w.alloc (.cells #[.int .i64 0, .int .i64 0, .slice none 0 0, .int .i64 0] 91))) := grew_alloc _ _ _
  have hb := hlen at'
  have PL := Lib.hid (fun w => payloadLength_any (s.see at') hb w)
  have hL := lenB_lt _ hb
  have BF := Lib.hid (fun w => blocksFor_any (lenB (s.see at')) (by omega) w)
  have hnb : nbk (lenB (s.see at') + 21) ≤ 69273668 := by unfold nbk; omega
  obtain ⟨x0, hx0⟩ : ∃ x, x = (s.see at').getD 0 0 := ⟨_, rfl⟩
  have HX0 := Lib.hid hx0
  have c0 := bytesV_at (s.see at') 0 (by omega)
  rw [← hx0] at c0
  have hbl := bytesV_len (s.see at')
  rw [hb] at hbl
  have hone := Lib.hid (bytesV_one' (b := s.see at'))
  obtain ⟨nb, hnbe⟩ : ∃ nb, nb = nbk (lenB (s.see at') + 21) := ⟨_, rfl⟩
  obtain ⟨L, hLe⟩ : ∃ L, L = lenB (s.see at') := ⟨_, rfl⟩
  have HP : Hid (rowP s.see limit at' = if limit < at' + nb ∨ ¬ sameF s.see at' nb then none else
      match frs (joinF s.see at' nb) with | none => none | some (g, k, n) => if markG g = x0 then some (g, k, ((joinF s.see at' nb).drop 21).take n, nb) else none) := by
    show _ = _; rw [hnbe, hx0]; rfl
  rw [← hnbe] at hnb BF
  rw [← hLe] at hL BF PL
  have HNB := Lib.hid hnbe
  have PLs : Hid (∀ w, Calls Try.prog 65 #[.agg (bytesV (s.see at')).toArray] w fun e w' => e = .returned (.int .i64 (L : Int)) ∧ Grew w w') := PL.out
  have R1 : Hid (∀ w', Grew w w' → Calls Try.prog 36 #[.pointer (some ⟨q, 0, none⟩), .int .i64 (at' : Int)] w' fun e w2 => (∃ x : Int, e = .returned (.tuple #[.agg (bytesV (s.see at')).toArray, .int .i64 x])) ∧ Grew w' w2) := fun w' g => R0.out w' g at'
  have HLS := Lib.hid hlen
  clear hlen hb hnbe hLe hx0 PL h
  generalize rowP s.see limit at' = rr at *
  generalize bytesV (s.see at') = cs at *
  have i1 : IntKind.i64.wrap ((limit : Int) - (at' : Int)) = (limit : Int) - (at' : Int) := by rw [IntKind.wrap_i64]; omega
  go_enter Try.func57, Try.ntmps57
  go_upto_region 2 with (first
    | (go_at_call 36; ((with_reducible refine (R1.out _ G1.out).mono ?_); rintro e w14 ⟨⟨xe, rfl⟩, hg⟩; have P1 := Lib.hid (put_new w14 ZZ HZZ.out 61 cs hbl); have GR := Lib.hid (grew_trans hg P1.out.2.2.1); have HS14 := Lib.hid hg.size; clear hg))
    | (refine wpList_store_mid (by rfl) 61 _ _ (by rfl) w14.heap.size 0 cs.toArray (by rfl) (by rfl) (by simpa [hbl] using P1.out.2.1) (size40 (by simpa using hbl.symm)) hone.out ?_))
  have HT : Hid (((w14.alloc (.cells ZZ 61)).setCells w14.heap.size 0 cs).there w.heap.size 0 4) := by
    intro j hj
    have hlt : w.heap.size < (w.alloc (.cells #[.int .i64 0, .int .i64 0, .slice none 0 0, .int .i64 0] 91)).heap.size := by simp
    refine ⟨?_, (Below.frozen GR.out (p := ⟨w.heap.size, 0 + j, none⟩) hlt).trans (by simp)⟩
    rw [grew_cell GR.out (p := ⟨w.heap.size, 0 + j, none⟩) hlt, World.cell?_alloc_at _ _ _ _ rfl]
    match j, hj with
    | 0, _ => rfl
    | 1, _ => rfl
    | 2, _ => rfl
    | 3, _ => rfl
  have GW := Lib.hid (grew_trans G1.out GR.out)
  obtain ⟨hrg, -, -, -, hlt14⟩ := P1.out
  have c0W := hrg 0 _ c0
  rw [Nat.zero_add] at c0W
  have hB1 : w.heap.size < w14.heap.size := by have := HS14.out; simp at this; omega
  generalize hW2 : (w14.alloc (.cells ZZ 61)).setCells w14.heap.size 0 cs = W2 at *
  clear hW2 P1 GR R1 G1
  generalize w14.heap.size = B1 at *
  go_upto_region 3 with (first
    | (refine wpList_load_mid (by rfl) 61 _ (by rfl) B1 0 (by rfl) cs _ hrg Try.underlying61 rfl (size40 hbl.symm) ?_)
    | (go_at_call 65; ((with_reducible refine (PLs.out _).mono ?_); rintro e w15 ⟨rfl, hg15⟩))
    | (go_at_call 59; ((with_reducible refine (BF.out _).mono ?_); rintro e w16 ⟨rfl, rfl⟩)))
  have c0 := (grew_cell hg15 (p := ⟨B1, 0, none⟩) hlt14).trans c0W
  have hth := there_of HT.out (hg15.block _ (by omega))
  have hRlt : w.heap.size < w15.heap.size := by have := hg15.size; omega
  have hB1lt : B1 < w15.heap.size := by have := hg15.size; omega
  have GV := Lib.hid (grew_trans GW.out hg15)
  clear HT GW hg15 hrg hlt14 c0W PLs BF HS14
  obtain ⟨z4, hz4⟩ : ∃ z : List Value, z = [.int .i64 0, .int .i64 0, .slice none 0 0, .int .i64 0] := ⟨_, rfl⟩
  have hzr : ∀ w, (zeroValue 91).run Try.prog w = .ok (.agg z4.toArray) w := by subst hz4; exact fun w => zeroRow w
  have HR0 : Hid (Value.agg z4.toArray = row0) := by subst hz4; rfl
  have hz4l : Hid (z4.length = 4) := by subst hz4; rfl
  have hz4o : ∀ v ∈ z4, v.oneCell' = true := by subst hz4; exact one4 rfl rfl rfl rfl
  clear hz4
  -- nothing stands: what the call tells
  have hst0 : ∀ w' : World, Grew w15 w' → w'.there w.heap.size 0 4 := fun w' g => there_of hth (g.block _ hRlt)
  have HNone : Hid (∀ w' : World, rr = none → Grew w15 w' → RowPost rr w (.returned (.tuple #[.agg z4.toArray, .bool false])) (w'.setCells w.heap.size 0 z4)) := by
    intro w' hr g
    exact ⟨((Grew.chg (F := fun k => k = w.heap.size) (grew_trans GV.out g)).setCells _ _ _ (fun _ => rfl)).grew (grew_refl _) (fun k hk => by subst hk; exact Nat.le_refl _), Or.inl ⟨hr, by rw [HR0.out]⟩⟩
  have HOut : Hid (∀ w' : World, Grew w15 w' → (w'.setCells w.heap.size 0 z4).rangeAt w.heap.size 0 z4) :=
    fun w' g => World.rangeAt_setCells_same _ _ _ _ (by rw [hz4l.out]; exact hst0 w' g)
  have HS0 := Lib.hid hst0
  clear hst0
  by_cases hbig : limit < at' + nb
  · have j1 : (limit : Int) - (at' : Int) < (nb : Int) := by omega
    have hr : rr = none := by rw [HP.out, if_pos (Or.inl hbig)]
    have HN := Lib.hid (HNone.out w15 hr (grew_refl _))
    have HO := Lib.hid (HOut.out w15 (grew_refl _))
    go_wp2_with (first
      | (refine wpList_store_cells (by rfl) 91 _ _ (by rfl) w.heap.size 0 z4 (by rfl) (by rfl) 4 hz4l.out hth (sizeRow rfl) hz4o ?_))
    (try simp only [Exit.inBlock, Exit.then]); refine bodyPost_ret (results_cell_tmp_mid rfl _ _ w.heap.size z4 _ rfl HO.out Try.underlying91 rfl (sizeRow hz4l.out.symm)) rfl ?_
    exact HN.out
  · have j1 : ¬ (limit : Int) - (at' : Int) < (nb : Int) := by omega
    have HPs : Hid (rr = if ¬ sameF s.see at' nb then none else
        match frs (joinF s.see at' nb) with | none => none | some (g, k, n) => if markG g = x0 then some (g, k, ((joinF s.see at' nb).drop 21).take n, nb) else none) := by
      show _ = _
      rw [HP.out]
      by_cases hs : sameF s.see at' nb
      · rw [if_neg (by rw [not_or]; exact ⟨hbig, fun h => h hs⟩), if_neg (fun h => h hs)]
      · rw [if_pos (Or.inr hs), if_pos hs]
    clear HP
    have HZ1 : Hid (w15.ownsRow w15.heap.size 5 1 (.slice none 0 0) 0 (([] : List UInt8).map byv)) := World.ownsRow_nil _ _ _ _
    go_wp2
    go_loopw [11, 36] (fun v11 v36 wr => ∃ k : Nat, v36 = .int .i64 k ∧ k ≤ nb ∧ Hid (wr.ownsRow w15.heap.size 5 1 v11 (62 * k) ((joinF s.see at' k).map byv)) ∧ Hid (sameF s.see at' k) ∧ Hid (Grew w15 wr)) (fun _ v36 _ => nb - (intOf v36).toNat)
    case atStart => exact ⟨0, rfl, by omega, HZ1, fun i hi => absurd hi (by omega), grew_refl _⟩
    case round =>
      obtain ⟨k, rfl, hk, HO, HSM, HG⟩ := hrel
      by_cases hlt : k < nb
      · have j2 : (k : Int) < (nb : Int) := by omega
        have R1 := Lib.hid (R0.out wr (grew_trans GV.out HG.out) (at' + k))
        rw [Int.natCast_add] at R1
        have i2 : IntKind.i64.wrap ((at' : Int) + (k : Int)) = (at' : Int) + (k : Int) := by rw [IntKind.wrap_i64]; omega
        have hb := HLS.out (at' + k)
        have e0 := bytesV_at (s.see (at' + k)) 0 (by omega)
        have e63 := bytesV_at (s.see (at' + k)) 63 (by omega)
        have hckl := bytesV_len (s.see (at' + k))
        rw [hb] at hckl
        have hone2 := Lib.hid (bytesV_one' (b := s.see (at' + k)))
        have HBY := Lib.hid (fun (w' : World) B (h : w'.rangeAt B 0 (bytesV (s.see (at' + k)))) (hB : B < w'.heap.size) => bys_range h hB 1 62 (by omega))
        have HIN : Hid (((s.see (at' + k)).drop 1).take 62 = innerB (s.see (at' + k))) := rfl
        have HJ : Hid (joinF s.see at' (k + 1) = joinF s.see at' k ++ innerB (s.see (at' + k))) := rfl
        have HX : Hid (sameF s.see at' (k + 1) ↔ sameF s.see at' k ∧ ((s.see (at' + k)).getD 0 0 = x0 ∧ (s.see (at' + k)).getD 63 0 = x0)) := by
          show _ ↔ _
          rw [HX0.out]
          constructor
          · intro h; exact ⟨fun i hi => h i (by omega), h k (by omega)⟩
          · rintro ⟨h, h1⟩ i hi
            rcases Nat.lt_succ_iff_lt_or_eq.1 hi with h2 | rfl
            · exact h i h2
            · exact h1
        have HXn : Hid (sameF s.see at' nb → (s.see (at' + k)).getD 0 0 = x0 ∧ (s.see (at' + k)).getD 63 0 = x0) := fun h => by
          rw [HX0.out]; exact h k hlt
        rw [HIN.out] at HBY
        clear hb HIN
        generalize innerB (s.see (at' + k)) = ib at *
        generalize bytesV (s.see (at' + k)) = ck at *
        generalize (s.see (at' + k)).getD 0 0 = y0 at *
        generalize (s.see (at' + k)).getD 63 0 = y63 at *
        go_upto_region 10 with (first
          | (go_at_call 36; ((with_reducible refine R1.out.mono ?_); rintro e w24 ⟨⟨xe2, rfl⟩, hg⟩; have P1 := Lib.hid (put_new w24 ZZ HZZ.out 61 ck hckl); have HG2 := Lib.hid (grew_trans hg P1.out.2.2.1); clear hg))
          | (refine wpList_store_mid (by rfl) 61 _ _ (by rfl) w24.heap.size 0 ck.toArray (by rfl) (by rfl) (by simpa [hckl] using P1.out.2.1) (size40 (by simpa using hckl.symm)) hone2.out ?_))
        obtain ⟨hrg, -, -, -, hlt24⟩ := P1.out
        have a0 := hrg 0 _ e0
        have a63 := hrg 63 _ e63
        rw [Nat.zero_add] at a0 a63
        have HBY2 := Lib.hid (HBY.out _ _ hrg hlt24)
        generalize hW3 : (w24.alloc (.cells ZZ 61)).setCells w24.heap.size 0 ck = w25 at *
        have HG3 := Lib.hid (grew_trans HG.out HG2.out)
        have c0' := (grew_cell HG3.out (p := ⟨B1, 0, none⟩) hB1lt).trans c0
        have HO2 := Lib.hid (ownB_keep HO.out HG2.out)
        clear hW3 P1 R1 R0 HG HG2 HO HBY e0 e63 hrg
        generalize w24.heap.size = B2 at *
        by_cases hy : y0 = x0 ∧ y63 = x0
        · obtain ⟨rfl, rfl⟩ := hy
          have HSM2 := Lib.hid (HX.out.2 ⟨HSM.out, rfl, rfl⟩)
          clear HX HXn HX0 HPs HSM
          generalize y63.toNat = u at *
          go_wp2_with (at_builtin; refine (wpList_append_bytes rfl _ _ rfl w15.heap.size _ (62 * k) (joinF s.see at' k) rfl HO2.out (some ⟨B2, 1, none⟩) 62 63 ib rfl (fun h => by cases h) HBY2.out (by omega) HG3.out.size ?_); intro v' w' ho hb; have HO3 := Lib.hid ho; have HG4 := Lib.hid (Below.trans HG3.out hb); clear ho hb)
          go_roundw
          case rel => exact ⟨k + 1, by go_num, by omega, by rw [HJ.out]; exact HO3.out, HSM2, HG4⟩
          case measure => simp only [intOf]; omega
        · have HN := Lib.hid (HNone.out w25 (by rw [HPs.out, if_pos (fun h => hy (HXn.out h))]) HG3.out)
          have HO4 := Lib.hid (HOut.out w25 HG3.out)
          have hth2 := HS0.out w25 HG3.out
          clear HX HXn HX0 HPs HSM HNone HOut HS0 HBY2 HJ HO2
          by_cases hy0 : y0 = x0
          · subst hy0
            have hy63 : y63.toNat ≠ y0.toNat := fun h => hy ⟨rfl, UInt8.toNat_inj.1 h⟩
            clear hy
            generalize y0.toNat = u at *
            generalize y63.toNat = v at *
            have d1 : ((v : Int) != (u : Int)) = true := by simp; omega
            go_wp2_with (first
              | (refine wpList_store_cells (by rfl) 91 _ _ (by rfl) w.heap.size 0 z4 (by rfl) (by rfl) 4 hz4l.out hth2 (sizeRow rfl) hz4o ?_))
            (try simp only [Exit.inBlock, Exit.then]); refine bodyPost_ret (results_cell_tmp_mid rfl _ _ w.heap.size z4 _ rfl HO4.out Try.underlying91 rfl (sizeRow hz4l.out.symm)) rfl ?_
            exact HN.out
          · have hy1 : y0.toNat ≠ x0.toNat := fun h => hy0 (UInt8.toNat_inj.1 h)
            generalize x0.toNat = u at *
            generalize y0.toNat = v at *
            have d1 : ((v : Int) != (u : Int)) = true := by simp; omega
            go_wp2_with (first
              | (refine wpList_store_cells (by rfl) 91 _ _ (by rfl) w.heap.size 0 z4 (by rfl) (by rfl) 4 hz4l.out hth2 (sizeRow rfl) hz4o ?_))
            (try simp only [Exit.inBlock, Exit.then]); refine bodyPost_ret (results_cell_tmp_mid rfl _ _ w.heap.size z4 _ rfl HO4.out Try.underlying91 rfl (sizeRow hz4l.out.symm)) rfl ?_
            exact HN.out
      · have hkn : k = nb := by omega
        subst hkn
        have HPt : Hid (rr = match frs (joinF s.see at' k) with | none => none | some (g, k', n) => if markG g = x0 then some (g, k', ((joinF s.see at' k).drop 21).take n, k) else none) := by
          show _ = _; rw [HPs.out, if_neg (fun h => h HSM.out)]
        obtain ⟨A, c, rfl, hby, hA, hc1, hc2, -⟩ := bys_own2 HO.out
        have CF := Lib.hid (first_any A (62 * k) c _ wr hby hA hc1 hc2)
        clear HPs HX0 HSM HO R0 hby hA hc1 hc2 HLS HNB HZ1
        cases hf : frs (joinF s.see at' k) with
        | none =>
          have CFn : Hid (Calls Try.prog 66 #[.slice A (62 * k) c] wr fun e w' => e = .returned (.tuple #[.int .i64 0, .int .i64 0, .slice none 0 0, .int .i64 0, .int .i64 4]) ∧ Grew wr w') := CF.out.mono fun e w' ⟨hg, hor⟩ => by
            rcases hor with ⟨_, h⟩ | ⟨g, m, sz, v, h, _⟩
            · exact ⟨h, hg⟩
            · rw [hf] at h; cases h
          have HN1 := Lib.hid (fun w' (g : Grew w15 w') => HNone.out w' (by rw [HPt.out, hf]) g)
          clear CF HPt HNone hf
          generalize 62 * k = nn at *
          go_upto_region 15 with (go_at_call 66; ((with_reducible refine CFn.out.mono ?_); rintro e w31 ⟨rfl, hg⟩; have HG2 := Lib.hid (grew_trans HG.out hg); clear hg))
          have c0' := (grew_cell HG2.out (p := ⟨B1, 0, none⟩) hB1lt).trans c0
          go_quiet (fail)
          have HG3 := Lib.hid (grew_drewN HG2.out nq)
          generalize w31.drewN nq = w32 at HG3 ⊢
          have HN := Lib.hid (HN1.out w32 HG3.out)
          have HO4 := Lib.hid (HOut.out w32 HG3.out)
          have hth2 := HS0.out w32 HG3.out
          go_wp2_with (first
            | (refine wpList_store_cells (by rfl) 91 _ _ (by rfl) w.heap.size 0 z4 (by rfl) (by rfl) 4 hz4l.out hth2 (sizeRow rfl) hz4o ?_))
          (try simp only [Exit.inBlock, Exit.then]); refine bodyPost_ret (results_cell_tmp_mid rfl _ _ w.heap.size z4 _ rfl HO4.out Try.underlying91 rfl (sizeRow hz4l.out.symm)) rfl ?_
          exact HN.out
        | some x =>
          obtain ⟨g, m, sz⟩ := x
          have CFs : Hid (Calls Try.prog 66 #[.slice A (62 * k) c] wr fun e w' => ∃ A2 c2, e = .returned (.tuple #[.int .i64 (g : Int), .int .i64 (m : Int), .slice A2 sz c2, .int .i64 ((21 + sz : Nat) : Int), .int .i64 0]) ∧ Grew wr w' ∧ w'.ownsRow wr.heap.size 5 1 (.slice A2 sz c2) sz ((((joinF s.see at' k).drop 21).take sz).map byv)) := CF.out.mono fun e w' ⟨hg, hor⟩ => by
            rcases hor with ⟨h, _⟩ | ⟨g2, m2, sz2, v, h, he, ho⟩
            · rw [hf] at h; cases h
            · rw [hf] at h
              simp only [Option.some.injEq, Prod.mk.injEq] at h
              obtain ⟨rfl, rfl, rfl⟩ := h
              obtain ⟨A2, c2, rfl⟩ := own_form ho
              exact ⟨A2, c2, he, hg, ho⟩
          have hgs := frs_some hf
          have CM := Lib.hid (fun w => mark_any g (by omega) w)
          have HPy : Hid (rr = if markG g = x0 then some (g, m, ((joinF s.see at' k).drop 21).take sz, k) else none) := by show _ = _; rw [HPt.out, hf]
          have hlen : ∀ w0 base v, World.ownsRow w0 base 5 1 v sz ((((joinF s.see at' k).drop 21).take sz).map byv) → (((joinF s.see at' k).drop 21).take sz).length = sz := fun _ _ _ h => own_len_of h
          clear CF HPt hf hgs
          generalize ((joinF s.see at' k).drop 21).take sz = pl at *
          have HLn := Lib.hid hlen
          clear hlen
          generalize hsz : (21 + sz : Nat) = N21 at *
          clear hsz
          generalize 62 * k = nn at *
          go_upto_region 15 with (go_at_call 66; ((with_reducible refine CFs.out.mono ?_); rintro e w31 ⟨A2, c2, rfl, hg, how⟩; have HG2 := Lib.hid (grew_trans HG.out hg); have HW := Lib.hid how; clear hg how))
          have c0' := (grew_cell HG2.out (p := ⟨B1, 0, none⟩) hB1lt).trans c0
          by_cases hm : markG g = x0
          · rw [hm] at CM
            have HPz : Hid (rr = some (g, m, pl, k)) := by show _ = _; rw [HPy.out, if_pos hm]
            clear HPy hm HNone HOut hzr HR0 hz4l hz4o
            generalize x0.toNat = u at *
            go_quiet (first | (go_at_call 61; with_reducible exact quiet_keep (CM.out _)))
            have HG3 := Lib.hid (grew_drewN HG2.out nq)
            have HW3 := Lib.hid (ownB_keep HW.out (grew_drewN (grew_refl _) nq))
            generalize w31.drewN nq = w32 at HG3 HW3 ⊢
            have hth2 := HS0.out w32 HG3.out
            have HO4 : Hid ((w32.setCells w.heap.size 0 [.int .i64 (g : Int), .int .i64 (m : Int), .slice A2 sz c2, .int .i64 (k : Int)]).rangeAt w.heap.size 0 [.int .i64 (g : Int), .int .i64 (m : Int), .slice A2 sz c2, .int .i64 (k : Int)]) := World.rangeAt_setCells_same _ _ _ _ hth2
            have HN : Hid (RowPost rr w (.returned (.tuple #[.agg ([.int .i64 (g : Int), .int .i64 (m : Int), .slice A2 sz c2, .int .i64 (k : Int)] : List Value).toArray, .bool true])) (w32.setCells w.heap.size 0 [.int .i64 (g : Int), .int .i64 (m : Int), .slice A2 sz c2, .int .i64 (k : Int)])) := by
              have hc : Chg (fun i => i = w.heap.size) w32 (w32.setCells w.heap.size 0 [.int .i64 (g : Int), .int .i64 (m : Int), .slice A2 sz c2, .int .i64 (k : Int)]) := (Chg.refl _ _).setCells _ _ _ (fun _ => rfl)
              refine ⟨((Grew.chg (F := fun i => i = w.heap.size) (grew_trans GV.out HG3.out)).trans hc).grew (grew_refl _) (fun i hi => by subst hi; exact Nat.le_refl _), Or.inr ⟨g, m, pl, k, .slice A2 sz c2, HPz.out, rfl, ?_⟩⟩
              rw [HLn.out _ _ _ HW3.out]
              have hbs := (grew_trans GV.out HG.out).size
              have := own_mono HW3.out hbs
              refine ownsRow_of this fun i hi => hc.block i (HW3.out.lt i hi).2 (fun e => ?_)
              have h1 := (HW3.out.lt i hi).1
              have h2 := (grew_trans (grew_refl _) HG.out).size
              omega
            have hone5 : ∀ v ∈ ([.int .i64 (g : Int), .int .i64 (m : Int), .slice A2 sz c2, .int .i64 (k : Int)] : List Value), v.oneCell' = true := one4 rfl rfl rfl rfl
            go_wp2_with (first
              | (refine wpList_store_cells (by rfl) 91 _ _ (by rfl) w.heap.size 0 [.int .i64 (g : Int), .int .i64 (m : Int), .slice A2 sz c2, .int .i64 (k : Int)] (by rfl) (by rfl) 4 rfl hth2 (sizeRow rfl) hone5 ?_))
            (try simp only [Exit.inBlock, Exit.then]); refine bodyPost_ret (results_cell_tmp_mid rfl _ _ w.heap.size [.int .i64 (g : Int), .int .i64 (m : Int), .slice A2 sz c2, .int .i64 (k : Int)] _ rfl HO4.out Try.underlying91 rfl (sizeRow rfl)) rfl ?_
            exact HN.out
          · have HN1 := Lib.hid (fun w' (g : Grew w15 w') => HNone.out w' (by rw [HPy.out, if_neg hm]) g)
            have hu : (markG g).toNat ≠ x0.toNat := fun h => hm (UInt8.toNat_inj.1 h)
            clear HPy hm HNone
            generalize (markG g).toNat = v at *
            generalize x0.toNat = u at *
            have d1 : ((v : Int) != (u : Int)) = true := by simp; omega
            go_quiet (first | (go_at_call 61; with_reducible exact quiet_keep (CM.out _)))
            have HG3 := Lib.hid (grew_drewN HG2.out nq)
            generalize w31.drewN nq = w32 at HG3 ⊢
            have HN := Lib.hid (HN1.out w32 HG3.out)
            have HO4 := Lib.hid (HOut.out w32 HG3.out)
            have hth2 := HS0.out w32 HG3.out
            go_wp2_with (first
              | (refine wpList_store_cells (by rfl) 91 _ _ (by rfl) w.heap.size 0 z4 (by rfl) (by rfl) 4 hz4l.out hth2 (sizeRow rfl) hz4o ?_))
            (try simp only [Exit.inBlock, Exit.then]); refine bodyPost_ret (results_cell_tmp_mid rfl _ _ w.heap.size z4 _ rfl HO4.out Try.underlying91 rfl (sizeRow hz4l.out.symm)) rfl ?_
            exact HN.out
/-- The row that stands at a block, told in the page's words. -/
theorem rowAt_any (F : Nat → Prop) (q : Nat) (s : DS) (at' limit : Nat) (w : World) (h : DK w F q s) (ho : s.off = false) (ha : at' ≤ limit) (hl : limit ≤ s.safe.length) :
    Calls Try.prog 57 #[.pointer (some ⟨q, 0, none⟩), .int .i64 (at' : Int), .int .i64 (limit : Int)] w (RowPost (rowAt s.see limit at') w) := by
  rw [← rowP_eq _ _ _ (see_len h.ok ho at')]
  exact rowP_walk F q s at' limit w h ho ha hl
end Go.Proofs.Ythnhhhfjgbgpgaa.NumK
namespace Go.Proofs.Ythnhhhfjgbgpgaa.NumK
open Go.RowKit

/-! ### the records, whatever the fuel -/
theorem rowAt_lt {f : Nat → Blk} {room at' : Nat} {x : Nat × Nat × List UInt8 × Nat} (h : rowAt f room at' = some x) : at' < room := by
  apply Classical.byContradiction
  intro hn
  rw [rowAt_room (by omega)] at h
  cases h
theorem recsF_any {f : Nat → Blk} {room g : Nat} (n m at' k : Nat) (hn : room ≤ at' + n) (hm : room ≤ at' + m) : recsF f room g n at' k = recsF f room g m at' k := by
  induction n generalizing m at' k with
  | zero =>
    cases m with
    | zero => rfl
    | succ m => unfold recsF; rw [rowAt_room (by omega)]
  | succ n ih =>
    cases m with
    | zero => unfold recsF; rw [rowAt_room (by omega)]
    | succ m =>
      unfold recsF
      cases e : rowAt f room at' with
      | none => rfl
      | some x =>
        obtain ⟨g2, k2, p, nb⟩ := x
        have := rowAt_blocks e
        dsimp only
        split
        · rw [ih m (at' + nb) (k + 1) (by omega) (by omega)]
        · rfl
theorem recsF_shift (f : Nat → Blk) (b room g fuel at' k : Nat) : recsF f (b + room) g fuel (b + at') k = ((recsF (fun i => f (b + i)) room g fuel at' k).1, b + (recsF (fun i => f (b + i)) room g fuel at' k).2) := by
  induction fuel generalizing at' k with
  | zero => rfl
  | succ n ih =>
    unfold recsF
    rw [rowAt_shift]
    cases rowAt (fun i => f (b + i)) room at' with
    | none => rfl
    | some x =>
      obtain ⟨g2, k2, p, nb⟩ := x
      dsimp only
      split
      · rw [Nat.add_assoc, ih]
      · rfl
/-- A half from a block on, ahead of a limit: generation, snapshot, records, end. -/
def partT (f : Nat → Blk) (limit first : Nat) : Nat × List UInt8 × List (List UInt8) × Nat :=
  match rowAt f limit first with
  | none => (0, [], [], first)
  | some (g, k, p, n) => if k = 0 ∧ 1 ≤ g then (g, p, (recsF f limit g limit (first + n) 1).1, (recsF f limit g limit (first + n) 1).2) else (0, [], [], first)
theorem partT_half (s : DS) (h : Nat) : partT s.see (h * roomD s + roomD s) (h * roomD s) = ((partOf s h).gen, (partOf s h).snap, (partOf s h).recs, h * roomD s + (partOf s h).fin) := by
  unfold partT partOf partF
  have e := rowAt_shift s.see (h * roomD s) (roomD s) 0
  rw [Nat.add_zero] at e
  rw [e]
  show _ = _
  cases er : rowAt (fun i => s.see (h * roomD s + i)) (roomD s) 0 with
  | none =>
    have : rowAt (halfF s h) (roomD s) 0 = none := er
    rw [this]; rfl
  | some x =>
    obtain ⟨g, k, p, n⟩ := x
    have : rowAt (halfF s h) (roomD s) 0 = some (g, k, p, n) := er
    rw [this]
    have hb := rowAt_blocks er
    dsimp only
    by_cases hc : k = 0 ∧ 1 ≤ g
    · rw [if_pos hc, if_pos hc]
      have hs := recsF_shift s.see (h * roomD s) (roomD s) g (h * roomD s + roomD s) n 1
      have hf := recsF_any (f := fun i => s.see (h * roomD s + i)) (room := roomD s) (g := g) (h * roomD s + roomD s) (roomD s) n 1 (by omega) (by omega)
      rw [hf] at hs
      rw [hs]
      rfl
    · rw [if_neg hc, if_neg hc]; rfl

/-! ### slices that a call owns -/
def SlB (w : World) (base : Nat) (v : Value) (l : List UInt8) : Prop := w.ownsRow base 5 1 v l.length (l.map byv)
def RowsO (w : World) (base : Nat) (v : Value) (ls : List (List UInt8)) : Prop :=
  ∃ xs : List Value, w.ownsRow base 37 1 v ls.length xs ∧ ∀ j, j < ls.length → ∃ x, xs[j]? = some x ∧ SlB w base x (ls.getD j [])
theorem own_ne {w : World} {base base2 : Nat} {e e2 : TypeId} {sz sz2 n n2 : Nat} {v v2 : Value} {xs xs2 : List Value} (h : w.ownsRow base e sz v n xs) (h2 : w.ownsRow base2 e2 sz2 v2 n2 xs2) (he : e ≠ e2) : ∀ k, v.ownBlock = some k → v2.ownBlock ≠ some k := by
  intro k hk hk2
  rcases h.2 with ⟨rfl, _⟩ | ⟨g, cap, cur, rfl, _, hg, _⟩
  · cases hk
  · rcases h2.2 with ⟨rfl, _⟩ | ⟨g2, cap2, cur2, rfl, _, hg2, _⟩
    · cases hk2
    · have e1 : g = k := by simpa [Value.ownBlock] using hk
      have e3 : g2 = k := by simpa [Value.ownBlock] using hk2
      subst e1; subst e3
      rw [hg] at hg2
      simp only [Option.some.injEq, Obj.cells.injEq] at hg2
      exact he hg2.2.1
theorem SlB.mono {w : World} {base base2 : Nat} {v : Value} {l : List UInt8} (h : SlB w base v l) (hb : base2 ≤ base) : SlB w base2 v l := own_mono h hb
theorem SlB.keep {w w' : World} {base : Nat} {v : Value} {l : List UInt8} (h : SlB w base v l) (g : Grew w w') : SlB w' base v l := ownR_grew h g
theorem SlB.of {w w' : World} {base : Nat} {v : Value} {l : List UInt8} (h : SlB w base v l) (hb : ∀ k, v.ownBlock = some k → w'.heap[k]? = w.heap[k]?) : SlB w' base v l := ownsRow_of h hb
theorem RowsO.mono {w : World} {base base2 : Nat} {v : Value} {l : List (List UInt8)} (h : RowsO w base v l) (hb : base2 ≤ base) : RowsO w base2 v l := by
  obtain ⟨xs, h1, h2⟩ := h
  exact ⟨xs, own_mono h1 hb, fun j hj => by obtain ⟨x, hx, hs⟩ := h2 j hj; exact ⟨x, hx, hs.mono hb⟩⟩
theorem RowsO.keep {w w' : World} {base : Nat} {v : Value} {l : List (List UInt8)} (h : RowsO w base v l) (g : Grew w w') : RowsO w' base v l := by
  obtain ⟨xs, h1, h2⟩ := h
  exact ⟨xs, ownR_grew h1 g, fun j hj => by obtain ⟨x, hx, hs⟩ := h2 j hj; exact ⟨x, hx, hs.keep g⟩⟩
theorem RowsO.nil (w : World) (base : Nat) : RowsO w base (.slice none 0 0) [] := ⟨[], World.ownsRow_nil _ _ _ _, fun j hj => absurd hj (by simp)⟩
theorem SlB.nil (w : World) (base : Nat) : SlB w base (.slice none 0 0) [] := World.ownsRow_nil _ _ _ _
/-- A set of blocks in which a slice lies. -/
def InF (F : Nat → Prop) (v : Value) : Prop := ∀ k, v.ownBlock = some k → F k
theorem RowsO.form {w : World} {base : Nat} {v : Value} {l : List (List UInt8)} (h : RowsO w base v l) : ∃ A c, v = .slice A l.length c := by
  obtain ⟨xs, h1, _⟩ := h
  exact own_form h1
theorem SlB.form {w : World} {base : Nat} {v : Value} {l : List UInt8} (h : SlB w base v l) : ∃ A c, v = .slice A l.length c := own_form h
theorem infoSl : (Try.prog.info? 37).map (fun i => (i.zero, i.size, i.bytes)) = some (some (.slice none 0 0), 1, 24) := by kernel_rfl
section
variable {w : World} {ops : Array Oper} {rest : List Oper} {o : Oper} {a : Act} {Q : Exit → Act → World → Prop}
/-- One more slice behind a row of the call's own. -/
theorem wpList_append_one (hgd : o.guard = none) (s x : Operand)
    (ho : o.op = .call { callee := .builtin .append, args := #[s, x], argTypes := #[38, 38] })
    (base : Nat) (v : Value) (n : Nat) (xs : List Value) (hs : a.eval s = v) (hown : w.ownsRow base 37 1 v n xs)
    (b c : Nat) (u : Value) (hx : a.eval x = .slice (some ⟨b, 0, none⟩) 1 c) (hu : w.cell? ⟨b, 0, none⟩ = some u) (h1 : u.oneCell' = true)
    (h63 : n + 1 ≤ 1000000000) (hbase : base ≤ w.heap.size)
    (h : ∀ v' w', w'.ownsRow base 37 1 v' (n + 1) (xs ++ [u]) → w.grownBy w' v.ownBlock → wpList Try.prog ops Q rest (a.put o.dst v') w') : wpList Try.prog ops Q (o :: rest) a w := by
  obtain ⟨i, hi, hz0, hz1, hz2⟩ := info_parts infoSl
  refine wpList_append_own w hgd s x 38 ho base 37 i (.slice none 0 0) 1 24 Try.underlying38 hi hz0 hz1 hz2 rfl (by decide) v n xs hs hown ⟨b, 0, none⟩ 1 c [u] hx
      rfl (fun j u' hu' => ?_) (fun u' hu' => ?_) (by unfold maxLen; omega) (by omega) hbase (fun v' w' ho' hg _ => h v' w' ho' hg)
  · match j, hu' with
    | 0, hu' =>
      simp at hu'
      subst hu'
      rw [addr_add]
      exact hu
  · simp at hu'
    subst hu'
    exact h1
end
theorem RowsO.app {w w' : World} {base : Nat} {v v' x : Value} {ls : List (List UInt8)} {l : List UInt8} {xs : List Value} (h1 : w.ownsRow base 37 1 v ls.length xs) (h2 : ∀ j, j < ls.length → ∃ x, xs[j]? = some x ∧ SlB w base x (ls.getD j []))
    (hx : SlB w base x l) (ho : w'.ownsRow base 37 1 v' (ls.length + 1) (xs ++ [x])) (hg : w.grownBy w' v.ownBlock) : RowsO w' base v' (ls ++ [l]) := by
  have hk : ∀ y m, SlB w base y m → SlB w' base y m := fun y m hy => hy.of fun k hk => hg.block k (World.ownsRow.lt hy k hk).2 (fun e => own_ne hy h1 (by decide) k hk e.symm)
  refine ⟨xs ++ [x], by rw [List.length_append]; exact ho, fun j hj => ?_⟩
  have hl : xs.length = ls.length := by have := h1.1; simpa using this
  rw [List.length_append, List.length_singleton] at hj
  by_cases hc : j < ls.length
  · obtain ⟨y, hy, hs⟩ := h2 j hc
    refine ⟨y, by rw [List.getElem?_append_left (by omega)]; exact hy, ?_⟩
    have : (ls ++ [l]).getD j [] = ls.getD j [] := by simp only [List.getD_eq_getElem?_getD]; rw [List.getElem?_append_left hc]
    rw [this]; exact hk _ _ hs
  · have e : j = ls.length := by omega
    subst e
    refine ⟨x, by rw [← hl]; simp, ?_⟩
    have : (ls ++ [l]).getD ls.length [] = l := by simp [List.getD_eq_getElem?_getD]
    rw [this]; exact hk _ _ hx
theorem SlB.above {w w' : World} {base : Nat} {v : Value} {l : List UInt8} (h : SlB w base v l) (hb : ∀ k, base ≤ k → k < w.heap.size → w'.heap[k]? = w.heap[k]?) : SlB w' base v l :=
  h.of fun k hk => hb k (World.ownsRow.lt h k hk).1 (World.ownsRow.lt h k hk).2
theorem RowsO.above {w w' : World} {base : Nat} {v : Value} {l : List (List UInt8)} (h : RowsO w base v l) (hb : ∀ k, base ≤ k → k < w.heap.size → w'.heap[k]? = w.heap[k]?) : RowsO w' base v l := by
  obtain ⟨xs, h1, h2⟩ := h
  exact ⟨xs, ownsRow_of h1 (fun k hk => hb k (h1.lt k hk).1 (h1.lt k hk).2), fun j hj => by obtain ⟨x, hx, hs⟩ := h2 j hj; exact ⟨x, hx, hs.above hb⟩⟩

theorem alloc_range (w : World) (cs : List Value) (t : TypeId) : (w.alloc (.cells cs.toArray t)).rangeAt w.heap.size 0 cs ∧ (w.alloc (.cells cs.toArray t)).there w.heap.size 0 cs.length := by
  have hr : (w.alloc (.cells cs.toArray t)).rangeAt w.heap.size 0 cs := fun j v hv => by
    rw [World.cell?_alloc_at _ _ _ _ rfl, Nat.zero_add]
    simpa using hv
  exact ⟨hr, fun j hj => ⟨hr.isSome j hj, by simp⟩⟩
/-- Cells of a struct of five. -/
theorem range5 {w : World} {b o : Nat} {c0 c1 c2 c3 c4 : Value} (h : w.rangeAt b o [c0, c1, c2, c3, c4]) : w.cell? ⟨b, o, none⟩ = some c0 ∧ w.cell? ⟨b, o + 1, none⟩ = some c1 ∧ w.cell? ⟨b, o + 2, none⟩ = some c2 ∧ w.cell? ⟨b, o + 3, none⟩ = some c3 ∧ w.cell? ⟨b, o + 4, none⟩ = some c4 :=
  ⟨h 0 _ rfl, h 1 _ rfl, h 2 _ rfl, h 3 _ rfl, h 4 _ rfl⟩
theorem range4 {w : World} {b o : Nat} {c0 c1 c2 c3 : Value} (h : w.rangeAt b o [c0, c1, c2, c3]) : w.cell? ⟨b, o, none⟩ = some c0 ∧ w.cell? ⟨b, o + 1, none⟩ = some c1 ∧ w.cell? ⟨b, o + 2, none⟩ = some c2 ∧ w.cell? ⟨b, o + 3, none⟩ = some c3 :=
  ⟨h 0 _ rfl, h 1 _ rfl, h 2 _ rfl, h 3 _ rfl⟩
theorem range5_of {w : World} {b o : Nat} {c0 c1 c2 c3 c4 : Value} (h0 : w.cell? ⟨b, o, none⟩ = some c0) (h1 : w.cell? ⟨b, o + 1, none⟩ = some c1) (h2 : w.cell? ⟨b, o + 2, none⟩ = some c2) (h3 : w.cell? ⟨b, o + 3, none⟩ = some c3) (h4 : w.cell? ⟨b, o + 4, none⟩ = some c4) : w.rangeAt b o [c0, c1, c2, c3, c4] := by
  intro j v hv
  match j, hv with
  | 0, hv => rw [show some c0 = some v from hv] at h0; exact h0
  | 1, hv => rw [show some c1 = some v from hv] at h1; exact h1
  | 2, hv => rw [show some c2 = some v from hv] at h2; exact h2
  | 3, hv => rw [show some c3 = some v from hv] at h3; exact h3
  | 4, hv => rw [show some c4 = some v from hv] at h4; exact h4
theorem one5 {a b c d e : Value} (ha : a.oneCell' = true) (hb : b.oneCell' = true) (hc : c.oneCell' = true) (hd : d.oneCell' = true) (he : e.oneCell' = true) : ∀ v ∈ [a, b, c, d, e], v.oneCell' = true := by
  intro v hv
  simp only [List.mem_cons, List.not_mem_nil, or_false] at hv
  rcases hv with rfl | rfl | rfl | rfl | rfl <;> assumption
/-- A cell of a struct is stored. -/
theorem rangeAt_set {w : World} {b o : Nat} {cs : List Value} (h : w.rangeAt b o cs) (k : Nat) (hk : k < cs.length) (v : Value) : (w.setCell ⟨b, o + k, none⟩ v).rangeAt b o (cs.set k v) := by
  intro j u hu
  by_cases e : k = j
  · subst e
    rw [List.getElem?_set_self hk] at hu
    cases hu
    exact World.cell?_setCell_same _ _ _ (h k _ (List.getElem?_eq_getElem hk))
  · rw [List.getElem?_set_ne e] at hu
    exact (World.cell?_setCell_other _ _ _ _ (by intro e2; simp only [Addr.mk.injEq] at e2; omega)).trans (h j u hu)
theorem there_set {w : World} {b o n : Nat} (h : w.there b o n) (p : Addr) (v : Value) : (w.setCell p v).there b o n := by
  intro j hj
  refine ⟨?_, by rw [World.frozen?_setCell]; exact (h j hj).2⟩
  by_cases e : p = ⟨b, o + j, none⟩
  · subst e
    obtain ⟨x, hx⟩ := Option.isSome_iff_exists.1 (h j hj).1
    rw [World.cell?_setCell_same _ _ _ hx]; rfl
  · rw [World.cell?_setCell_other _ _ _ _ e]; exact (h j hj).1
/-! ### the reading of the records -/
structure RI (f : Nat → Blk) (limit g e0 : Nat) (rs : List (List UInt8)) (e : Nat) : Prop where
  ex : ∃ fu, recsF f limit g limit e0 1 = (rs ++ (recsF f limit g fu e (rs.length + 1)).1, (recsF f limit g fu e (rs.length + 1)).2) ∧ limit ≤ e + fu
  le : e ≤ limit
  few : rs.length ≤ e
theorem RI.start {f : Nat → Blk} {limit g e0 : Nat} (h : e0 ≤ limit) : RI f limit g e0 [] e0 := ⟨⟨limit, by simp, by omega⟩, h, by simp⟩
theorem RI.step {f : Nat → Blk} {limit g e0 e nb : Nat} {rs : List (List UInt8)} {p : List UInt8} (h : RI f limit g e0 rs e) (hr : rowAt f limit e = some (g, rs.length + 1, p, nb)) : RI f limit g e0 (rs ++ [p]) (e + nb) := by
  obtain ⟨fu, h1, h2⟩ := h.ex
  have hb := rowAt_blocks hr
  have := h.few
  cases fu with
  | zero => omega
  | succ fu =>
    refine ⟨⟨fu, ?_, by omega⟩, by omega, by rw [List.length_append, List.length_singleton]; omega⟩
    have e1 : recsF f limit g (fu + 1) e (rs.length + 1) = (p :: (recsF f limit g fu (e + nb) (rs.length + 1 + 1)).1, (recsF f limit g fu (e + nb) (rs.length + 1 + 1)).2) := by
      rw [recsF, hr]
      dsimp only
      rw [if_pos ⟨rfl, rfl⟩]
    rw [h1, e1, List.length_append, List.length_singleton, List.append_assoc]
    rfl
theorem RI.stop {f : Nat → Blk} {limit g e0 e : Nat} {rs : List (List UInt8)} (h : RI f limit g e0 rs e) (hr : ∀ g2 k2 p nb, rowAt f limit e = some (g2, k2, p, nb) → ¬ (g2 = g ∧ k2 = rs.length + 1)) : recsF f limit g limit e0 1 = (rs, e) := by
  obtain ⟨fu, h1, h2⟩ := h.ex
  have : recsF f limit g fu e (rs.length + 1) = ([], e) := by
    cases fu with
    | zero => rfl
    | succ fu =>
      unfold recsF
      cases er : rowAt f limit e with
      | none => rfl
      | some x =>
        obtain ⟨g2, k2, p, nb⟩ := x
        dsimp only
        rw [if_neg (hr g2 k2 p nb er)]
  rw [h1, this]
  simp
/-- A row, found or not. -/
def RowQ (r : Option (Nat × Nat × List UInt8 × Nat)) (w : World) (e : Ending) (w' : World) : Prop :=
  Grew w w' ∧ ∃ (G K NB : Nat) (A : Option Addr) (n c : Nat) (ok : Bool) (p : List UInt8), e = .returned (.tuple #[.agg #[.int .i64 (G : Int), .int .i64 (K : Int), .slice A n c, .int .i64 (NB : Int)], .bool ok]) ∧
    (ok = true → r = some (G, K, p, NB)) ∧ (ok = false → r = none) ∧ SlB w' w.heap.size (.slice A n c) p
theorem rowQ_any (F : Nat → Prop) (q : Nat) (s : DS) (at' limit : Nat) (w : World) (h : DK w F q s) (ho : s.off = false) (ha : at' ≤ limit) (hl : limit ≤ s.safe.length) :
    Calls Try.prog 57 #[.pointer (some ⟨q, 0, none⟩), .int .i64 (at' : Int), .int .i64 (limit : Int)] w (RowQ (rowAt s.see limit at') w) := by
  refine (rowAt_any F q s at' limit w h ho ha hl).mono fun e w' ⟨hg, hor⟩ => ⟨hg, ?_⟩
  rcases hor with ⟨hr, he⟩ | ⟨g, k, p, nb, v, hr, he, ho⟩
  · exact ⟨0, 0, 0, none, 0, 0, false, [], he, (fun h => by cases h), fun _ => hr, SlB.nil _ _⟩
  · obtain ⟨A, c, rfl⟩ := own_form ho
    exact ⟨g, k, nb, A, p.length, c, true, p, he, fun _ => hr, (fun h => by cases h), ho⟩
end Go.Proofs.Ythnhhhfjgbgpgaa.NumK
