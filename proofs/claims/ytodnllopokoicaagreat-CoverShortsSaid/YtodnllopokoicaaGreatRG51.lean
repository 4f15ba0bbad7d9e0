/- States among a statement's arguments, with what the form's reach says of the rows that lie in seats. -/
import Derived.Test.YtodnllopokoicaaGreatRG50
import Derived.Test.YtodnllopokoicaaGreatRG7
import Derived.Test.YtodnllopokoicaaGreatRG30
namespace Go.Proofs.YtodnllopokoicaaGreat.NumK
open Go.RowKit Go.ChangeShapes Go.WideShapes
set_option linter.unusedVariables false

/-! ### structs with the form's reach -/
inductive FsZ (P : Program) : List Field → Nat → {α : Type} → Sp α → Prop
  | last {α : Type} {A : Sp α} (f : Field) (off : Nat) (ho : f.offset = off) (h : OpensZ P f.type A) : FsZ P [f] off A
  | cons {α β : Type} {A : Sp α} {B : Sp β} (f : Field) (fs : List Field) (off : Nat) (ho : f.offset = off) (h : OpensZ P f.type A) (r : FsZ P fs (off + A.size) B) : FsZ P (f :: fs) off (spPair A B)
theorem FsZ.rd {P : Program} {H : Type} {enc : TypeId × Value → H} {w : World} {held : Bool} {n : Nat} {cs : List Value} {fs : List Field} {off : Nat} {α : Type} {A : Sp α} (h : FsZ P fs off A)
    (hx : ∀ f ∈ fs, ∃ y, DataW.trod enc P w 0 (fun _ => true) held n f.type ((cs.drop f.offset).take (P.cellsOf f.type)) = some y ∧ ∀ k ∈ y.1.weights P f.type, k ≤ reachBytes) : ∃ a, A.rd w ((cs.drop off).take A.size) a := by
  induction h with
  | last f off ho h =>
    obtain ⟨y, hy, hk⟩ := hx f (by simp)
    rw [ho, h.1] at hy
    exact h.2 enc w held n _ y hy hk
  | @cons α β A B f fs off ho h r ih =>
    obtain ⟨y, hy, hk⟩ := hx f (by simp)
    rw [ho, h.1] at hy
    obtain ⟨a, ha⟩ := h.2 enc w held n _ y hy hk
    obtain ⟨b, hb⟩ := ih fun g hg => hx g (by simp [hg])
    refine ⟨(a, b), _, _, ?_, ha, hb⟩
    show (cs.drop off).take (A.size + B.size) = _
    rw [List.take_add, List.drop_drop]
theorem opensZ_struct {P : Program} {t : TypeId} {fs : Array Field} {α : Type} {A : Sp α} (ht : P.underlying t = some (.struct fs)) (hc : P.cellsOf t = A.size) (h : FsZ P fs.toList 0 A) : OpensZ P t A := by
  refine ⟨hc, fun enc w held fuel cs x hx hw => ?_⟩
  obtain ⟨xs, n, _, rfl, hl, hlen, hf⟩ := DataW.trod_struct ht hx
  obtain ⟨a, ha⟩ := FsZ.rd (enc := enc) (w := w) (held := held) (n := n) (cs := cs) h (fun f hfm => by
    obtain ⟨i, hi, rfl⟩ := List.getElem_of_mem hfm
    have hi2 : i < xs.length := by simp at hi; omega
    have e := hf i fs.toList[i] (by simp)
    refine ⟨xs[i], by rw [e, List.getElem?_eq_getElem hi2], fun k hk => hw k ?_⟩
    simp only [DataW.weights, ht]
    exact DataW.weights_mem_each (j := i) (t := fs.toList[i].type) (d := xs[i].1) (by rw [List.getElem?_map, List.getElem?_eq_getElem hi]; rfl) (by rw [List.getElem?_map, List.getElem?_eq_getElem hi2]; rfl) k hk)
  rw [List.drop_zero, List.take_of_length_le (by omega)] at ha
  exact ⟨a, ha⟩
theorem arg_structZ {P : Program} {t : TypeId} {fs : Array Field} {α : Type} {A : Sp α} (ht : P.underlying t = some (.struct fs)) (h : OpensZ P t A) {H : Type} {enc : TypeId × Value → H} {w : World} {held : Bool} {v : Value} {d : DataW H} {p : List MemPlace} {r : Reach} {b0 : Nat}
    (hv : Value.okWide P w r b0 t v) (hd : DataW.Trod enc P w 0 (fun _ => true) held t v d p) {ts : List TypeId} {ds : List (DataW H)} {j : Nat} (hsz : (DataW.weightsEach P ts ds).all (· ≤ reachBytes) = true) (hts : ts[j]? = some t) (hds : ds[j]? = some d) :
    ∃ cs a, v = .agg cs ∧ A.rd w cs.toList a := by
  obtain ⟨cs, rfl, _⟩ := Go.WideShapes.okWide_struct ht hv
  obtain ⟨fuel, hf⟩ := hd
  obtain ⟨a, ha⟩ := h.2 enc w held fuel _ _ hf (fun n hn => by
    have := List.all_eq_true.1 hsz _ (DataW.weights_mem_each hts hds n hn)
    simpa using this)
  exact ⟨cs, a, rfl, by simpa [Value.cells] using ha⟩

/-! ### a state's rows -/
theorem five_cells {w : World} {cs : List Value} {l : List Int} (h : (spArr 5 spI).rd w cs l) : cs = [.int .i64 (l.getD 0 0), .int .i64 (l.getD 1 0), .int .i64 (l.getD 2 0), .int .i64 (l.getD 3 0), .int .i64 (l.getD 4 0)] := by
  obtain ⟨h1, h2, h3⟩ := h
  have h2 : cs.length = 5 := h2
  have e : ∀ j (hj : j < 5), cs[j]'(by omega) = .int .i64 (l.getD j 0) := by
    intro j hj
    have h4 : ((cs.drop (j * 1)).take 1) = [.int .i64 l[j]] := (h3 j (by omega)).1
    rw [Nat.mul_one] at h4
    have h5 : ((cs.drop j).take 1)[0]? = some (.int .i64 l[j]) := by rw [h4]; rfl
    rw [List.getElem?_take, if_pos (by omega), List.getElem?_drop, Nat.add_zero, List.getElem?_eq_getElem (by omega)] at h5
    rw [Option.some.inj h5]
    simp [List.getD, show j < l.length by omega]
  obtain ⟨a, b, c, d, x, rfl⟩ : ∃ a b c d x, cs = [a, b, c, d, x] := by
    match cs, h2 with
    | [a, b, c, d, x], _ => exact ⟨a, b, c, d, x, rfl⟩
  · have e0 : a = _ := e 0 (by omega); have e1 : b = _ := e 1 (by omega); have e2 : c = _ := e 2 (by omega); have e3 : d = _ := e 3 (by omega); have e4 : x = _ := e 4 (by omega)
    rw [e0, e1, e2, e3, e4]
def toF8 (x : Int × Int × List Int × Int) : F8 := (x.1, x.2.1, x.2.2.1.getD 0 0, x.2.2.1.getD 1 0, x.2.2.1.getD 2 0, x.2.2.1.getD 3 0, x.2.2.1.getD 4 0, x.2.2.2)
def toC4 (x : (Int × Int × Int) × Int) : C4 := (x.1.1, x.1.2.1, x.1.2.2, x.2)
def toB5 (x : (Int × Int) × Int × Int × Int) : B5 := (x.1.1, x.1.2, x.2.1, x.2.2.1, x.2.2.2)
theorem fa_cells {w : World} {cs : List Value} {a} (h : spFa.rd w cs a) : cs = enF8.cs (toF8 a) := by
  obtain ⟨c1, d1, rfl, ⟨rfl, _⟩, c2, d2, rfl, ⟨rfl, _⟩, c3, d3, rfl, hs, rfl, _⟩ := h
  have := five_cells hs
  subst this
  rfl
theorem ca_cells {w : World} {cs : List Value} {a} (h : spCa.rd w cs a) : cs = enC4.cs (toC4 a) := by
  obtain ⟨c1, d1, rfl, ⟨c2, d2, rfl, ⟨rfl, _⟩, c3, d3, rfl, ⟨rfl, _⟩, rfl, _⟩, rfl, _⟩ := h
  rfl
theorem bd_cells {w : World} {cs : List Value} {a} (h : spBd.rd w cs a) : cs = enB5.cs (toB5 a) := by
  obtain ⟨c1, d1, rfl, ⟨c2, d2, rfl, ⟨rfl, _⟩, rfl, _⟩, c3, d3, rfl, ⟨rfl, _⟩, c4, d4, rfl, ⟨rfl, _⟩, rfl, _⟩ := h
  rfl
theorem du_cells {w : World} {cs : List Value} {a : D3} (h : spDu3.rd w cs a) : cs = enD3.cs a := by
  obtain ⟨c1, d1, rfl, ⟨rfl, _⟩, c2, d2, rfl, ⟨rfl, _⟩, rfl, _⟩ := h
  rfl
theorem falls_of {w : World} {A : Option Addr} {n : Nat} {l} (h : Row spFa w A n l) : RowE enF8 w A n (l.map toF8) := Row.imp (A := spFa) (B := enF8.sp) toF8 rfl (fun cs a hr => fa_cells hr) h
theorem calls_of {w : World} {A : Option Addr} {n : Nat} {l} (h : Row spCa w A n l) : RowE enC4 w A n (l.map toC4) := Row.imp (A := spCa) (B := enC4.sp) toC4 rfl (fun cs a hr => ca_cells hr) h
theorem bids_of {w : World} {A : Option Addr} {n : Nat} {l} (h : Row spBd w A n l) : RowE enB5 w A n (l.map toB5) := Row.imp (A := spBd) (B := enB5.sp) toB5 rfl (fun cs a hr => bd_cells hr) h
theorem dues3_of {w : World} {A : Option Addr} {n : Nat} {l : List D3} (h : Row spDu3 w A n l) : RowE enD3 w A n l := rowE_of rfl (fun _ _ _ => du_cells) h

abbrev spReZ : Sp (Int × Int × Int × List (Int × Int × Int) × List (Int × Int × List Int × Int)) := spPair spI (spPair spI (spPair spI (spPair (spSliceZ 24 spDu3) (spSliceZ 64 spFa))))
theorem opensZ_dues : OpensZ Tryz.prog 60 (spSliceZ 24 spDu3) := opensZ_slice 24 Tryz.underlying60 (by kernel_rfl) (by kernel_rfl) opens_due.sized (by decide)
theorem opensZ_falls : OpensZ Tryz.prog 61 (spSliceZ 64 spFa) := opensZ_slice 64 Tryz.underlying61 (by kernel_rfl) (by kernel_rfl) opens_fall.sized (by decide)
theorem opensZ_reply : OpensZ Tryz.prog 63 spReZ :=
  opensZ_struct Tryz.underlying63 (by kernel_rfl) (FsZ.cons _ _ 0 rfl opens_errno.sized (FsZ.cons _ _ 1 rfl opens_i.sized (FsZ.cons _ _ 2 rfl opens_i.sized (FsZ.cons _ _ 3 rfl opensZ_dues (FsZ.last _ 4 rfl opensZ_falls)))))
abbrev spSeZ : Sp (Int × Int × Int × Int × Int × List (Int × Int × Int) × List (Int × Int × List Int × Int)) := spPair spI (spPair spI spReZ)
theorem opensZ_seat : OpensZ Tryz.prog 65 spSeZ :=
  opensZ_struct Tryz.underlying65 (by kernel_rfl) (FsZ.cons _ _ 0 rfl opens_i.sized (FsZ.cons _ _ 1 rfl opens_i.sized (FsZ.last _ 2 rfl opensZ_reply)))
theorem opensZ_seats : OpensZ Tryz.prog 39 (spSliceZ 88 spSeZ) := opensZ_slice 88 Tryz.underlying39 (by kernel_rfl) (by kernel_rfl) opensZ_seat (by decide)
abbrev spStZ := spPair spClock (spPair spRl (spPair spBk (spPair spLgr (spPair (spSlice spPg) (spPair (spSlice spCa) (spPair (spSlice spBd) (spSliceZ 88 spSeZ)))))))
theorem opensZ_state : OpensZ Tryz.prog 41 spStZ :=
  opensZ_struct Tryz.underlying41 (by kernel_rfl) (FsZ.cons _ _ 0 rfl opens_clock.sized (FsZ.cons _ _ 3 rfl opens_roll.sized (FsZ.cons _ _ 6 rfl opens_book.sized (FsZ.cons _ _ 9 rfl opens_ledger.sized (FsZ.cons _ _ 11 rfl opens_pledges.sized (FsZ.cons _ _ 12 rfl opens_calls.sized (FsZ.cons _ _ 13 rfl opens_bids.sized (FsZ.last _ 14 rfl opensZ_seats))))))))

/-- A seat's cells: what it tells, and the rows that it leads to. -/
theorem seat_cells {w : World} {cs : List Value} {a} (h : spSeZ.rd w cs a) : ∃ y : Se7 × (List D3 × List F8), cs = enSe.cs y.1 ∧ SeatI w y.1 y.2.1 y.2.2 := by
  obtain ⟨c1, d1, rfl, ⟨rfl, _⟩, c2, d2, rfl, ⟨rfl, _⟩, c3, d3, rfl, ⟨rfl, _⟩, c4, d4, rfl, ⟨rfl, _⟩, c5, d5, rfl, ⟨rfl, _⟩, c6, d6, rfl, ⟨D, n, c, rfl, h1, k1, l1, m1, z1⟩, F, m, d, rfl, h2, k2, l2, m2, z2⟩ := h
  unfold reachBytes at z1 z2
  exact ⟨((_, _, _, _, _, (D, n, c), (F, m, d)), (_, _)), rfl, ⟨dues3_of h1, falls_of h2, k1, k2, by show n * 24 ≤ _; omega, by show m * 64 ≤ _; omega⟩⟩
theorem seats_of {w : World} {A : Option Addr} {n : Nat} {l} (h : Row spSeZ w A n l) : ∃ (ys : List Se7) (zs : List (List D3 × List F8)), RowE enSe w A n ys ∧ ∀ i, i < n → SeatI w (ys.getD i se0) (zs.getD i ([], [])).1 (zs.getD i ([], [])).2 := by
  rcases Nat.eq_zero_or_pos n with h0 | h0
  · subst h0
    exact ⟨[], [], RowE.nil _ _ _, fun i hi => by omega⟩
  · obtain ⟨b, o, e, hb, hc⟩ := h.2 h0
    have each : ∀ j, j < n → ∃ y : Se7 × (List D3 × List F8), SeatI w y.1 y.2.1 y.2.2 ∧ ∀ i, i < 7 → w.cell? ⟨b, o + j * 7 + i, none⟩ = (enSe.cs y.1)[i]? := by
      intro j hj
      obtain ⟨cs, h1, h2⟩ := hc j (by rw [h.1]; exact hj)
      obtain ⟨y, rfl, hy⟩ := seat_cells h1
      exact ⟨y, hy, h2⟩
    obtain ⟨f, hf⟩ := Go.Deep.choose_lt each
    refine ⟨(List.range n).map fun i => (f i).1, (List.range n).map fun i => (f i).2, ⟨by simp, fun _ => ⟨b, o, e, hb, fun j hj => ?_⟩⟩, fun j hj => ?_⟩
    · have hj' : j < n := by simpa using hj
      exact ⟨_, rfl, fun i hi => by rw [List.getElem_map, List.getElem_range]; exact (hf j hj').2 i hi⟩
    · simpa [List.getD, hj] using (hf j hj).1
theorem state_ofZ {w : World} {cs : Array Value} {s} (h : spStZ.rd w cs.toList s) : ∃ A1 A2 A3 E1 E2 L P Q1 Q2 Q3 n1 n2 n3 c1 c2 c3 m1 m2 k1 k2 nl cl np cp u1 v1 u2 v2 u3 v3 cl4 bd5 ys zs,
    Value.agg cs = stV s.1.1 s.1.2.1 s.1.2.2 s.2.2.1.1 s.2.2.2.1.1 A1 A2 A3 E1 E2 L P Q1 Q2 Q3 n1 n2 n3 c1 c2 c3 m1 m2 k1 k2 nl cl np cp u1 v1 u2 v2 u3 v3 ∧ InZ w s.2.1 s.2.2.1 s.2.2.2.1.2 s.2.2.2.2.1 cl4 bd5 ys zs A1 A2 A3 E1 E2 L P Q1 Q2 Q3 n1 n2 n3 c1 c2 c3 m1 m2 k1 k2 nl cl np cp u1 v1 u2 v2 u3 v3 := by
  obtain ⟨x0, y0, e, ⟨g1, g2, rfl, ⟨rfl, _⟩, g3, g4, rfl, ⟨rfl, _⟩, rfl, _⟩, x1, y1, rfl, ⟨x2, y2, rfl, ⟨A1, n1, c1, rfl, hr1, hk1, hl1, hm1⟩, x3, y3, rfl, ⟨A2, n2, c2, rfl, hr2, hk2, hl2, hm2⟩, A3, n3, c3, rfl, hr3, hk3, hl3, hm3⟩,
    x4, y4, rfl, ⟨x5, y5, rfl, ⟨rfl, _⟩, x6, y6, rfl, ⟨E1, m1, k1, rfl, hr4, hk4, hl4, hm4⟩, E2, m2, k2, rfl, hr5, hk5, hl5, hm5⟩,
    x7, y7, rfl, ⟨x8, y8, rfl, ⟨rfl, _⟩, L, nl, cl, rfl, hr6, hk6, hl6, hm6⟩, x9, y9, rfl, ⟨P, np, cp, rfl, hr7, hk7, hl7, hm7⟩, xa, ya, rfl, ⟨Q1, u1, v1, rfl, hr8, hk8, hl8, hm8⟩, xb, yb, rfl, ⟨Q2, u2, v2, rfl, hr9, hk9, hl9, hm9⟩, Q3, u3, v3, rfl, hra, hka, hla, hma, hza⟩ := h
  unfold maxLen at hm1 hm2 hm3 hm4 hm5 hm7
  obtain ⟨ys, zs, hys, hzs⟩ := seats_of hra
  refine ⟨A1, A2, A3, E1, E2, L, P, Q1, Q2, Q3, n1, n2, n3, c1, c2, c3, m1, m2, k1, k2, nl, cl, np, cp, u1, v1, u2, v2, u3, v3, _, _, ys, zs, ?_, ⟨⟨⟨rowE_of rfl (fun _ _ _ => mb_rd) hr1, rowE_of rfl (fun _ _ _ => in_rd) hr2, rowE_of rfl (fun _ _ _ => as_rd) hr3⟩, hk1, hk2, hk3, ⟨hl1, by omega⟩, ⟨hl2, by omega⟩, ⟨hl3, by omega⟩⟩,
    ⟨trs_of hr4, poss_of hr5, hk4, hk5, ⟨hl4, by omega⟩, ⟨hl5, by omega⟩⟩, bals_of hr6, hk6, pgs_of hr7, hk7, calls_of hr8, hk8, bids_of hr9, hk9, hys, hzs⟩⟩
  congr 1
  exact Array.toList_inj.1 (by rw [e]; rfl)
end Go.Proofs.YtodnllopokoicaaGreat.NumK
