/- A map of the call's own from keys to slices: 'm[k]', and 'm[k] = append(m[k], ..)', which finds its entry once. -/
import Derived.Test.YtkbmiajgmnfpfaaRP
import Derived.Test.YtkbmiajgmnfpfaaRA3
import Derived.Maps.Own
import Derived.Maps.Views
import Derived.DeepKeys4
import Derived.WideKeyEntry
import Derived.Test.YtkbmiajgmnfpfaaRQ
namespace Go.Proofs.Ytkbmiajgmnfpfaa.NumK
open Go.RowKit Go.Maps
set_option linter.unusedVariables false

/-- A slice value: none, or its block, its length, its capacity. -/
abbrev Sv := Option (Nat × Nat × Nat)
def vSv : Sv → Value
  | none => .slice none 0 0
  | some (g, n, c) => .slice (some ⟨g, 0, none⟩) n c
def dSv : Sv → DataW Unit
  | none => .lit (.bool false)
  | some (g, n, c) => .agg [.lit (.int .i64 g), .lit (.int .i64 n), .lit (.int .i64 c)]
def readSv (v : Value) : Option (DataW Unit × List MemPlace) :=
  match v with
  | .slice none 0 0 => some (dSv none, [])
  | .slice (some ⟨g, 0, none⟩) n c => some (dSv (some (g, n, c)), [])
  | _ => none
theorem readSv_mk (s : Sv) : readSv (vSv s) = some (dSv s, []) := by
  rcases s with _ | ⟨g, n, c⟩ <;> rfl
theorem dSv_inj {s t : Sv} (h : dSv s = dSv t) : s = t := by
  rcases s with _ | ⟨g, n, c⟩ <;> rcases t with _ | ⟨g', n', c'⟩
  · rfl
  · unfold dSv at h; cases h
  · unfold dSv at h; cases h
  · simp only [dSv, DataW.agg.injEq, List.cons.injEq, DataW.lit.injEq, Lit.int.injEq, true_and, and_true, Int.natCast_inj] at h
    obtain ⟨rfl, rfl, rfl⟩ := h
    rfl
theorem readSv_inv {v : Value} {s : Sv} {ps : List MemPlace} (h : readSv v = some (dSv s, ps)) : v = vSv s := by
  unfold readSv at h
  split at h
  · simp only [Option.some.injEq, Prod.mk.injEq] at h
    rw [← dSv_inj h.1]; rfl
  · simp only [Option.some.injEq, Prod.mk.injEq] at h
    rw [← dSv_inj h.1]; rfl
  · cases h
theorem OwnE.sv {α : Type} {E : En α} {w : World} {base : Nat} {t : TypeId} {v : Value} {l : List α} (h : OwnE E w base t v l) : ∃ s, v = vSv s := by
  obtain ⟨_, h⟩ := h
  rcases h with ⟨rfl, _⟩ | ⟨g, cap, cur, rfl, _⟩
  · exact ⟨none, rfl⟩
  · exact ⟨some (g, l.length, cap), rfl⟩

/-! ### keys -/
theorem laidKy : laidOutB Try.prog = true := by kernel_rfl
theorem keyedKy : Keyed Try.prog 27 := Keyed.of_law (deep_law_laid laidKy (m := 4) (by decide) (by decide +kernel) (by kernel_rfl) (by kernel_rfl))
theorem cellsKy : Try.prog.cellsOf 27 = 2 := by kernel_rfl
theorem cellsIntK : Try.prog.cellsOf 3 = 1 := by kernel_rfl
theorem keyTypeKy : Try.prog.keyType 27 = true := by decide +kernel
theorem someTypes : 1 ≤ Try.prog.types.size := by decide +kernel
theorem lits_ky (d : Nat) (k : Ky) (h : okK k = true) : Try.prog.keyLits (d + 2) 27 [.int .i64 k.1, .int .i64 k.2] = some [.int .i64 k.1, .int .i64 k.2] := by
  have h := (okK_iff k).1 h
  have w1 : (Lit.int .i64 k.1).wf = true := WalkArith.wf_i64 ⟨by omega, by omega⟩
  have w2 : (Lit.int .i64 k.2).wf = true := WalkArith.wf_i64 ⟨by omega, by omega⟩
  simp [Program.keyLits, Try.underlying27, Try.underlying3, cellsKy, cellsIntK, w1, w2]
theorem key_ky (k : Ky) (h : okK k = true) : ∃ kl, keyOf Try.prog 27 (vKy k) = some kl := by
  have h9 := someTypes
  obtain ⟨d, hd⟩ : ∃ d, Try.prog.types.size + 1 = d + 2 := ⟨Try.prog.types.size - 1, by omega⟩
  have hf : (vKy k).formed Try.prog 27 = true := by simp [Value.formed, Try.underlying27, cellsKy]
  have hc : (vKy k).cells.toList = [.int .i64 k.1, .int .i64 k.2] := rfl
  unfold keyOf
  simp only [Try.underlying27, keyTypeKy, hf, Bool.and_self, if_true]
  rw [hc, hd, lits_ky d k h]
  exact ⟨_, rfl⟩

/-! ### the map -/
/-- A block is a map of at most n entries that holds at each key what g says. -/
def MapG (w : World) (b n : Nat) (g : Ky → Sv) : Prop :=
  ∃ D : DataW Unit, w.ownsMap Try.prog 27 readSv b n D ∧ IsMap D ∧ ∀ k, okK k = true → ∀ kl, keyOf Try.prog 27 (vKy k) = some kl → D.atKey kl (dSv none) = dSv (g k)
theorem zeroSv (w : World) : (zeroValue 23).run Try.prog w = .ok (.slice none 0 0) w := by kernel_rfl
/-- What a map is hangs on its block alone. -/
theorem MapG.same {w w' : World} {b n : Nat} {g : Ky → Sv} (h : MapG w b n g) (hb : w'.heap[b]? = w.heap[b]?) : MapG w' b n g := by
  obtain ⟨D, ⟨es, clock, he, F, hs, hD⟩, h2, h3⟩ := h
  exact ⟨D, ⟨es, clock, hb.trans he, F, hs, hD⟩, h2, h3⟩
theorem MapG.lt {w : World} {b n : Nat} {g : Ky → Sv} (h : MapG w b n g) : b < w.heap.size := by
  obtain ⟨D, h1, _⟩ := h
  exact h1.lt
theorem MapG.keep {w w' : World} {b n : Nat} {g : Ky → Sv} (h : MapG w b n g) (hg : Grew w w') : MapG w' b n g := h.same (hg.block b h.lt)
theorem MapG.kept {w w' : World} {b n : Nat} {g : Ky → Sv} {row : Option Nat} (h : MapG w b n g) (hg : w.grownBy w' row) (hne : some b ≠ row) : MapG w' b n g := h.same (hg.block b h.lt hne)
theorem MapG.new (w : World) : MapG (w.alloc (.map #[] 0)) w.heap.size 0 (fun _ => none) := by
  refine ⟨.map [], World.ownsMap_made _ _ _ _, isMap_empty, fun k _ kl _ => ?_⟩
  simp [DataW.atKey]
/-- 'm[k]'. -/
theorem MapG.look {w : World} {b n : Nat} {g : Ky → Sv} (h : MapG w b n g) (k : Ky) (hk : okK k = true) :
    (Instr.lookup 98 (.map (some b)) (vKy k) false).run Try.prog w = .ok (vSv (g k)) w := by
  obtain ⟨D, h1, h2, h3⟩ := h
  obtain ⟨kl, hkl⟩ := key_ky k hk
  obtain ⟨v, ps, hrun, hv⟩ := h1.lookup keyedKy Try.underlying98 (zeroSv w) (readSv_mk none) hkl
  rw [h3 k hk kl hkl] at hv
  rw [hrun, readSv_inv hv]

/-- What finding the entry of a key leaves: a stamp by which it is written. -/
structure Found (w1 : World) (b n : Nat) (g : Ky → Sv) (k : Ky) (st : Nat) : Prop where
  store : ∀ (w2 : World) (s : Sv), w2.heap[b]? = w1.heap[b]? → ∃ w3, (Instr.entryStore 98 (.map (some b)) (.int .i64 st) (vSv s)).run Try.prog w2 = .ok () w3 ∧ MapG w3 b (n + 1) (upd g k s) ∧ w2.grownBy w3 (some b)

theorem grownBy_set {w : World} {b : Nat} {es : Array MapEntry} {clock : Nat} (hb : w.heap[b]? = some (.map es clock)) (o : Obj) : w.grownBy (ChangeMaps.setBlock w b o) (some b) :=
  ⟨rfl, rfl, rfl, by simp [ChangeMaps.setBlock], fun i _ hi => ChangeMaps.heap_setBlock_other hb _ (fun e => hi (by rw [e]))⟩

/-- The entry with some stamp is where that stamp is. -/
theorem stamp_at {l : Array MapEntry} (hn : (l.toList.map (·.born)).Nodup) {j : Nat} {e0 : MapEntry} (h : l.toList[j]? = some e0) : l.findIdx? (fun e => ((e.born : Nat) : Int) == ((e0.born : Nat) : Int)) = some j := by
  rw [WideElems.findIdx_arr]
  exact WideElems.findIdx_born hn h

/-- 'm[k] = f(m[k])', up to what f is told: the entry is found, or made. -/
theorem MapG.entry {w : World} {b n : Nat} {g : Ky → Sv} (h : MapG w b n g) (k : Ky) (hk : okK k = true) (hn : n < maxLen) :
    ∃ (st : Nat) (w1 : World), (Instr.mapEntry 98 (.map (some b)) (vKy k)).run Try.prog w = .ok (.tuple #[vSv (g k), .int .i64 st]) w1 ∧ w.grownBy w1 (some b) ∧ Found w1 b n g k st := by
  have HLOOK := h.look k hk
  obtain ⟨D, k1, k2, k3⟩ := h
  obtain ⟨kl, hkl⟩ := key_ky k hk
  have hput : ∀ (s : Sv), ∃ w', (Instr.mapUpdate 98 (.map (some b)) (vKy k) (vSv s)).run Try.prog w = .ok () w' ∧ MapG w' b (n + 1) (upd g k s) := fun s => by
    obtain ⟨w', hrun, ho, hg⟩ := k1.update keyedKy Try.underlying98 hn hkl (readSv_mk s)
    refine ⟨w', hrun, _, ho, k2.put _ _, fun k' hk' kl' hkl' => ?_⟩
    by_cases e : k' = k
    · subst e
      rw [hkl] at hkl'
      cases hkl'
      rw [atKey_put_same k2 (keyedKy.key hkl), upd_at]
    · have hne : kl' ≠ kl := fun e2 => by
        subst e2
        have := keyedKy.inj hkl' hkl
        simp only [Value.agg.injEq] at this
        have t := congrArg Array.toList this
        simp at t
        exact e (Prod.ext t.1 t.2)
      rw [atKey_put_other hne, k3 k' hk' kl' hkl', upd_ne _ _ e]
  obtain ⟨es, clock, hb, F, hs, hD⟩ := k1
  obtain ⟨s1, s2, -⟩ := F.stamped
  have ht : Try.prog.underlying 98 = some (.map 27 23) := Try.underlying98
  rcases keyedKy.find w hkl es.toList F.keys with ⟨f1, f2⟩ | ⟨j, e0, f1, f2, f3⟩
  · have hz : vSv (g k) = .slice none 0 0 := by
      have : (Instr.lookup 98 (.map (some b)) (vKy k) false).run Try.prog w = .ok (.slice none 0 0) w := by
        simp [Instr.lookup, run_underlying ht, MapKept.run_getObj_map hb, keyedKy.check w _ hkl, f1, Result.andThen]
      rw [this] at HLOOK
      simpa using HLOOK.symm
    refine ⟨clock, ChangeMaps.setBlock w b (.map (es.push ⟨vKy k, .slice none 0 0, clock⟩) (clock + 1)), ?_, grownBy_set hb _, ⟨fun w2 s h2 => ?_⟩⟩
    · rw [hz]
      simp [Instr.mapEntry, run_underlying ht, MapKept.run_getObj_map hb, keyedKy.check w false hkl, f1, MapKept.run_setObj_map _ hb, Result.andThen, ChangeMaps.setBlock, goInt]
    · rw [ChangeMaps.heap_setBlock_same hb] at h2
      obtain ⟨w', hrun, hm⟩ := hput s
      have hrun2 : (Instr.mapUpdate 98 (.map (some b)) (vKy k) (vSv s)).run Try.prog w = .ok () (ChangeMaps.setBlock w b (.map (es.push ⟨vKy k, vSv s, clock⟩) (clock + 1))) := by
        simp [Instr.mapUpdate, run_underlying ht, MapKept.run_getObj_map hb, keyedKy.check w false hkl, f1, MapKept.run_setObj_map _ hb, Result.andThen, ChangeMaps.setBlock]
      rw [hrun2] at hrun
      obtain rfl : ChangeMaps.setBlock w b (.map (es.push ⟨vKy k, vSv s, clock⟩) (clock + 1)) = w' := by simpa using hrun
      have hix : (es.push ⟨vKy k, .slice none 0 0, clock⟩).findIdx? (fun e => ((e.born : Nat) : Int) == ((clock : Nat) : Int)) = some es.size := by
        refine stamp_at (e0 := ⟨vKy k, .slice none 0 0, clock⟩) ?_ (by simp)
        rw [Array.toList_push, List.map_append]
        refine List.nodup_append.2 ⟨s2, by simp, fun a ha c hc e1 => ?_⟩
        obtain ⟨x, hx, rfl⟩ := List.mem_map.1 ha
        have hlt := s1 x hx
        simp only [List.map_cons, List.map_nil, List.mem_singleton] at hc
        omega
      have hmod : (es.push ⟨vKy k, .slice none 0 0, clock⟩).modify es.size (fun e => { e with val := vSv s }) = es.push ⟨vKy k, vSv s, clock⟩ := by
        apply Array.ext'
        rw [Array.toList_modify, Array.toList_push, Array.toList_push, ← Array.length_toList, WideElems.modify_last]
      refine ⟨ChangeMaps.setBlock w2 b (.map (es.push ⟨vKy k, vSv s, clock⟩) (clock + 1)), ?_, hm.same ?_, grownBy_set h2 _⟩
      · simp [Instr.entryStore, MapKept.run_getObj_map h2, asInt, asIntOf, hix, hmod, MapKept.run_setObj_map _ h2, Result.andThen, ChangeMaps.setBlock]
      · rw [ChangeMaps.heap_setBlock_same h2, ChangeMaps.heap_setBlock_same hb]
  · have hj : es[j]? = some e0 := by simpa using f2
    have hz : vSv (g k) = e0.val := by
      have : (Instr.lookup 98 (.map (some b)) (vKy k) false).run Try.prog w = .ok e0.val w := by
        simp [Instr.lookup, run_underlying ht, MapKept.run_getObj_map hb, keyedKy.check w _ hkl, f1, Result.andThen]
      rw [this] at HLOOK
      simpa using HLOOK.symm
    have hsame : es.modify j (fun e => { e with key := vKy k }) = es := by
      apply Array.ext'
      rw [Array.toList_modify, ChangeMaps.modify_eq_set _ _ _ _ f2]
      have : ({ e0 with key := vKy k } : MapEntry) = e0 := by rw [← f3]
      rw [this]
      exact WideElems.set_self _ _ _ f2
    refine ⟨e0.born, ChangeMaps.setBlock w b (.map es clock), ?_, grownBy_set hb _, ⟨fun w2 s h2 => ?_⟩⟩
    · rw [hz]
      simp [Instr.mapEntry, run_underlying ht, MapKept.run_getObj_map hb, keyedKy.check w false hkl, f1, hj, f3, keyedKy.stays w hkl, hsame, MapKept.run_setObj_map _ hb, Result.andThen, ChangeMaps.setBlock, goInt]
    · rw [ChangeMaps.heap_setBlock_same hb] at h2
      obtain ⟨w', hrun, hm⟩ := hput s
      have hrun2 : (Instr.mapUpdate 98 (.map (some b)) (vKy k) (vSv s)).run Try.prog w = .ok () (ChangeMaps.setBlock w b (.map (es.modify j (fun e => { e with key := vKy k, val := vSv s })) clock)) := by
        simp [Instr.mapUpdate, run_underlying ht, MapKept.run_getObj_map hb, keyedKy.check w false hkl, f1, hj, f3, keyedKy.stays w hkl, MapKept.run_setObj_map _ hb, Result.andThen, ChangeMaps.setBlock]
      rw [hrun2] at hrun
      obtain rfl : ChangeMaps.setBlock w b (.map (es.modify j (fun e => { e with key := vKy k, val := vSv s })) clock) = w' := by simpa using hrun
      have hix := stamp_at s2 f2
      have hmod : es.modify j (fun e => { e with val := vSv s }) = es.modify j (fun e => { e with key := vKy k, val := vSv s }) := by
        apply Array.ext'
        rw [Array.toList_modify, Array.toList_modify, ChangeMaps.modify_eq_set _ _ _ _ f2, ChangeMaps.modify_eq_set _ _ _ _ f2, ← f3]
      refine ⟨ChangeMaps.setBlock w2 b (.map (es.modify j (fun e => { e with key := vKy k, val := vSv s })) clock), ?_, hm.same ?_, grownBy_set h2 _⟩
      · simp [Instr.entryStore, MapKept.run_getObj_map h2, asInt, asIntOf, hix, hmod, MapKept.run_setObj_map _ h2, Result.andThen, ChangeMaps.setBlock]
      · rw [ChangeMaps.heap_setBlock_same h2, ChangeMaps.heap_setBlock_same hb]
end Go.Proofs.Ytkbmiajgmnfpfaa.NumK
namespace Go.Proofs.Ytkbmiajgmnfpfaa.NumK
open Go.RowKit Go.Maps
set_option linter.unusedVariables false

section
variable {κ α : Type} [DecidableEq κ] {E : En α} {w : World} {base : Nat} {t : TypeId} {v : κ → Value} {rows : κ → List α} {ops : Array Oper} {rest : List Oper} {o : Oper} {a : Act} {Q : Exit → Act → World → Prop}
/-- One more in the row of a key, in a plain region. -/
theorem wpList_fam (key : κ) (hgd : o.guard = none) (p q : Operand) (T : TypeId) (z : Value) (by' : Nat)
    (ho : o.op = .call { callee := .builtin .append, args := #[p, q], argTypes := #[T, T] })
    (hT : Try.prog.underlying T = some (.slice t)) (hi : (Try.prog.info? t).map (fun i => (i.zero, i.size, i.bytes)) = some (some z, E.size, by')) (hz : z.cells.size = E.size)
    (h : Fam E w base t v rows) (hs : a.eval p = v key) (N : Nat) (x : α) (hx : a.eval q = .slice (some ⟨N, 0, none⟩) 1 1) (hR : RowE E w (some ⟨N, 0, none⟩) 1 [x])
    (hm : (rows key).length + 1 ≤ maxLen) (hlim : ((rows key).length + 1) * by' ≤ 140737488355328) (hbase : base ≤ w.heap.size)
    (k : ∀ v' w', Fam E w' base t (upd v key v') (upd rows key (rows key ++ [x])) → Below base w w' → w.grownBy w' (v key).ownBlock → wpList Try.prog ops Q rest (a.put o.dst v') w') : wpList Try.prog ops Q (o :: rest) a w := by
  obtain ⟨i, hi, hz0, hz1, hz2⟩ := info_parts hi
  refine wpList_append_lies w hgd p q T ho base t i z E.size by' hT hi hz0 hz1 hz2 hz E.pos (v key) (rows key).length _ hs (h.own key) ⟨N, 0, none⟩ 1 1 (E.cs x) hx (by rw [E.len, Nat.one_mul]) (news_one hR) (E.one x) (by omega) hm hlim hbase _ rfl fun g cap w' h2 h3 h4 h5 => k _ w' (h.grown key ?_ h3 fun g' hg' => ?_) (h.below key h3 hbase) h3
  · show w'.ownsRow base t E.size _ (rows key ++ [x]).length ((rows key ++ [x]).flatMap E.cs)
    rw [List.length_append, List.flatMap_append]
    simpa using h2
  · have : g = g' := by simpa [Value.ownBlock] using hg'
    subst this
    exact h4
end

def joinPE (l : List Po) : Int := if fits (sumK2 l) then 0 else 1
def joinPL (l : List Po) : List Po := if fits (sumK2 l) then plA (sumK2 l) else []
/-- What of the parts has a key, so far. -/
def rowK (l : List Po) (k : Ky) : List Po := l.filter (isK k)
theorem rowK_succ (l : List Po) (j : Nat) (h : j < l.length) : ∀ k, upd (rowK (l.take j)) (keyP (l.getD j po0)) (rowK (l.take j) (keyP (l.getD j po0)) ++ [l.getD j po0]) k = rowK (l.take (j + 1)) k := by
  intro k
  unfold rowK
  rw [filter_take_succ _ l po0 j h]
  by_cases e : k = keyP (l.getD j po0)
  · subst e
    rw [upd_at, if_pos ((isK_iff _ _).2 rfl)]
  · rw [upd_ne _ _ e]
    have : isK k (l.getD j po0) = false := by
      rw [← Bool.not_eq_true, isK_iff]
      exact fun h => e h.symm
    rw [this]; simp
theorem rowK_len (l : List Po) (j : Nat) (k : Ky) : (rowK (l.take j) k).length ≤ j := filt_len l (isK k) j
theorem fits_no {f : Ky → Int × Int} {k : Ky} (hk : okK k = true) (h : (okQ (f k).1 && isMoney (f k).2) = false) : fits f = false := by
  rw [← Bool.not_eq_true, fits_iff]
  intro h2
  obtain ⟨h3, h4⟩ := h2 k hk
  rw [h3, h4] at h
  cases h
theorem fits_grid {f : Ky → Int × Int} (h : ∀ i (hi : i < 128), (okQ (f (gridK[i]'(by rw [grid_len]; exact hi))).1 && isMoney (f (gridK[i]'(by rw [grid_len]; exact hi))).2) = true) : fits f = true := by
  unfold fits
  rw [List.all_eq_true]
  intro k hk
  obtain ⟨i, hi, rfl⟩ := List.getElem_of_mem hk
  exact h i (by rw [grid_len] at hi; exact hi)
/-- The keys up to a place fit. -/
def fitTo (f : Ky → Int × Int) (m : Nat) : Prop := ∀ i, i < m → ∀ hi : i < 128, (okQ (f (gridK[i]'(by rw [grid_len]; exact hi))).1 && isMoney (f (gridK[i]'(by rw [grid_len]; exact hi))).2) = true
theorem fitTo_succ {f : Ky → Int × Int} {m : Nat} (h : fitTo f m) (k : Ky) (hk : k = (((m / 8 : Nat) : Int) + 1, ((m % 8 : Nat) : Int) + 1)) (h2 : (okQ (f k).1 && isMoney (f k).2) = true) : fitTo f (m + 1) := fun i hi h128 => by
  rcases Nat.lt_or_ge i m with h1 | h1
  · exact h i h1 h128
  · obtain rfl : i = m := by omega
    rw [grid_at i h128, ← hk]; exact h2
theorem plF_len (f : Ky → Int × Int) (m : Nat) : (plF f m).length ≤ 128 := by
  unfold plF
  refine Nat.le_trans (List.length_filterMap_le _ _) ?_
  rw [List.length_take, grid_len]; omega

theorem upd_vSv (g : Ky → Sv) (k : Ky) (s : Sv) : upd (fun k => vSv (g k)) k (vSv s) = fun i => vSv (upd g k s i) := by
  funext i
  unfold upd
  split <;> rfl
theorem Fam.cong2 {κ α : Type} {E : En α} {w : World} {base : Nat} {t : TypeId} {v v2 : κ → Value} {rows r2 : κ → List α} (h : Fam E w base t v rows) (e1 : v = v2) (e2 : ∀ k, rows k = r2 k) : Fam E w base t v2 r2 := e1 ▸ h.congr e2

theorem okQ_money {q : Int} (h : okQ q = true) : isMoney q = true := (isMoney_iff q).2 (by have := (okQ_iff q).1 h; omega)

def JoinPost (l : List Po) (w : World) (e : Ending) (w' : World) : Prop := ∃ v, e = .returned (.tuple #[v, .int .i64 (joinPE l)]) ∧ OwnE enPo w' w.heap.size 36 v (joinPL l) ∧ Grew w w'
theorem joinP_no {l : List Po} (h : fits (sumK2 l) = false) {w w' : World} (g : Grew w w') : JoinPost l w (.returned (.tuple #[.slice none 0 0, .int .i64 1])) w' := by
  refine ⟨_, by unfold joinPE; rw [h]; rfl, ?_, g⟩
  unfold joinPL; rw [h]; exact OwnE.nil _ _ _ _
theorem joinP_yes {l : List Po} (h : fitTo (sumK2 l) 128) {w w' : World} {v : Value} (ho : OwnE enPo w' w.heap.size 36 v (plF (sumK2 l) 128)) (g : Grew w w') : JoinPost l w (.returned (.tuple #[v, .int .i64 0])) w' := by
  have hf : fits (sumK2 l) = true := fits_grid fun i hi => h i hi hi
  refine ⟨v, by unfold joinPE; rw [hf]; rfl, ?_, g⟩
  unfold joinPL; rw [hf, if_pos rfl, ← pl_all]; exact ho

set_option maxRecDepth 100000 in
set_option maxHeartbeats 8000000 in
theorem join_any (A : Option Addr) (n c : Nat) (l : List Po) (w : World) (h : RowE enPo w A n l) (hk : ∀ x ∈ l, okK (keyP x) = true) (hm : l.all okAm = true) (hn : n ≤ 100000) :
    Calls Try.prog 43 #[.slice A n c] w (JoinPost l w) := by
  have HI := Lib.hid h
  have HL := Lib.hid h.len
  have HK : Hid (∀ j, j < n → okK (keyP (l.getD j po0)) = true) := fun j hj => hk _ (getD_mem l po0 j (by rw [h.len]; exact hj))
  have HNO : Hid (fits (sumK2 l) = false → ∀ w', Grew w w' → JoinPost l w (.returned (.tuple #[.slice none 0 0, .int .i64 1])) w') := fun h w' g => joinP_no h g
  have HYES : Hid (fitTo (sumK2 l) 128 → ∀ w' v, OwnE enPo w' w.heap.size 36 v (plF (sumK2 l) 128) → Grew w w' → JoinPost l w (.returned (.tuple #[v, .int .i64 0])) w') := fun h w' v ho g => joinP_yes h ho g
  have HMM : Hid (∀ k, (rowK l k).all okAm = true) := fun k => by
    rw [List.all_eq_true] at hm
    show _ = _
    rw [List.all_eq_true]
    exact fun x hx => hm x (List.mem_filter.1 hx).1
  have hmm := @run_makeMap Try.prog
  clear h hk hm
  generalize JoinPost l w = PP at *
  go_enter Try.func43, Try.ntmps43
  go_wp2
  have HM0 := Lib.hid (MapG.new w)
  have HG0 : Hid (Grew w (w.alloc (.map #[] 0))) := (Below.refl _ _).alloc (Nat.le_refl _) _
  have HZ0 : Hid (w.heap.size + 1 ≤ (w.alloc (.map #[] 0)).heap.size) := by show _ ≤ _; simp
  clear hmm
  obtain ⟨M, hM⟩ : ∃ M, M = w.heap.size := ⟨_, rfl⟩
  have HMW : Hid (w.heap.size = M) := hM.symm
  rw [← hM] at HM0 HZ0 ⊢
  clear hM
  generalize w.alloc (.map #[] 0) = w1 at *
  go_loopw [18] (fun v18 wr => ∃ (j : Nat) (g : Ky → Sv), v18 = .int .i64 j ∧ j ≤ n ∧ Hid (MapG wr M j g) ∧ Hid (Fam enPo wr (M + 1) 36 (fun k => vSv (g k)) (rowK (l.take j))) ∧ Hid (Grew w wr) ∧ Hid (M + 1 ≤ wr.heap.size)) (fun v18 _ => n - (intOf v18).toNat)
  case atStart => exact ⟨0, fun _ => none, rfl, by omega, HM0.out, (Fam.nil enPo w1 (M + 1) 36).congr fun k => rfl, HG0.out, HZ0.out⟩
  case round =>
    clear HM0 HG0 HZ0
    obtain ⟨j, g, rfl, hj, HS, HF, HG, HZ⟩ := hrel
    by_cases hlt : j < n
    · have hjl : j < l.length := by rw [HL.out]; exact hlt
      obtain ⟨b, o, rfl, hb, hc⟩ := (HI.out.keep HG.out).po hlt
      obtain ⟨a0, a1, a2, a3⟩ := hc j hlt
      have hok := HK.out j hlt
      have HRS := Lib.hid (rowK_succ l j hjl)
      have HRL := Lib.hid (rowK_len l j (keyP (l.getD j po0)))
      have i0 : (0 : Int) ≤ (j : Int) := by omega
      have i1 : (j : Int) < (n : Int) := by omega
      clear hc hb HNO HYES HMM
      generalize l.getD j po0 = x at *
      obtain ⟨q1, q2, q3, q4⟩ := x
      dsimp only at a0 a1 a2 a3
      have hkey : keyP (q1, q2, q3, q4) = (q1, q2) := rfl
      rw [hkey] at hok HRS HRL
      have HGA : Hid (Grew wr ((wr.alloc (.cells #[.int .i64 q1, .int .i64 q2, .int .i64 q3, .int .i64 q4] 36)).alloc (.cells #[.int .i64 q1, .int .i64 q2, .int .i64 q3, .int .i64 q4] 36))) := grew_trans (grew_alloc _ _ _) (grew_alloc _ _ _)
      have HRE : Hid (RowE enPo ((wr.alloc (.cells #[.int .i64 q1, .int .i64 q2, .int .i64 q3, .int .i64 q4] 36)).alloc (.cells #[.int .i64 q1, .int .i64 q2, .int .i64 q3, .int .i64 q4] 36)) (some ⟨wr.heap.size + 1, 0, none⟩) 1 [(q1, q2, q3, q4)]) := RowE.one1 enPo _ _ _ _ _ (by simp) rfl
      have HSZ : Hid (wr.heap.size + 2 ≤ ((wr.alloc (.cells #[.int .i64 q1, .int .i64 q2, .int .i64 q3, .int .i64 q4] 36)).alloc (.cells #[.int .i64 q1, .int .i64 q2, .int .i64 q3, .int .i64 q4] 36)).heap.size) := by show _ ≤ _; simp
      obtain ⟨st, w2, hme, hg2, hfd⟩ := (HS.out.keep HGA.out).entry (q1, q2) hok (by unfold maxLen; omega)
      have HFD := Lib.hid hfd
      have HF2 : Hid (Fam enPo w2 (M + 1) 36 (fun k => vSv (g k)) (rowK (l.take j))) := (HF.out.keep HGA.out).kept hg2 fun k e => by have := (HF.out.lt k e).1; omega
      have HR2 : Hid (RowE enPo w2 (some ⟨wr.heap.size + 1, 0, none⟩) 1 [(q1, q2, q3, q4)]) := HRE.out.grown hg2 (by intro e; have := HZ.out; simp at e; omega)
      have HZ2 : Hid (M + 1 ≤ w2.heap.size) := by have := HZ.out; have := HSZ.out; have := hg2.size; show _ ≤ _; omega
      have HG2 : Hid (Grew w w2) := Below.grown (grew_trans HG.out HGA.out) hg2 (Nat.le_trans HG.out.size HGA.out.size) fun k hk => by cases hk; exact Nat.le_of_eq HMW.out
      have HM2 := Lib.hid (hg2.size)
      dsimp only [vKy] at hme
      clear hg2 hfd HF HRE HS
      go_wp2_with (at_builtin; refine (wpList_fam (E := enPo) (base := M + 1) (q1, q2) rfl _ _ 23 (vPo po0) 32 rfl Try.underlying23 info_po rfl HF2.out rfl _ (q1, q2, q3, q4) rfl HR2.out (by have := HRL.out; unfold maxLen; omega) (by have := HRL.out; omega) HZ2.out ?_); intro v3 w3 hf3 hb3 hg3; obtain ⟨s, rfl⟩ : ∃ s, v3 = vSv s := (by have h9 := hf3.own (q1, q2); rw [upd_at, upd_at] at h9; exact h9.sv); obtain ⟨w4, hes, hm4, hg4⟩ := HFD.out.store w3 s (hg3.block M (by have := HZ2.out; omega) (by intro e; have := (HF2.out.lt (q1, q2) e.symm).1; omega)); have HS4 := Lib.hid hm4; have HF4 : Hid (Fam enPo w4 (M + 1) 36 (fun k => vSv (upd g (q1, q2) s k)) (rowK (l.take (j + 1)))) := (hf3.kept hg4 fun k e => (by have := (hf3.lt k e).1; omega)).cong2 (upd_vSv g (q1, q2) s) HRS.out; have HG4 : Hid (Grew w w4) := Below.grown (Below.trans HG2.out (Below.mono hb3 (by rw [HMW.out]; exact Nat.le_succ _))) hg4 (Nat.le_trans HG2.out.size hb3.size) (fun k hk => by cases hk; exact Nat.le_of_eq HMW.out); have HZ4 : Hid (M + 1 ≤ w4.heap.size) := Nat.le_trans HZ2.out (Nat.le_trans hb3.size hg4.size); clear hf3 hb3 hg3 hm4 hg4)
      clear hme hes HF2 HR2 HG2 HM2 HZ2 HFD a0 a1 a2 a3
      go_roundw
      case rel => exact ⟨j + 1, _, by go_num, by omega, HS4.out, HF4.out, HG4.out, HZ4.out⟩
      case measure => simp only [intOf]; omega
    · obtain rfl : j = n := by omega
      have ht : l.take j = l := List.take_of_length_le (by rw [HL.out]; exact Nat.le_refl _)
      rw [ht] at HF
      clear ht HK hlt hj
      generalize wr = wB at *
      go_wp2
      go_loopw [7, 8] (fun v7 v8 wr => ∃ a : Nat, v8 = .int .i64 ((a : Int) + 1) ∧ a ≤ 16 ∧ Hid (OwnE enPo wr wB.heap.size 36 v7 (plF (sumK2 l) (a * 8))) ∧ Hid (fitTo (sumK2 l) (a * 8)) ∧ Hid (Grew wB wr)) (fun _ v8 _ => 17 - (intOf v8).toNat)
      case atStart => exact ⟨0, by go_num, by omega, OwnE.nil _ _ _ _, fun i hi => by omega, grew_refl _⟩
      case round =>
        obtain ⟨a, rfl, ha, HO, HT, HGB⟩ := hrel
        by_cases ha16 : a < 16
        · have i1 : (a : Int) + 1 ≤ 16 := by omega
          go_wp2
          generalize wr = wC at *
          go_loopw [7, 9] (fun v7 v9 wr => ∃ c : Nat, v9 = .int .i64 ((c : Int) + 1) ∧ c ≤ 8 ∧ Hid (OwnE enPo wr wB.heap.size 36 v7 (plF (sumK2 l) (a * 8 + c))) ∧ Hid (fitTo (sumK2 l) (a * 8 + c)) ∧ Hid (Grew wB wr)) (fun _ v9 _ => 9 - (intOf v9).toNat)
          case atStart => exact ⟨0, by go_num, by omega, HO.out, HT.out, HGB.out⟩
          case round =>
            clear HO HT HGB
            obtain ⟨c, rfl, hc, HO, HT, HGB⟩ := hrel
            by_cases hc8 : c < 8
            · have i2 : (c : Int) + 1 ≤ 8 := by omega
              have hkk : okK ((a : Int) + 1, (c : Int) + 1) = true := (okK_iff _).2 ⟨⟨by show (1 : Int) ≤ (a : Int) + 1; omega, by show (a : Int) + 1 ≤ 16; omega⟩, by show (1 : Int) ≤ (c : Int) + 1; omega, by show (c : Int) + 1 ≤ 8; omega⟩
              have hkm : (((a : Int) + 1, (c : Int) + 1) : Ky) = ((((a * 8 + c) / 8 : Nat) : Int) + 1, (((a * 8 + c) % 8 : Nat) : Int) + 1) := by
                rw [show (a * 8 + c) / 8 = a by omega, show (a * 8 + c) % 8 = c by omega]
              have hlk := ((HS.out.keep HGB.out).keep (grew_alloc wr #[.int .i64 ((a : Int) + 1), .int .i64 ((c : Int) + 1)] 27)).look _ hkk
              obtain ⟨A3, c3, hv3, hr3, -, -, -⟩ := ((HF.out.own ((a : Int) + 1, (c : Int) + 1)).keep HGB.out).form
              rw [hv3] at hlk
              dsimp only [vKy] at hlk
              have hlen : (rowK l ((a : Int) + 1, (c : Int) + 1)).length ≤ 100000 := Nat.le_trans (List.length_filter_le _ _) (by rw [HL.out]; exact hn)
              have CS := fun w' (g : Grew wr w') => psumP_any A3 _ c3 (rowK l ((a : Int) + 1, (c : Int) + 1)) w' (hr3.keep g) hlen
              unfold SumPost at CS
              have HPS := Lib.hid (pl_succ (sumK2 l) (a * 8 + c) (by omega) _ hkm)
              have HFS := Lib.hid (fitTo_succ HT.out _ hkm)
              have HFN := Lib.hid (fits_no (f := sumK2 l) hkk)
              have HBG := Lib.hid (@sumP_big (rowK l ((a : Int) + 1, (c : Int) + 1)) (HMM.out _))
              have HOKS := Lib.hid (@sumP_ok (rowK l ((a : Int) + 1, (c : Int) + 1)) (HMM.out _))
              have HQ : Hid ((sumK2 l ((a : Int) + 1, (c : Int) + 1)).1 = (qtys (rowK l ((a : Int) + 1, (c : Int) + 1))).sum ∧ (sumK2 l ((a : Int) + 1, (c : Int) + 1)).2 = (csts (rowK l ((a : Int) + 1, (c : Int) + 1))).sum) := ⟨rfl, rfl⟩
              have HPL := Lib.hid (plF_len (sumK2 l) (a * 8 + c))
              have HWB : Hid (wB.heap.size ≤ wr.heap.size) := HGB.out.size
              dsimp only at HPS
              rw [HQ.out.1, HQ.out.2] at HPS HFS HFN
              clear hv3 hr3 HQ hlen hkk hkm HT HMM
              generalize (rowK l ((a : Int) + 1, (c : Int) + 1)).length = n3 at *
              generalize (qtys (rowK l ((a : Int) + 1, (c : Int) + 1))).sum = q at *
              generalize (csts (rowK l ((a : Int) + 1, (c : Int) + 1))).sum = cc at *
              generalize sumPQ (rowK l ((a : Int) + 1, (c : Int) + 1)) = SQ at *
              generalize sumPC (rowK l ((a : Int) + 1, (c : Int) + 1)) = SC at *
              generalize sumPE (rowK l ((a : Int) + 1, (c : Int) + 1)) = SE at *
              have CW := fun w => bwithin_any q (-1099511627776) 1099511627776 w
              have CE := fun w => empty_any ((a : Int) + 1, (c : Int) + 1, q, cc) w
              dsimp only [vPo] at CE
              have HOQ : Hid (okQ q = wi q (-1099511627776) 1099511627776) := rfl
              have HGA : Hid (Grew wr (wr.alloc (.cells #[.int .i64 ((a : Int) + 1), .int .i64 ((c : Int) + 1)] 27))) := grew_alloc _ _ _
              have HKX : Hid (OwnC (wr.alloc (.cells #[.int .i64 ((a : Int) + 1), .int .i64 ((c : Int) + 1)] 27)) wr.heap.size [.int .i64 ((a : Int) + 1), .int .i64 ((c : Int) + 1)]) := OwnC.new wr [.int .i64 ((a : Int) + 1), .int .i64 ((c : Int) + 1)] _ _ rfl
              have HGX := Lib.hid (grew_trans (grew_trans HG.out HGB.out) HGA.out)
              by_cases hmm : (isMoney q && isMoney cc) = true
              · obtain ⟨m1, m2⟩ := (Bool.and_eq_true _ _).mp hmm
                obtain ⟨e1, e2, e3⟩ := HOKS.out m1 m2
                rw [e1, e2, e3] at CS
                clear e1 e2 e3
                by_cases hq : okQ q = true
                · have hq2 := hq
                  rw [HOQ.out] at hq2
                  rw [hq2] at CW
                  have HFS2 := Lib.hid (HFS.out (by rw [hq, m2]; rfl))
                  have HNP : Hid (noneP q cc = (decide (q = 0) && decide (cc = 0))) := rfl
                  clear HBG HOKS HFS HFN HOQ m1 m2 hmm hq hq2 HNO HYES
                  by_cases h0 : q = 0 ∧ cc = 0
                  · have HP2 : Hid (plF (sumK2 l) (a * 8 + c + 1) = plF (sumK2 l) (a * 8 + c)) := by show _ = _; rw [HPS.out, if_pos h0, List.append_nil]
                    have hnp : noneP q cc = true := by rw [HNP.out, decide_eq_true h0.1, decide_eq_true h0.2]; rfl
                    rw [hnp] at CE
                    clear HPS HNP hnp h0
                    go_wp2_with (first
                      | (go_at_call 29; ((with_reducible refine (CS _ HGA.out).mono ?_); rintro e w5 ⟨rfl, hg⟩; have HG5 := Lib.hid hg; have HKY := Lib.hid (HKX.out.keep hg); have k0 : w5.cell? ⟨wr.heap.size, 0, none⟩ = some (.int .i64 ((a : Int) + 1)) := HKY.out.at 0 _ rfl; have k1 : w5.cell? ⟨wr.heap.size, 1, none⟩ = some (.int .i64 ((c : Int) + 1)) := HKY.out.at 1 _ rfl; clear hg))
                      | (go_at_call 33; ((with_reducible refine (CW _).mono ?_); rintro e w6 ⟨rfl, rfl⟩))
                      | (go_at_call 60; ((with_reducible refine (CE _).mono ?_); rintro e w7 ⟨rfl, hg⟩; have HG7b := Lib.hid (own_back hg); have HG7 := Lib.hid (grew_trans HGB.out (grew_trans HGA.out (grew_trans HG5.out (own_back hg)))); clear hg)))
                    go_roundw
                    case rel => exact ⟨c + 1, by go_num, by omega, by rw [show a * 8 + (c + 1) = a * 8 + c + 1 by omega, HP2.out]; exact HO.out.keep (grew_trans HGA.out (grew_trans HG5.out HG7b.out)), by rw [show a * 8 + (c + 1) = a * 8 + c + 1 by omega]; exact HFS2.out, HG7.out⟩
                    case measure => simp only [intOf]; omega
                  · have HP2 : Hid (plF (sumK2 l) (a * 8 + c + 1) = plF (sumK2 l) (a * 8 + c) ++ [((a : Int) + 1, (c : Int) + 1, q, cc)]) := by show _ = _; rw [HPS.out, if_neg h0]
                    have hnp : noneP q cc = false := by
                      rw [HNP.out, ← Bool.not_eq_true, Bool.and_eq_true, decide_eq_true_eq, decide_eq_true_eq]; exact h0
                    rw [hnp] at CE
                    clear HPS HNP hnp h0
                    go_wp2_with (first
                      | (go_at_call 29; ((with_reducible refine (CS _ HGA.out).mono ?_); rintro e w5 ⟨rfl, hg⟩; have HG5 := Lib.hid hg; have HKY := Lib.hid (HKX.out.keep hg); have k0 : w5.cell? ⟨wr.heap.size, 0, none⟩ = some (.int .i64 ((a : Int) + 1)) := HKY.out.at 0 _ rfl; have k1 : w5.cell? ⟨wr.heap.size, 1, none⟩ = some (.int .i64 ((c : Int) + 1)) := HKY.out.at 1 _ rfl; clear hg))
                      | (go_at_call 33; ((with_reducible refine (CW _).mono ?_); rintro e w6 ⟨rfl, rfl⟩))
                      | (go_at_call 60; ((with_reducible refine (CE _).mono ?_); rintro e w7 ⟨rfl, hg⟩; have HG7 := Lib.hid (grew_trans HGA.out (grew_trans HG5.out (own_back hg))); have HPX := Lib.hid ((OwnC.new w5 [.int .i64 ((a : Int) + 1), .int .i64 ((c : Int) + 1), .int .i64 q, .int .i64 cc] 36 _ rfl).keep hg); have p0 : w7.cell? ⟨w5.heap.size, 0, none⟩ = some (.int .i64 ((a : Int) + 1)) := HPX.out.at 0 _ rfl; have p1 : w7.cell? ⟨w5.heap.size, 1, none⟩ = some (.int .i64 ((c : Int) + 1)) := HPX.out.at 1 _ rfl; have p2 : w7.cell? ⟨w5.heap.size, 2, none⟩ = some (.int .i64 q) := HPX.out.at 2 _ rfl; have p3 : w7.cell? ⟨w5.heap.size, 3, none⟩ = some (.int .i64 cc) := HPX.out.at 3 _ rfl; clear hg))
                      | (at_builtin; refine (wpList_append_E rfl _ _ 23 36 (vPo po0) 32 rfl Try.underlying23 info_po rfl wB.heap.size _ (plF (sumK2 l) (a * 8 + c)) rfl ((HO.out.keep HG7.out).keep (grew_alloc _ _ _)) _ 1 1 [((a : Int) + 1, (c : Int) + 1, q, cc)] rfl (by intro h; cases h) (RowE.one1 enPo _ _ _ _ _ rfl rfl) (by have := HPL.out; simp; unfold maxLen; omega) (by have := HPL.out; simp; omega) (Nat.le_trans HWB.out (Nat.le_trans HG7.out.size (by simp))) ?_); intro v' w' ho hb; have HP := Lib.hid ho; have HB : Hid (Grew wB w') := Below.trans (grew_trans HGB.out (grew_trans HG7.out (grew_alloc _ _ _))) hb; clear ho hb))
                    go_roundw
                    case rel => exact ⟨c + 1, by go_num, by omega, by rw [show a * 8 + (c + 1) = a * 8 + c + 1 by omega, HP2.out]; exact HP.out, by rw [show a * 8 + (c + 1) = a * 8 + c + 1 by omega]; exact HFS2.out, HB.out⟩
                    case measure => simp only [intOf]; omega
                · rw [Bool.not_eq_true] at hq
                  have HF2 := Lib.hid (HNO.out (HFN.out (by rw [hq]; rfl)))
                  rw [HOQ.out] at hq
                  rw [hq] at CW
                  clear HBG HOKS HFS HFN HOQ m1 m2 hmm hq HNO HYES CE HPS
                  go_wp2_with (first
                    | (go_at_call 29; ((with_reducible refine (CS _ HGA.out).mono ?_); rintro e w5 ⟨rfl, hg⟩; have HG5 := Lib.hid hg; clear hg))
                    | (go_at_call 33; ((with_reducible refine (CW _).mono ?_); rintro e w6 ⟨rfl, rfl⟩)))
                  exact HF2.out _ (grew_trans HGX.out HG5.out)
              · rw [Bool.not_eq_true] at hmm
                obtain ⟨e1, e2, e3⟩ := HBG.out hmm
                rw [e1, e2, e3] at CS
                clear e1 e2 e3
                have HF2 := Lib.hid (HNO.out (HFN.out (by
                  rcases Bool.and_eq_false_iff.1 hmm with h | h
                  · rw [show okQ q = false by rw [← Bool.not_eq_true]; intro h2; rw [okQ_money h2] at h; cases h]; rfl
                  · rw [h, Bool.and_false])))
                clear HBG HOKS HFS HFN HOQ hmm HNO HYES CE HPS CW
                go_wp2_with (go_at_call 29; ((with_reducible refine (CS _ HGA.out).mono ?_); rintro e w5 ⟨rfl, hg⟩; have HG5 := Lib.hid hg; clear hg))
                exact HF2.out _ (grew_trans HGX.out HG5.out)
            · obtain rfl : c = 8 := by omega
              clear HS HF HNO HYES
              go_wp2
              go_roundw
              case rel => exact ⟨a + 1, by go_num, by omega, by rw [show (a + 1) * 8 = a * 8 + 8 by omega]; exact HO.out, by rw [show (a + 1) * 8 = a * 8 + 8 by omega]; exact HT.out, HGB.out⟩
              case measure => simp only [intOf]; omega
        · obtain rfl : a = 16 := by omega
          have HF2 := Lib.hid (HYES.out HT.out)
          clear HS HF HNO HYES
          go_wp2
          exact HF2.out _ _ (HO.out.mono HG.out.size) (grew_trans HG.out HGB.out)
end Go.Proofs.Ytkbmiajgmnfpfaa.NumK
