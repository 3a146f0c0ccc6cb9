/- Maps from places to numbers: what is looked up, laid, and laid anew. -/
import Derived.Test.YtejionmgpplniaaA
import Derived.WideKeyEntry
import Derived.DeepKeys4
import Derived.Maps.Own
namespace Go.Proofs.Ytejionmgpplniaa.T
open Go.RowKit
open Go.ChangeMaps (setBlock heap_setBlock_same heap_setBlock_other modify_eq_set)
set_option linter.unusedVariables false
set_option linter.unusedSimpArgs false
theorem lawK : WideMaps.KeyLaw Try.prog 31 := deep_law_laid (by kernel_rfl) (m := 2) (by omega) (of_decide_eq_true (by kernel_rfl)) (by kernel_rfl) (by rw [Try.underlying31])
theorem keyed31 : Try.prog.keyType 31 = true := by kernel_rfl
theorem zero3 (w : World) : (zeroValue 3).run Try.prog w = .ok (.int .i64 0) w := by kernel_rfl
theorem cells31 : Try.prog.cellsOf 31 = 2 := by kernel_rfl
theorem cells3 : Try.prog.cellsOf 3 = 1 := by kernel_rfl
theorem cells4 : Try.prog.cellsOf 4 = 1 := by kernel_rfl
theorem types0 : 0 < Try.prog.types.size := of_decide_eq_true (by kernel_rfl)
theorem key_gen {P : Program} {n1 n2 t1 t2 q1 q2 : String} {e1 e2 : Bool} {b1 b2 : Nat} (h31 : P.underlying 31 = some (.struct #[{ name := n1, type := 4, offset := 0, embedded := e1, tag := t1, pkgPath := q1, byteOffset := b1 }, { name := n2, type := 3, offset := 1, embedded := e2, tag := t2, pkgPath := q2, byteOffset := b2 }])) (hn1 : (n1 != "_") = true) (hn2 : (n2 != "_") = true) (h3 : P.underlying 3 = some (.int .i64)) (h4 : P.underlying 4 = some .bool) (hk : P.keyType 31 = true) (c31 : P.cellsOf 31 = 2) (c3 : P.cellsOf 3 = 1) (c4 : P.cellsOf 4 = 1) (hn : 0 < P.types.size) {p : Lc} (hw : (Lit.int .i64 p.2).wf = true) : ∃ l, keyOf P 31 (kV p) = some l := by
  cases hs : P.types.size with
  | zero => omega
  | succ n => simp [keyOf, kV, h31, hk, Value.formed, c31, Value.cells, hs, Program.keyLits, h3, h4, c3, c4, hw, hn1, hn2]
theorem key_of {p : Lc} (h : Wf p) : ∃ l, keyOf Try.prog 31 (kV p) = some l :=
  key_gen Try.underlying31 (by decide) (by decide) Try.underlying3 Try.underlying4 keyed31 cells31 cells3 cells4 types0 (WalkArith.wf_i64 (by unfold Wf at h; omega))
theorem kV_inj {p q : Lc} (h : kV p = kV q) : p = q := by
  unfold kV at h
  simp at h
  exact Prod.ext h.1 h.2
theorem lk_mem {M : List Me} (hk : (M.map (·.1)).Nodup) {m : Me} (hm : m ∈ M) : lk M m.1 = m.2.1 := by
  induction M with
  | nil => cases hm
  | cons x M ih =>
    rw [List.map_cons, List.nodup_cons] at hk
    by_cases h : x.1 = m.1
    · rcases List.mem_cons.1 hm with rfl | hm
      · simp [lk]
      · exact absurd (List.mem_map.2 ⟨m, hm, h.symm⟩) hk.1
    · rcases List.mem_cons.1 hm with rfl | hm
      · exact absurd rfl h
      · have := ih hk.2 hm
        simpa [lk, h] using this
theorem lk_not {M : List Me} {p : Lc} (h : ∀ m, m ∈ M → m.1 ≠ p) : lk M p = 0 := by
  unfold lk
  rw [List.find?_eq_none.2 (fun m hm => by simpa using h m hm)]
/-- What a list of entries tells at a place. -/
theorem lk_eq {M : List Me} (hk : (M.map (·.1)).Nodup) (p : Lc) : (∃ m, m ∈ M ∧ m.1 = p ∧ lk M p = m.2.1) ∨ ((∀ m, m ∈ M → m.1 ≠ p) ∧ lk M p = 0) := by
  by_cases h : ∃ m, m ∈ M ∧ m.1 = p
  · obtain ⟨m, hm, rfl⟩ := h
    exact Or.inl ⟨m, hm, rfl, lk_mem hk hm⟩
  · have h' : ∀ m, m ∈ M → m.1 ≠ p := fun m hm e => h ⟨m, hm, e⟩
    exact Or.inr ⟨h', lk_not h'⟩
theorem set_get {α : Type} {l : List α} {j : Nat} {a : α} (h : l[j]? = some a) : l.set j a = l := WideElems.set_self l j a h
theorem keys_set {M : List Me} {j : Nat} {m : Me} (hj : M[j]? = some m) (v : Int) : (M.set j (m.1, v, m.2.2)).map (·.1) = M.map (·.1) := by
  rw [List.map_set]; exact set_get (by simp [hj])
theorem born_set {M : List Me} {j : Nat} {m : Me} (hj : M[j]? = some m) (v : Int) : (M.set j (m.1, v, m.2.2)).map (·.2.2) = M.map (·.2.2) := by
  rw [List.map_set]; exact set_get (by simp [hj])
def upd (f : Lc → Int) (p : Lc) (v : Int) : Lc → Int := fun q => if q = p then v else f q
theorem lk_set {M : List Me} (hk : (M.map (·.1)).Nodup) {j : Nat} {m : Me} (hj : M[j]? = some m) (v : Int) (q : Lc) : lk (M.set j (m.1, v, m.2.2)) q = upd (lk M) m.1 v q := by
  have hk' : ((M.set j (m.1, v, m.2.2)).map (·.1)).Nodup := by rw [keys_set hj]; exact hk
  have hjl := (List.getElem?_eq_some_iff.1 hj).1
  unfold upd
  by_cases hq : q = m.1
  · subst hq
    rw [if_pos rfl]
    exact lk_mem hk' (m := (m.1, v, m.2.2)) (List.mem_of_getElem? (i := j) (by simp [hjl]))
  · rw [if_neg hq]
    rcases lk_eq hk q with ⟨m', hm', rfl, e⟩ | ⟨h, e⟩
    · rw [e]
      obtain ⟨k, hk1, hk2⟩ := List.getElem_of_mem hm'
      have hne : j ≠ k := fun e => by subst e; rw [List.getElem?_eq_getElem hk1, hk2] at hj; cases hj; exact hq rfl
      exact lk_mem hk' (m := m') (List.mem_of_getElem? (i := k) (by rw [List.getElem?_set_ne hne, List.getElem?_eq_getElem hk1, hk2]))
    · rw [e]
      refine lk_not fun m' hm' => ?_
      rcases List.mem_or_eq_of_mem_set hm' with h' | rfl
      · exact h m' h'
      · exact fun e => hq e.symm
theorem lk_push {M : List Me} (hk : (M.map (·.1)).Nodup) {p : Lc} (hp : ∀ m, m ∈ M → m.1 ≠ p) (v : Int) (st : Nat) (q : Lc) : lk (M ++ [(p, v, st)]) q = upd (lk M) p v q := by
  have hk' : ((M ++ [(p, v, st)]).map (·.1)).Nodup := by
    rw [List.map_append, List.nodup_append]
    refine ⟨hk, by simp, fun a ha b hb => ?_⟩
    obtain ⟨m, hm, rfl⟩ := List.mem_map.1 ha
    simp at hb
    subst hb
    exact hp m hm
  unfold upd
  by_cases hq : q = p
  · subst hq
    rw [if_pos rfl]
    exact lk_mem hk' (m := (q, v, st)) (by simp)
  · rw [if_neg hq]
    rcases lk_eq hk q with ⟨m', hm', rfl, e⟩ | ⟨h, e⟩
    · rw [e]
      exact lk_mem hk' (m := m') (by simp [hm'])
    · rw [e]
      refine lk_not fun m' hm' => ?_
      rcases List.mem_append.1 hm' with h' | h'
      · exact h m' h'
      · simp at h'
        subst h'
        exact fun e => hq e.symm
variable {w : World} {b : Nat} {f : Lc → Int} {p : Lc}
theorem MpAt.found {M : List Me} {clock : Nat} (h : MpAt w b M clock) (hp : Wf p) : ((Instr.findKey 31 (kV p) (M.map ent)).run Try.prog w = .ok none w ∧ ∀ m, m ∈ M → m.1 ≠ p) ∨ ∃ (j : Nat) (m : Me), (Instr.findKey 31 (kV p) (M.map ent)).run Try.prog w = .ok (some (j, .int .i64 m.2.1)) w ∧ M[j]? = some m ∧ m.1 = p := by
  obtain ⟨l, hl⟩ := key_of hp
  rcases lawK.find w hl (M.map ent) (fun e he => by obtain ⟨m, hm, rfl⟩ := List.mem_map.1 he; exact key_of (h.wf m hm)) with ⟨h1, h2⟩ | ⟨j, e, h1, h2, h3⟩
  · exact Or.inl ⟨h1, fun m hm e => h2 _ (List.mem_map.2 ⟨m, hm, rfl⟩) (by show kV m.1 = kV p; rw [e])⟩
  · rw [List.getElem?_map] at h2
    cases hm : M[j]? with
    | none => rw [hm] at h2; cases h2
    | some m =>
      rw [hm] at h2
      cases h2
      exact Or.inr ⟨j, m, h1, hm, kV_inj h3⟩
theorem checked (hp : Wf p) (w : World) (em : Bool) : (Instr.checkKey em 10000 31 (kV p)).run Try.prog w = .ok () w := by
  obtain ⟨l, hl⟩ := key_of hp
  exact lawK.check w em hl
theorem stayed (hp : Wf p) (w : World) : (Instr.keyThatStays (kV p) (kV p)).run Try.prog w = .ok (kV p) w := by
  obtain ⟨l, hl⟩ := key_of hp
  exact lawK.stays w hl
theorem Mp.look (h : Mp w b f) (hp : Wf p) : (Instr.lookup 45 (.map (some b)) (kV p) false).run Try.prog w = .ok (.int .i64 (f p)) w := by
  obtain ⟨M, clock, h1, h2⟩ := h
  rcases h1.found hp with ⟨e1, e2⟩ | ⟨j, m, e1, e2, rfl⟩
  · have : f p = 0 := by rw [← h2]; exact lk_not e2
    simp [Instr.lookup, run_underlying Try.underlying45, MapKept.run_getObj_map h1.blk, checked hp, e1, zero3, Result.andThen, this]
  · have : f m.1 = m.2.1 := by rw [← h2]; exact lk_mem h1.keys (List.mem_of_getElem? e2)
    simp [Instr.lookup, run_underlying Try.underlying45, MapKept.run_getObj_map h1.blk, checked hp, e1, Result.andThen, this]
theorem grown_set {es : Array MapEntry} {clock : Nat} (hb : w.heap[b]? = some (.map es clock)) (o : Obj) : w.grownBy (setBlock w b o) (some b) := ⟨rfl, rfl, rfl, by simp [setBlock], fun i _ hi => heap_setBlock_other hb _ (fun e => hi (by rw [e]))⟩
theorem ent_modify {M : List Me} {j : Nat} {m : Me} (hj : M[j]? = some m) (g : MapEntry → MapEntry) (m' : Me) (hg : g (ent m) = ent m') : ((M.map ent).toArray).modify j g = ((M.set j m').map ent).toArray := by
  apply Array.ext'
  rw [Array.toList_modify, modify_eq_set g _ j (ent m) (by simp [hj]), hg, List.map_set]
theorem ent_modL {M : List Me} {j : Nat} {m : Me} (hj : M[j]? = some m) (g : MapEntry → MapEntry) (m' : Me) (hg : g (ent m) = ent m') : (M.map ent).modify j g = (M.map ent).set j (ent m') := by
  rw [modify_eq_set g _ j (ent m) (by simp [hj]), hg]
theorem MpAt.put {M : List Me} {clock : Nat} (h : MpAt w b M clock) {j : Nat} {m : Me} (hj : M[j]? = some m) (v : Int) : MpAt (setBlock w b (.map ((M.set j (m.1, v, m.2.2)).map ent).toArray clock)) b (M.set j (m.1, v, m.2.2)) clock := by
  have hm := List.mem_of_getElem? hj
  refine ⟨heap_setBlock_same h.blk _, fun x hx => ?_, by rw [born_set hj]; exact h.born, by rw [keys_set hj]; exact h.keys, fun x hx => ?_⟩
  · rcases List.mem_or_eq_of_mem_set hx with h' | rfl
    · exact h.lt x h'
    · exact h.lt m hm
  · rcases List.mem_or_eq_of_mem_set hx with h' | rfl
    · exact h.wf x h'
    · exact h.wf m hm
theorem MpAt.push {M : List Me} {clock : Nat} (h : MpAt w b M clock) (hp : Wf p) (hn : ∀ m, m ∈ M → m.1 ≠ p) (v : Int) : MpAt (setBlock w b (.map ((M ++ [(p, v, clock)]).map ent).toArray (clock + 1))) b (M ++ [(p, v, clock)]) (clock + 1) := by
  refine ⟨heap_setBlock_same h.blk _, fun x hx => ?_, ?_, ?_, fun x hx => ?_⟩
  · rcases List.mem_append.1 hx with h' | h'
    · exact Nat.lt_succ_of_lt (h.lt x h')
    · simp at h'; subst h'; exact Nat.lt_succ_self _
  · rw [List.map_append, List.nodup_append]
    refine ⟨h.born, by simp, fun a ha c hc => ?_⟩
    obtain ⟨m, hm, rfl⟩ := List.mem_map.1 ha
    simp at hc
    have := h.lt m hm
    omega
  · rw [List.map_append, List.nodup_append]
    refine ⟨h.keys, by simp, fun a ha c hc => ?_⟩
    obtain ⟨m, hm, rfl⟩ := List.mem_map.1 ha
    simp at hc
    subst hc
    exact hn m hm
  · rcases List.mem_append.1 hx with h' | h'
    · exact h.wf x h'
    · simp at h'; subst h'; exact hp
theorem Mp.made (w : World) : Mp (w.alloc (.map #[] 0)) w.heap.size (fun _ => 0) :=
  ⟨[], 0, ⟨heap_alloc_new w _, by simp, by simp, by simp, by simp⟩, fun _ => rfl⟩
theorem Mp.update (h : Mp w b f) (hp : Wf p) (v : Int) : ∃ w', (Instr.mapUpdate 45 (.map (some b)) (kV p) (.int .i64 v)).run Try.prog w = .ok () w' ∧ Mp w' b (upd f p v) ∧ w.grownBy w' (some b) := by
  obtain ⟨M, clock, h1, h2⟩ := h
  have hf : lk M = f := funext h2
  subst hf
  rcases h1.found hp with ⟨e1, e2⟩ | ⟨j, m, e1, e2, rfl⟩
  · refine ⟨_, ?_, ⟨M ++ [(p, v, clock)], clock + 1, h1.push hp e2 v, lk_push h1.keys e2 v clock⟩, grown_set h1.blk _⟩
    simp [Instr.mapUpdate, run_underlying Try.underlying45, MapKept.run_getObj_map h1.blk, checked hp, e1, MapKept.run_setObj_map _ h1.blk, Result.andThen, setBlock, ent]
  · refine ⟨_, ?_, ⟨M.set j (m.1, v, m.2.2), clock, h1.put e2 v, lk_set h1.keys e2 v⟩, grown_set h1.blk _⟩
    have hmod := ent_modL e2 (fun e => { e with key := kV m.1, val := .int .i64 v }) (m.1, v, m.2.2) rfl
    have hkey : (ent m).key = kV m.1 := rfl
    simp [Instr.mapUpdate, run_underlying Try.underlying45, MapKept.run_getObj_map h1.blk, checked hp, e1, e2, hkey, stayed hp, hmod, MapKept.run_setObj_map _ h1.blk, Result.andThen, setBlock]
theorem Mp.entry (h : Mp w b f) (hp : Wf p) : ∃ (w' : World) (st : Nat), (Instr.mapEntry 45 (.map (some b)) (kV p)).run Try.prog w = .ok (.tuple #[.int .i64 (f p), .int .i64 st]) w' ∧ En w' b f p st ∧ w.grownBy w' (some b) := by
  obtain ⟨M, clock, h1, h2⟩ := h
  have hf : lk M = f := funext h2
  subst hf
  rcases h1.found hp with ⟨e1, e2⟩ | ⟨j, m, e1, e2, rfl⟩
  · refine ⟨_, clock, ?_, ⟨M ++ [(p, 0, clock)], clock + 1, h1.push hp e2 0, fun q => ?_, M.length, (p, 0, clock), by simp, rfl, rfl⟩, grown_set h1.blk _⟩
    · simp [Instr.mapEntry, run_underlying Try.underlying45, MapKept.run_getObj_map h1.blk, checked hp, e1, zero3, MapKept.run_setObj_map _ h1.blk, Result.andThen, setBlock, ent, goInt, lk_not e2]
    · rw [lk_push h1.keys e2]
      unfold upd
      split
      · rename_i e; subst e; exact (lk_not e2).symm
      · rfl
  · have hmod := ent_modL e2 (fun e => { e with key := kV m.1 }) (m.1, m.2.1, m.2.2) rfl
    have hkey : (ent m).key = kV m.1 := rfl
    have hborn : (ent m).born = m.2.2 := rfl
    refine ⟨_, m.2.2, ?_, ⟨M.set j (m.1, m.2.1, m.2.2), clock, h1.put e2 _, fun q => ?_, j, m, ?_, rfl, rfl⟩, grown_set h1.blk _⟩
    · simp [Instr.mapEntry, run_underlying Try.underlying45, MapKept.run_getObj_map h1.blk, checked hp, e1, e2, hkey, hborn, stayed hp, hmod, MapKept.run_setObj_map _ h1.blk, Result.andThen, setBlock, goInt, lk_mem h1.keys (List.mem_of_getElem? e2)]
    · rw [set_get e2]
    · rw [set_get e2]; exact e2
theorem En.store {st : Nat} (h : En w b f p st) (v : Int) : ∃ w', (Instr.entryStore 45 (.map (some b)) (.int .i64 st) (.int .i64 v)).run Try.prog w = .ok () w' ∧ Mp w' b (upd f p v) ∧ w.grownBy w' (some b) := by
  obtain ⟨M, clock, h1, h2, j, m, e2, rfl, rfl⟩ := h
  have hf : lk M = f := funext h2
  subst hf
  refine ⟨_, ?_, ⟨M.set j (m.1, v, m.2.2), clock, h1.put e2 v, lk_set h1.keys e2 v⟩, grown_set h1.blk _⟩
  have hidx : ((M.map ent).toArray).findIdx? (fun e => ((e.born : Nat) : Int) == ((m.2.2 : Nat) : Int)) = some j := by
    rw [WideElems.findIdx_arr]
    have := WideElems.findIdx_born (l := (M.map ent)) (j := j) (e0 := ent m) (by
      have := h1.born
      rw [List.map_map]
      exact this) (by simp [e2])
    exact this
  have hmod := ent_modify e2 (fun e => { e with val := .int .i64 v }) (m.1, v, m.2.2) rfl
  simp [Instr.entryStore, MapKept.run_getObj_map h1.blk, asInt, asIntOf, hidx, hmod, MapKept.run_setObj_map _ h1.blk, Result.andThen, setBlock]
end Go.Proofs.Ytejionmgpplniaa.T
