/- The contracts of the reference's joined, shown, row, at. -/
import Derived.Test.YthcfianhdkolhaaDoorRfC
import Derived.Test.YthcfianhdkolhaaDoorSynJx
namespace Go.Proofs.YthcfianhdkolhaaDoor.T
open Go.RowKit Go.Proofs.YthcfianhdkolhaaDoor.S
set_option linter.unusedVariables false
set_option linter.unusedSimpArgs false

/-- What Show is to answer. -/
def ShN (w0 : World) (n : Nd) : Prop := ∀ (w : World) (v : Value), Below w0.heap.size w0 w → NdO w0 n v → Calls Tryd.prog 10 #[v] w fun e w' => e = .returned (.string (str (jx (shT n)))) ∧ Below w.heap.size w w'
theorem str_app (a b : List UInt8) : str a ++ str b = str (a ++ b) := by
  apply ByteArray.ext
  apply Array.toList_inj.1
  simp [str]
theorem inter_snoc (s : List UInt8) (xs : List (List UInt8)) (x : List UInt8) : s.intercalate (xs ++ [x]) = if xs = [] then x else s.intercalate xs ++ s ++ x := by
  by_cases h : xs = []
  · subst h; rw [if_pos rfl]; exact inter_one s x
  · rw [if_neg h, inter_app s xs [x] h (by simp), inter_one]
theorem inter_take (s : List UInt8) (xs : List (List UInt8)) (j : Nat) (hj : j ≤ xs.length) : (s.intercalate (xs.take j)).length ≤ (s.intercalate xs).length := by
  rcases Nat.eq_or_lt_of_le hj with e | e
  · rw [e, List.take_length]; exact Nat.le_refl _
  · have h := List.take_append_drop j xs
    by_cases h1 : xs.take j = []
    · rw [h1, inter_nil]; simp
    · have h2 : xs.drop j ≠ [] := by intro h3; have := congrArg List.length h3; simp at this; omega
      have := inter_app s _ _ h1 h2
      rw [h] at this
      rw [this]
      simp
set_option maxRecDepth 100000 in
set_option maxHeartbeats 800000 in
theorem joined_any (xs : List (List UInt8)) (ob : Nat) (v : Value) (sep : List UInt8) (w : World) (h : w.ownsRow ob 9 1 v xs.length (strs xs)) (hn : xs.length ≤ 100000) (hl : (Lib.join xs sep).length ≤ 9300000000000) (hs : sep.length ≤ 100) :
    Calls Tryd.prog 23 #[v, .string (str sep)] w fun e w' => e = .returned (.string (str (Lib.join xs sep))) ∧ w' = w := by
  obtain ⟨va, vc, rfl, hc⟩ : ∃ va vc, v = .slice va xs.length vc ∧ ∀ j (hj : j < xs.length), ∃ g, va = some ⟨g, 0, none⟩ ∧ w.cell? ⟨g, j, none⟩ = some (.string (str xs[j])) := by
    rcases h with ⟨h1, ⟨rfl, h3⟩ | ⟨g, cap, cur, rfl, h4, h5, h6, h7, h8, h9⟩⟩
    · exact ⟨none, 0, by rw [h3], fun j hj => by omega⟩
    · refine ⟨_, _, rfl, fun j hj => ⟨g, rfl, ?_⟩⟩
      have e : (strs xs)[j]? = some (.string (str xs[j])) := by unfold strs; rw [List.getElem?_map, List.getElem?_eq_getElem hj]; rfl
      rw [← h9, List.getElem?_take_of_lt (by omega), Array.getElem?_toList] at e
      rw [cells_at h5]
      exact e
  have HC := hide hc
  have hse : (str sep).size = sep.length := rfl
  have HTk : Hid (∀ j, j ≤ xs.length → (sep.intercalate (xs.take j)).length ≤ 9300000000000) := fun j hj => Nat.le_trans (inter_take sep xs j hj) hl
  clear h hc
  generalize hsb : str sep = sb at *
  have HSb := hide hsb
  clear hsb
  go_enter Tryd.func23, Tryd.ntmps23
  go_wp2_with fail
  go_loopw [5, 6] (fun s i wr => ∃ (j : Nat) (x : ByteArray), j ≤ xs.length ∧ s = .string x ∧ i = .int .i64 j ∧ x.size ≤ 9300000000000 ∧ wr = w ∧ Hid (x = str (sep.intercalate (xs.take j)))) (fun _ i _ => xs.length - (intOf i).toNat)
  case atStart => exact ⟨0, _, Nat.zero_le _, rfl, rfl, (by show (0 : Nat) ≤ _; omega), rfl, by show _ = _; rw [List.take_zero, inter_nil]; rfl⟩
  case round =>
    obtain ⟨j, x, hj, rfl, rfl, hx, rfl, HX⟩ := hrel
    by_cases hlt : j < xs.length
    · have hlt' : (j : Int) < xs.length := by omega
      have hidx : (0 : Int) ≤ j ∧ (j : Int) < xs.length := by omega
      obtain ⟨g, rfl, hcj⟩ := HC.out j hlt
      have HT1 := HTk.out (j + 1) (by omega)
      have hts : xs.take (j + 1) = xs.take j ++ [xs[j]] := List.take_succ_eq_append_getElem hlt
      rw [hts, inter_snoc] at HT1
      have hyb : xs[j].length ≤ 9300000000000 := by
        split at HT1
        · exact HT1
        · simp only [List.length_append] at HT1; omega
      have hys : (str xs[j]).size ≤ 9300000000000 := hyb
      generalize hy : str xs[j] = y at *
      have HY := hide hy
      clear hy hts HT1
      by_cases hj0 : j = 0
      · have hj0' : ¬ (0 : Int) < j := by omega
        have HE : Hid (x ++ y = str (sep.intercalate (xs.take (j + 1)))) := by
          show _ = _
          have e0 : xs.take j = [] := by simp [hj0]
          rw [List.take_succ_eq_append_getElem hlt, inter_snoc, if_pos e0, HX.out, ← HY.out, str_app, e0, inter_nil, List.nil_append]
        have hxs : (x ++ y).size ≤ 9300000000000 := by rw [HE.out]; exact HTk.out (j + 1) (by omega)
        clear hj0
        go_wp2_with fail
        go_roundw
        case rel => exact ⟨j + 1, _, by omega, rfl, by go_num, hxs, trivial, HE⟩
        case measure => simp [intOf]; omega
      · have hj0' : (0 : Int) < j := by omega
        have hne : ¬ xs.take j = [] := by intro e; have h9 := congrArg List.length e; rw [List.length_take, Nat.min_eq_left hj] at h9; exact hj0 h9
        have HE : Hid (x ++ sb ++ y = str (sep.intercalate (xs.take (j + 1)))) := by
          show _ = _
          rw [List.take_succ_eq_append_getElem hlt, inter_snoc, if_neg hne, HX.out, ← HY.out, ← HSb.out, str_app, str_app]
        have hxs : (x ++ sb ++ y).size ≤ 9300000000000 := by rw [HE.out]; exact HTk.out (j + 1) (by omega)
        have hxa : (x ++ sb).size = x.size + sb.size := ByteArray.size_append
        clear hj0 hne
        go_wp2_with fail
        go_roundw
        case rel => exact ⟨j + 1, _, by omega, rfl, by go_num, hxs, trivial, HE⟩
        case measure => simp [intOf]; omega
    · obtain rfl : j = xs.length := by omega
      have hlt' : ¬ (xs.length : Int) < xs.length := by omega
      have HE : Hid (x = str (Lib.join xs sep)) := by have := HX.out; rw [List.take_length] at this; exact this
      go_wp2_with fail
      go_ret
      exact ⟨by rw [← HE.out]; rfl, rfl⟩
set_option maxRecDepth 100000 in
set_option maxHeartbeats 800000 in
theorem shown_any {w0 : World} (l : List Nd) (hS : ∀ x, x ∈ l → ShN w0 x) (w : World) (hb : Below w0.heap.size w0 w) (ka : Option Addr) (kc : Nat) (hR : RowO w0 ka l) (hl7 : l.length ≤ 700) :
    Calls Tryd.prog 24 #[.slice ka l.length kc] w fun e w' => (∃ v, e = .returned v ∧ w'.ownsRow w.heap.size 9 1 v l.length (strs (l.map fun x => jx (shT x)))) ∧ Below w.heap.size w w' := by
  have HR := hide hR
  have HS := hide hS
  have HBb := hide hb
  clear hR hS hb
  go_enter Tryd.func24, Tryd.ntmps24
  go_wp2_with fail
  go_loopw [3, 4] (fun v i wr => ∃ (j : Nat), j ≤ l.length ∧ i = .int .i64 j ∧ Hid (wr.ownsRow w.heap.size 9 1 v (l.take j).length (strs ((l.take j).map fun x => jx (shT x)))) ∧ Hid (Below w.heap.size w wr)) (fun _ i _ => l.length - (intOf i).toNat)
  case atStart => exact ⟨0, Nat.zero_le _, rfl, World.ownsRow_nil _ _ _ _, Below.refl _ _⟩
  case round =>
    obtain ⟨v, rfl⟩ : ∃ v, v = u3 := ⟨_, rfl⟩
    obtain ⟨j, hj, rfl, HO, HB⟩ := hrel
    by_cases hlt : j < l.length
    · have hlt' : (j : Int) < l.length := by omega
      have hidx : (0 : Int) ≤ j ∧ (j : Int) < l.length := by omega
      obtain ⟨g, o, rfl, hg, hcs⟩ := HR.out (fun e => by rw [e] at hlt; simp at hlt)
      obtain ⟨k0, x0, n0, a0, m9, c0, q0, q1, q2, q3, hnd⟩ := hcs j hlt
      have hbz := HBb.out.trans (HB.out.mono HBb.out.size)
      have e0 := below_cell hbz q0
      have e1 := below_cell hbz q1
      have e2 := below_cell hbz q2
      have e3 := below_cell hbz q3
      have hcal := HS.out l[j] (List.getElem_mem hlt) wr _ hbz hnd
      have HTs : Hid (strs ((l.take (j + 1)).map fun x => jx (shT x)) = strs ((l.take j).map fun x => jx (shT x)) ++ [.string (str (jx (shT l[j])))] ∧ (l.take (j + 1)).length = (l.take j).length + 1) := by
        show _ ∧ _
        refine ⟨?_, by rw [List.length_take, List.length_take]; omega⟩
        rw [List.take_succ_eq_append_getElem hlt, List.map_append]
        simp only [strs, List.map_append]
        rfl
      have hlj : (l.take j).length = j := by rw [List.length_take]; omega
      clear q0 q1 q2 q3 hcs hnd hbz
      generalize hjx : jx (shT l[j]) = xj at *
      clear hjx
      go_wp2_with fail
      go_at_call 10
      refine hcal.mono ?_
      rintro e w2 ⟨rfl, hb2⟩
      have HB2 : Hid (Below w.heap.size w w2) := HB.out.trans (hb2.mono HB.out.size)
      have HO2 : Hid ((w2.alloc (.cells #[.string (str xj)] 9)).ownsRow w.heap.size 9 1 v (l.take j).length (strs ((l.take j).map fun x => jx (shT x)))) := owns_below (owns_below HO.out hb2) ((Below.refl _ _).alloc (Nat.le_refl _) _)
      have HO2' : Hid ((w2.alloc (.cells #[.string (str xj)] 9)).ownsRow w.heap.size 9 1 v ((l.take j).map fun x => jx (shT x)).length (strs ((l.take j).map fun x => jx (shT x)))) := by rw [List.length_map]; exact HO2.out
      have HBa : Hid (Below w.heap.size w (w2.alloc (.cells #[.string (str xj)] 9))) := HB2.out.alloc HB2.out.size _
      have HNw : Hid ((w2.alloc (.cells #[.string (str xj)] 9)).heap[w2.heap.size]? = some (.cells (strs [xj]).toArray 9 (0, 0))) := heap_new _ _ _
      have hws : w.heap.size ≤ (w2.alloc (.cells #[.string (str xj)] 9)).heap.size := HBa.out.size
      have HLow : Hid (∀ k, v.ownBlock = some k → w.heap.size ≤ k) := fun k hk => by
        rcases HO2.out.2 with ⟨rfl, _⟩ | ⟨gg, cap, cur, rfl, hgl, _⟩
        · simp [Value.ownBlock] at hk
        · have : gg = k := by simpa [Value.ownBlock] using hk
          omega
      clear hb2 hcal HO HB HB2
      go_wp2_with (at_builtin; refine list_add (.tmp 17) (.tmp 19) rfl rfl w.heap.size v _ rfl HO2'.out w2.heap.size [xj] rfl HNw.out (by simp) (by rw [List.length_map, List.length_take]; simp only [List.length_cons, List.length_nil]; omega) hws ?_; intro g9 cap9 w9 ho9 hg9)
      have HB9 : Hid (Below w.heap.size w w9) := HBa.out.grown hg9 HBa.out.size HLow.out
      have HO9 : Hid (w9.ownsRow w.heap.size 9 1 (.slice (some ⟨g9, 0, none⟩) (j + 1) cap9) (l.take (j + 1)).length (strs ((l.take (j + 1)).map fun x => jx (shT x)))) := by
        show World.ownsRow _ _ _ _ _ _ _
        rw [HTs.out.1, HTs.out.2]
        have e1 : strs ((l.take j).map (fun x => jx (shT x)) ++ [xj]) = strs ((l.take j).map fun x => jx (shT x)) ++ [.string (str xj)] := by simp only [strs, List.map_append]; rfl
        have e2 : ((l.take j).map fun x => jx (shT x)).length + [xj].length = j + 1 := by rw [List.length_map, hlj]; rfl
        have e3 : ((l.take j).map (fun x => jx (shT x)) ++ [xj]).length = (l.take j).length + 1 := by rw [List.length_append, List.length_map]; rfl
        rw [e1, e2, e3] at ho9
        exact ho9
      go_roundw
      case rel => exact ⟨j + 1, by omega, by go_num, HO9, HB9⟩
      case measure => simp [intOf]; omega
    · obtain rfl : j = l.length := by omega
      have hlt' : ¬ (l.length : Int) < l.length := by omega
      have HE : Hid (wr.ownsRow w.heap.size 9 1 v l.length (strs (l.map fun x => jx (shT x)))) := by have := HO.out; rw [List.take_length] at this; exact this
      go_wp2_with fail
      go_ret
      exact ⟨⟨_, rfl, HE.out⟩, HB.out⟩
set_option maxRecDepth 100000 in
set_option maxHeartbeats 800000 in
theorem row_none {w0 : World} (l : List Nd) (dots : Bool) (hne : ∀ x, x ∈ l → shT x ≠ []) (hS : ∀ x, x ∈ l → ShN w0 x) (w : World) (hb : Below w0.heap.size w0 w) (ka : Option Addr) (kc : Nat) (hR : RowO w0 ka l) (hl7 : l.length ≤ 700) (hJ : (jx (rowT (l.map shT) dots)).length ≤ 9300000000000) :
    Calls Tryd.prog 25 #[.slice ka l.length kc, .bool dots] w fun e w' => e = .returned (.string (str (jx (rowT (l.map shT) dots)))) ∧ Below w.heap.size w w' := by
  have hrow := jx_row (l.map shT) dots (fun t ht => by obtain ⟨x, hx, rfl⟩ := List.mem_map.1 ht; exact hne x hx)
  have hmm : (l.map shT).map jx = l.map fun x => jx (shT x) := by rw [List.map_map]; rfl
  rw [hmm] at hrow
  have HSh := hide (shown_any l hS w hb ka kc hR hl7)
  have HRow := hide hrow
  clear hrow hmm hS hR hb hne
  cases dots with
  | false =>
    by_cases hl : l = []
    · subst hl
      go_enter Tryd.func25, Tryd.ntmps25
      go_wp2_with fail
      go_at_call 24
      refine HSh.out.mono ?_
      rintro e w1 ⟨⟨v, rfl, ho⟩, hb1⟩
      obtain ⟨va, vc, rfl⟩ : ∃ va vc, v = .slice va 0 vc := by
        rcases ho.2 with ⟨rfl, _⟩ | ⟨g, cap, cur, rfl, _⟩
        · exact ⟨_, _, rfl⟩
        · exact ⟨_, _, rfl⟩
      have HB1 := hide hb1
      have HE : Hid (jx (rowT (([] : List Nd).map shT) false) = [40, 32, 41]) := rfl
      clear hb1 ho
      go_wp2_with fail
      go_ret
      exact ⟨rfl, HB1.out⟩
    · have hjl := HRow.out
      rw [if_neg (by simp [hl]), if_neg (by decide), List.append_nil] at hjl
      have hJ2 := hJ
      rw [hjl] at hJ2
      simp only [List.length_append, List.length_cons, List.length_nil] at hJ2
      have HJl := hide hjl
      have hlp : 0 < l.length := List.length_pos_iff.2 hl
      have hlz : ((l.length : Int) == 0) = false := by simp; omega
      clear hjl hl
      go_enter Tryd.func25, Tryd.ntmps25
      go_wp2_with fail
      go_at_call 24
      refine HSh.out.mono ?_
      rintro e w1 ⟨⟨v, rfl, ho⟩, hb1⟩
      have HO : Hid (w1.ownsRow w.heap.size 9 1 v (l.map fun x => jx (shT x)).length (strs (l.map fun x => jx (shT x)))) := by rw [List.length_map]; exact ho
      obtain ⟨va, vc, rfl⟩ : ∃ va vc, v = .slice va l.length vc := by
        rcases ho.2 with ⟨rfl, h0⟩ | ⟨g, cap, cur, rfl, _⟩
        · omega
        · exact ⟨_, _, rfl⟩
      have HB1 := hide hb1
      have hjo := joined_any (l.map fun x => jx (shT x)) _ _ [32, 44, 32] w1 HO.out (by rw [List.length_map]; omega) (by omega) (by simp)
      have hjs : (str (Lib.join (l.map fun x => jx (shT x)) [32, 44, 32])).size ≤ 9300000000000 := by show (Lib.join (l.map fun x => jx (shT x)) [32, 44, 32]).length ≤ _; omega
      have HE : Hid ((⟨#[40, 32]⟩ : ByteArray) ++ str (Lib.join (l.map fun x => jx (shT x)) [32, 44, 32]) ++ ⟨#[32, 41]⟩ = str (jx (rowT (l.map shT) false))) := by
        show _ = _
        rw [HJl.out, ← str_app, ← str_app]
        rfl
      clear hb1 ho HO
      generalize str (Lib.join (l.map fun x => jx (shT x)) [32, 44, 32]) = js at *
      have hja : ((⟨#[40, 32]⟩ : ByteArray) ++ js).size = 2 + js.size := ByteArray.size_append
      go_wp2_with fail
      go_at_call 23
      refine hjo.mono ?_
      rintro e w2 ⟨rfl, rfl⟩
      go_wp2_with fail
      go_ret
      exact ⟨by rw [← HE.out]; rfl, HB1.out⟩
  | true =>
    have hjl := HRow.out
    rw [if_neg (by simp), if_pos rfl] at hjl
    have hJ2 := hJ
    rw [hjl] at hJ2
    simp only [List.length_append, List.length_cons, List.length_nil] at hJ2
    have HJl := hide hjl
    clear hjl
    go_enter Tryd.func25, Tryd.ntmps25
    go_wp2_with fail
    go_at_call 24
    refine HSh.out.mono ?_
    rintro e w1 ⟨⟨v, rfl, ho⟩, hb1⟩
    have HO2 : Hid ((w1.alloc (.cells #[.string ⟨#[46, 46, 46]⟩] 9)).ownsRow w.heap.size 9 1 v (l.map fun x => jx (shT x)).length (strs (l.map fun x => jx (shT x)))) := by rw [List.length_map]; exact owns_below ho ((Below.refl _ _).alloc (Nat.le_refl _) _)
    have HBa : Hid (Below w.heap.size w (w1.alloc (.cells #[.string ⟨#[46, 46, 46]⟩] 9))) := hb1.alloc hb1.size _
    have HNw : Hid ((w1.alloc (.cells #[.string ⟨#[46, 46, 46]⟩] 9)).heap[w1.heap.size]? = some (.cells (strs [sDOTS]).toArray 9 (0, 0))) := heap_new _ _ _
    have hws := HBa.out.size
    have HLow : Hid (∀ k, v.ownBlock = some k → w.heap.size ≤ k) := fun k hk => by
      rcases ho.2 with ⟨rfl, _⟩ | ⟨gg, cap, cur, rfl, hgl, _⟩
      · simp [Value.ownBlock] at hk
      · have : gg = k := by simpa [Value.ownBlock] using hk
        omega
    clear hb1 ho
    go_wp2_with (at_builtin; refine list_add (.tmp 9) (.tmp 10) rfl rfl w.heap.size v _ rfl HO2.out w1.heap.size [sDOTS] rfl HNw.out (by simp) (by rw [List.length_map]; simp only [List.length_cons, List.length_nil]; omega) hws ?_; intro g9 cap9 w9 ho9 hg9; have hB9 := HBa.out.grown hg9 HBa.out.size HLow.out; have HB9 := hide hB9; have HO9 := hide ho9; clear ho9 hg9 hB9)
    have hjo := joined_any ((l.map fun x => jx (shT x)) ++ [sDOTS]) _ _ [32, 44, 32] w9 HO9.out (by rw [List.length_append, List.length_map]; simp only [List.length_cons, List.length_nil]; omega) (by omega) (by simp)
    have hjs : (str (Lib.join ((l.map fun x => jx (shT x)) ++ [sDOTS]) [32, 44, 32])).size ≤ 9300000000000 := by show (Lib.join ((l.map fun x => jx (shT x)) ++ [sDOTS]) [32, 44, 32]).length ≤ _; omega
    have HE : Hid ((⟨#[40, 32]⟩ : ByteArray) ++ str (Lib.join ((l.map fun x => jx (shT x)) ++ [sDOTS]) [32, 44, 32]) ++ ⟨#[32, 41]⟩ = str (jx (rowT (l.map shT) true))) := by
      show _ = _
      rw [HJl.out, ← str_app, ← str_app]
      rfl
    generalize str (Lib.join ((l.map fun x => jx (shT x)) ++ [sDOTS]) [32, 44, 32]) = js at *
    have hja : ((⟨#[40, 32]⟩ : ByteArray) ++ js).size = 2 + js.size := ByteArray.size_append
    rw [show (l.map fun x => jx (shT x)).length + [sDOTS].length = l.length + 1 by rw [List.length_map]; rfl] at hjo
    go_at_call 23
    refine hjo.mono ?_
    rintro e w2 ⟨rfl, rfl⟩
    go_wp2_with fail
    go_ret
    exact ⟨by rw [← HE.out]; rfl, HB9.out⟩
set_option maxRecDepth 100000 in
set_option maxHeartbeats 800000 in
theorem at_any {w0 : World} (n : Nd) (hS : ShN w0 n) (hne : shT n ≠ []) (least : Int) (w : World) (v : Value) (hb : Below w0.heap.size w0 w) (hv : NdO w0 n v) (hJ : (jx (shT n)).length ≤ 9300000000000) :
    Calls Tryd.prog 27 #[v, .int .i64 least] w fun e w' => e = .returned (.string (str (jx (atT (bindN n) least (shT n))))) ∧ Below w.heap.size w w' := by
  have hat := jx_at (bindN n) least (shT n) hne
  have HV := hide hv
  have HS := hide hS
  have HBb := hide hb
  obtain ⟨kind, text, num, kids⟩ := n
  obtain ⟨ka, kc, rfl, t1, n1, n2, l1, l2, hR⟩ := hv.part
  have hB0 : Below w.heap.size w (w.alloc (.cells #[.int .i64 kind, .string (str text), .int .i64 num, .slice ka kids.length kc] 24)) := (Below.refl _ _).alloc (Nat.le_refl _) _
  have HN0 : Hid ((w.alloc (.cells #[.int .i64 kind, .string (str text), .int .i64 num, .slice ka kids.length kc] 24)).heap[w.heap.size]? = some (.cells #[.int .i64 kind, .string (str text), .int .i64 num, .slice ka kids.length kc] 24 (0, 0))) := heap_new _ _ _
  have hsh := hS _ _ (hb.trans (hB0.mono hb.size)) hv
  have HBd : Hid (∀ w, Calls Tryd.prog 28 #[.agg #[.int .i64 kind, .string (str text), .int .i64 num, .slice ka kids.length kc]] w fun e w' => e = .returned (.int .i64 (bindN (.mk kind text num kids))) ∧ Below w.heap.size w w') := fun w => bind_any kind text num ka kids.length kc kids w
  have hss : (str (jx (shT (.mk kind text num kids)))).size ≤ 9300000000000 := hJ
  have HSs : Hid (jx (shT (.mk kind text num kids)) = (str (jx (shT (.mk kind text num kids)))).data.toList) := by show _ = _; simp [str]
  have HB0 := hide hB0
  have HAt := hide hat
  clear hv hR hB0 hS hb hJ hat
  generalize jx (shT (.mk kind text num kids)) = jj at *
  generalize hsj : str jj = sj at *
  have HSj := hide hsj
  clear hsj
  generalize bindN (.mk kind text num kids) = bd at *
  go_enter Tryd.func27, Tryd.ntmps27
  go_wp2_with fail
  go_at_call 10
  refine hsh.mono ?_
  rintro e w1 ⟨rfl, hb1⟩
  have HB1 := hide (HB0.out.trans (hb1.mono (by simp)))
  have hn1 := cells_at ((hb1.block w.heap.size (by simp)).trans HN0.out)
  clear hb1 hsh
  go_wp2_with fail
  go_at_call 28
  refine (HBd.out _).mono ?_
  rintro e w2 ⟨rfl, hb2⟩
  have HB2 := hide (HB1.out.trans (hb2.mono HB1.out.size))
  clear hb2 hn1
  have hja : ((⟨#[40, 32]⟩ : ByteArray) ++ sj).size = 2 + sj.size := ByteArray.size_append
  by_cases hl : bd < least
  · have HE : Hid ((⟨#[40, 32]⟩ : ByteArray) ++ sj ++ ⟨#[32, 41]⟩ = str (jx (atT bd least (shT (.mk kind text num kids))))) := by
      show _ = _
      rw [HAt.out, if_pos hl, ← HSj.out, ← str_app, ← str_app]
      rfl
    go_wp2_with fail
    go_ret
    exact ⟨by rw [← HE.out]; rfl, HB2.out⟩
  · have HE : Hid (sj = str (jx (atT bd least (shT (.mk kind text num kids))))) := by
      show _ = _
      rw [HAt.out, if_neg hl, ← HSj.out]
    have hl' : ¬ bd < least := hl
    go_wp2_with fail
    go_ret
    exact ⟨by rw [← HE.out]; rfl, HB2.out⟩
end Go.Proofs.YthcfianhdkolhaaDoor.T
