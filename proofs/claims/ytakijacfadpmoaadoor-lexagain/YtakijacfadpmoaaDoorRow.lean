/- The contract of the reference's Row. -/
import Derived.Test.YtakijacfadpmoaaDoorSign
namespace Go.Proofs.YtakijacfadpmoaaDoor.T
open Go.RowKit
set_option linter.unusedVariables false
set_option linter.unusedSimpArgs false
def byteAt (s : ByteArray) (i : Nat) : Nat := match s.data[i]? with | some c => c.toNat | none => 0
theorem byteAt_get (s : ByteArray) (i : Nat) (h : i < s.size) : byteAt s i = (s[i]'h).toNat := by
  unfold byteAt
  rw [Array.getElem?_eq_getElem (show i < s.data.size from h)]
  rfl
def mostW : ByteArray := ⟨#[50, 49, 52, 55, 52, 56, 51, 54, 52, 55]⟩
def mostL : ByteArray := ⟨#[57, 50, 50, 51, 51, 55, 50, 48, 51, 54, 56, 53, 52, 55, 55, 53, 56, 48, 55]⟩
/-- What is wrong with a row of digits; 0: nothing. -/
def rowC (x most : ByteArray) : Int :=
  if !((List.range x.size).all fun i => digB (byteAt x i)) then 2 else if 1 < x.size ∧ byteAt x 0 = 48 then 2 else if aboveB x most then 6 else 0
def isL (s : ByteArray) : Bool := decide (byteAt s (s.size - 1) = 76)
def rowText (s : ByteArray) : ByteArray := if isL s then s.extract 0 (s.size - 1) else s
def rowCode (s : ByteArray) : Int := rowC (rowText s) (if isL s then mostL else mostW)
/-- The token of a row. -/
def rowTok (s : ByteArray) : Array Value := if rowCode s = 0 then #[.int .i64 (if isL s then 3 else 2), .string (rowText s), .int .i64 0] else #[.int .i64 0, .string ⟨#[]⟩, .int .i64 0]
set_option maxRecDepth 100000 in
set_option maxHeartbeats 1000000 in
theorem row_any (s : ByteArray) (w : World) (h1 : 1 ≤ s.size) (hs : s.size ≤ 4000) : Calls Tryd.prog 13 #[.string s] w fun e w' => e = .returned (.tuple #[.agg (rowTok s), .int .i64 (rowCode s)]) ∧ Below w.heap.size w w' := by
  obtain ⟨n, hn⟩ : ∃ n, s.size = n + 1 := ⟨s.size - 1, by omega⟩
  have hlt : n < s.size := by omega
  have hw : IntKind.i64.wrap ((n : Int) + 1 - 1) = n := by rw [IntKind.wrap_i64]; omega
  have hw2 : IntKind.i64.wrap ((s.size : Int) - 1) = n := by rw [IntKind.wrap_i64]; omega
  have hidx : (0 : Int) ≤ n ∧ (n : Int) < s.size := by omega
  have hcap : (0 : Int) ≤ n ∧ (n : Int) ≤ s.size := by omega
  have hb := byteAt_get s n hlt
  obtain ⟨r, hr⟩ : ∃ r, r = rowCode s := ⟨_, rfl⟩
  obtain ⟨tk, htk⟩ : ∃ tk, tk = rowTok s := ⟨_, rfl⟩
  rw [← hr, ← htk]
  cases hL : isL s with
  | false =>
    have hL2 : ((s[n].toNat : Int) == 76) = false := by
      unfold isL at hL
      rw [show s.size - 1 = n by omega, hb] at hL
      simp at hL ⊢
      omega
    have HR : Hid (r = rowC s mostW) := by show _ = _; rw [hr]; unfold rowCode rowText; rw [hL]; rfl
    have HTk : Hid (tk = if r = 0 then #[.int .i64 2, .string s, .int .i64 0] else #[.int .i64 0, .string ⟨#[]⟩, .int .i64 0]) := by show _ = _; rw [htk, hr]; unfold rowTok rowText; rw [hL]; rfl
    have hxs : s.size ≤ 4000 := hs
    have HN := hide (And.intro hn (And.intro hL (And.intro hr htk)))
    clear hn hL hr htk hb
    go_enter Tryd.func13, Tryd.ntmps13
    go_wp2_with fail
    generalize hxe : s = x at *
    have hB0 : Below w.heap.size w ((w.alloc (.cells #[.int .i64 0, .string ⟨#[]⟩, .int .i64 0] 29)).alloc (.cells #[.int .i64 2, .string x, .int .i64 0] 29)) := ((Below.refl _ _).alloc (Nat.le_refl _) _).alloc (by simp) _
    have y : ∀ o, ((w.alloc (.cells #[.int .i64 0, .string ⟨#[]⟩, .int .i64 0] 29)).alloc (.cells #[.int .i64 2, .string x, .int .i64 0] 29)).cell? ⟨w.heap.size + 1, o, none⟩ = (#[Value.int .i64 2, .string x, .int .i64 0])[o]? := fun o => World.cell?_alloc_at _ _ _ _ (by simp)
    have hq : ((w.alloc (.cells #[.int .i64 0, .string ⟨#[]⟩, .int .i64 0] 29)).alloc (.cells #[.int .i64 2, .string x, .int .i64 0] 29)).heap[w.heap.size]? = some (.cells #[.int .i64 0, .string ⟨#[]⟩, .int .i64 0] 29 (0, 0)) := (Below.heap_alloc _ _ _ (by simp)).trans (heap_alloc_new w _)
    have z : ∀ o, ((w.alloc (.cells #[.int .i64 0, .string ⟨#[]⟩, .int .i64 0] 29)).alloc (.cells #[.int .i64 2, .string x, .int .i64 0] 29)).cell? ⟨w.heap.size, o, none⟩ = (#[Value.int .i64 0, .string ⟨#[]⟩, .int .i64 0])[o]? := fun o => by simp [World.cell?, hq]
    have fz : ∀ o, ((w.alloc (.cells #[.int .i64 0, .string ⟨#[]⟩, .int .i64 0] 29)).alloc (.cells #[.int .i64 2, .string x, .int .i64 0] 29)).frozen? ⟨w.heap.size, o, none⟩ = false := fun o => by simp only [World.frozen?, hq]; rfl
    have hz0 : ((w.alloc (.cells #[.int .i64 0, .string ⟨#[]⟩, .int .i64 0] 29)).alloc (.cells #[.int .i64 2, .string x, .int .i64 0] 29)).heap.size = w.heap.size + 1 + 1 := by simp
    generalize (w.alloc (.cells #[.int .i64 0, .string ⟨#[]⟩, .int .i64 0] 29)).alloc (.cells #[.int .i64 2, .string x, .int .i64 0] 29) = W at *
    clear hq
    go_loopw [6] (fun i wr => ∃ k : Nat, k ≤ x.size ∧ i = .int .i64 k ∧ wr = W ∧ Hid (∀ j, j < k → digB (byteAt x j) = true)) (fun i _ => x.size - (intOf i).toNat)
    case atStart => exact ⟨0, Nat.zero_le _, rfl, rfl, fun j hj => by omega⟩
    case round =>
      obtain ⟨k, hk, rfl, rfl, HK⟩ := hrel
      by_cases hkx : k < x.size
      · have hkx' : (k : Int) < x.size := by omega
        have hkid : (0 : Int) ≤ k ∧ (k : Int) < x.size := by omega
        have hb8 : x[k].toNat < 256 := UInt8.toNat_lt _
        have hdig := fun w' => digit_any x[k].toNat w' hb8
        have hbk := byteAt_get x k hkx
        cases hD : digB x[k].toNat with
        | true =>
          rw [hD] at hdig
          have HK1 : Hid (∀ j, j < k + 1 → digB (byteAt x j) = true) := fun j hj => by
            by_cases e : j = k
            · subst e; rw [hbk]; exact hD
            · exact HK.out j (by omega)
          have HH := hide (And.intro hbk hD)
          clear hbk hD
          go_wp2_with fail
          go_at_call 12
          refine (hdig _).mono ?_
          rintro e w1 ⟨rfl, rfl⟩
          go_wp2_with fail
          go_roundw
          case rel => exact ⟨k + 1, by omega, by go_num, trivial, HK1⟩
          case measure => simp [intOf]; omega
        | false =>
          rw [hD] at hdig
          obtain ⟨rfl, rfl⟩ : r = 2 ∧ tk = #[.int .i64 0, .string ⟨#[]⟩, .int .i64 0] := by
            have e : r = 2 := by rw [HR.out]; unfold rowC; rw [if_pos (by simp; exact ⟨k, hkx, by rw [hbk]; exact hD⟩)]
            exact ⟨e, by rw [HTk.out, if_neg (by rw [e]; decide)]⟩
          have HH := hide (And.intro hbk hD)
          clear hbk hD
          go_wp2_with fail
          go_at_call 12
          refine (hdig _).mono ?_
          rintro e w1 ⟨rfl, rfl⟩
          go_wp2_with fail
          refine bodyPost_ret (v := .tuple #[.agg #[.int .i64 0, .string ⟨#[]⟩, .int .i64 0], .int .i64 2]) (by simp [results, Tryd.results13, go_sem, hz0, y, z]) rfl ⟨rfl, ?_⟩
          repeat (first | exact hB0 | (refine Below.setCell ?_ (by simp) _) | (refine Below.alloc ?_ (by simp) _))
      · obtain hkk : k = x.size := by omega
        have hkx' : ¬ (k : Int) < x.size := by omega
        have HAll : Hid (((List.range x.size).all fun i => digB (byteAt x i)) = true) := by
          show _ = _
          rw [List.all_eq_true]
          exact fun i hi => HK.out i (by rw [hkk]; exact List.mem_range.1 hi)
        have HR2 : Hid (r = if 1 < x.size ∧ byteAt x 0 = 48 then 2 else if aboveB x mostW then 6 else 0) := by
          show _ = _
          rw [HR.out]
          unfold rowC
          rw [HAll.out]
          rfl
        have hab := fun w' => above_any x mostW w' hxs (by decide)
        obtain ⟨ab, hae⟩ : ∃ ab, ab = aboveB x mostW := ⟨_, rfl⟩
        rw [← hae] at hab
        have HA := hide hae
        clear hae
        have HH := hide hkk
        clear hkk
        by_cases s1 : 1 < x.size
        · have s1' : (1 : Int) < x.size := by omega
          have s0 : 0 < x.size := by omega
          have s0' : (0 : Int) < x.size := by omega
          have hb0 := byteAt_get x 0 s0
          by_cases c0 : byteAt x 0 = 48
          · have c1 : ((x[0].toNat : Int) == 48) = true := by rw [← hb0]; simp; omega
            obtain ⟨rfl, rfl⟩ : r = 2 ∧ tk = #[.int .i64 0, .string ⟨#[]⟩, .int .i64 0] := by
              have e : r = 2 := by rw [HR2.out]; rw [if_pos ⟨s1, c0⟩]
              exact ⟨e, by rw [HTk.out, if_neg (by rw [e]; decide)]⟩
            have HH2 := hide (And.intro hb0 c0)
            clear hb0 c0
            go_wp2_with fail
            refine bodyPost_ret (v := .tuple #[.agg #[.int .i64 0, .string ⟨#[]⟩, .int .i64 0], .int .i64 2]) (by simp [results, Tryd.results13, go_sem, hz0, y, z]) rfl ⟨rfl, ?_⟩
            repeat (first | exact hB0 | (refine Below.setCell ?_ (by simp) _) | (refine Below.alloc ?_ (by simp) _))
          · have c1 : ((x[0].toNat : Int) == 48) = false := by rw [← hb0]; simp; omega
            have HR3 : Hid (r = if ab then 6 else 0) := by show _ = _; rw [HR2.out, if_neg (fun h => c0 h.2), HA.out]
            have HH2 := hide (And.intro hb0 c0)
            clear hb0 c0
            cases ab with
            | true =>
              obtain ⟨rfl, rfl⟩ : r = 6 ∧ tk = #[.int .i64 0, .string ⟨#[]⟩, .int .i64 0] := by
                have e : r = 6 := by rw [HR3.out]; rfl
                exact ⟨e, by rw [HTk.out, if_neg (by rw [e]; decide)]⟩
              go_wp2_with fail
              go_at_call 23
              refine (hab _).mono ?_
              rintro e w1 ⟨rfl, rfl⟩
              go_wp2_with fail
              refine bodyPost_ret (v := .tuple #[.agg #[.int .i64 0, .string ⟨#[]⟩, .int .i64 0], .int .i64 6]) (by simp [results, Tryd.results13, go_sem, hz0, y, z]) rfl ⟨rfl, ?_⟩
              repeat (first | exact hB0 | (refine Below.setCell ?_ (by simp) _) | (refine Below.alloc ?_ (by simp) _))
            | false =>
              obtain ⟨rfl, rfl⟩ : r = 0 ∧ tk = #[.int .i64 2, .string x, .int .i64 0] := by
                have e : r = 0 := by rw [HR3.out]; rfl
                exact ⟨e, by rw [HTk.out, if_pos e]⟩
              go_wp2_with fail
              go_at_call 23
              refine (hab _).mono ?_
              rintro e w1 ⟨rfl, rfl⟩
              go_wp2_with fail
              refine bodyPost_ret (v := .tuple #[.agg #[.int .i64 2, .string x, .int .i64 0], .int .i64 0]) (by simp [results, Tryd.results13, go_sem, hz0, y, z]) rfl ⟨rfl, ?_⟩
              repeat (first | exact hB0 | (refine Below.setCell ?_ (by simp) _) | (refine Below.alloc ?_ (by simp) _))
        · have s1' : ¬ (1 : Int) < x.size := by omega
          have HR3 : Hid (r = if ab then 6 else 0) := by show _ = _; rw [HR2.out, if_neg (fun h => s1 h.1), HA.out]
          cases ab with
          | true =>
            obtain ⟨rfl, rfl⟩ : r = 6 ∧ tk = #[.int .i64 0, .string ⟨#[]⟩, .int .i64 0] := by
              have e : r = 6 := by rw [HR3.out]; rfl
              exact ⟨e, by rw [HTk.out, if_neg (by rw [e]; decide)]⟩
            go_wp2_with fail
            go_at_call 23
            refine (hab _).mono ?_
            rintro e w1 ⟨rfl, rfl⟩
            go_wp2_with fail
            refine bodyPost_ret (v := .tuple #[.agg #[.int .i64 0, .string ⟨#[]⟩, .int .i64 0], .int .i64 6]) (by simp [results, Tryd.results13, go_sem, hz0, y, z]) rfl ⟨rfl, ?_⟩
            repeat (first | exact hB0 | (refine Below.setCell ?_ (by simp) _) | (refine Below.alloc ?_ (by simp) _))
          | false =>
            obtain ⟨rfl, rfl⟩ : r = 0 ∧ tk = #[.int .i64 2, .string x, .int .i64 0] := by
              have e : r = 0 := by rw [HR3.out]; rfl
              exact ⟨e, by rw [HTk.out, if_pos e]⟩
            go_wp2_with fail
            go_at_call 23
            refine (hab _).mono ?_
            rintro e w1 ⟨rfl, rfl⟩
            go_wp2_with fail
            refine bodyPost_ret (v := .tuple #[.agg #[.int .i64 2, .string x, .int .i64 0], .int .i64 0]) (by simp [results, Tryd.results13, go_sem, hz0, y, z]) rfl ⟨rfl, ?_⟩
            repeat (first | exact hB0 | (refine Below.setCell ?_ (by simp) _) | (refine Below.alloc ?_ (by simp) _))
  | true =>
    have hL2 : ((s[n].toNat : Int) == 76) = true := by
      unfold isL at hL
      rw [show s.size - 1 = n by omega, hb] at hL
      simp at hL ⊢
      omega
    have HR : Hid (r = rowC (s.extract 0 n) mostL) := by show _ = _; rw [hr]; unfold rowCode rowText; rw [hL, show s.size - 1 = n by omega]; rfl
    have HTk : Hid (tk = if r = 0 then #[.int .i64 3, .string (s.extract 0 n), .int .i64 0] else #[.int .i64 0, .string ⟨#[]⟩, .int .i64 0]) := by show _ = _; rw [htk, hr]; unfold rowTok rowText; rw [hL, show s.size - 1 = n by omega]; rfl
    have hxs : (s.extract 0 n).size ≤ 4000 := by rw [ByteArray.size_extract]; omega
    have HN := hide (And.intro hn (And.intro hL (And.intro hr htk)))
    clear hn hL hr htk hb
    go_enter Tryd.func13, Tryd.ntmps13
    go_wp2_with fail
    generalize s.extract 0 n = x at *
    have hB0 : Below w.heap.size w ((w.alloc (.cells #[.int .i64 0, .string ⟨#[]⟩, .int .i64 0] 29)).alloc (.cells #[.int .i64 3, .string x, .int .i64 0] 29)) := ((Below.refl _ _).alloc (Nat.le_refl _) _).alloc (by simp) _
    have y : ∀ o, ((w.alloc (.cells #[.int .i64 0, .string ⟨#[]⟩, .int .i64 0] 29)).alloc (.cells #[.int .i64 3, .string x, .int .i64 0] 29)).cell? ⟨w.heap.size + 1, o, none⟩ = (#[Value.int .i64 3, .string x, .int .i64 0])[o]? := fun o => World.cell?_alloc_at _ _ _ _ (by simp)
    have hq : ((w.alloc (.cells #[.int .i64 0, .string ⟨#[]⟩, .int .i64 0] 29)).alloc (.cells #[.int .i64 3, .string x, .int .i64 0] 29)).heap[w.heap.size]? = some (.cells #[.int .i64 0, .string ⟨#[]⟩, .int .i64 0] 29 (0, 0)) := (Below.heap_alloc _ _ _ (by simp)).trans (heap_alloc_new w _)
    have z : ∀ o, ((w.alloc (.cells #[.int .i64 0, .string ⟨#[]⟩, .int .i64 0] 29)).alloc (.cells #[.int .i64 3, .string x, .int .i64 0] 29)).cell? ⟨w.heap.size, o, none⟩ = (#[Value.int .i64 0, .string ⟨#[]⟩, .int .i64 0])[o]? := fun o => by simp [World.cell?, hq]
    have fz : ∀ o, ((w.alloc (.cells #[.int .i64 0, .string ⟨#[]⟩, .int .i64 0] 29)).alloc (.cells #[.int .i64 3, .string x, .int .i64 0] 29)).frozen? ⟨w.heap.size, o, none⟩ = false := fun o => by simp only [World.frozen?, hq]; rfl
    have hz0 : ((w.alloc (.cells #[.int .i64 0, .string ⟨#[]⟩, .int .i64 0] 29)).alloc (.cells #[.int .i64 3, .string x, .int .i64 0] 29)).heap.size = w.heap.size + 1 + 1 := by simp
    generalize (w.alloc (.cells #[.int .i64 0, .string ⟨#[]⟩, .int .i64 0] 29)).alloc (.cells #[.int .i64 3, .string x, .int .i64 0] 29) = W at *
    clear hq
    go_loopw [6] (fun i wr => ∃ k : Nat, k ≤ x.size ∧ i = .int .i64 k ∧ wr = W ∧ Hid (∀ j, j < k → digB (byteAt x j) = true)) (fun i _ => x.size - (intOf i).toNat)
    case atStart => exact ⟨0, Nat.zero_le _, rfl, rfl, fun j hj => by omega⟩
    case round =>
      obtain ⟨k, hk, rfl, rfl, HK⟩ := hrel
      by_cases hkx : k < x.size
      · have hkx' : (k : Int) < x.size := by omega
        have hkid : (0 : Int) ≤ k ∧ (k : Int) < x.size := by omega
        have hb8 : x[k].toNat < 256 := UInt8.toNat_lt _
        have hdig := fun w' => digit_any x[k].toNat w' hb8
        have hbk := byteAt_get x k hkx
        cases hD : digB x[k].toNat with
        | true =>
          rw [hD] at hdig
          have HK1 : Hid (∀ j, j < k + 1 → digB (byteAt x j) = true) := fun j hj => by
            by_cases e : j = k
            · subst e; rw [hbk]; exact hD
            · exact HK.out j (by omega)
          have HH := hide (And.intro hbk hD)
          clear hbk hD
          go_wp2_with fail
          go_at_call 12
          refine (hdig _).mono ?_
          rintro e w1 ⟨rfl, rfl⟩
          go_wp2_with fail
          go_roundw
          case rel => exact ⟨k + 1, by omega, by go_num, trivial, HK1⟩
          case measure => simp [intOf]; omega
        | false =>
          rw [hD] at hdig
          obtain ⟨rfl, rfl⟩ : r = 2 ∧ tk = #[.int .i64 0, .string ⟨#[]⟩, .int .i64 0] := by
            have e : r = 2 := by rw [HR.out]; unfold rowC; rw [if_pos (by simp; exact ⟨k, hkx, by rw [hbk]; exact hD⟩)]
            exact ⟨e, by rw [HTk.out, if_neg (by rw [e]; decide)]⟩
          have HH := hide (And.intro hbk hD)
          clear hbk hD
          go_wp2_with fail
          go_at_call 12
          refine (hdig _).mono ?_
          rintro e w1 ⟨rfl, rfl⟩
          go_wp2_with fail
          refine bodyPost_ret (v := .tuple #[.agg #[.int .i64 0, .string ⟨#[]⟩, .int .i64 0], .int .i64 2]) (by simp [results, Tryd.results13, go_sem, hz0, y, z]) rfl ⟨rfl, ?_⟩
          repeat (first | exact hB0 | (refine Below.setCell ?_ (by simp) _) | (refine Below.alloc ?_ (by simp) _))
      · obtain hkk : k = x.size := by omega
        have hkx' : ¬ (k : Int) < x.size := by omega
        have HAll : Hid (((List.range x.size).all fun i => digB (byteAt x i)) = true) := by
          show _ = _
          rw [List.all_eq_true]
          exact fun i hi => HK.out i (by rw [hkk]; exact List.mem_range.1 hi)
        have HR2 : Hid (r = if 1 < x.size ∧ byteAt x 0 = 48 then 2 else if aboveB x mostL then 6 else 0) := by
          show _ = _
          rw [HR.out]
          unfold rowC
          rw [HAll.out]
          rfl
        have hab := fun w' => above_any x mostL w' hxs (by decide)
        obtain ⟨ab, hae⟩ : ∃ ab, ab = aboveB x mostL := ⟨_, rfl⟩
        rw [← hae] at hab
        have HA := hide hae
        clear hae
        have HH := hide hkk
        clear hkk
        by_cases s1 : 1 < x.size
        · have s1' : (1 : Int) < x.size := by omega
          have s0 : 0 < x.size := by omega
          have s0' : (0 : Int) < x.size := by omega
          have hb0 := byteAt_get x 0 s0
          by_cases c0 : byteAt x 0 = 48
          · have c1 : ((x[0].toNat : Int) == 48) = true := by rw [← hb0]; simp; omega
            obtain ⟨rfl, rfl⟩ : r = 2 ∧ tk = #[.int .i64 0, .string ⟨#[]⟩, .int .i64 0] := by
              have e : r = 2 := by rw [HR2.out]; rw [if_pos ⟨s1, c0⟩]
              exact ⟨e, by rw [HTk.out, if_neg (by rw [e]; decide)]⟩
            have HH2 := hide (And.intro hb0 c0)
            clear hb0 c0
            go_wp2_with fail
            refine bodyPost_ret (v := .tuple #[.agg #[.int .i64 0, .string ⟨#[]⟩, .int .i64 0], .int .i64 2]) (by simp [results, Tryd.results13, go_sem, hz0, y, z]) rfl ⟨rfl, ?_⟩
            repeat (first | exact hB0 | (refine Below.setCell ?_ (by simp) _) | (refine Below.alloc ?_ (by simp) _))
          · have c1 : ((x[0].toNat : Int) == 48) = false := by rw [← hb0]; simp; omega
            have HR3 : Hid (r = if ab then 6 else 0) := by show _ = _; rw [HR2.out, if_neg (fun h => c0 h.2), HA.out]
            have HH2 := hide (And.intro hb0 c0)
            clear hb0 c0
            cases ab with
            | true =>
              obtain ⟨rfl, rfl⟩ : r = 6 ∧ tk = #[.int .i64 0, .string ⟨#[]⟩, .int .i64 0] := by
                have e : r = 6 := by rw [HR3.out]; rfl
                exact ⟨e, by rw [HTk.out, if_neg (by rw [e]; decide)]⟩
              go_wp2_with fail
              go_at_call 23
              refine (hab _).mono ?_
              rintro e w1 ⟨rfl, rfl⟩
              go_wp2_with fail
              refine bodyPost_ret (v := .tuple #[.agg #[.int .i64 0, .string ⟨#[]⟩, .int .i64 0], .int .i64 6]) (by simp [results, Tryd.results13, go_sem, hz0, y, z]) rfl ⟨rfl, ?_⟩
              repeat (first | exact hB0 | (refine Below.setCell ?_ (by simp) _) | (refine Below.alloc ?_ (by simp) _))
            | false =>
              obtain ⟨rfl, rfl⟩ : r = 0 ∧ tk = #[.int .i64 3, .string x, .int .i64 0] := by
                have e : r = 0 := by rw [HR3.out]; rfl
                exact ⟨e, by rw [HTk.out, if_pos e]⟩
              go_wp2_with fail
              go_at_call 23
              refine (hab _).mono ?_
              rintro e w1 ⟨rfl, rfl⟩
              go_wp2_with fail
              refine bodyPost_ret (v := .tuple #[.agg #[.int .i64 3, .string x, .int .i64 0], .int .i64 0]) (by simp [results, Tryd.results13, go_sem, hz0, y, z]) rfl ⟨rfl, ?_⟩
              repeat (first | exact hB0 | (refine Below.setCell ?_ (by simp) _) | (refine Below.alloc ?_ (by simp) _))
        · have s1' : ¬ (1 : Int) < x.size := by omega
          have HR3 : Hid (r = if ab then 6 else 0) := by show _ = _; rw [HR2.out, if_neg (fun h => s1 h.1), HA.out]
          cases ab with
          | true =>
            obtain ⟨rfl, rfl⟩ : r = 6 ∧ tk = #[.int .i64 0, .string ⟨#[]⟩, .int .i64 0] := by
              have e : r = 6 := by rw [HR3.out]; rfl
              exact ⟨e, by rw [HTk.out, if_neg (by rw [e]; decide)]⟩
            go_wp2_with fail
            go_at_call 23
            refine (hab _).mono ?_
            rintro e w1 ⟨rfl, rfl⟩
            go_wp2_with fail
            refine bodyPost_ret (v := .tuple #[.agg #[.int .i64 0, .string ⟨#[]⟩, .int .i64 0], .int .i64 6]) (by simp [results, Tryd.results13, go_sem, hz0, y, z]) rfl ⟨rfl, ?_⟩
            repeat (first | exact hB0 | (refine Below.setCell ?_ (by simp) _) | (refine Below.alloc ?_ (by simp) _))
          | false =>
            obtain ⟨rfl, rfl⟩ : r = 0 ∧ tk = #[.int .i64 3, .string x, .int .i64 0] := by
              have e : r = 0 := by rw [HR3.out]; rfl
              exact ⟨e, by rw [HTk.out, if_pos e]⟩
            go_wp2_with fail
            go_at_call 23
            refine (hab _).mono ?_
            rintro e w1 ⟨rfl, rfl⟩
            go_wp2_with fail
            refine bodyPost_ret (v := .tuple #[.agg #[.int .i64 3, .string x, .int .i64 0], .int .i64 0]) (by simp [results, Tryd.results13, go_sem, hz0, y, z]) rfl ⟨rfl, ?_⟩
            repeat (first | exact hB0 | (refine Below.setCell ?_ (by simp) _) | (refine Below.alloc ?_ (by simp) _))
end Go.Proofs.YtakijacfadpmoaaDoor.T
