/- strings.Clone; the contract of the linker's first closure. -/
import Derived.Test.YthbhlmbhnidbhaaXg
import Derived.Test.YthbhlmbhnidbhaaPEnc
import Derived.Test.YthbhlmbhnidbhaaGp
import Derived.Shelf.Strconv.Clone
namespace Go.Proofs
open Go.Shelf
def Try.laysM316_ren : Go.Shelf.Ren := ⟨fun | 316 => 58 | n => n, fun | 9 => 9 | 3 => 3 | 4 => 4 | 37 => 113 | 0 => 0 | 127 => 114 | 5 => 5 | n => n, fun | n => n⟩
theorem Try.laysM316 : Go.Proofs.LaysM.n316 Try.prog Try.laysM316_ren := {
  mixed := by kernel_rfl
  f316 := Try.func58.trans (congrArg some (by kernel_rfl))
  t0 := Try.underlying0
  a0 := Try.isAgg0
  z0 := Try.sizeOf0
  v0 := Try.zeroValue0
  t3 := Try.underlying3
  a3 := Try.isAgg3
  z3 := Try.sizeOf3
  v3 := Try.zeroValue3
  t4 := Try.underlying4
  a4 := Try.isAgg4
  z4 := Try.sizeOf4
  v4 := Try.zeroValue4
  t9 := Try.underlying9
  a9 := Try.isAgg9
  z9 := Try.sizeOf9
  v9 := Try.zeroValue9
  t37 := Try.underlying113
  a37 := Try.isAgg113
  z37 := Try.sizeOf113
  v37 := Try.zeroValue113
  t127 := Try.underlying114
  a127 := Try.isAgg114
  z127 := Try.sizeOf114
  v127 := Try.zeroValue114
  t5 := Try.underlying5
  a5 := Try.isAgg5
  z5 := Try.sizeOf5
  v5 := Try.zeroValue5
  i0 := by kernel_rfl
  i3 := by kernel_rfl
  i4 := by kernel_rfl
  i5 := by kernel_rfl
  i9 := by kernel_rfl
  i37 := by kernel_rfl
  i127 := by kernel_rfl }
end Go.Proofs
namespace Go.Proofs.Ythbhlmbhnidbhaa.T
open Go.RowKit Go.Proofs.Ythbhlmbhnidbhaa.M
set_option linter.unusedVariables false
set_option linter.unusedSimpArgs false
theorem clone58 (s : ByteArray) (w : World) (hlim : s.size ≤ 281474976710656) : Calls Try.prog 58 #[.string s] w fun e w' => e = .returned (.string s) ∧ Below w.heap.size w w' := Any.stringslite_Clone Try.laysM316 s w hlim
theorem clone_any (s : ByteArray) (w : World) (hlim : s.size ≤ 16) : Calls Try.prog 46 #[.string s] w fun e w' => e = .returned (.string s) ∧ Below w.heap.size w w' := by
  have HC := hide (fun w' => clone58 s w' (by omega))
  go_enter Try.func46, Try.ntmps46
  go_wp2_with fail
  go_at_call 58
  refine (HC.out _).mono ?_
  rintro e w1 ⟨rfl, hb⟩
  have HB := hide hb
  clear hb HC
  go_wp2_with fail
  go_ret
  exact ⟨rfl, HB.out⟩
set_option maxRecDepth 100000 in
set_option maxHeartbeats 4000000 in
theorem lay1_any {W w : World} {b mb : Nat} {a : Option Addr} {n c : Nat} {mem : Int} {CO DA : List Int} {ST : List (Int × Int)} {RG : List Rg} {k : Nat} {f : ByteArray → Option (Nat × Nat)} {L : List Rs} (op x1 x2 x3 m : Int) (hck : ckN op x1 x2 x3 m = 0) (hlen : CO.length ≤ 100) {j bk : Nat} (hj : L[j]? = some (.blk bk #[.pointer (some ⟨b, 0, none⟩)] 38)) (h : LS W.heap.size W w b mb a n c mem CO DA ST RG k f L) :
    Calls Try.prog 32 #[.agg #[.int .i64 op, .int .i64 x1, .int .i64 x2, .int .i64 x3, .int .i64 m], .pointer (some ⟨bk, 0, none⟩)] w fun e w' => e = .returned (.tuple #[]) ∧ LS W.heap.size W w' b mb a n c mem (CO ++ [encN op x1 x2 x3 m]) DA ST RG k f L := by
  have HE := hide (fun w' => Go.Proofs.Ythbhlmbhnidbhaa.W.encode_ok op x1 x2 x3 m w' (hide hck))
  obtain ⟨ca, cc, da, dc, sa, sc, ra, rc, hF⟩ := h
  have HF := hide (hF.alloc (q := w.heap.size) rfl #[.int .i64 op, .int .i64 x1, .int .i64 x2, .int .i64 x3, .int .i64 m] 53)
  have HEnd : Hid (∀ g cap w', Fr W.heap.size W w' (.blk b #[.slice (some ⟨g, 0, none⟩) (CO.length + 1) cap, .slice da DA.length dc, .int .i64 mem, .slice a n c, .map (some mb), .slice sa ST.length sc, .slice ra RG.length rc] 42 :: .row (.slice (some ⟨g, 0, none⟩) (CO.length + 1) cap) 34 1 (CO.length + 1) (CO.map (Value.int .u32) ++ [.int .u32 (encN op x1 x2 x3 m)]) :: .row (.slice da DA.length dc) 21 1 DA.length (DA.map (Value.int .i32)) :: .row (.slice sa ST.length sc) 85 2 ST.length (ST.flatMap stV) :: .row (.slice ra RG.length rc) 36 5 RG.length (RG.flatMap rgV) :: .ob mb (pm mb k f) :: L) → LS W.heap.size W w' b mb a n c mem (CO ++ [encN op x1 x2 x3 m]) DA ST RG k f L) := fun g cap w' h => by
    refine ⟨some ⟨g, 0, none⟩, cap, da, dc, sa, sc, ra, rc, ?_⟩
    rw [List.length_append, List.map_append]
    exact h
  clear hF hck
  generalize encN op x1 x2 x3 m = E at *
  generalize CO.map (Value.int .u32) = xs at *
  generalize CO.length = nl at *
  have q0 := HF.out.cell 0 rfl
  go_enter Try.func32, Try.ntmps32
  go_wp2_with fail
  go_at_call 33
  refine (HE.out _).mono ?_
  rintro e w1 ⟨rfl, hb⟩
  replace HF := hide (HF.out.call hb)
  clear hb HE q0
  have HA := hide ((HF.out.alloc (q := w1.heap.size) rfl #[.int .u32 E] 34).drew)
  have k0 := HF.out.cell (j + 7) (by simpa using hj)
  have c0 := HF.out.cell 1 rfl
  have k1 := HA.out.cell (j + 8) (by simpa using hj)
  have c1 := HA.out.cell 2 rfl
  have k2 := (HF.out.alloc (q := w1.heap.size) rfl #[.int .u32 E] 34).cell (j + 8) (by simpa using hj)
  have c2 := (HF.out.alloc (q := w1.heap.size) rfl #[.int .u32 E] 34).cell 2 rfl
  go_wp2_with fail
  go_region_law (refine Fr.stepOne 23 info34 Try.underlying23 rfl (by decide) (by decide) HA.out 2 (v := .slice ca nl cc) (n := nl) rfl (by omega) (.tmp 15) (.tmp 17) rfl rfl rfl rfl rfl rfl ?_; intro g7 cap7 w7 h7 _; have HF7 := hide h7; clear h7; have b7 := HF7.out.cell 1 rfl; have f7 := HF7.out.frz 1 rfl; have k7 := HF7.out.cell (j + 7) (by simpa using hj))
  all_goals
    have HF8 := hide (HF7.out.set 1 rfl 0 (.slice (some ⟨g7, 0, none⟩) (nl + 1) cap7))
    clear k0 c0 k1 c1 k2 c2 b7 f7 k7
    go_wp2_with fail
    go_end0
    exact ⟨rfl, HEnd.out _ _ _ HF8.out.tail⟩
end Go.Proofs.Ythbhlmbhnidbhaa.T
