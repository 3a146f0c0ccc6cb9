/- What code.Read answers: the instruction whose text it is, or that there is none; and what code.Decode answers of an instruction's bits. -/
import Derived.Test.YtplenmhkhaoapaaDoorRead
import Derived.Test.YtplenmhkhaoapaaDoorBack
namespace Go.Proofs.YtplenmhkhaoapaaDoor.W
open Go.RowKit Go.Proofs.YtplenmhkhaoapaaDoor.M
set_option linter.unusedVariables false

theorem text_len {n : Nat} {a b c m : Int} (h : ckN n a b c m = 0) : (textL n a b c m).length ≤ 100 := by
  obtain ⟨h1, h2, h3, h4, h5, h6, h7, h8, h9, h10, h11⟩ := ck_facts h
  have e1 := name_len (n : Int)
  have e2 := pieces_len a b c m ⟨by omega, by omega⟩ ⟨by omega, by omega⟩ ⟨by omega, by omega⟩ ⟨by omega, by omega⟩ (fl (kind (n : Int))).data.toList
  have e3 : (fl (kind (n : Int))).size ≤ 3 := by unfold fl; split <;> decide
  have e4 : (fl (kind (n : Int))).data.toList.length = (fl (kind (n : Int))).size := by rw [Array.length_toList]; rfl
  have e5 : (nameOf (n : Int)).data.toList.length = (nameOf (n : Int)).size := by rw [Array.length_toList]; rfl
  unfold textL
  rw [List.length_append]
  omega
/-- The good answer, and the bad one. -/
abbrev rdOk (n : Nat) (a b c m : Int) : Value := .tuple #[.agg #[.int .i64 n, .int .i64 a, .int .i64 b, .int .i64 c, .int .i64 m], .int .i64 0]
abbrev rdBad : Value := .tuple #[.agg #[.int .i64 0, .int .i64 0, .int .i64 0, .int .i64 0, .int .i64 0], .int .i64 2]
theorem read_yes (n : Nat) (a b c m : Int) (s : ByteArray) (w : World) (G : GlobE w) (h : ckN n a b c m = 0) (hs : textL n a b c m = s.data.toList) :
    Calls Tryd.prog 10 #[.string s] w fun e w' => e = .returned (rdOk n a b c m) ∧ Below w.heap.size w w' := by
  have hl := text_len h
  have hsz : s.size = s.data.toList.length := by rw [Array.length_toList]; rfl
  have hle : s.size ≤ 140737488355328 := by rw [hsz, ← hs]; omega
  obtain ⟨e1, e2⟩ := parse_text h
  obtain ⟨h1, h2, _⟩ := ck_facts h
  refine (read_any s w G hle).mono ?_
  rintro e w' ⟨k, hk, hkj, hb, hp⟩
  refine ⟨?_, hb⟩
  have hkn : k = n := hkj n (by omega) (by rw [← hs, e1])
  subst hkn
  rw [hs] at e2
  rcases hp with ⟨a', b', c', m', p1, p2, p3, p4⟩ | ⟨p1, _⟩
  · rw [e2] at p1
    injection p1 with p1
    simp only [Prod.mk.injEq] at p1
    obtain ⟨rfl, rfl, rfl, rfl⟩ := p1
    exact p4
  · exact absurd hs (p1 a b c m e2 h)
theorem read_no (s : ByteArray) (w : World) (G : GlobE w) (hle : s.size ≤ 140737488355328) (hno : ∀ (n : Nat) (a b c m : Int), ckN n a b c m = 0 → textL n a b c m ≠ s.data.toList) :
    Calls Tryd.prog 10 #[.string s] w fun e w' => e = .returned rdBad ∧ Below w.heap.size w w' := by
  refine (read_any s w G hle).mono ?_
  rintro e w' ⟨k, hk, hkj, hb, hp⟩
  refine ⟨?_, hb⟩
  rcases hp with ⟨a', b', c', m', p1, p2, p3, p4⟩ | ⟨_, p1⟩
  · exact absurd p3 (hno k a' b' c' m' p2)
  · exact p1
/-- Two instructions of one text are one. -/
theorem text_inj {n n' : Nat} {a b c m a' b' c' m' : Int} (h : ckN n a b c m = 0) (h' : ckN n' a' b' c' m' = 0) (e : textL n a b c m = textL n' a' b' c' m') : n = n' ∧ a = a' ∧ b = b' ∧ c = c' ∧ m = m' := by
  obtain ⟨e1, e2⟩ := parse_text h
  obtain ⟨e3, e4⟩ := parse_text h'
  obtain ⟨h1, h2, _⟩ := ck_facts h
  obtain ⟨h3, h4, _⟩ := ck_facts h'
  rw [e] at e1 e2
  have hn : nameOf (n : Int) = nameOf (n' : Int) := by
    have := e1.symm.trans e3
    cases hx : nameOf (n : Int); cases hy : nameOf (n' : Int)
    rw [hx, hy] at this
    simpa using this
  have := nm_inj ⟨n, by omega⟩ ⟨n', by omega⟩ hn
  have hnn : n = n' := congrArg Fin.val this
  subst hnn
  rw [e2] at e4
  injection e4 with e4
  simp only [Prod.mk.injEq] at e4
  exact ⟨rfl, e4⟩
theorem decode_enc (n : Nat) (a b c m : Int) (w : World) (h : ckN n a b c m = 0) :
    Calls Tryd.prog 12 #[.int .u32 (encN n a b c m)] w fun e w' => e = .returned (.tuple #[.agg #[.int .i64 n, .int .i64 a, .int .i64 b, .int .i64 c, .int .i64 m], .bool true]) ∧ Below w.heap.size w w' := by
  obtain ⟨e1, e2, e3, e4, e5, e6, e7⟩ := dec_enc h
  have hd : dck (encN n a b c m) = 0 := by unfold dck; rw [e1, e2, e3, e4, e5]; exact h
  have := decode_ok (encN n a b c m) w e6 e7 hd
  rw [e1, e2, e3, e4, e5] at this
  exact this
end Go.Proofs.YtplenmhkhaoapaaDoor.W
