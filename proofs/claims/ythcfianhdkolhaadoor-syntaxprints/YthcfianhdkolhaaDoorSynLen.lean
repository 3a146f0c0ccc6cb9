/- A bound for a node's tokens; their texts. No program. -/
import Derived.Test.YthcfianhdkolhaaDoorSynCnt
import Derived.Lib.Join
namespace Go.Proofs.YthcfianhdkolhaaDoor.S
set_option linter.unusedVariables false
set_option linter.unusedSimpArgs false
mutual
def tb : Nd → Nat
  | .mk _ _ _ kids => 2 * tbL kids + 3 * kids.length + 9
def tbL : List Nd → Nat
  | [] => 0
  | k :: r => tb k + tbL r
end
theorem tb_mk (k : Int) (t : List UInt8) (v : Int) (l : List Nd) : tb (.mk k t v l) = 2 * tbL l + 3 * l.length + 9 := by rw [tb]
theorem tbL_cons (k : Nd) (r : List Nd) : tbL (k :: r) = tb k + tbL r := by rw [tbL]
theorem tbL_nil : tbL [] = 0 := by rw [tbL]
theorem tbL_app (a b : List Nd) : tbL (a ++ b) = tbL a + tbL b := by
  induction a with
  | nil => simp [tbL_nil]
  | cons x r ih => simp only [List.cons_append, tbL_cons, ih]; omega
theorem tbL_mem {x : Nd} {l : List Nd} (h : x ∈ l) : tb x ≤ tbL l := by
  induction l with
  | nil => simp at h
  | cons y r ih =>
    rw [tbL_cons]
    rcases List.mem_cons.1 h with rfl | h
    · omega
    · have := ih h; omega
theorem tbL_take {l : List Nd} {j : Nat} (hj : j < l.length) : tbL (l.take j) + tb l[j] ≤ tbL l := by
  have e : l = l.take j ++ l[j] :: l.drop (j + 1) := by rw [← List.drop_eq_getElem_cons hj, List.take_append_drop]
  have : tbL l = tbL (l.take j) + (tb l[j] + tbL (l.drop (j + 1))) := by
    conv => lhs; rw [e]
    rw [tbL_app, tbL_cons]
  omega
theorem ite_le {c : Prop} [Decidable c] {a b : List Tk} {n : Nat} (h1 : a.length ≤ n) (h2 : b.length ≤ n) : (if c then a else b).length ≤ n := by split <;> assumption
theorem shI_len (ts : List (List Tk)) : (shI ts).length ≤ sumT ts + 9 := by
  unfold shI
  split
  · simp [sumT]; omega
  · simp [sumT]; omega
  · simp
theorem shW_len (ts : List (List Tk)) : (shW ts).length ≤ sumT ts + 9 := by
  unfold shW
  split
  · simp [sumT]; omega
  · simp
theorem sh1_len (kids : List Nd) (ts : List (List Tk)) (f : Nd → List Tk → List Tk) (hf : ∀ a x, (f a x).length ≤ x.length + 9) : (sh1 kids ts f).length ≤ sumT ts + 9 := by
  unfold sh1
  split
  · rename_i a x; have := hf a x; simp [sumT]; exact this
  · simp
theorem sh2_len (kids : List Nd) (ts : List (List Tk)) (f : Nd → List Tk → Nd → List Tk → List Tk) (hf : ∀ a x b y, (f a x b y).length ≤ x.length + y.length + 9) : (sh2 kids ts f).length ≤ sumT ts + 9 := by
  unfold sh2
  split
  · rename_i a b x y; have := hf a x b y; simp [sumT]; omega
  · simp
theorem shC_len (kids : List Nd) (ts : List (List Tk)) (f : Nd → List Tk → List (List Tk) → List Tk) (hf : ∀ a x r, (f a x r).length ≤ x.length + sumT r + r.length + 9) : (shC kids ts f).length ≤ sumT ts + ts.length + 9 := by
  unfold shC
  split
  · rename_i a _ x r; have := hf a x r; rw [sumT_cons]; simp only [List.length_cons]; omega
  · simp
theorem sh_len (kind : Int) (text : List UInt8) (num : Int) (kids : List Nd) (ts : List (List Tk)) : (shK kind text num kids ts).length ≤ 2 * sumT ts + 3 * ts.length + 9 := by
  have hf := flat_sum ts
  have hl := last_sum ts
  have hl2 := last_sum ts.dropLast
  have hh := head_sum ts
  have hj := join_sum ts
  have hr := row_sum ts.dropLast (decide (num = 1))
  have hr2 := row_sum ts.dropLast.dropLast (decide (2 ≤ num))
  have hn1 := num_len 2 num
  have hn2 := num_len 3 num
  have hs : (if num % 2 = 1 then [wd sSTATIC] else []).length ≤ 1 := by split <;> simp
  have hI := shI_len ts
  have hW := shW_len ts
  have a24 := sh1_len kids ts (fun a x => atT (bindN a) 4 x ++ [sg sDOT, wd text]) (fun a x => by have := at_len (bindN a) 4 x; simp; omega)
  have a25 := shC_len kids ts (fun a x r => atT (bindN a) 4 x ++ rowT r false) (fun a x r => by have := at_len (bindN a) 4 x; have := row_sum r false; simp; omega)
  have a28 := sh1_len kids ts (fun a x => sg sMINUS :: atT (bindN a) 3 x) (fun a x => by have := at_len (bindN a) 3 x; simp; omega)
  have a29 := sh1_len kids ts (fun a x => sg sNOT :: atT (bindN a) 3 x) (fun a x => by have := at_len (bindN a) 3 x; simp; omega)
  have a32 := sh2_len kids ts (fun a x b y => atT (bindN a) (max (opBind num) 1) x ++ (sg (opSign num) :: atT (bindN b) (opBind num + 1) y)) (fun a x b y => by have := at_len (bindN a) (max (opBind num) 1) x; have := at_len (bindN b) (opBind num + 1) y; simp; omega)
  unfold shK
  repeat' apply ite_le
  all_goals first | omega | (simp only [List.length_append, List.length_cons, List.length_nil]; omega)
theorem sh_tb : ∀ n, (shT n).length ≤ tb n := by
  refine Nd.ind fun k t v kids ih => ?_
  rw [shT_mk, tb_mk]
  have h1 := sh_len k t v kids (kids.map shT)
  have h2 : sumT (kids.map shT) ≤ tbL kids := by
    clear h1
    induction kids with
    | nil => simp [sumT, tbL_nil]
    | cons x r ihr =>
      rw [List.map_cons, sumT_cons, tbL_cons]
      have := ih x (by simp)
      have := ihr (fun y hy => ih y (by simp [hy]))
      omega
  rw [List.length_map] at h1
  omega
theorem joinL_tb (l : List Nd) : (joinT (l.map shT)).length ≤ tbL l + l.length := by
  have h1 := join_sum (l.map shT)
  have h2 : sumT (l.map shT) ≤ tbL l := by
    clear h1
    induction l with
    | nil => simp [sumT, tbL_nil]
    | cons x r ihr =>
      rw [List.map_cons, sumT_cons, tbL_cons]
      have := sh_tb x
      omega
  rw [List.length_map] at h1
  omega
theorem flatL_tb (l : List Nd) : ((l.map shT).flatten).length ≤ tbL l := by
  rw [flat_sum]
  induction l with
  | nil => simp [sumT, tbL_nil]
  | cons x r ihr =>
    rw [List.map_cons, sumT_cons, tbL_cons]
    have := sh_tb x
    omega
theorem tb_top : ∀ n, tb n ≤ 12 * 3 ^ dpt n * cnt n := by
  refine Nd.ind fun k t v kids ih => ?_
  rw [tb_mk, dpt_mk, cnt_mk]
  have h2 : tbL kids ≤ 12 * 3 ^ dptL kids * cntL kids := by
    induction kids with
    | nil => simp [tbL_nil]
    | cons x r ihr =>
      rw [tbL_cons, dptL_cons, cntL_cons]
      have h1 := ih x (by simp)
      have h2 := ihr (fun y hy => ih y (by simp [hy]))
      have e1 : 3 ^ dpt x ≤ 3 ^ max (dpt x) (dptL r) := Nat.pow_le_pow_right (by omega) (by omega)
      have e2 : 3 ^ dptL r ≤ 3 ^ max (dpt x) (dptL r) := Nat.pow_le_pow_right (by omega) (by omega)
      have f1 : 12 * 3 ^ dpt x * cnt x ≤ 12 * 3 ^ max (dpt x) (dptL r) * cnt x := Nat.mul_le_mul_right _ (Nat.mul_le_mul_left _ e1)
      have f2 : 12 * 3 ^ dptL r * cntL r ≤ 12 * 3 ^ max (dpt x) (dptL r) * cntL r := Nat.mul_le_mul_right _ (Nat.mul_le_mul_left _ e2)
      rw [Nat.mul_add]
      omega
  have hl := len_cnt kids
  have hp : 1 ≤ 3 ^ dptL kids := Nat.one_le_pow _ _ (by omega)
  have e : 12 * 3 ^ (dptL kids + 1) * (cntL kids + 1) = 3 * (12 * 3 ^ dptL kids * cntL kids) + 36 * 3 ^ dptL kids := by
    rw [Nat.pow_succ, Nat.mul_add, Nat.mul_one, show 12 * (3 ^ dptL kids * 3) = 3 * (12 * 3 ^ dptL kids) by omega, Nat.mul_assoc 3]
    omega
  have h3 : 3 * cntL kids ≤ 12 * 3 ^ dptL kids * cntL kids := Nat.mul_le_mul_right _ (by omega)
  omega
theorem tb_fits {n : Nd} (h1 : cnt n ≤ 700) (h2 : dpt n ≤ 16) : tb n ≤ 400000000000 := by
  have h := tb_top n
  have e : 3 ^ dpt n ≤ 3 ^ 16 := Nat.pow_le_pow_right (by omega) h2
  have e16 : (3 : Nat) ^ 16 = 43046721 := by decide
  have : 12 * 3 ^ dpt n * cnt n ≤ 12 * 43046721 * 700 := Nat.mul_le_mul (Nat.mul_le_mul_left _ (by omega)) h1
  omega
/-- A token's text, a long's with its L. -/
def rawT (t : Tk) : List UInt8 := if t.kind = 3 then t.text ++ [76] else t.text
def txs (l : List Tk) : List (List UInt8) := l.map rawT
theorem txs_app (a b : List Tk) : txs (a ++ b) = txs a ++ txs b := List.map_append
theorem txs_cons (a : Tk) (b : List Tk) : txs (a :: b) = rawT a :: txs b := rfl
theorem txs_len (a : List Tk) : (txs a).length = a.length := List.length_map _
theorem raw_wd (s : List UInt8) : rawT (wd s) = s := rfl
theorem raw_sg (s : List UInt8) : rawT (sg s) = s := rfl
theorem joinT_snoc : ∀ (a : List (List Tk)) (x : List Tk), joinT (a ++ [x]) = if a = [] then x else joinT a ++ (sg sCOMMA :: x)
  | [], x => rfl
  | [y], x => by simp [joinT]
  | y :: z :: r, x => by
    have := joinT_snoc (z :: r) x
    simp only [List.cons_append, joinT, this] at *
    simp
end Go.Proofs.YthcfianhdkolhaaDoor.S

namespace Go.Proofs.YthcfianhdkolhaaDoor.S
set_option linter.unusedVariables false
set_option linter.unusedSimpArgs false
theorem lb_one (d : Bool) : decide (b2n d = 1) = d := by cases d <;> decide
theorem lb_odd (st : Bool) : ((b2n st % 2 = 1) ↔ st = true) := by cases st <;> simp [b2n]
theorem lb_two (st d : Bool) : (((b2n st + 2 * b2n d) % 2 = 1) ↔ st = true) ∧ decide (2 ≤ b2n st + 2 * b2n d) = d := by cases st <;> cases d <;> simp [b2n]
theorem lb_block (l : List Nd) : shT (.mk 13 [] 0 l) = [sg sLB] ++ (l.map shT).flatten ++ [sg sRB] := by rw [shT_mk]; simp [shK]
theorem lb_param (s : List UInt8) (t : Nd) : shT (.mk 8 s 0 [t]) = shT t ++ [wd s] := by rw [shT_mk]; simp [shK]
theorem lb_field (s : List UInt8) (t : Nd) : shT (.mk 3 s 0 [t]) = shT t ++ [wd s, sg sSEMI] := by rw [shT_mk]; simp [shK]
/-- A short token. -/
def TkG (t : Tk) : Prop := (rawT t).length ≤ 22
def wordB (s : List UInt8) : Bool := decide (s.length ≤ 16)
theorem g_word {s : List UInt8} (h : wordB s = true) : TkG (wd s) := by
  have h' : s.length ≤ 16 := of_decide_eq_true h
  show (rawT (wd s)).length ≤ 22
  rw [raw_wd]
  omega
theorem name_word {s : List UInt8} (h : nameB s = true) : wordB s = true := by
  unfold nameB at h
  simp only [Bool.and_eq_true, decide_eq_true_eq] at h
  exact decide_eq_true h.1.1.2
theorem g_name {s : List UInt8} (h : nameB s = true) : TkG (wd s) := g_word (name_word h)
def signs : List (List UInt8) := [sLP, sRP, sLB, sRB, sSEMI, sCOMMA, sDOTS, sDOT, sEQ, sMINUS, sNOT, sAMP, sSAME, sLESS, sPLUS, sOR, sXOR, sMUL, sDIV, sREM]
theorem g_sg {s : List UInt8} (h : signs.contains s = true) : TkG (sg s) := by
  rw [List.contains_iff_mem] at h
  have hall : (signs.all fun s => decide (s.length ≤ 16)) = true := by decide
  have := of_decide_eq_true (List.all_eq_true.1 hall s h)
  show (rawT (sg s)).length ≤ 22
  rw [raw_sg]
  omega
theorem dec_short : ∀ (k n : Nat), n < 10 ^ k → 1 ≤ k → (decN n).length ≤ k
  | 0, n, h, h1 => by omega
  | k + 1, n, h, h1 => by
    unfold decN
    split
    · simp
    · rename_i h10
      by_cases hk : k = 0
      · subst hk; omega
      · have := dec_short k (n / 10) (by rw [Nat.pow_succ] at h; omega) (by omega)
        rw [List.length_append]
        simp
        omega
theorem g_dec {k : Int} {n : Nat} (h : n ≤ 9223372036854775807) : TkG ⟨k, decN n⟩ := by
  have h1 := dec_short 19 n (by have : (10 : Nat) ^ 19 = 10000000000000000000 := by decide
                                omega) (by omega)
  show (rawT ⟨k, decN n⟩).length ≤ 22
  unfold rawT
  split
  · rw [List.length_append]; simp only [List.length_cons, List.length_nil]; omega
  · simp only; omega
theorem g_numA {k v : Int} (h1 : -9223372036854775807 ≤ v) (h2 : v ≤ 9223372036854775807) : ∀ t, t ∈ numT k v → TkG t := by
  intro t ht
  unfold numT at ht
  split at ht
  · simp at ht
    rcases ht with rfl | rfl
    · exact g_sg (by decide)
    · exact g_dec (by omega)
  · simp at ht
    subst ht
    exact g_dec (by omega)
theorem g_numT {v : Int} (h1 : -2147483647 ≤ v) (h2 : v ≤ 2147483647) : ∀ t, t ∈ numT 2 v → TkG t := g_numA (by omega) (by omega)
theorem g_numL {v : Int} (h1 : -9223372036854775807 ≤ v) (h2 : v ≤ 9223372036854775807) : ∀ t, t ∈ numT 3 v → TkG t := g_numA h1 h2
/-- All of a row. -/
def Al (l : List Tk) : Prop := ∀ t, t ∈ l → TkG t
theorem al_nil : Al [] := fun t h => by simp at h
theorem al_cons {t : Tk} {l : List Tk} (h : TkG t) (k : Al l) : Al (t :: l) := fun x hx => by
  rcases List.mem_cons.1 hx with rfl | hx
  · exact h
  · exact k x hx
theorem al_app {a b : List Tk} (h : Al a) (k : Al b) : Al (a ++ b) := fun x hx => by
  rcases List.mem_append.1 hx with hx | hx
  · exact h x hx
  · exact k x hx
theorem al_at {b k : Int} {x : List Tk} (h : Al x) : Al (atT b k x) := by
  unfold atT
  split
  · exact al_cons (g_sg (by decide)) (al_app h (al_cons (g_sg (by decide)) al_nil))
  · exact h
theorem al_join : ∀ (l : List (List Tk)), (∀ x, x ∈ l → Al x) → Al (joinT l)
  | [], _ => al_nil
  | [x], h => h x (by simp)
  | x :: y :: r, h => al_app (h x (by simp)) (al_cons (g_sg (by decide)) (al_join (y :: r) (fun z hz => h z (by simp [List.mem_cons.1 hz]))))
theorem al_row {l : List Nd} {d : Bool} (h : ∀ x, x ∈ l → Al (shT x)) : Al (rowT (l.map shT) d) := by
  unfold rowT
  refine al_cons (g_sg (by decide)) (al_app (al_join _ (fun x hx => ?_)) (al_cons (g_sg (by decide)) al_nil))
  rcases List.mem_append.1 hx with hx | hx
  · obtain ⟨y, hy, rfl⟩ := List.mem_map.1 hx
    exact h y hy
  · split at hx
    · simp at hx
      subst hx
      exact al_cons (g_sg (by decide)) al_nil
    · simp at hx
theorem al_flat {l : List Nd} (h : ∀ x, x ∈ l → Al (shT x)) : Al (l.map shT).flatten := fun t ht => by
  obtain ⟨x, hx, ht⟩ := List.mem_flatten.1 ht
  obtain ⟨y, hy, rfl⟩ := List.mem_map.1 hx
  exact h y hy t ht
theorem al_ty {t : Nd} (h : IsTy t) : Al (shT t) := by
  induction h with
  | int => rw [shT_mk]; exact al_cons (g_word (by decide)) al_nil
  | long => rw [shT_mk]; exact al_cons (g_word (by decide)) al_nil
  | named s hs =>
    have e : shT (.mk 11 s 0 []) = [wd s] := by rw [shT_mk]; simp [shK]
    rw [e]
    exact al_cons (g_name hs) al_nil
  | fn l d t hl ht ihl iht =>
    have e : shT (.mk 12 [] (b2n d) (l ++ [t])) = wd sFN :: (rowT (l.map shT) d ++ shT t) := by rw [shT_mk]; simp [shK, lastT, lb_one]
    rw [e]
    exact al_cons (g_word (by decide)) (al_app (al_row ihl) iht)
theorem op_in {v : Int} (h : isOp v) : signs.contains (opSign v) = true := by
  rcases h with rfl | rfl | rfl | rfl | rfl | rfl | rfl | rfl | rfl | rfl <;> decide
theorem al_ex {e : Nd} (h : IsEx e) : Al (shT e) := by
  induction h with
  | num v h1 h2 =>
    have e : shT (.mk 21 [] v []) = numT 2 v := by rw [shT_mk]; simp [shK]
    rw [e]; exact g_numT (by omega) h2
  | long v h1 h2 =>
    have e : shT (.mk 22 [] v []) = numT 3 v := by rw [shT_mk]; simp [shK]
    rw [e]; exact g_numL (by omega) h2
  | name s hs =>
    have e : shT (.mk 23 s 0 []) = [wd s] := by rw [shT_mk]; simp [shK]
    rw [e]; exact al_cons (g_name hs) al_nil
  | addr s hs =>
    have e : shT (.mk 26 s 0 []) = [sg sAMP, wd s] := by rw [shT_mk]; simp [shK]
    rw [e]; exact al_cons (g_sg (by decide)) (al_cons (g_name hs) al_nil)
  | count => rw [shT_mk]; exact al_cons (g_word (by decide)) al_nil
  | toInt x hx ih =>
    have e : shT (.mk 30 [] 0 [x]) = wd sINT :: sg sLP :: (shT x ++ [sg sRP]) := by rw [shT_mk]; simp [shK]
    rw [e]; exact al_cons (g_word (by decide)) (al_cons (g_sg (by decide)) (al_app ih (al_cons (g_sg (by decide)) al_nil)))
  | toLong x hx ih =>
    have e : shT (.mk 31 [] 0 [x]) = wd sLONG :: sg sLP :: (shT x ++ [sg sRP]) := by rw [shT_mk]; simp [shK]
    rw [e]; exact al_cons (g_word (by decide)) (al_cons (g_sg (by decide)) (al_app ih (al_cons (g_sg (by decide)) al_nil)))
  | extra x hx ih =>
    have e : shT (.mk 34 [] 0 [x]) = wd sEXTRA :: sg sLP :: (shT x ++ [sg sRP]) := by rw [shT_mk]; simp [shK]
    rw [e]; exact al_cons (g_word (by decide)) (al_cons (g_sg (by decide)) (al_app ih (al_cons (g_sg (by decide)) al_nil)))
  | make s l hs hl ih =>
    have e : shT (.mk 27 s 0 l) = wd s :: sg sLB :: (joinT (l.map shT) ++ [sg sRB]) := by rw [shT_mk]; simp [shK]
    rw [e]
    refine al_cons (g_name hs) (al_cons (g_sg (by decide)) (al_app (al_join _ (fun x hx => ?_)) (al_cons (g_sg (by decide)) al_nil)))
    obtain ⟨y, hy, rfl⟩ := List.mem_map.1 hx
    exact ih y hy
  | dot s x hs hx ih =>
    have e : shT (.mk 24 s 0 [x]) = atT (bindN x) 4 (shT x) ++ [sg sDOT, wd s] := by rw [shT_mk]; simp [shK, sh1]
    rw [e]; exact al_app (al_at ih) (al_cons (g_sg (by decide)) (al_cons (g_name hs) al_nil))
  | call x l hx hl ih ihl =>
    have e : shT (.mk 25 [] 0 (x :: l)) = atT (bindN x) 4 (shT x) ++ rowT (l.map shT) false := by rw [shT_mk]; simp [shK, shC]
    rw [e]; exact al_app (al_at ih) (al_row ihl)
  | neg x hx ih =>
    have e : shT (.mk 28 [] 0 [x]) = sg sMINUS :: atT (bindN x) 3 (shT x) := by rw [shT_mk]; simp [shK, sh1]
    rw [e]; exact al_cons (g_sg (by decide)) (al_at ih)
  | not x hx ih =>
    have e : shT (.mk 29 [] 0 [x]) = sg sNOT :: atT (bindN x) 3 (shT x) := by rw [shT_mk]; simp [shK, sh1]
    rw [e]; exact al_cons (g_sg (by decide)) (al_at ih)
  | op v a b hv ha hb iha ihb =>
    have e : shT (.mk 32 [] v [a, b]) = atT (bindN a) (max (opBind v) 1) (shT a) ++ (sg (opSign v) :: atT (bindN b) (opBind v + 1) (shT b)) := by rw [shT_mk]; simp [shK, sh2]
    rw [e]; exact al_app (al_at iha) (al_cons (g_sg (op_in hv)) (al_at ihb))
theorem al_pl {x : Nd} (h : IsPl x) : Al (shT x) := by
  induction h with
  | name s hs => exact al_ex (IsEx.name s hs)
  | dot s x hs hx ih =>
    have e : shT (.mk 24 s 0 [x]) = atT (bindN x) 4 (shT x) ++ [sg sDOT, wd s] := by rw [shT_mk]; simp [shK, sh1]
    rw [e]; exact al_app (al_at ih) (al_cons (g_sg (by decide)) (al_cons (g_name hs) al_nil))
theorem al_ca {x : Nd} (h : IsCa x) : Al (shT x) := by
  induction h with
  | name s hs => exact al_ex (IsEx.name s hs)
  | dot s x hs hx ih =>
    have e : shT (.mk 24 s 0 [x]) = atT (bindN x) 4 (shT x) ++ [sg sDOT, wd s] := by rw [shT_mk]; simp [shK, sh1]
    rw [e]; exact al_app (al_at ih) (al_cons (g_sg (by decide)) (al_cons (g_name hs) al_nil))
  | call x l hx hl ih =>
    have e : shT (.mk 25 [] 0 (x :: l)) = atT (bindN x) 4 (shT x) ++ rowT (l.map shT) false := by rw [shT_mk]; simp [shK, shC]
    rw [e]; exact al_app (al_at ih) (al_row (fun y hy => al_ex (hl y hy)))
theorem al_block {l : List Nd} (h : ∀ y, y ∈ l → Al (shT y)) : Al (shT (.mk 13 [] 0 l)) := by
  rw [lb_block]
  exact al_app (al_app (al_cons (g_sg (by decide)) al_nil) (al_flat h)) (al_cons (g_sg (by decide)) al_nil)
theorem al_st {x : Nd} (h : IsSt x) : Al (shT x) := by
  induction h with
  | var s t x hs ht hx =>
    have e : shT (.mk 14 s 0 [t, x]) = shT t ++ (wd s :: sg sEQ :: (shT x ++ [sg sSEMI])) := by rw [shT_mk]; simp [shK, lastT]
    rw [e]; exact al_app (al_ty ht) (al_cons (g_name hs) (al_cons (g_sg (by decide)) (al_app (al_ex hx) (al_cons (g_sg (by decide)) al_nil))))
  | set p x hp hx =>
    have e : shT (.mk 15 [] 0 [p, x]) = shT p ++ (sg sEQ :: (shT x ++ [sg sSEMI])) := by rw [shT_mk]; simp [shK, lastT]
    rw [e]; exact al_app (al_pl hp) (al_cons (g_sg (by decide)) (al_app (al_ex hx) (al_cons (g_sg (by decide)) al_nil)))
  | if1 c l hc hl ih =>
    have e : shT (.mk 16 [] 0 [c, .mk 13 [] 0 l]) = wd sIF :: sg sLP :: (shT c ++ (sg sRP :: shT (.mk 13 [] 0 l))) := by rw [shT_mk]; simp [shK, shI]
    rw [e]; exact al_cons (g_word (by decide)) (al_cons (g_sg (by decide)) (al_app (al_ex hc) (al_cons (g_sg (by decide)) (al_block ih))))
  | if2 c l m hc hl hm ihl ihm =>
    have e : shT (.mk 16 [] 0 [c, .mk 13 [] 0 l, .mk 13 [] 0 m]) = wd sIF :: sg sLP :: (shT c ++ (sg sRP :: (shT (.mk 13 [] 0 l) ++ (wd sELSE :: shT (.mk 13 [] 0 m))))) := by rw [shT_mk]; simp [shK, shI]
    rw [e]; exact al_cons (g_word (by decide)) (al_cons (g_sg (by decide)) (al_app (al_ex hc) (al_cons (g_sg (by decide)) (al_app (al_block ihl) (al_cons (g_word (by decide)) (al_block ihm))))))
  | while1 c l hc hl ih =>
    have e : shT (.mk 17 [] 0 [c, .mk 13 [] 0 l]) = wd sWHILE :: sg sLP :: (shT c ++ (sg sRP :: shT (.mk 13 [] 0 l))) := by rw [shT_mk]; simp [shK, shW]
    rw [e]; exact al_cons (g_word (by decide)) (al_cons (g_sg (by decide)) (al_app (al_ex hc) (al_cons (g_sg (by decide)) (al_block ih))))
  | ret x hx =>
    have e : shT (.mk 18 [] 0 [x]) = wd sRET :: (shT x ++ [sg sSEMI]) := by rw [shT_mk]; simp [shK]
    rw [e]; exact al_cons (g_word (by decide)) (al_app (al_ex hx) (al_cons (g_sg (by decide)) al_nil))
  | put x hx =>
    have e : shT (.mk 19 [] 0 [x]) = wd sPUT :: sg sLP :: (shT x ++ [sg sRP, sg sSEMI]) := by rw [shT_mk]; simp [shK]
    rw [e]; exact al_cons (g_word (by decide)) (al_cons (g_sg (by decide)) (al_app (al_ex hx) (al_cons (g_sg (by decide)) (al_cons (g_sg (by decide)) al_nil))))
  | do1 x l hx hl =>
    have e : shT (.mk 20 [] 0 [.mk 25 [] 0 (x :: l)]) = shT (.mk 25 [] 0 (x :: l)) ++ [sg sSEMI] := by rw [shT_mk]; simp [shK]
    rw [e]; exact al_app (al_ca (IsCa.call x l hx hl)) (al_cons (g_sg (by decide)) al_nil)
theorem al_pa {x : Nd} (h : IsPa x) : Al (shT x) := by
  cases h with
  | param s t hs ht => rw [lb_param]; exact al_app (al_ty ht) (al_cons (g_name hs) al_nil)
theorem al_fi {x : Nd} (h : IsFi x) : Al (shT x) := by
  cases h with
  | field s t hs ht => rw [lb_field]; exact al_app (al_ty ht) (al_cons (g_name hs) (al_cons (g_sg (by decide)) al_nil))
theorem al_static (st : Bool) : Al (if st = true then [wd sSTATIC] else []) := by
  cases st
  · exact al_nil
  · exact al_cons (g_word (by decide)) al_nil
theorem al_de {x : Nd} (h : IsDe x) : Al (shT x) := by
  cases h with
  | struct1 s l hs hne hl =>
    have e : shT (.mk 2 s 0 l) = wd sSTRUCT :: wd s :: sg sLB :: ((l.map shT).flatten ++ [sg sRB]) := by rw [shT_mk]; simp [shK]
    rw [e]; exact al_cons (g_word (by decide)) (al_cons (g_name hs) (al_cons (g_sg (by decide)) (al_app (al_flat (fun y hy => al_fi (hl y hy))) (al_cons (g_sg (by decide)) al_nil))))
  | extern1 s l d t hs hl ht =>
    have e : shT (.mk 4 s (b2n d) (l ++ [t])) = wd sEXTERN :: (shT t ++ (wd s :: (rowT (l.map shT) d ++ [sg sSEMI]))) := by rw [shT_mk]; simp [shK, lastT, lb_one]
    rw [e]; exact al_cons (g_word (by decide)) (al_app (al_ty ht) (al_cons (g_name hs) (al_app (al_row (fun y hy => al_pa (hl y hy))) (al_cons (g_sg (by decide)) al_nil))))
  | outside s t hs ht =>
    have e : shT (.mk 5 s 0 [t]) = wd sEXTERN :: (shT t ++ [wd s, sg sSEMI]) := by rw [shT_mk]; simp [shK]
    rw [e]; exact al_cons (g_word (by decide)) (al_app (al_ty ht) (al_cons (g_name hs) (al_cons (g_sg (by decide)) al_nil)))
  | global s st t v hs ht h1 h2 =>
    have e : shT (.mk 6 s (b2n st) [t, .mk 21 [] v []]) = (if st = true then [wd sSTATIC] else []) ++ (shT t ++ (wd s :: sg sEQ :: (numT 2 v ++ [sg sSEMI]))) := by
      have e1 : shT (.mk 21 [] v []) = numT 2 v := by rw [shT_mk]; simp [shK]
      rw [shT_mk]; simp [shK, lastT, e1, lb_odd]
    rw [e]; exact al_app (al_static st) (al_app (al_ty ht) (al_cons (g_name hs) (al_cons (g_sg (by decide)) (al_app (g_numT h1 h2) (al_cons (g_sg (by decide)) al_nil)))))
  | globalL s st t v hs ht h1 h2 =>
    have e : shT (.mk 6 s (b2n st) [t, .mk 22 [] v []]) = (if st = true then [wd sSTATIC] else []) ++ (shT t ++ (wd s :: sg sEQ :: (numT 3 v ++ [sg sSEMI]))) := by
      have e1 : shT (.mk 22 [] v []) = numT 3 v := by rw [shT_mk]; simp [shK]
      rw [shT_mk]; simp [shK, lastT, e1, lb_odd]
    rw [e]; exact al_app (al_static st) (al_app (al_ty ht) (al_cons (g_name hs) (al_cons (g_sg (by decide)) (al_app (g_numL h1 h2) (al_cons (g_sg (by decide)) al_nil)))))
  | fun1 s st d l t b hs hl ht hb =>
    have e : shT (.mk 7 s (b2n st + 2 * b2n d) (l ++ [t] ++ [.mk 13 [] 0 b])) = (if st = true then [wd sSTATIC] else []) ++ (shT t ++ (wd s :: (rowT (l.map shT) d ++ shT (.mk 13 [] 0 b)))) := by
      rw [shT_mk]
      have e1 : ((l ++ [t] ++ [Nd.mk 13 [] 0 b]).map shT).dropLast = (l ++ [t]).map shT := by simp
      have e2 : lastT ((l ++ [t] ++ [Nd.mk 13 [] 0 b]).map shT) = shT (.mk 13 [] 0 b) := by simp [lastT]
      have e3 : ((l ++ [t]).map shT).dropLast = l.map shT := by simp
      have e4 : lastT ((l ++ [t]).map shT) = shT t := by simp [lastT]
      have e5 : shK 7 s (b2n st + 2 * b2n d) (l ++ [t] ++ [Nd.mk 13 [] 0 b]) ((l ++ [t] ++ [Nd.mk 13 [] 0 b]).map shT) = (if (b2n st + 2 * b2n d) % 2 = 1 then [wd sSTATIC] else []) ++ (lastT ((l ++ [t] ++ [Nd.mk 13 [] 0 b]).map shT).dropLast ++ [wd s] ++ rowT ((l ++ [t] ++ [Nd.mk 13 [] 0 b]).map shT).dropLast.dropLast (decide (2 ≤ b2n st + 2 * b2n d)) ++ lastT ((l ++ [t] ++ [Nd.mk 13 [] 0 b]).map shT)) := by simp only [shK]; rfl
      rw [e5, e1, e2, e3, e4, (lb_two st d).2]
      simp only [(lb_two st d).1]
      simp
    rw [e]; exact al_app (al_static st) (al_app (al_ty ht) (al_cons (g_name hs) (al_app (al_row (fun y hy => al_pa (hl y hy))) (al_block (fun y hy => al_st (hb y hy))))))
theorem al_un {x : Nd} (h : IsUn x) : Al (shT x) := by
  cases h with
  | unit l hl =>
    have e : shT (.mk 1 [] 0 l) = (l.map shT).flatten := by rw [shT_mk]; simp [shK]
    rw [e]
    exact al_flat (fun y hy => al_de (hl y hy))
theorem inter_len (sep : List UInt8) : ∀ (xs : List (List UInt8)) (m : Nat), (∀ x, x ∈ xs → x.length ≤ m) → (sep.intercalate xs).length ≤ xs.length * (m + sep.length)
  | [], m, h => by simp [List.intercalate]
  | [a], m, h => by
    have := h a (by simp)
    simp [List.intercalate]
    omega
  | a :: b :: r, m, h => by
    have ih := inter_len sep (b :: r) m (fun x hx => h x (by simp only [List.mem_cons] at hx ⊢; exact Or.inr hx))
    have ha := h a (by simp)
    simp only [List.intercalate, List.intersperse_cons_cons, List.flatten_cons, List.length_append] at ih ⊢
    rw [show (a :: b :: r).length = (b :: r).length + 1 from rfl, Nat.add_mul]
    omega
/-- A unit's text. -/
def shownT (n : Nd) : List UInt8 := Lib.join (txs (shT n)) [32]
theorem shown_len {n : Nd} (h : IsUn n) (hc : cnt n ≤ 700) (hd : dpt n ≤ 16) : (shownT n).length ≤ 9200000000000 := by
  have h1 := inter_len [32] (txs (shT n)) 22 (fun x hx => by
    obtain ⟨t, ht, rfl⟩ := List.mem_map.1 hx
    exact al_un h t ht)
  rw [txs_len] at h1
  have h2 := sh_tb n
  have h3 := tb_fits hc hd
  have h4 : (shT n).length * (22 + [(32 : UInt8)].length) ≤ 400000000000 * 23 := Nat.mul_le_mul_right _ (by omega)
  show ([32].intercalate (txs (shT n))).length ≤ _
  omega
end Go.Proofs.YthcfianhdkolhaaDoor.S
