/- The contract of the reference's Show. -/
import Derived.Test.YthcfianhdkolhaaDoorRfM
import Derived.Test.YthcfianhdkolhaaDoorRfN
import Derived.Test.YthcfianhdkolhaaDoorRfO
import Derived.Test.YthcfianhdkolhaaDoorRfP
import Derived.Test.YthcfianhdkolhaaDoorRfQ
import Derived.Test.YthcfianhdkolhaaDoorRfR
import Derived.Test.YthcfianhdkolhaaDoorRfS
import Derived.Test.YthcfianhdkolhaaDoorRfT
import Derived.Test.YthcfianhdkolhaaDoorRfV
import Derived.Test.YthcfianhdkolhaaDoorRfW
namespace Go.Proofs.YthcfianhdkolhaaDoor.T
open Go.RowKit Go.Proofs.YthcfianhdkolhaaDoor.S
set_option linter.unusedVariables false
set_option linter.unusedSimpArgs false

theorem nm16 {s : List UInt8} (h : nameB s = true) : s.length ≤ 16 := of_decide_eq_true (name_word h)
theorem jb {n : Nd} (h : Al (shT n)) (ht : tb n ≤ 400000000000) : (jx (shT n)).length ≤ 9200000000000 := by
  have h1 := jx_len h
  have h2 := sh_tb n
  omega
theorem jbr {l : List Nd} {d : Bool} (h : ∀ x, x ∈ l → Al (shT x)) (ht : tbL l + l.length + 4 ≤ 400000000000) : (jx (rowT (l.map shT) d)).length ≤ 9200000000000 := by
  have h1 := jx_len (al_row (d := d) h)
  have h2 := row_sum (l.map shT) d
  have h3 := flatL_tb l
  rw [flat_sum] at h3
  rw [List.length_map] at h2
  omega
theorem jbf {l : List Nd} (h : ∀ x, x ∈ l → Al (shT x)) (hn : ∀ x, x ∈ l → shT x ≠ []) (ht : tbL l ≤ 400000000000) : (Lib.join (l.map fun x => jx (shT x)) [32]).length ≤ 9200000000000 := by
  have e := jx_flat (l.map shT) (fun t ht => by obtain ⟨x, hx, rfl⟩ := List.mem_map.1 ht; exact hn x hx)
  rw [List.map_map] at e
  have h1 := jx_len (al_flat h)
  have h3 := flatL_tb l
  have e' : Lib.join (l.map fun x => jx (shT x)) [32] = jx (l.map shT).flatten := e.symm
  rw [e']
  omega
theorem jbj {l : List Nd} (h : ∀ x, x ∈ l → Al (shT x)) (hn : ∀ x, x ∈ l → shT x ≠ []) (ht : tbL l + l.length ≤ 400000000000) : (Lib.join (l.map fun x => jx (shT x)) [32, 44, 32]).length ≤ 9200000000000 := by
  have e := jx_join (l.map shT) (fun t ht => by obtain ⟨x, hx, rfl⟩ := List.mem_map.1 ht; exact hn x hx)
  rw [List.map_map] at e
  have h1 := jx_len (al_join (l.map shT) (fun t ht => by obtain ⟨x, hx, rfl⟩ := List.mem_map.1 ht; exact h x hx))
  have h3 := joinL_tb l
  have e' : Lib.join (l.map fun x => jx (shT x)) [32, 44, 32] = jx (joinT (l.map shT)) := e.symm
  rw [e']
  omega
variable {w0 : World}
theorem show_ty {n : Nd} (h : IsTy n) : tb n ≤ 400000000000 → cnt n ≤ 700 → ShN w0 n := by
  induction h with
  | int => exact fun _ _ => show_k9 [] 0 (by simp)
  | long => exact fun _ _ => show_k10 [] 0 (by simp)
  | named s hs => exact fun _ _ => show_k11 s 0 (nm16 hs)
  | fn l d t hl ht ihl iht =>
    intro h1 h2
    rw [tb_mk] at h1; rw [cnt_mk] at h2; try simp only [tbL_app, tbL_cons, tbL_nil, cntL_app, cntL_cons, cntL_nil, List.length_append, List.length_cons, List.length_nil] at h1 h2
    exact show_k12 [] (b2n d) l t (by simp) (iht (by omega) (by omega)) (ne_ty ht) (jb (al_ty ht) (by omega)) (fun y hy => ihl y hy (by have := tbL_mem hy; omega) (by have := cnt_mem hy; omega)) (fun y hy => ne_ty (hl y hy) ) (by have := len_cnt l; omega) (jbr (fun y hy => al_ty (hl y hy)) (by omega))
theorem show_num (v : Int) (k : Int) (hk : k = 21 ∨ k = 22) (h1 : -9223372036854775807 ≤ v) (h2 : v ≤ 9223372036854775807) : ShN w0 (.mk k [] v []) := by
  rcases hk with rfl | rfl
  · by_cases h : v < 0
    · exact show_k21_neg [] v (by simp) v.natAbs (by omega) (by omega) (by omega)
    · exact show_k21_pos [] v (by simp) v.natAbs (by omega) (by omega)
  · by_cases h : v < 0
    · exact show_k22_neg [] v (by simp) v.natAbs (by omega) (by omega) (by omega)
    · exact show_k22_pos [] v (by simp) v.natAbs (by omega) (by omega)
theorem show_ex {n : Nd} (h : IsEx n) : tb n ≤ 400000000000 → cnt n ≤ 700 → ShN w0 n := by
  induction h with
  | num v a b => exact fun _ _ => show_num v 21 (Or.inl rfl) (by omega) (by omega)
  | long v a b => exact fun _ _ => show_num v 22 (Or.inr rfl) (by omega) (by omega)
  | name s hs => exact fun _ _ => show_k23 s 0 (nm16 hs)
  | dot s x hs hx ihx =>
    intro h1 h2
    rw [tb_mk] at h1; rw [cnt_mk] at h2; try simp only [tbL_app, tbL_cons, tbL_nil, cntL_app, cntL_cons, cntL_nil, List.length_append, List.length_cons, List.length_nil] at h1 h2
    exact show_k24 s 0 x (nm16 hs) (ihx (by omega) (by omega)) (ne_ex hx) (jb (al_ex hx) (by omega))
  | call x l hx hl ihx ihl =>
    intro h1 h2
    rw [tb_mk] at h1; rw [cnt_mk] at h2; try simp only [tbL_app, tbL_cons, tbL_nil, cntL_app, cntL_cons, cntL_nil, List.length_append, List.length_cons, List.length_nil] at h1 h2
    exact show_k25 [] 0 x l (by simp) (ihx (by omega) (by omega)) (ne_ex hx) (jb (al_ex hx) (by omega)) (fun y hy => ihl y hy (by have := tbL_mem hy; omega) (by have := cnt_mem hy; omega)) (fun y hy => ne_ex (hl y hy) ) (by have := len_cnt l; omega) (jbr (fun y hy => al_ex (hl y hy)) (by omega))
  | addr s hs => exact fun _ _ => show_k26 s 0 (nm16 hs)
  | make s l hs hl ihl =>
    intro h1 h2
    rw [tb_mk] at h1; rw [cnt_mk] at h2; try simp only [tbL_app, tbL_cons, tbL_nil, cntL_app, cntL_cons, cntL_nil, List.length_append, List.length_cons, List.length_nil] at h1 h2
    exact show_k27 s 0 l (nm16 hs) (fun y hy => ihl y hy (by have := tbL_mem hy; omega) (by have := cnt_mem hy; omega)) (fun y hy => ne_ex (hl y hy) ) (by have := len_cnt l; omega) (jbj (fun y hy => al_ex (hl y hy)) (fun y hy => ne_ex (hl y hy)) (by omega))
  | neg x hx ihx =>
    intro h1 h2
    rw [tb_mk] at h1; rw [cnt_mk] at h2; try simp only [tbL_app, tbL_cons, tbL_nil, cntL_app, cntL_cons, cntL_nil, List.length_append, List.length_cons, List.length_nil] at h1 h2
    exact show_k28 [] 0 x (by simp) (ihx (by omega) (by omega)) (ne_ex hx) (jb (al_ex hx) (by omega))
  | not x hx ihx =>
    intro h1 h2
    rw [tb_mk] at h1; rw [cnt_mk] at h2; try simp only [tbL_app, tbL_cons, tbL_nil, cntL_app, cntL_cons, cntL_nil, List.length_append, List.length_cons, List.length_nil] at h1 h2
    exact show_k29 [] 0 x (by simp) (ihx (by omega) (by omega)) (ne_ex hx) (jb (al_ex hx) (by omega))
  | toInt x hx ihx =>
    intro h1 h2
    rw [tb_mk] at h1; rw [cnt_mk] at h2; try simp only [tbL_app, tbL_cons, tbL_nil, cntL_app, cntL_cons, cntL_nil, List.length_append, List.length_cons, List.length_nil] at h1 h2
    exact show_k30 [] 0 x (by simp) (ihx (by omega) (by omega)) (ne_ex hx) (jb (al_ex hx) (by omega))
  | toLong x hx ihx =>
    intro h1 h2
    rw [tb_mk] at h1; rw [cnt_mk] at h2; try simp only [tbL_app, tbL_cons, tbL_nil, cntL_app, cntL_cons, cntL_nil, List.length_append, List.length_cons, List.length_nil] at h1 h2
    exact show_k31 [] 0 x (by simp) (ihx (by omega) (by omega)) (ne_ex hx) (jb (al_ex hx) (by omega))
  | extra x hx ihx =>
    intro h1 h2
    rw [tb_mk] at h1; rw [cnt_mk] at h2; try simp only [tbL_app, tbL_cons, tbL_nil, cntL_app, cntL_cons, cntL_nil, List.length_append, List.length_cons, List.length_nil] at h1 h2
    exact show_k34 [] 0 x (by simp) (ihx (by omega) (by omega)) (ne_ex hx) (jb (al_ex hx) (by omega))
  | op v a b hv ha hb iha ihb =>
    intro h1 h2
    rw [tb_mk] at h1; rw [cnt_mk] at h2; try simp only [tbL_app, tbL_cons, tbL_nil, cntL_app, cntL_cons, cntL_nil, List.length_append, List.length_cons, List.length_nil] at h1 h2
    exact show_k32 [] v a b (by simp) (iha (by omega) (by omega)) (ne_ex ha) (jb (al_ex ha) (by omega)) (ihb (by omega) (by omega)) (ne_ex hb) (jb (al_ex hb) (by omega)) hv
  | count => exact fun _ _ => show_k33 [] 0 (by simp)
theorem show_pa {n : Nd} (h : IsPa n) (h1 : tb n ≤ 400000000000) (h2 : cnt n ≤ 700) : ShN w0 n := by
  cases h with
  | param s x hs hx =>
    rw [tb_mk] at h1; rw [cnt_mk] at h2; try simp only [tbL_app, tbL_cons, tbL_nil, cntL_app, cntL_cons, cntL_nil, List.length_append, List.length_cons, List.length_nil] at h1 h2
    exact show_k8 s 0 x (nm16 hs) (show_ty hx (by omega) (by omega)) (ne_ty hx) (jb (al_ty hx) (by omega))
theorem show_fi {n : Nd} (h : IsFi n) (h1 : tb n ≤ 400000000000) (h2 : cnt n ≤ 700) : ShN w0 n := by
  cases h with
  | field s x hs hx =>
    rw [tb_mk] at h1; rw [cnt_mk] at h2; try simp only [tbL_app, tbL_cons, tbL_nil, cntL_app, cntL_cons, cntL_nil, List.length_append, List.length_cons, List.length_nil] at h1 h2
    exact show_k3 s 0 x (nm16 hs) (show_ty hx (by omega) (by omega)) (ne_ty hx) (jb (al_ty hx) (by omega))
theorem ne_pa {n : Nd} (h : IsPa n) : shT n ≠ [] := by cases h with | param s x hs hx => rw [sh_param]; simp
theorem ne_fi {n : Nd} (h : IsFi n) : shT n ≠ [] := by cases h with | field s x hs hx => rw [sh_field]; simp
theorem ne_st {n : Nd} (h : IsSt n) : shT n ≠ [] := by
  cases h with
  | var s t x hs ht hx => rw [sh_s14]; simp
  | set p x hp hx => rw [sh_s15]; simp
  | if1 c l hc hl => rw [sh_s16]; simp
  | if2 c l m hc hl hm => rw [sh_s16b]; simp
  | while1 c l hc hl => rw [sh_s17]; simp
  | ret x hx => rw [sh_s18]; simp
  | put x hx => rw [sh_s19]; simp
  | do1 x l hx hl => rw [sh_s20]; simp
theorem ne_bl (l : List Nd) : shT (.mk 13 [] 0 l) ≠ [] := by rw [sh_block]; simp
theorem show_bl {l : List Nd} (hl : ∀ y, y ∈ l → IsSt y) (ih : ∀ y, y ∈ l → tb y ≤ 400000000000 → cnt y ≤ 700 → ShN w0 y) (h1 : tb (.mk 13 [] 0 l) ≤ 400000000000) (h2 : cnt (.mk 13 [] 0 l) ≤ 700) : ShN w0 (.mk 13 [] 0 l) := by
  rw [tb_mk] at h1; rw [cnt_mk] at h2; try simp only [tbL_app, tbL_cons, tbL_nil, cntL_app, cntL_cons, cntL_nil, List.length_append, List.length_cons, List.length_nil] at h1 h2
  exact show_k13 [] 0 l (by simp) (fun y hy => ih y hy (by have := tbL_mem hy; omega) (by have := cnt_mem hy; omega)) (fun y hy => ne_st (hl y hy) ) (by have := len_cnt l; omega) (jbf (fun y hy => al_st (hl y hy)) (fun y hy => ne_st (hl y hy)) (by omega))
theorem show_st {n : Nd} (h : IsSt n) : tb n ≤ 400000000000 → cnt n ≤ 700 → ShN w0 n := by
  induction h with
  | var s u x hs hu hx =>
    intro h1 h2
    rw [tb_mk] at h1; rw [cnt_mk] at h2; try simp only [tbL_app, tbL_cons, tbL_nil, cntL_app, cntL_cons, cntL_nil, List.length_append, List.length_cons, List.length_nil] at h1 h2
    exact show_k14 s 0 u x (nm16 hs) (show_ty hu (by omega) (by omega)) (ne_ty hu) (jb (al_ty hu) (by omega)) (show_ex hx (by omega) (by omega)) (ne_ex hx) (jb (al_ex hx) (by omega))
  | set p x hp hx =>
    intro h1 h2
    rw [tb_mk] at h1; rw [cnt_mk] at h2; try simp only [tbL_app, tbL_cons, tbL_nil, cntL_app, cntL_cons, cntL_nil, List.length_append, List.length_cons, List.length_nil] at h1 h2
    exact show_k15 [] 0 p x (by simp) (show_ex (pl_ex hp).1 (by omega) (by omega)) (ne_ex (pl_ex hp).1) (jb (al_ex (pl_ex hp).1) (by omega)) (show_ex hx (by omega) (by omega)) (ne_ex hx) (jb (al_ex hx) (by omega))
  | if1 c l hc hl ih =>
    intro h1 h2
    rw [tb_mk] at h1; rw [cnt_mk] at h2; try simp only [tbL_app, tbL_cons, tbL_nil, cntL_app, cntL_cons, cntL_nil, List.length_append, List.length_cons, List.length_nil] at h1 h2
    exact show_k16 [] 0 c _ (by simp) (show_ex hc (by omega) (by omega)) (ne_ex hc) (jb (al_ex hc) (by omega)) (show_bl hl ih (by omega) (by omega)) (ne_bl l) (jb (al_block fun y hy => al_st (hl y hy)) (by omega))
  | if2 c l m hc hl hm ih ihm =>
    intro h1 h2
    rw [tb_mk] at h1; rw [cnt_mk] at h2; try simp only [tbL_app, tbL_cons, tbL_nil, cntL_app, cntL_cons, cntL_nil, List.length_append, List.length_cons, List.length_nil] at h1 h2
    exact show_k16_3 [] 0 c _ _ (by simp) (show_ex hc (by omega) (by omega)) (ne_ex hc) (jb (al_ex hc) (by omega)) (show_bl hl ih (by omega) (by omega)) (ne_bl l) (jb (al_block fun y hy => al_st (hl y hy)) (by omega)) (show_bl hm ihm (by omega) (by omega)) (ne_bl m) (jb (al_block fun y hy => al_st (hm y hy)) (by omega))
  | while1 c l hc hl ih =>
    intro h1 h2
    rw [tb_mk] at h1; rw [cnt_mk] at h2; try simp only [tbL_app, tbL_cons, tbL_nil, cntL_app, cntL_cons, cntL_nil, List.length_append, List.length_cons, List.length_nil] at h1 h2
    exact show_k17 [] 0 c _ (by simp) (show_ex hc (by omega) (by omega)) (ne_ex hc) (jb (al_ex hc) (by omega)) (show_bl hl ih (by omega) (by omega)) (ne_bl l) (jb (al_block fun y hy => al_st (hl y hy)) (by omega))
  | ret x hx =>
    intro h1 h2
    rw [tb_mk] at h1; rw [cnt_mk] at h2; try simp only [tbL_app, tbL_cons, tbL_nil, cntL_app, cntL_cons, cntL_nil, List.length_append, List.length_cons, List.length_nil] at h1 h2
    exact show_k18 [] 0 x (by simp) (show_ex hx (by omega) (by omega)) (ne_ex hx) (jb (al_ex hx) (by omega))
  | put x hx =>
    intro h1 h2
    rw [tb_mk] at h1; rw [cnt_mk] at h2; try simp only [tbL_app, tbL_cons, tbL_nil, cntL_app, cntL_cons, cntL_nil, List.length_append, List.length_cons, List.length_nil] at h1 h2
    exact show_k19 [] 0 x (by simp) (show_ex hx (by omega) (by omega)) (ne_ex hx) (jb (al_ex hx) (by omega))
  | do1 x l hx hl =>
    intro h1 h2
    have he := (ca_ex (IsCa.call x l hx hl)).1
    rw [tb_mk] at h1; rw [cnt_mk] at h2; rw [tbL_cons, tbL_nil] at h1; rw [cntL_cons, cntL_nil] at h2
    exact show_k20 [] 0 _ (by simp) (show_ex he (by omega) (by omega)) (ne_ex he) (jb (al_ex he) (by omega))
theorem ne_de {n : Nd} (h : IsDe n) : shT n ≠ [] := by
  cases h with
  | struct1 s l hs hne hl => rw [sh_d2]; simp
  | extern1 s l d t hs hl ht => rw [sh_d4]; simp
  | outside s t hs ht => rw [sh_d5]; simp
  | global s st t v hs ht h0 h1 => rw [sh_d6 _ _ _ _ (b2n_le st).1 (b2n_le st).2]; simp
  | globalL s st t v hs ht h0 h1 => rw [sh_d6 _ _ _ _ (b2n_le st).1 (b2n_le st).2]; simp
  | fun1 s st d l t b hs hl ht hb => rw [sh_d7]; simp [row_ne]
theorem al_num {k v : Int} (hk : k = 21 ∨ k = 22) (h1 : -9223372036854775807 ≤ v) (h2 : v ≤ 9223372036854775807) : Al (shT (.mk k [] v [])) ∧ shT (.mk k [] v []) ≠ [] := by
  rcases hk with rfl | rfl
  · have e : shT (.mk 21 [] v []) = numT 2 v := by rw [shT_mk]; simp [shK]
    rw [e]; exact ⟨g_numA h1 h2, num_ne _ _⟩
  · have e : shT (.mk 22 [] v []) = numT 3 v := by rw [shT_mk]; simp [shK]
    rw [e]; exact ⟨g_numA h1 h2, num_ne _ _⟩
theorem show_gl {s : List UInt8} {st : Bool} {u : Nd} {k v : Int} (hs : nameB s = true) (hu : IsTy u) (hk : k = 21 ∨ k = 22) (a : -9223372036854775807 ≤ v) (b : v ≤ 9223372036854775807) (h1 : tb (.mk 6 s (b2n st) [u, .mk k [] v []]) ≤ 400000000000) (h2 : cnt (.mk 6 s (b2n st) [u, .mk k [] v []]) ≤ 700) : ShN w0 (.mk 6 s (b2n st) [u, .mk k [] v []]) := by
  have hn := al_num hk a b
  rw [tb_mk] at h1; rw [cnt_mk] at h2; rw [tbL_cons, tbL_cons, tbL_nil] at h1; rw [cntL_cons, cntL_cons, cntL_nil] at h2
  cases st with
  | false => exact show_k6_0 s u _ (nm16 hs) (show_ty hu (by omega) (by omega)) (ne_ty hu) (jb (al_ty hu) (by omega)) (show_num v k hk a b) hn.2 (jb hn.1 (by omega))
  | true => exact show_k6_1 s u _ (nm16 hs) (show_ty hu (by omega) (by omega)) (ne_ty hu) (jb (al_ty hu) (by omega)) (show_num v k hk a b) hn.2 (jb hn.1 (by omega))
theorem show_de {n : Nd} (h : IsDe n) (h1 : tb n ≤ 400000000000) (h2 : cnt n ≤ 700) : ShN w0 n := by
  cases h with
  | struct1 s l hs hne hl =>
    rw [tb_mk] at h1; rw [cnt_mk] at h2; try simp only [tbL_app, tbL_cons, tbL_nil, cntL_app, cntL_cons, cntL_nil, List.length_append, List.length_cons, List.length_nil] at h1 h2
    exact show_k2 s 0 l (nm16 hs) (fun y hy => show_fi (hl y hy) (by have := tbL_mem hy; omega) (by have := cnt_mem hy; omega)) (fun y hy => ne_fi (hl y hy) ) (by have := len_cnt l; omega) (jbf (fun y hy => al_fi (hl y hy)) (fun y hy => ne_fi (hl y hy)) (by omega)) hne
  | extern1 s l d u hs hl hu =>
    rw [tb_mk] at h1; rw [cnt_mk] at h2; try simp only [tbL_app, tbL_cons, tbL_nil, cntL_app, cntL_cons, cntL_nil, List.length_append, List.length_cons, List.length_nil] at h1 h2
    exact show_k4 s (b2n d) l u (nm16 hs) (show_ty hu (by omega) (by omega)) (ne_ty hu) (jb (al_ty hu) (by omega)) (fun y hy => show_pa (hl y hy) (by have := tbL_mem hy; omega) (by have := cnt_mem hy; omega)) (fun y hy => ne_pa (hl y hy) ) (by have := len_cnt l; omega) (jbr (fun y hy => al_pa (hl y hy)) (by omega))
  | outside s u hs hu =>
    rw [tb_mk] at h1; rw [cnt_mk] at h2; try simp only [tbL_app, tbL_cons, tbL_nil, cntL_app, cntL_cons, cntL_nil, List.length_append, List.length_cons, List.length_nil] at h1 h2
    exact show_k5 s 0 u (nm16 hs) (show_ty hu (by omega) (by omega)) (ne_ty hu) (jb (al_ty hu) (by omega))
  | global s st u v hs hu a b => exact show_gl hs hu (Or.inl rfl) (by omega) (by omega) h1 h2
  | globalL s st u v hs hu a b => exact show_gl hs hu (Or.inr rfl) (by omega) (by omega) h1 h2
  | fun1 s st d l u c hs hl hu hc =>
    rw [tb_mk] at h1; rw [cnt_mk] at h2
    simp only [tbL_app, tbL_cons, tbL_nil, cntL_app, cntL_cons, cntL_nil, List.length_append, List.length_cons, List.length_nil] at h1 h2
    have hb := show_bl (w0 := w0) hc (fun y hy => show_st (hc y hy)) (by omega) (by omega)
    have hbb := jb (al_block fun y hy => al_st (hc y hy)) (show tb (.mk 13 [] 0 c) ≤ 400000000000 by omega)
    cases st with
    | false =>
      cases d with
      | false => exact show_k7_0 s l u _ (nm16 hs) (show_ty hu (by omega) (by omega)) (ne_ty hu) (jb (al_ty hu) (by omega)) hb (ne_bl c) hbb (fun y hy => show_pa (hl y hy) (by have := tbL_mem hy; omega) (by have := cnt_mem hy; omega)) (fun y hy => ne_pa (hl y hy) ) (by have := len_cnt l; omega) (jbr (fun y hy => al_pa (hl y hy)) (by omega))
      | true => exact show_k7_2 s l u _ (nm16 hs) (show_ty hu (by omega) (by omega)) (ne_ty hu) (jb (al_ty hu) (by omega)) hb (ne_bl c) hbb (fun y hy => show_pa (hl y hy) (by have := tbL_mem hy; omega) (by have := cnt_mem hy; omega)) (fun y hy => ne_pa (hl y hy) ) (by have := len_cnt l; omega) (jbr (fun y hy => al_pa (hl y hy)) (by omega))
    | true =>
      cases d with
      | false => exact show_k7_1 s l u _ (nm16 hs) (show_ty hu (by omega) (by omega)) (ne_ty hu) (jb (al_ty hu) (by omega)) hb (ne_bl c) hbb (fun y hy => show_pa (hl y hy) (by have := tbL_mem hy; omega) (by have := cnt_mem hy; omega)) (fun y hy => ne_pa (hl y hy) ) (by have := len_cnt l; omega) (jbr (fun y hy => al_pa (hl y hy)) (by omega))
      | true => exact show_k7_3 s l u _ (nm16 hs) (show_ty hu (by omega) (by omega)) (ne_ty hu) (jb (al_ty hu) (by omega)) hb (ne_bl c) hbb (fun y hy => show_pa (hl y hy) (by have := tbL_mem hy; omega) (by have := cnt_mem hy; omega)) (fun y hy => ne_pa (hl y hy) ) (by have := len_cnt l; omega) (jbr (fun y hy => al_pa (hl y hy)) (by omega))
theorem show_un {n : Nd} (h : IsUn n) (h1 : tb n ≤ 400000000000) (h2 : cnt n ≤ 700) : ShN w0 n := by
  cases h with
  | unit l hl =>
    rw [tb_mk] at h1; rw [cnt_mk] at h2; try simp only [tbL_app, tbL_cons, tbL_nil, cntL_app, cntL_cons, cntL_nil, List.length_append, List.length_cons, List.length_nil] at h1 h2
    exact show_k1 [] 0 l (by simp) (fun y hy => show_de (hl y hy) (by have := tbL_mem hy; omega) (by have := cnt_mem hy; omega)) (fun y hy => ne_de (hl y hy) ) (by have := len_cnt l; omega) (jbf (fun y hy => al_de (hl y hy)) (fun y hy => ne_de (hl y hy)) (by omega))
end Go.Proofs.YthcfianhdkolhaaDoor.T
