/- PeP -/
import Derived.Test.YthcfianhdkolhaaGreatDoorPeM
namespace Go.Proofs.YthcfianhdkolhaaGreatDoor.Y.Z
open Go.RowKit Go.Proofs.YthcfianhdkolhaaGreatDoor.T Go.Proofs.YthcfianhdkolhaaGreatDoor.S
open Go.Proofs.YthcfianhdkolhaaGreatDoor.X (Tok)
set_option linter.unusedVariables false
set_option linter.unusedSimpArgs false
set_option maxRecDepth 100000
set_option maxHeartbeats 2000000
variable {w w' : World} {b g : Nat} {K ts : List Tok} {β : Bool}
theorem md_ext_fn {ts:List Tok} {r1 r2 r4 r5:List Tok} {β1 β2 β4 β5:Bool} {t:Nd} {s:List UInt8} {l:List Nd} {d:Bool}  (g0:¬ hd (tk ts)=sSTRUCT) (gy:hd (tk ts)=sEXTERN) (h1:Md (R .typ) t false ts.tail β1 r1) (h2:Na s β1 r1 β2 r2) (h3:hd (tk r2)=sLP) (h4:Mw (R (.rows 1)) l d β2 r2 β4 r4) (h5:Mu sSEMI β4 r4 β5 r5):Md (R .decl) (.mk 4 s (b2n d) (l++[t])) false ts β5 r5:=by
 rcases h1.good with ⟨rfl,l1,e1⟩|⟨rfl,e1⟩
 ·rcases h2.good with ⟨rfl,e2,rfl,rfl⟩|⟨rfl,e2,rfl,rfl⟩
  ·have e3:=h3
   rcases h4.good with ⟨rfl,l4,ll4,e4⟩|⟨rfl,e4⟩
   ·rcases h5.good with ⟨rfl,e5,rfl⟩|⟨rfl,e5,rfl⟩
    ·refine mok ?_ ?_
     ·have qh_gy:=tail_lt' (s:=sEXTERN) (by decide) gy
      have q1:=l1
      have q2:=tail_lt' (nm_ne e2) rfl
      have q4:=l4
      have q5:=tail_lt' (s:=sSEMI) (by decide) e5
      simp only [List.length_tail] at *
      omega
     obtain ⟨N0,e1,e4⟩:=both e1 e4
     try simp only [tk_tail] at *
     exact ⟨N0+1,by simp [P,F,must,andN,andR,S.name,okN,g0,gy,e2,e3,e5,e1,e4]⟩
    refine mno ?_
    obtain ⟨N0,e1,e4⟩:=both e1 e4
    try simp only [tk_tail] at *
    exact ⟨N0+1,by simp [P,F,must,andN,andR,S.name,okN,g0,gy,e2,e3,e5,e1,e4]⟩
   obtain ⟨rfl,rfl⟩:=h5.bad
   refine mno ?_
   obtain ⟨N0,e1,e4⟩:=both e1 e4
   try simp only [tk_tail] at *
   exact ⟨N0+1,by simp [P,F,must,andN,andR,S.name,okN,g0,gy,e2,e3,e1,e4]⟩
  obtain ⟨rfl,rfl,rfl⟩:=h4.bad
  obtain ⟨rfl,rfl⟩:=h5.bad
  refine mno ?_
  obtain ⟨N0,e1⟩:=e1
  try simp only [tk_tail] at *
  exact ⟨N0+1,by simp [P,F,must,andN,andR,S.name,okN,g0,gy,e2,e1]⟩
 obtain ⟨rfl,rfl,rfl⟩:=h2.bad
 obtain ⟨rfl,rfl,rfl⟩:=h4.bad
 obtain ⟨rfl,rfl⟩:=h5.bad
 refine mno ?_
 obtain ⟨N0,e1⟩:=e1
 try simp only [tk_tail] at *
 exact ⟨N0+1,by simp [P,F,must,andN,andR,S.name,okN,g0,gy,e1]⟩
theorem md_ext_var {ts:List Tok} {r1 r2 r4:List Tok} {β1 β2 β4:Bool} {t:Nd} {s:List UInt8}  (g0:¬ hd (tk ts)=sSTRUCT) (gy:hd (tk ts)=sEXTERN) (h1:Md (R .typ) t false ts.tail β1 r1) (h2:Na s β1 r1 β2 r2) (h3:¬ hd (tk r2)=sLP) (h4:Mu sSEMI β2 r2 β4 r4):Md (R .decl) (.mk 5 s 0 [t]) false ts β4 r4:=by
 rcases h1.good with ⟨rfl,l1,e1⟩|⟨rfl,e1⟩
 ·rcases h2.good with ⟨rfl,e2,rfl,rfl⟩|⟨rfl,e2,rfl,rfl⟩
  ·have e3:=h3
   rcases h4.good with ⟨rfl,e4,rfl⟩|⟨rfl,e4,rfl⟩
   ·refine mok ?_ ?_
    ·have qh_gy:=tail_lt' (s:=sEXTERN) (by decide) gy
     have q1:=l1
     have q2:=tail_lt' (nm_ne e2) rfl
     have q4:=tail_lt' (s:=sSEMI) (by decide) e4
     simp only [List.length_tail] at *
     omega
    obtain ⟨N0,e1⟩:=e1
    try simp only [tk_tail] at *
    exact ⟨N0+1,by simp [P,F,must,andN,andR,S.name,okN,g0,gy,e2,e3,e4,e1]⟩
   refine mno ?_
   obtain ⟨N0,e1⟩:=e1
   try simp only [tk_tail] at *
   exact ⟨N0+1,by simp [P,F,must,andN,andR,S.name,okN,g0,gy,e2,e3,e4,e1]⟩
  obtain ⟨rfl,rfl⟩:=h4.bad
  refine mno ?_
  obtain ⟨N0,e1⟩:=e1
  try simp only [tk_tail] at *
  exact ⟨N0+1,by simp [P,F,must,andN,andR,S.name,okN,g0,gy,e2,e1]⟩
 obtain ⟨rfl,rfl,rfl⟩:=h2.bad
 obtain ⟨rfl,rfl⟩:=h4.bad
 refine mno ?_
 obtain ⟨N0,e1⟩:=e1
 try simp only [tk_tail] at *
 exact ⟨N0+1,by simp [P,F,must,andN,andR,S.name,okN,g0,gy,e1]⟩
theorem md_ext_no {ts:List Tok} {r1 r2:List Tok} {β1 β2:Bool} {t:Nd} {s:List UInt8} {nn:Nd}  (g0:¬ hd (tk ts)=sSTRUCT) (gy:hd (tk ts)=sEXTERN) (h1:Md (R .typ) t false ts.tail β1 r1) (h2:Na s β1 r1 β2 r2) (hb:β2=true):Md (R .decl) nn false ts β2 r2:=by
 rcases h1.good with ⟨rfl,l1,e1⟩|⟨rfl,e1⟩
 ·rcases h2.good with ⟨rfl,e2,rfl,rfl⟩|⟨rfl,e2,rfl,rfl⟩
  ·cases hb
  refine mno ?_
  obtain ⟨N0,e1⟩:=e1
  try simp only [tk_tail] at *
  exact ⟨N0+1,by simp [P,F,must,andN,andR,S.name,okN,g0,gy,e2,e1]⟩
 obtain ⟨rfl,rfl,rfl⟩:=h2.bad
 refine mno ?_
 obtain ⟨N0,e1⟩:=e1
 try simp only [tk_tail] at *
 exact ⟨N0+1,by simp [P,F,must,andN,andR,S.name,okN,g0,gy,e1]⟩
theorem md_sta_fun {ts:List Tok} {r1 r2 r4 r5:List Tok} {β1 β2 β4 β5:Bool} {t:Nd} {s:List UInt8} {l:List Nd} {d:Bool} {b:Nd}  (g0:¬ hd (tk ts)=sSTRUCT) (g1:¬ hd (tk ts)=sEXTERN) (gy:hd (tk ts)=sSTATIC) (h1:Md (R .typ) t false ts.tail β1 r1) (h2:Na s β1 r1 β2 r2) (h3:hd (tk r2)=sLP) (h4:Mw (R (.rows 1)) l d β2 r2 β4 r4) (h5:Md (R .block) b β4 r4 β5 r5):Md (R .decl) (.mk 7 s (1+2*b2n d) (l++[t]++[b])) false ts β5 r5:=by
 rcases h1.good with ⟨rfl,l1,e1⟩|⟨rfl,e1⟩
 ·rcases h2.good with ⟨rfl,e2,rfl,rfl⟩|⟨rfl,e2,rfl,rfl⟩
  ·have e3:=h3
   rcases h4.good with ⟨rfl,l4,ll4,e4⟩|⟨rfl,e4⟩
   ·rcases h5.good with ⟨rfl,l5,e5⟩|⟨rfl,e5⟩
    ·refine mok ?_ ?_
     ·have qh_gy:=tail_lt' (s:=sSTATIC) (by decide) gy
      have q1:=l1
      have q2:=tail_lt' (nm_ne e2) rfl
      have q4:=l4
      have q5:=l5
      simp only [List.length_tail] at *
      omega
     obtain ⟨N0,e1,e4,e5⟩:=three e1 e4 e5
     try simp only [tk_tail] at *
     exact ⟨N0+1,by simp [P,F,must,andN,andR,S.name,okN,b2n,g0,g1,gy,e2,e3,e1,e4,e5]⟩
    refine mno ?_
    obtain ⟨N0,e1,e4,e5⟩:=three e1 e4 e5
    try simp only [tk_tail] at *
    exact ⟨N0+1,by simp [P,F,must,andN,andR,S.name,okN,b2n,g0,g1,gy,e2,e3,e1,e4,e5]⟩
   obtain ⟨rfl,rfl⟩:=h5.bad
   refine mno ?_
   obtain ⟨N0,e1,e4⟩:=both e1 e4
   try simp only [tk_tail] at *
   exact ⟨N0+1,by simp [P,F,must,andN,andR,S.name,okN,b2n,g0,g1,gy,e2,e3,e1,e4]⟩
  obtain ⟨rfl,rfl,rfl⟩:=h4.bad
  obtain ⟨rfl,rfl⟩:=h5.bad
  refine mno ?_
  obtain ⟨N0,e1⟩:=e1
  try simp only [tk_tail] at *
  exact ⟨N0+1,by simp [P,F,must,andN,andR,S.name,okN,b2n,g0,g1,gy,e2,e1]⟩
 obtain ⟨rfl,rfl,rfl⟩:=h2.bad
 obtain ⟨rfl,rfl,rfl⟩:=h4.bad
 obtain ⟨rfl,rfl⟩:=h5.bad
 refine mno ?_
 obtain ⟨N0,e1⟩:=e1
 try simp only [tk_tail] at *
 exact ⟨N0+1,by simp [P,F,must,andN,andR,S.name,okN,b2n,g0,g1,gy,e1]⟩
theorem md_sta_num {ts:List Tok} {r1 r2 r4 r6 r7:List Tok} {β1 β2 β4 β6 β7:Bool} {t:Nd} {s:List UInt8} {kk kv:Int} {kx:List UInt8} {kq:List Nd} (g0:¬ hd (tk ts)=sSTRUCT) (g1:¬ hd (tk ts)=sEXTERN) (gy:hd (tk ts)=sSTATIC) (h1:Md (R .typ) t false ts.tail β1 r1) (h2:Na s β1 r1 β2 r2) (h3:¬ hd (tk r2)=sLP) (h4:Mu sEQ β2 r2 β4 r4) (h5:¬ Eat β4 r4 sMINUS) (h6:Md Num (.mk kk kx kv kq) β4 r4 β6 r6) (h7:Mu sSEMI β6 r6 β7 r7):Md (R .decl) (.mk 6 s 1 [t,.mk kk kx kv kq]) false ts β7 r7:=by
 rcases h1.good with ⟨rfl,l1,e1⟩|⟨rfl,e1⟩
 ·rcases h2.good with ⟨rfl,e2,rfl,rfl⟩|⟨rfl,e2,rfl,rfl⟩
  ·have e3:=h3
   rcases h4.good with ⟨rfl,e4,rfl⟩|⟨rfl,e4,rfl⟩
   ·have e5:¬ hd (tk r1.tail.tail)=sMINUS:=fun e=>h5 ⟨rfl,e⟩
    rcases h6.good with ⟨rfl,l6,(e6:number _=_)⟩|⟨rfl,(e6:number _=_)⟩
    ·rcases h7.good with ⟨rfl,e7,rfl⟩|⟨rfl,e7,rfl⟩
     ·refine mok ?_ ?_
      ·have qh_gy:=tail_lt' (s:=sSTATIC) (by decide) gy
       have q1:=l1
       have q2:=tail_lt' (nm_ne e2) rfl
       have q4:=tail_lt' (s:=sEQ) (by decide) e4
       have q6:=l6
       have q7:=tail_lt' (s:=sSEMI) (by decide) e7
       simp only [List.length_tail] at *
       omega
      obtain ⟨N0,e1⟩:=e1
      try simp only [tk_tail] at *
      exact ⟨N0+1,by simp [P,F,must,andN,andR,S.name,okN,b2n,g0,g1,gy,e2,e3,e4,e5,e6,e7,e1]⟩
     refine mno ?_
     obtain ⟨N0,e1⟩:=e1
     try simp only [tk_tail] at *
     exact ⟨N0+1,by simp [P,F,must,andN,andR,S.name,okN,b2n,g0,g1,gy,e2,e3,e4,e5,e6,e7,e1]⟩
    obtain ⟨rfl,rfl⟩:=h7.bad
    refine mno ?_
    obtain ⟨N0,e1⟩:=e1
    try simp only [tk_tail] at *
    exact ⟨N0+1,by simp [P,F,must,andN,andR,S.name,okN,b2n,g0,g1,gy,e2,e3,e4,e5,e6,e1]⟩
   obtain ⟨rfl,rfl⟩:=h6.bad
   obtain ⟨rfl,rfl⟩:=h7.bad
   refine mno ?_
   obtain ⟨N0,e1⟩:=e1
   try simp only [tk_tail] at *
   exact ⟨N0+1,by simp [P,F,must,andN,andR,S.name,okN,b2n,g0,g1,gy,e2,e3,e4,e1]⟩
  obtain ⟨rfl,rfl⟩:=h4.bad
  obtain ⟨rfl,rfl⟩:=h6.bad
  obtain ⟨rfl,rfl⟩:=h7.bad
  refine mno ?_
  obtain ⟨N0,e1⟩:=e1
  try simp only [tk_tail] at *
  exact ⟨N0+1,by simp [P,F,must,andN,andR,S.name,okN,b2n,g0,g1,gy,e2,e1]⟩
 obtain ⟨rfl,rfl,rfl⟩:=h2.bad
 obtain ⟨rfl,rfl⟩:=h4.bad
 obtain ⟨rfl,rfl⟩:=h6.bad
 obtain ⟨rfl,rfl⟩:=h7.bad
 refine mno ?_
 obtain ⟨N0,e1⟩:=e1
 try simp only [tk_tail] at *
 exact ⟨N0+1,by simp [P,F,must,andN,andR,S.name,okN,b2n,g0,g1,gy,e1]⟩
theorem md_sta_neg {ts:List Tok} {r1 r2 r4 r6 r8:List Tok} {β1 β2 β4 β6 β8:Bool} {t:Nd} {s:List UInt8} {kk kv kw:Int} {kx:List UInt8} {kq:List Nd} (g0:¬ hd (tk ts)=sSTRUCT) (g1:¬ hd (tk ts)=sEXTERN) (gy:hd (tk ts)=sSTATIC) (h1:Md (R .typ) t false ts.tail β1 r1) (h2:Na s β1 r1 β2 r2) (h3:¬ hd (tk r2)=sLP) (h4:Mu sEQ β2 r2 β4 r4) (h5:Eat β4 r4 sMINUS) (h6:Md Num (.mk kk kx kv kq) false r4.tail β6 r6) (h7:β6=false→kw=-kv) (h8:Mu sSEMI β6 r6 β8 r8):Md (R .decl) (.mk 6 s 1 [t,.mk kk kx kw kq]) false ts β8 r8:=by
 rcases h1.good with ⟨rfl,l1,e1⟩|⟨rfl,e1⟩
 ·rcases h2.good with ⟨rfl,e2,rfl,rfl⟩|⟨rfl,e2,rfl,rfl⟩
  ·have e3:=h3
   rcases h4.good with ⟨rfl,e4,rfl⟩|⟨rfl,e4,rfl⟩
   ·have e5:=h5.2
    rcases h6.good with ⟨rfl,l6,(e6:number _=_)⟩|⟨rfl,(e6:number _=_)⟩
    ·obtain rfl:=h7 rfl
     rcases h8.good with ⟨rfl,e8,rfl⟩|⟨rfl,e8,rfl⟩
     ·refine mok ?_ ?_
      ·have qh_gy:=tail_lt' (s:=sSTATIC) (by decide) gy
       have q1:=l1
       have q2:=tail_lt' (nm_ne e2) rfl
       have q4:=tail_lt' (s:=sEQ) (by decide) e4
       have q5:=tail_lt' (s:=sMINUS) (by decide) e5
       have q6:=l6
       have q8:=tail_lt' (s:=sSEMI) (by decide) e8
       simp only [List.length_tail] at *
       omega
      obtain ⟨N0,e1⟩:=e1
      try simp only [tk_tail] at *
      exact ⟨N0+1,by simp [P,F,must,andN,andR,S.name,okN,b2n,g0,g1,gy,e2,e3,e4,e5,e6,e8,e1]⟩
     refine mno ?_
     obtain ⟨N0,e1⟩:=e1
     try simp only [tk_tail] at *
     exact ⟨N0+1,by simp [P,F,must,andN,andR,S.name,okN,b2n,g0,g1,gy,e2,e3,e4,e5,e6,e8,e1]⟩
    obtain ⟨rfl,rfl⟩:=h8.bad
    refine mno ?_
    obtain ⟨N0,e1⟩:=e1
    try simp only [tk_tail] at *
    exact ⟨N0+1,by simp [P,F,must,andN,andR,S.name,okN,b2n,g0,g1,gy,e2,e3,e4,e5,e6,e1]⟩
   cases h5.1
  obtain ⟨rfl,rfl⟩:=h4.bad
  cases h5.1
 obtain ⟨rfl,rfl,rfl⟩:=h2.bad
 obtain ⟨rfl,rfl⟩:=h4.bad
 cases h5.1
theorem md_sta_no {ts:List Tok} {r1 r2:List Tok} {β1 β2:Bool} {t:Nd} {s:List UInt8} {nn:Nd}  (g0:¬ hd (tk ts)=sSTRUCT) (g1:¬ hd (tk ts)=sEXTERN) (gy:hd (tk ts)=sSTATIC) (h1:Md (R .typ) t false ts.tail β1 r1) (h2:Na s β1 r1 β2 r2) (hb:β2=true):Md (R .decl) nn false ts β2 r2:=by
 rcases h1.good with ⟨rfl,l1,e1⟩|⟨rfl,e1⟩
 ·rcases h2.good with ⟨rfl,e2,rfl,rfl⟩|⟨rfl,e2,rfl,rfl⟩
  ·cases hb
  refine mno ?_
  obtain ⟨N0,e1⟩:=e1
  try simp only [tk_tail] at *
  exact ⟨N0+1,by simp [P,F,must,andN,andR,S.name,okN,b2n,g0,g1,gy,e2,e1]⟩
 obtain ⟨rfl,rfl,rfl⟩:=h2.bad
 refine mno ?_
 obtain ⟨N0,e1⟩:=e1
 try simp only [tk_tail] at *
 exact ⟨N0+1,by simp [P,F,must,andN,andR,S.name,okN,b2n,g0,g1,gy,e1]⟩
theorem md_pla_fun {ts:List Tok} {r1 r2 r4 r5:List Tok} {β1 β2 β4 β5:Bool} {t:Nd} {s:List UInt8} {l:List Nd} {d:Bool} {b:Nd}  (g0:¬ hd (tk ts)=sSTRUCT) (g1:¬ hd (tk ts)=sEXTERN) (g2:¬ hd (tk ts)=sSTATIC) (h1:Md (R .typ) t false ts β1 r1) (h2:Na s β1 r1 β2 r2) (h3:hd (tk r2)=sLP) (h4:Mw (R (.rows 1)) l d β2 r2 β4 r4) (h5:Md (R .block) b β4 r4 β5 r5):Md (R .decl) (.mk 7 s (0+2*b2n d) (l++[t]++[b])) false ts β5 r5:=by
 rcases h1.good with ⟨rfl,l1,e1⟩|⟨rfl,e1⟩
 ·rcases h2.good with ⟨rfl,e2,rfl,rfl⟩|⟨rfl,e2,rfl,rfl⟩
  ·have e3:=h3
   rcases h4.good with ⟨rfl,l4,ll4,e4⟩|⟨rfl,e4⟩
   ·rcases h5.good with ⟨rfl,l5,e5⟩|⟨rfl,e5⟩
    ·refine mok ?_ ?_
     ·have q1:=l1
      have q2:=tail_lt' (nm_ne e2) rfl
      have q4:=l4
      have q5:=l5
      simp only [List.length_tail] at *
      omega
     obtain ⟨N0,e1,e4,e5⟩:=three e1 e4 e5
     try simp only [tk_tail] at *
     exact ⟨N0+1,by simp [P,F,must,andN,andR,S.name,okN,b2n,g0,g1,g2,e2,e3,e1,e4,e5]⟩
    refine mno ?_
    obtain ⟨N0,e1,e4,e5⟩:=three e1 e4 e5
    try simp only [tk_tail] at *
    exact ⟨N0+1,by simp [P,F,must,andN,andR,S.name,okN,b2n,g0,g1,g2,e2,e3,e1,e4,e5]⟩
   obtain ⟨rfl,rfl⟩:=h5.bad
   refine mno ?_
   obtain ⟨N0,e1,e4⟩:=both e1 e4
   try simp only [tk_tail] at *
   exact ⟨N0+1,by simp [P,F,must,andN,andR,S.name,okN,b2n,g0,g1,g2,e2,e3,e1,e4]⟩
  obtain ⟨rfl,rfl,rfl⟩:=h4.bad
  obtain ⟨rfl,rfl⟩:=h5.bad
  refine mno ?_
  obtain ⟨N0,e1⟩:=e1
  try simp only [tk_tail] at *
  exact ⟨N0+1,by simp [P,F,must,andN,andR,S.name,okN,b2n,g0,g1,g2,e2,e1]⟩
 obtain ⟨rfl,rfl,rfl⟩:=h2.bad
 obtain ⟨rfl,rfl,rfl⟩:=h4.bad
 obtain ⟨rfl,rfl⟩:=h5.bad
 refine mno ?_
 obtain ⟨N0,e1⟩:=e1
 try simp only [tk_tail] at *
 exact ⟨N0+1,by simp [P,F,must,andN,andR,S.name,okN,b2n,g0,g1,g2,e1]⟩
theorem md_pla_num {ts:List Tok} {r1 r2 r4 r6 r7:List Tok} {β1 β2 β4 β6 β7:Bool} {t:Nd} {s:List UInt8} {kk kv:Int} {kx:List UInt8} {kq:List Nd} (g0:¬ hd (tk ts)=sSTRUCT) (g1:¬ hd (tk ts)=sEXTERN) (g2:¬ hd (tk ts)=sSTATIC) (h1:Md (R .typ) t false ts β1 r1) (h2:Na s β1 r1 β2 r2) (h3:¬ hd (tk r2)=sLP) (h4:Mu sEQ β2 r2 β4 r4) (h5:¬ Eat β4 r4 sMINUS) (h6:Md Num (.mk kk kx kv kq) β4 r4 β6 r6) (h7:Mu sSEMI β6 r6 β7 r7):Md (R .decl) (.mk 6 s 0 [t,.mk kk kx kv kq]) false ts β7 r7:=by
 rcases h1.good with ⟨rfl,l1,e1⟩|⟨rfl,e1⟩
 ·rcases h2.good with ⟨rfl,e2,rfl,rfl⟩|⟨rfl,e2,rfl,rfl⟩
  ·have e3:=h3
   rcases h4.good with ⟨rfl,e4,rfl⟩|⟨rfl,e4,rfl⟩
   ·have e5:¬ hd (tk r1.tail.tail)=sMINUS:=fun e=>h5 ⟨rfl,e⟩
    rcases h6.good with ⟨rfl,l6,(e6:number _=_)⟩|⟨rfl,(e6:number _=_)⟩
    ·rcases h7.good with ⟨rfl,e7,rfl⟩|⟨rfl,e7,rfl⟩
     ·refine mok ?_ ?_
      ·have q1:=l1
       have q2:=tail_lt' (nm_ne e2) rfl
       have q4:=tail_lt' (s:=sEQ) (by decide) e4
       have q6:=l6
       have q7:=tail_lt' (s:=sSEMI) (by decide) e7
       simp only [List.length_tail] at *
       omega
      obtain ⟨N0,e1⟩:=e1
      try simp only [tk_tail] at *
      exact ⟨N0+1,by simp [P,F,must,andN,andR,S.name,okN,b2n,g0,g1,g2,e2,e3,e4,e5,e6,e7,e1]⟩
     refine mno ?_
     obtain ⟨N0,e1⟩:=e1
     try simp only [tk_tail] at *
     exact ⟨N0+1,by simp [P,F,must,andN,andR,S.name,okN,b2n,g0,g1,g2,e2,e3,e4,e5,e6,e7,e1]⟩
    obtain ⟨rfl,rfl⟩:=h7.bad
    refine mno ?_
    obtain ⟨N0,e1⟩:=e1
    try simp only [tk_tail] at *
    exact ⟨N0+1,by simp [P,F,must,andN,andR,S.name,okN,b2n,g0,g1,g2,e2,e3,e4,e5,e6,e1]⟩
   obtain ⟨rfl,rfl⟩:=h6.bad
   obtain ⟨rfl,rfl⟩:=h7.bad
   refine mno ?_
   obtain ⟨N0,e1⟩:=e1
   try simp only [tk_tail] at *
   exact ⟨N0+1,by simp [P,F,must,andN,andR,S.name,okN,b2n,g0,g1,g2,e2,e3,e4,e1]⟩
  obtain ⟨rfl,rfl⟩:=h4.bad
  obtain ⟨rfl,rfl⟩:=h6.bad
  obtain ⟨rfl,rfl⟩:=h7.bad
  refine mno ?_
  obtain ⟨N0,e1⟩:=e1
  try simp only [tk_tail] at *
  exact ⟨N0+1,by simp [P,F,must,andN,andR,S.name,okN,b2n,g0,g1,g2,e2,e1]⟩
 obtain ⟨rfl,rfl,rfl⟩:=h2.bad
 obtain ⟨rfl,rfl⟩:=h4.bad
 obtain ⟨rfl,rfl⟩:=h6.bad
 obtain ⟨rfl,rfl⟩:=h7.bad
 refine mno ?_
 obtain ⟨N0,e1⟩:=e1
 try simp only [tk_tail] at *
 exact ⟨N0+1,by simp [P,F,must,andN,andR,S.name,okN,b2n,g0,g1,g2,e1]⟩
theorem md_pla_neg {ts:List Tok} {r1 r2 r4 r6 r8:List Tok} {β1 β2 β4 β6 β8:Bool} {t:Nd} {s:List UInt8} {kk kv kw:Int} {kx:List UInt8} {kq:List Nd} (g0:¬ hd (tk ts)=sSTRUCT) (g1:¬ hd (tk ts)=sEXTERN) (g2:¬ hd (tk ts)=sSTATIC) (h1:Md (R .typ) t false ts β1 r1) (h2:Na s β1 r1 β2 r2) (h3:¬ hd (tk r2)=sLP) (h4:Mu sEQ β2 r2 β4 r4) (h5:Eat β4 r4 sMINUS) (h6:Md Num (.mk kk kx kv kq) false r4.tail β6 r6) (h7:β6=false→kw=-kv) (h8:Mu sSEMI β6 r6 β8 r8):Md (R .decl) (.mk 6 s 0 [t,.mk kk kx kw kq]) false ts β8 r8:=by
 rcases h1.good with ⟨rfl,l1,e1⟩|⟨rfl,e1⟩
 ·rcases h2.good with ⟨rfl,e2,rfl,rfl⟩|⟨rfl,e2,rfl,rfl⟩
  ·have e3:=h3
   rcases h4.good with ⟨rfl,e4,rfl⟩|⟨rfl,e4,rfl⟩
   ·have e5:=h5.2
    rcases h6.good with ⟨rfl,l6,(e6:number _=_)⟩|⟨rfl,(e6:number _=_)⟩
    ·obtain rfl:=h7 rfl
     rcases h8.good with ⟨rfl,e8,rfl⟩|⟨rfl,e8,rfl⟩
     ·refine mok ?_ ?_
      ·have q1:=l1
       have q2:=tail_lt' (nm_ne e2) rfl
       have q4:=tail_lt' (s:=sEQ) (by decide) e4
       have q5:=tail_lt' (s:=sMINUS) (by decide) e5
       have q6:=l6
       have q8:=tail_lt' (s:=sSEMI) (by decide) e8
       simp only [List.length_tail] at *
       omega
      obtain ⟨N0,e1⟩:=e1
      try simp only [tk_tail] at *
      exact ⟨N0+1,by simp [P,F,must,andN,andR,S.name,okN,b2n,g0,g1,g2,e2,e3,e4,e5,e6,e8,e1]⟩
     refine mno ?_
     obtain ⟨N0,e1⟩:=e1
     try simp only [tk_tail] at *
     exact ⟨N0+1,by simp [P,F,must,andN,andR,S.name,okN,b2n,g0,g1,g2,e2,e3,e4,e5,e6,e8,e1]⟩
    obtain ⟨rfl,rfl⟩:=h8.bad
    refine mno ?_
    obtain ⟨N0,e1⟩:=e1
    try simp only [tk_tail] at *
    exact ⟨N0+1,by simp [P,F,must,andN,andR,S.name,okN,b2n,g0,g1,g2,e2,e3,e4,e5,e6,e1]⟩
   cases h5.1
  obtain ⟨rfl,rfl⟩:=h4.bad
  cases h5.1
 obtain ⟨rfl,rfl,rfl⟩:=h2.bad
 obtain ⟨rfl,rfl⟩:=h4.bad
 cases h5.1
theorem md_pla_no {ts:List Tok} {r1 r2:List Tok} {β1 β2:Bool} {t:Nd} {s:List UInt8} {nn:Nd}  (g0:¬ hd (tk ts)=sSTRUCT) (g1:¬ hd (tk ts)=sEXTERN) (g2:¬ hd (tk ts)=sSTATIC) (h1:Md (R .typ) t false ts β1 r1) (h2:Na s β1 r1 β2 r2) (hb:β2=true):Md (R .decl) nn false ts β2 r2:=by
 rcases h1.good with ⟨rfl,l1,e1⟩|⟨rfl,e1⟩
 ·rcases h2.good with ⟨rfl,e2,rfl,rfl⟩|⟨rfl,e2,rfl,rfl⟩
  ·cases hb
  refine mno ?_
  obtain ⟨N0,e1⟩:=e1
  try simp only [tk_tail] at *
  exact ⟨N0+1,by simp [P,F,must,andN,andR,S.name,okN,b2n,g0,g1,g2,e2,e1]⟩
 obtain ⟨rfl,rfl,rfl⟩:=h2.bad
 refine mno ?_
 obtain ⟨N0,e1⟩:=e1
 try simp only [tk_tail] at *
 exact ⟨N0+1,by simp [P,F,must,andN,andR,S.name,okN,b2n,g0,g1,g2,e1]⟩
theorem nd_form {A:Nat→Prop} {n:Nd} {k0 v0:Int} {t0:ByteArray} {z:Value} (h:NdV w A n (.agg #[.int .i64 k0,.string t0,.int .i64 v0,z])):∃ t l,n=.mk k0 t v0 l∧∀ v',NdV w A (.mk k0 t v' l) (.agg #[.int .i64 k0,.string t0,.int .i64 v',z]):=by
 generalize hv:(Value.agg #[.int .i64 k0,.string t0,.int .i64 v0,z])=v at h
 cases h with
 | leaf k t v ka kc hk=>
  have e:=congrArg Array.toList (Value.agg.inj hv)
  simp at e
  obtain ⟨rfl,rfl,rfl,rfl⟩:=e
  exact ⟨_,_,rfl,fun v'=>NdV.leaf _ _ _ _ _ hk⟩
 | full k t v kids g kc c hne h1 h2 hA hc hs=>
  have e:=congrArg Array.toList (Value.agg.inj hv)
  simp at e
  obtain ⟨rfl,rfl,rfl,rfl⟩:=e
  exact ⟨_,_,rfl,fun v'=>NdV.full _ _ _ _ _ _ _ hne h1 h2 hA hc hs⟩
theorem app_b0 {w0:World} {ops:Array Oper} {rest:List Oper} {o:Oper} {a:Act} {Q:Exit→Act→World→Prop} (p q:Operand) (hgd:o.guard=none)
  (ho:o.op=.call { callee:=.builtin .append,args:=#[p,q],argTypes:=#[22,22] }) {L:List Bk} {B s0 s1:Nat} {k t n s v:Value} {l:List Nd} {x:Nd}
  (HW:Wr w0 w b g K β ts ((B,#[k,t,n,s],24)::L)) (HM:RowN w (Av s0 ((B,#[k,t,n,s],24)::L)) v l) (HN:NdV w (fun j=>Av s1 ((B,#[k,t,n,s],24)::L) j∧j<s0) x (.agg #[k,t,n,s])) (hz:w0.heap.size≤s0) (hz1:w0.heap.size≤s1) (hn:l.length≤16000) (h1:k.oneCell'=true∧t.oneCell'=true∧n.oneCell'=true∧s.oneCell'=true)
  (hs:a.eval p=v) (hx:a.eval q=.slice (some ⟨B,0,none⟩) 1 1)
  (h:∀ gg cap w',Wr w0 w' b g K β ts L→RowN w' (Av w0.heap.size L) (.slice (some ⟨gg,0,none⟩) (l.length+1) cap) (l++[x])→w.grownBy w' v.ownBlock→wpList Tryz.prog ops Q rest (a.put o.dst (.slice (some ⟨gg,0,none⟩) (l.length+1) cap)) w'):
  wpList Tryz.prog ops Q (o::rest) a w:=by
 refine list_nd p q hgd ho (Av w0.heap.size ((B,#[k,t,n,s],24)::L)) (Av w0.heap.size ((B,#[k,t,n,s],24)::L)) v l hs (HM.less hz) B x k t n s hx (HW.blk (B,#[k,t,n,s],24) (by simp)).2 h1 (HN.mono (fun j hj _=>⟨⟨Nat.le_trans hz1 hj.1.1,hj.1.2⟩,fun e=>by have:=(HM.own j e.symm).1;have:=hj.2;omega⟩)) hn (fun _ h=>h) ⟨HW.grown.size,fun y hy=>by have:=HW.lt y hy;omega⟩ ?_
 intro gg cap w' hR hG hat hlt
 exact h gg cap w' ((HW.rowed hG (Nat.le_refl _) (fun j hj=>(HM.less hz).own j hj)).drop [] L) ((Mv.drop [] L w').row hR) hG
def FI (T:List Tk) (s:List UInt8) (acc:List Nd) (β:Bool) (r:List Tok):Prop:=(β=true∧R .decl T (.no (tk r)))∨(β=false∧∀ q,R (.fieldsL s acc) (tk r) q→R .decl T q)
theorem fi_start {x:List UInt8} {β1 β2:Bool} {r1 r2:List Tok} (g:hd (tk ts)=sSTRUCT) (h1:Na x false ts.tail β1 r1) (h2:Mu sLB β1 r1 β2 r2):FI (tk ts) x [] β2 r2:=by
 rcases h1.good with ⟨rfl,e1,rfl,rfl⟩|⟨rfl,e1,rfl,rfl⟩
 ·rcases h2.good with ⟨rfl,e2,rfl⟩|⟨rfl,e2,rfl⟩
  ·refine Or.inr ⟨rfl,fun q k=>?_⟩
   obtain ⟨m,k⟩:=k
   simp only [tk_tail] at *
   exact ⟨m+1,by simp [P,F,g,S.name,e1,must,e2,k]⟩
  simp only [tk_tail] at e1 e2
  exact Or.inl ⟨rfl,1,by simp [P,F,g,S.name,e1,must,e2,tk_tail]⟩
 obtain ⟨rfl,rfl⟩:=h2.bad
 simp only [tk_tail] at e1
 exact Or.inl ⟨rfl,1,by simp [P,F,g,S.name,e1,tk_tail]⟩
theorem fi_all {T:List Tk} {s x:List UInt8} {acc:List Nd} {t:Nd} {r r1 r2 r3:List Tok} {β1 β2 β3:Bool} (J:∀ q,R (.fieldsL s acc) (tk r) q→R .decl T q) (h1:Md (R .typ) t false r β1 r1) (h2:Na x β1 r1 β2 r2) (h3:Mu sSEMI β2 r2 β3 r3):
  (β3=true∧R .decl T (.no (tk r3)))∨(β3=false∧r3.length<r.length∧(hd (tk r3)=sRB→R .decl T (.ok (.nd (.mk 2 s 0 (acc++[.mk 3 x 0 [t]]))) (tk r3.tail)))∧(¬ hd (tk r3)=sRB→∀ q,R (.fieldsL s (acc++[.mk 3 x 0 [t]])) (tk r3) q→R .decl T q)):=by
 rcases h1.good with ⟨rfl,l1,e1⟩|⟨rfl,e1⟩
 ·rcases h2.good with ⟨rfl,e2,rfl,rfl⟩|⟨rfl,e2,rfl,rfl⟩
  ·rcases h3.good with ⟨rfl,e3,rfl⟩|⟨rfl,e3,rfl⟩
   ·refine Or.inr ⟨rfl,?_,fun e4=>J _ ?_,fun e4 q k=>J _ ?_⟩
    ·have:=(List.tail_suffix r1).length_le
     have:=(List.tail_suffix r1.tail).length_le
     omega
    ·obtain ⟨m,e1⟩:=e1
     simp only [tk_tail] at *
     exact ⟨m+1,by simp [P,F,andN,e1,S.name,e2,must,e3,e4,okN]⟩
    obtain ⟨m,e1,k⟩:=both e1 k
    simp only [tk_tail] at *
    exact ⟨m+1,by simp [P,F,andN,e1,S.name,e2,must,e3,e4,k]⟩
   obtain ⟨m,e1⟩:=e1
   simp only [tk_tail] at e3
   exact Or.inl ⟨rfl,J _ ⟨m+1,by simp [P,F,andN,e1,S.name,e2,must,e3,tk_tail]⟩⟩
  obtain ⟨rfl,rfl⟩:=h3.bad
  obtain ⟨m,e1⟩:=e1
  exact Or.inl ⟨rfl,J _ ⟨m+1,by simp [P,F,andN,e1,S.name,e2]⟩⟩
 obtain ⟨rfl,rfl,rfl⟩:=h2.bad
 obtain ⟨rfl,rfl⟩:=h3.bad
 obtain ⟨m,e1⟩:=e1
 exact Or.inl ⟨rfl,J _ ⟨m+1,by simp [P,F,andN,e1]⟩⟩
def FA (T:List Tk) (s x:List UInt8) (acc:List Nd) (t:Nd) (r:List Tok) (β3:Bool) (r3:List Tok):Prop:=(β3=true∧R .decl T (.no (tk r3)))∨(β3=false∧r3.length<r.length∧(hd (tk r3)=sRB→R .decl T (.ok (.nd (.mk 2 s 0 (acc++[.mk 3 x 0 [t]]))) (tk r3.tail)))∧(¬ hd (tk r3)=sRB→∀ q,R (.fieldsL s (acc++[.mk 3 x 0 [t]])) (tk r3) q→R .decl T q))
theorem fa_no {T:List Tk} {s x:List UInt8} {acc:List Nd} {t:Nd} {r r3:List Tok} {β3:Bool} (h:FA T s x acc t r β3 r3) (h4:¬ Eat β3 r3 sRB):FI T s (acc++[.mk 3 x 0 [t]]) β3 r3:=by
 rcases h with ⟨rfl,h⟩|⟨rfl,_,_,h⟩
 ·exact Or.inl ⟨rfl,h⟩
 exact Or.inr ⟨rfl,h (fun e=>h4 ⟨rfl,e⟩)⟩
theorem fa_yes {s x:List UInt8} {acc:List Nd} {t:Nd} {r r3:List Tok} {β3:Bool} (h:FA (tk ts) s x acc t r β3 r3) (h4:Eat β3 r3 sRB) (hl:Pg false r ts):Md (R .decl) (.mk 2 s 0 (acc++[.mk 3 x 0 [t]])) false ts false r3.tail:=by
 obtain ⟨rfl,e⟩:=h4
 rcases h with ⟨h,_⟩|⟨_,h1,h2,_⟩
 ·cases h
 have:=hl rfl
 have:=(List.tail_suffix r3).length_le
 exact Or.inr (Or.inl ⟨rfl,rfl,by omega,h2 e⟩)
theorem fa_prog {T:List Tk} {s x:List UInt8} {acc:List Nd} {t:Nd} {r r3:List Tok} {β3:Bool} (h:FA T s x acc t r β3 r3) (e:β3=false):r3.length<r.length:=by
 rcases h with ⟨h,_⟩|⟨_,h,_⟩
 ·rw [e] at h;cases h
 exact h
theorem fa_li {T:List Tk} {s x:List UInt8} {acc:List Nd} {t:Nd} {r r3:List Tok} {β3:Bool} (h:FA T s x acc t r β3 r3) (hl:LI ts acc.length false r):LI ts (acc++[Nd.mk 3 x 0 [t]]).length β3 r3:=by
 have a:=hl.1 rfl
 rw [List.length_append,List.length_singleton]
 exact ⟨fun e=>by have:=fa_prog h e;omega,by omega⟩
theorem li_two {x:List UInt8} {β1 β2:Bool} {r1 r2:List Tok} (g:hd (tk ts)=sSTRUCT) (h1:Na x false ts.tail β1 r1) (h2:Mu sLB β1 r1 β2 r2):LI ts 0 β2 r2:=by
 have q:=tail_lt' (s:=sSTRUCT) (by decide) g
 have q1:=h1.suf.length_le
 have q2:=h2.suf.length_le
 exact ⟨fun _=>by omega,Nat.zero_le _⟩
theorem num_neg {n:Nd} {k0 v0:Int} {t:List UInt8} {l:List Nd} {β β':Bool} {r:List Tok} (hF:Fits ts) (h:Md Num (.mk k0 t v0 l) β ts β' r) (e:β'=false):IntKind.i64.wrap (-v0)=-v0:=by
 rcases h with ⟨_,h,_⟩|⟨_,_,_,h⟩|⟨_,h,_⟩
 ·rw [e] at h;cases h
 ·have h':number (tk ts)=some (.ok (.nd (.mk k0 t v0 l)) (tk r)):=h
  have ht:t=[]∧l=[]:=by
   cases hts:tk ts with
   | nil=>rw [hts] at h';cases h'
   | cons a q=>
    rw [hts] at h'
    simp only [number] at h'
    split at h'
    ·injection h' with h';injection h' with h' _;injection h' with h';injection h' with _ h1 _ h2;exact ⟨h1.symm,h2.symm⟩
    split at h'
    ·injection h' with h';injection h' with h' _;injection h' with h';injection h' with _ h1 _ h2;exact ⟨h1.symm,h2.symm⟩
    cases h'
  obtain ⟨rfl,rfl⟩:=ht
  have:=number_bound hF h'
  rw [IntKind.wrap_i64]
  omega
 rw [e] at h;cases h
end Go.Proofs.YthcfianhdkolhaaGreatDoor.Y.Z
