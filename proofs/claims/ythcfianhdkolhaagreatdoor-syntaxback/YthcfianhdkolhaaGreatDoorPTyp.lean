/- Kn PTyp -/
import Derived.Test.YthcfianhdkolhaaGreatDoorParts
import Derived.Test.YthcfianhdkolhaaGreatDoorShelf
namespace Go.Proofs.YthcfianhdkolhaaGreatDoor.T
open Go.RowKit Go.Proofs.YthcfianhdkolhaaGreatDoor.S
set_option linter.unusedVariables false
set_option linter.unusedSimpArgs false
theorem kn_iff {k:Int} {t:List UInt8} {v:Int} {n:Nat}:knB k t v n=true ↔ (1≤k∧k≤34)∧txtB (shp k.toNat).1 t=true∧0≤v∧v≤(shp k.toNat).2.1∧(shp k.toNat).2.2.1≤n∧(n:Int)≤(shp k.toNat).2.2.2:=by
 unfold knB
 simp only [Bool.and_eq_true,decide_eq_true_eq,and_assoc]
theorem loc_kn {k:Int} {t:List UInt8} {v:Int} {kids:List Nd} (hn:kids.length≤700) (hv:v≤9223372036854775807):locN k t v kids false=true ↔ knB k t v kids.length=true∧(k=32→opSign v≠[])∧(k=15→baseN false (kid0 kids)=23)∧(k=20→(kid0 kids).kind=25∧baseN true (kid0 kids)=23):=by
 by_cases hk:1≤k∧k≤34
 ·have hc:k=1∨k=2∨k=3∨k=4∨k=5∨k=6∨k=7∨k=8∨k=9∨k=10∨k=11∨k=12∨k=13∨k=14∨k=15∨k=16∨k=17∨k=18∨k=19∨k=20∨k=21∨k=22∨k=23∨k=24∨k=25∨k=26∨k=27∨k=28∨k=29∨k=30∨k=31∨k=32∨k=33∨k=34:=by omega
  rcases hc with rfl|rfl|rfl|rfl|rfl|rfl|rfl|rfl|rfl|rfl|rfl|rfl|rfl|rfl|rfl|rfl|rfl|rfl|rfl|rfl|rfl|rfl|rfl|rfl|rfl|rfl|rfl|rfl|rfl|rfl|rfl|rfl|rfl|rfl
  ·rw [loc_iff (t:=false) (mx:=0) (least:=0) (most:=-1) (by rfl),kn_iff,abs_f,show shp (Int.toNat 1)=(false,0,0,700) from rfl]
   constructor
   ·rintro ⟨⟨c1,c2⟩,tx,⟨n1,n2,n3⟩,r⟩
    exact ⟨⟨by decide,tx,n1,by first|exact n2 (by decide)|exact n3 rfl|exact hv,c1,by first|exact c2 (by decide)|(show (kids.length:Int)≤700;omega)⟩,r⟩
   ·rintro ⟨⟨-,tx,n1,n2,c1,c2⟩,r⟩
    exact ⟨⟨c1,fun _=>by first|exact c2|omega⟩,tx,⟨n1,fun _=>by first|exact n2|omega,fun _=>by first|exact n2|omega⟩,r⟩
  ·rw [loc_iff (t:=true) (mx:=0) (least:=1) (most:=-1) (by rfl),kn_iff,abs_f,show shp (Int.toNat 2)=(true,0,1,700) from rfl]
   constructor
   ·rintro ⟨⟨c1,c2⟩,tx,⟨n1,n2,n3⟩,r⟩
    exact ⟨⟨by decide,tx,n1,by first|exact n2 (by decide)|exact n3 rfl|exact hv,c1,by first|exact c2 (by decide)|(show (kids.length:Int)≤700;omega)⟩,r⟩
   ·rintro ⟨⟨-,tx,n1,n2,c1,c2⟩,r⟩
    exact ⟨⟨c1,fun _=>by first|exact c2|omega⟩,tx,⟨n1,fun _=>by first|exact n2|omega,fun _=>by first|exact n2|omega⟩,r⟩
  ·rw [loc_iff (t:=true) (mx:=0) (least:=1) (most:=1) (by rfl),kn_iff,abs_f,show shp (Int.toNat 3)=(true,0,1,1) from rfl]
   constructor
   ·rintro ⟨⟨c1,c2⟩,tx,⟨n1,n2,n3⟩,r⟩
    exact ⟨⟨by decide,tx,n1,by first|exact n2 (by decide)|exact n3 rfl|exact hv,c1,by first|exact c2 (by decide)|(show (kids.length:Int)≤700;omega)⟩,r⟩
   ·rintro ⟨⟨-,tx,n1,n2,c1,c2⟩,r⟩
    exact ⟨⟨c1,fun _=>by first|exact c2|omega⟩,tx,⟨n1,fun _=>by first|exact n2|omega,fun _=>by first|exact n2|omega⟩,r⟩
  ·rw [loc_iff (t:=true) (mx:=1) (least:=1) (most:=-1) (by rfl),kn_iff,abs_f,show shp (Int.toNat 4)=(true,1,1,700) from rfl]
   constructor
   ·rintro ⟨⟨c1,c2⟩,tx,⟨n1,n2,n3⟩,r⟩
    exact ⟨⟨by decide,tx,n1,by first|exact n2 (by decide)|exact n3 rfl|exact hv,c1,by first|exact c2 (by decide)|(show (kids.length:Int)≤700;omega)⟩,r⟩
   ·rintro ⟨⟨-,tx,n1,n2,c1,c2⟩,r⟩
    exact ⟨⟨c1,fun _=>by first|exact c2|omega⟩,tx,⟨n1,fun _=>by first|exact n2|omega,fun _=>by first|exact n2|omega⟩,r⟩
  ·rw [loc_iff (t:=true) (mx:=0) (least:=1) (most:=1) (by rfl),kn_iff,abs_f,show shp (Int.toNat 5)=(true,0,1,1) from rfl]
   constructor
   ·rintro ⟨⟨c1,c2⟩,tx,⟨n1,n2,n3⟩,r⟩
    exact ⟨⟨by decide,tx,n1,by first|exact n2 (by decide)|exact n3 rfl|exact hv,c1,by first|exact c2 (by decide)|(show (kids.length:Int)≤700;omega)⟩,r⟩
   ·rintro ⟨⟨-,tx,n1,n2,c1,c2⟩,r⟩
    exact ⟨⟨c1,fun _=>by first|exact c2|omega⟩,tx,⟨n1,fun _=>by first|exact n2|omega,fun _=>by first|exact n2|omega⟩,r⟩
  ·rw [loc_iff (t:=true) (mx:=1) (least:=2) (most:=2) (by rfl),kn_iff,abs_f,show shp (Int.toNat 6)=(true,1,2,2) from rfl]
   constructor
   ·rintro ⟨⟨c1,c2⟩,tx,⟨n1,n2,n3⟩,r⟩
    exact ⟨⟨by decide,tx,n1,by first|exact n2 (by decide)|exact n3 rfl|exact hv,c1,by first|exact c2 (by decide)|(show (kids.length:Int)≤700;omega)⟩,r⟩
   ·rintro ⟨⟨-,tx,n1,n2,c1,c2⟩,r⟩
    exact ⟨⟨c1,fun _=>by first|exact c2|omega⟩,tx,⟨n1,fun _=>by first|exact n2|omega,fun _=>by first|exact n2|omega⟩,r⟩
  ·rw [loc_iff (t:=true) (mx:=3) (least:=2) (most:=-1) (by rfl),kn_iff,abs_f,show shp (Int.toNat 7)=(true,3,2,700) from rfl]
   constructor
   ·rintro ⟨⟨c1,c2⟩,tx,⟨n1,n2,n3⟩,r⟩
    exact ⟨⟨by decide,tx,n1,by first|exact n2 (by decide)|exact n3 rfl|exact hv,c1,by first|exact c2 (by decide)|(show (kids.length:Int)≤700;omega)⟩,r⟩
   ·rintro ⟨⟨-,tx,n1,n2,c1,c2⟩,r⟩
    exact ⟨⟨c1,fun _=>by first|exact c2|omega⟩,tx,⟨n1,fun _=>by first|exact n2|omega,fun _=>by first|exact n2|omega⟩,r⟩
  ·rw [loc_iff (t:=true) (mx:=0) (least:=1) (most:=1) (by rfl),kn_iff,abs_f,show shp (Int.toNat 8)=(true,0,1,1) from rfl]
   constructor
   ·rintro ⟨⟨c1,c2⟩,tx,⟨n1,n2,n3⟩,r⟩
    exact ⟨⟨by decide,tx,n1,by first|exact n2 (by decide)|exact n3 rfl|exact hv,c1,by first|exact c2 (by decide)|(show (kids.length:Int)≤700;omega)⟩,r⟩
   ·rintro ⟨⟨-,tx,n1,n2,c1,c2⟩,r⟩
    exact ⟨⟨c1,fun _=>by first|exact c2|omega⟩,tx,⟨n1,fun _=>by first|exact n2|omega,fun _=>by first|exact n2|omega⟩,r⟩
  ·rw [loc_iff (t:=false) (mx:=0) (least:=0) (most:=0) (by rfl),kn_iff,abs_f,show shp (Int.toNat 9)=(false,0,0,0) from rfl]
   constructor
   ·rintro ⟨⟨c1,c2⟩,tx,⟨n1,n2,n3⟩,r⟩
    exact ⟨⟨by decide,tx,n1,by first|exact n2 (by decide)|exact n3 rfl|exact hv,c1,by first|exact c2 (by decide)|(show (kids.length:Int)≤700;omega)⟩,r⟩
   ·rintro ⟨⟨-,tx,n1,n2,c1,c2⟩,r⟩
    exact ⟨⟨c1,fun _=>by first|exact c2|omega⟩,tx,⟨n1,fun _=>by first|exact n2|omega,fun _=>by first|exact n2|omega⟩,r⟩
  ·rw [loc_iff (t:=false) (mx:=0) (least:=0) (most:=0) (by rfl),kn_iff,abs_f,show shp (Int.toNat 10)=(false,0,0,0) from rfl]
   constructor
   ·rintro ⟨⟨c1,c2⟩,tx,⟨n1,n2,n3⟩,r⟩
    exact ⟨⟨by decide,tx,n1,by first|exact n2 (by decide)|exact n3 rfl|exact hv,c1,by first|exact c2 (by decide)|(show (kids.length:Int)≤700;omega)⟩,r⟩
   ·rintro ⟨⟨-,tx,n1,n2,c1,c2⟩,r⟩
    exact ⟨⟨c1,fun _=>by first|exact c2|omega⟩,tx,⟨n1,fun _=>by first|exact n2|omega,fun _=>by first|exact n2|omega⟩,r⟩
  ·rw [loc_iff (t:=true) (mx:=0) (least:=0) (most:=0) (by rfl),kn_iff,abs_f,show shp (Int.toNat 11)=(true,0,0,0) from rfl]
   constructor
   ·rintro ⟨⟨c1,c2⟩,tx,⟨n1,n2,n3⟩,r⟩
    exact ⟨⟨by decide,tx,n1,by first|exact n2 (by decide)|exact n3 rfl|exact hv,c1,by first|exact c2 (by decide)|(show (kids.length:Int)≤700;omega)⟩,r⟩
   ·rintro ⟨⟨-,tx,n1,n2,c1,c2⟩,r⟩
    exact ⟨⟨c1,fun _=>by first|exact c2|omega⟩,tx,⟨n1,fun _=>by first|exact n2|omega,fun _=>by first|exact n2|omega⟩,r⟩
  ·rw [loc_iff (t:=false) (mx:=1) (least:=1) (most:=-1) (by rfl),kn_iff,abs_f,show shp (Int.toNat 12)=(false,1,1,700) from rfl]
   constructor
   ·rintro ⟨⟨c1,c2⟩,tx,⟨n1,n2,n3⟩,r⟩
    exact ⟨⟨by decide,tx,n1,by first|exact n2 (by decide)|exact n3 rfl|exact hv,c1,by first|exact c2 (by decide)|(show (kids.length:Int)≤700;omega)⟩,r⟩
   ·rintro ⟨⟨-,tx,n1,n2,c1,c2⟩,r⟩
    exact ⟨⟨c1,fun _=>by first|exact c2|omega⟩,tx,⟨n1,fun _=>by first|exact n2|omega,fun _=>by first|exact n2|omega⟩,r⟩
  ·rw [loc_iff (t:=false) (mx:=0) (least:=0) (most:=-1) (by rfl),kn_iff,abs_f,show shp (Int.toNat 13)=(false,0,0,700) from rfl]
   constructor
   ·rintro ⟨⟨c1,c2⟩,tx,⟨n1,n2,n3⟩,r⟩
    exact ⟨⟨by decide,tx,n1,by first|exact n2 (by decide)|exact n3 rfl|exact hv,c1,by first|exact c2 (by decide)|(show (kids.length:Int)≤700;omega)⟩,r⟩
   ·rintro ⟨⟨-,tx,n1,n2,c1,c2⟩,r⟩
    exact ⟨⟨c1,fun _=>by first|exact c2|omega⟩,tx,⟨n1,fun _=>by first|exact n2|omega,fun _=>by first|exact n2|omega⟩,r⟩
  ·rw [loc_iff (t:=true) (mx:=0) (least:=2) (most:=2) (by rfl),kn_iff,abs_f,show shp (Int.toNat 14)=(true,0,2,2) from rfl]
   constructor
   ·rintro ⟨⟨c1,c2⟩,tx,⟨n1,n2,n3⟩,r⟩
    exact ⟨⟨by decide,tx,n1,by first|exact n2 (by decide)|exact n3 rfl|exact hv,c1,by first|exact c2 (by decide)|(show (kids.length:Int)≤700;omega)⟩,r⟩
   ·rintro ⟨⟨-,tx,n1,n2,c1,c2⟩,r⟩
    exact ⟨⟨c1,fun _=>by first|exact c2|omega⟩,tx,⟨n1,fun _=>by first|exact n2|omega,fun _=>by first|exact n2|omega⟩,r⟩
  ·rw [loc_iff (t:=false) (mx:=0) (least:=2) (most:=2) (by rfl),kn_iff,abs_f,show shp (Int.toNat 15)=(false,0,2,2) from rfl]
   constructor
   ·rintro ⟨⟨c1,c2⟩,tx,⟨n1,n2,n3⟩,r⟩
    exact ⟨⟨by decide,tx,n1,by first|exact n2 (by decide)|exact n3 rfl|exact hv,c1,by first|exact c2 (by decide)|(show (kids.length:Int)≤700;omega)⟩,r⟩
   ·rintro ⟨⟨-,tx,n1,n2,c1,c2⟩,r⟩
    exact ⟨⟨c1,fun _=>by first|exact c2|omega⟩,tx,⟨n1,fun _=>by first|exact n2|omega,fun _=>by first|exact n2|omega⟩,r⟩
  ·rw [loc_iff (t:=false) (mx:=0) (least:=2) (most:=3) (by rfl),kn_iff,abs_f,show shp (Int.toNat 16)=(false,0,2,3) from rfl]
   constructor
   ·rintro ⟨⟨c1,c2⟩,tx,⟨n1,n2,n3⟩,r⟩
    exact ⟨⟨by decide,tx,n1,by first|exact n2 (by decide)|exact n3 rfl|exact hv,c1,by first|exact c2 (by decide)|(show (kids.length:Int)≤700;omega)⟩,r⟩
   ·rintro ⟨⟨-,tx,n1,n2,c1,c2⟩,r⟩
    exact ⟨⟨c1,fun _=>by first|exact c2|omega⟩,tx,⟨n1,fun _=>by first|exact n2|omega,fun _=>by first|exact n2|omega⟩,r⟩
  ·rw [loc_iff (t:=false) (mx:=0) (least:=2) (most:=2) (by rfl),kn_iff,abs_f,show shp (Int.toNat 17)=(false,0,2,2) from rfl]
   constructor
   ·rintro ⟨⟨c1,c2⟩,tx,⟨n1,n2,n3⟩,r⟩
    exact ⟨⟨by decide,tx,n1,by first|exact n2 (by decide)|exact n3 rfl|exact hv,c1,by first|exact c2 (by decide)|(show (kids.length:Int)≤700;omega)⟩,r⟩
   ·rintro ⟨⟨-,tx,n1,n2,c1,c2⟩,r⟩
    exact ⟨⟨c1,fun _=>by first|exact c2|omega⟩,tx,⟨n1,fun _=>by first|exact n2|omega,fun _=>by first|exact n2|omega⟩,r⟩
  ·rw [loc_iff (t:=false) (mx:=0) (least:=1) (most:=1) (by rfl),kn_iff,abs_f,show shp (Int.toNat 18)=(false,0,1,1) from rfl]
   constructor
   ·rintro ⟨⟨c1,c2⟩,tx,⟨n1,n2,n3⟩,r⟩
    exact ⟨⟨by decide,tx,n1,by first|exact n2 (by decide)|exact n3 rfl|exact hv,c1,by first|exact c2 (by decide)|(show (kids.length:Int)≤700;omega)⟩,r⟩
   ·rintro ⟨⟨-,tx,n1,n2,c1,c2⟩,r⟩
    exact ⟨⟨c1,fun _=>by first|exact c2|omega⟩,tx,⟨n1,fun _=>by first|exact n2|omega,fun _=>by first|exact n2|omega⟩,r⟩
  ·rw [loc_iff (t:=false) (mx:=0) (least:=1) (most:=1) (by rfl),kn_iff,abs_f,show shp (Int.toNat 19)=(false,0,1,1) from rfl]
   constructor
   ·rintro ⟨⟨c1,c2⟩,tx,⟨n1,n2,n3⟩,r⟩
    exact ⟨⟨by decide,tx,n1,by first|exact n2 (by decide)|exact n3 rfl|exact hv,c1,by first|exact c2 (by decide)|(show (kids.length:Int)≤700;omega)⟩,r⟩
   ·rintro ⟨⟨-,tx,n1,n2,c1,c2⟩,r⟩
    exact ⟨⟨c1,fun _=>by first|exact c2|omega⟩,tx,⟨n1,fun _=>by first|exact n2|omega,fun _=>by first|exact n2|omega⟩,r⟩
  ·rw [loc_iff (t:=false) (mx:=0) (least:=1) (most:=1) (by rfl),kn_iff,abs_f,show shp (Int.toNat 20)=(false,0,1,1) from rfl]
   constructor
   ·rintro ⟨⟨c1,c2⟩,tx,⟨n1,n2,n3⟩,r⟩
    exact ⟨⟨by decide,tx,n1,by first|exact n2 (by decide)|exact n3 rfl|exact hv,c1,by first|exact c2 (by decide)|(show (kids.length:Int)≤700;omega)⟩,r⟩
   ·rintro ⟨⟨-,tx,n1,n2,c1,c2⟩,r⟩
    exact ⟨⟨c1,fun _=>by first|exact c2|omega⟩,tx,⟨n1,fun _=>by first|exact n2|omega,fun _=>by first|exact n2|omega⟩,r⟩
  ·rw [loc_iff (t:=false) (mx:=-1) (least:=0) (most:=0) (by rfl),kn_iff,abs_f,show shp (Int.toNat 21)=(false,2147483647,0,0) from rfl]
   constructor
   ·rintro ⟨⟨c1,c2⟩,tx,⟨n1,n2,n3⟩,r⟩
    exact ⟨⟨by decide,tx,n1,by first|exact n2 (by decide)|exact n3 rfl|exact hv,c1,by first|exact c2 (by decide)|(show (kids.length:Int)≤700;omega)⟩,r⟩
   ·rintro ⟨⟨-,tx,n1,n2,c1,c2⟩,r⟩
    exact ⟨⟨c1,fun _=>by first|exact c2|omega⟩,tx,⟨n1,fun _=>by first|exact n2|omega,fun _=>by first|exact n2|omega⟩,r⟩
  ·rw [loc_iff (t:=false) (mx:=-1) (least:=0) (most:=0) (by rfl),kn_iff,abs_f,show shp (Int.toNat 22)=(false,9223372036854775807,0,0) from rfl]
   constructor
   ·rintro ⟨⟨c1,c2⟩,tx,⟨n1,n2,n3⟩,r⟩
    exact ⟨⟨by decide,tx,n1,by first|exact n2 (by decide)|exact n3 rfl|exact hv,c1,by first|exact c2 (by decide)|(show (kids.length:Int)≤700;omega)⟩,r⟩
   ·rintro ⟨⟨-,tx,n1,n2,c1,c2⟩,r⟩
    exact ⟨⟨c1,fun _=>by first|exact c2|omega⟩,tx,⟨n1,fun _=>by first|exact n2|omega,fun _=>by first|exact n2|omega⟩,r⟩
  ·rw [loc_iff (t:=true) (mx:=0) (least:=0) (most:=0) (by rfl),kn_iff,abs_f,show shp (Int.toNat 23)=(true,0,0,0) from rfl]
   constructor
   ·rintro ⟨⟨c1,c2⟩,tx,⟨n1,n2,n3⟩,r⟩
    exact ⟨⟨by decide,tx,n1,by first|exact n2 (by decide)|exact n3 rfl|exact hv,c1,by first|exact c2 (by decide)|(show (kids.length:Int)≤700;omega)⟩,r⟩
   ·rintro ⟨⟨-,tx,n1,n2,c1,c2⟩,r⟩
    exact ⟨⟨c1,fun _=>by first|exact c2|omega⟩,tx,⟨n1,fun _=>by first|exact n2|omega,fun _=>by first|exact n2|omega⟩,r⟩
  ·rw [loc_iff (t:=true) (mx:=0) (least:=1) (most:=1) (by rfl),kn_iff,abs_f,show shp (Int.toNat 24)=(true,0,1,1) from rfl]
   constructor
   ·rintro ⟨⟨c1,c2⟩,tx,⟨n1,n2,n3⟩,r⟩
    exact ⟨⟨by decide,tx,n1,by first|exact n2 (by decide)|exact n3 rfl|exact hv,c1,by first|exact c2 (by decide)|(show (kids.length:Int)≤700;omega)⟩,r⟩
   ·rintro ⟨⟨-,tx,n1,n2,c1,c2⟩,r⟩
    exact ⟨⟨c1,fun _=>by first|exact c2|omega⟩,tx,⟨n1,fun _=>by first|exact n2|omega,fun _=>by first|exact n2|omega⟩,r⟩
  ·rw [loc_iff (t:=false) (mx:=0) (least:=1) (most:=-1) (by rfl),kn_iff,abs_f,show shp (Int.toNat 25)=(false,0,1,700) from rfl]
   constructor
   ·rintro ⟨⟨c1,c2⟩,tx,⟨n1,n2,n3⟩,r⟩
    exact ⟨⟨by decide,tx,n1,by first|exact n2 (by decide)|exact n3 rfl|exact hv,c1,by first|exact c2 (by decide)|(show (kids.length:Int)≤700;omega)⟩,r⟩
   ·rintro ⟨⟨-,tx,n1,n2,c1,c2⟩,r⟩
    exact ⟨⟨c1,fun _=>by first|exact c2|omega⟩,tx,⟨n1,fun _=>by first|exact n2|omega,fun _=>by first|exact n2|omega⟩,r⟩
  ·rw [loc_iff (t:=true) (mx:=0) (least:=0) (most:=0) (by rfl),kn_iff,abs_f,show shp (Int.toNat 26)=(true,0,0,0) from rfl]
   constructor
   ·rintro ⟨⟨c1,c2⟩,tx,⟨n1,n2,n3⟩,r⟩
    exact ⟨⟨by decide,tx,n1,by first|exact n2 (by decide)|exact n3 rfl|exact hv,c1,by first|exact c2 (by decide)|(show (kids.length:Int)≤700;omega)⟩,r⟩
   ·rintro ⟨⟨-,tx,n1,n2,c1,c2⟩,r⟩
    exact ⟨⟨c1,fun _=>by first|exact c2|omega⟩,tx,⟨n1,fun _=>by first|exact n2|omega,fun _=>by first|exact n2|omega⟩,r⟩
  ·rw [loc_iff (t:=true) (mx:=0) (least:=0) (most:=-1) (by rfl),kn_iff,abs_f,show shp (Int.toNat 27)=(true,0,0,700) from rfl]
   constructor
   ·rintro ⟨⟨c1,c2⟩,tx,⟨n1,n2,n3⟩,r⟩
    exact ⟨⟨by decide,tx,n1,by first|exact n2 (by decide)|exact n3 rfl|exact hv,c1,by first|exact c2 (by decide)|(show (kids.length:Int)≤700;omega)⟩,r⟩
   ·rintro ⟨⟨-,tx,n1,n2,c1,c2⟩,r⟩
    exact ⟨⟨c1,fun _=>by first|exact c2|omega⟩,tx,⟨n1,fun _=>by first|exact n2|omega,fun _=>by first|exact n2|omega⟩,r⟩
  ·rw [loc_iff (t:=false) (mx:=0) (least:=1) (most:=1) (by rfl),kn_iff,abs_f,show shp (Int.toNat 28)=(false,0,1,1) from rfl]
   constructor
   ·rintro ⟨⟨c1,c2⟩,tx,⟨n1,n2,n3⟩,r⟩
    exact ⟨⟨by decide,tx,n1,by first|exact n2 (by decide)|exact n3 rfl|exact hv,c1,by first|exact c2 (by decide)|(show (kids.length:Int)≤700;omega)⟩,r⟩
   ·rintro ⟨⟨-,tx,n1,n2,c1,c2⟩,r⟩
    exact ⟨⟨c1,fun _=>by first|exact c2|omega⟩,tx,⟨n1,fun _=>by first|exact n2|omega,fun _=>by first|exact n2|omega⟩,r⟩
  ·rw [loc_iff (t:=false) (mx:=0) (least:=1) (most:=1) (by rfl),kn_iff,abs_f,show shp (Int.toNat 29)=(false,0,1,1) from rfl]
   constructor
   ·rintro ⟨⟨c1,c2⟩,tx,⟨n1,n2,n3⟩,r⟩
    exact ⟨⟨by decide,tx,n1,by first|exact n2 (by decide)|exact n3 rfl|exact hv,c1,by first|exact c2 (by decide)|(show (kids.length:Int)≤700;omega)⟩,r⟩
   ·rintro ⟨⟨-,tx,n1,n2,c1,c2⟩,r⟩
    exact ⟨⟨c1,fun _=>by first|exact c2|omega⟩,tx,⟨n1,fun _=>by first|exact n2|omega,fun _=>by first|exact n2|omega⟩,r⟩
  ·rw [loc_iff (t:=false) (mx:=0) (least:=1) (most:=1) (by rfl),kn_iff,abs_f,show shp (Int.toNat 30)=(false,0,1,1) from rfl]
   constructor
   ·rintro ⟨⟨c1,c2⟩,tx,⟨n1,n2,n3⟩,r⟩
    exact ⟨⟨by decide,tx,n1,by first|exact n2 (by decide)|exact n3 rfl|exact hv,c1,by first|exact c2 (by decide)|(show (kids.length:Int)≤700;omega)⟩,r⟩
   ·rintro ⟨⟨-,tx,n1,n2,c1,c2⟩,r⟩
    exact ⟨⟨c1,fun _=>by first|exact c2|omega⟩,tx,⟨n1,fun _=>by first|exact n2|omega,fun _=>by first|exact n2|omega⟩,r⟩
  ·rw [loc_iff (t:=false) (mx:=0) (least:=1) (most:=1) (by rfl),kn_iff,abs_f,show shp (Int.toNat 31)=(false,0,1,1) from rfl]
   constructor
   ·rintro ⟨⟨c1,c2⟩,tx,⟨n1,n2,n3⟩,r⟩
    exact ⟨⟨by decide,tx,n1,by first|exact n2 (by decide)|exact n3 rfl|exact hv,c1,by first|exact c2 (by decide)|(show (kids.length:Int)≤700;omega)⟩,r⟩
   ·rintro ⟨⟨-,tx,n1,n2,c1,c2⟩,r⟩
    exact ⟨⟨c1,fun _=>by first|exact c2|omega⟩,tx,⟨n1,fun _=>by first|exact n2|omega,fun _=>by first|exact n2|omega⟩,r⟩
  ·rw [loc_iff (t:=false) (mx:=12) (least:=2) (most:=2) (by rfl),kn_iff,abs_f,show shp (Int.toNat 32)=(false,12,2,2) from rfl]
   constructor
   ·rintro ⟨⟨c1,c2⟩,tx,⟨n1,n2,n3⟩,r⟩
    exact ⟨⟨by decide,tx,n1,by first|exact n2 (by decide)|exact n3 rfl|exact hv,c1,by first|exact c2 (by decide)|(show (kids.length:Int)≤700;omega)⟩,r⟩
   ·rintro ⟨⟨-,tx,n1,n2,c1,c2⟩,r⟩
    exact ⟨⟨c1,fun _=>by first|exact c2|omega⟩,tx,⟨n1,fun _=>by first|exact n2|omega,fun _=>by first|exact n2|omega⟩,r⟩
  ·rw [loc_iff (t:=false) (mx:=0) (least:=0) (most:=0) (by rfl),kn_iff,abs_f,show shp (Int.toNat 33)=(false,0,0,0) from rfl]
   constructor
   ·rintro ⟨⟨c1,c2⟩,tx,⟨n1,n2,n3⟩,r⟩
    exact ⟨⟨by decide,tx,n1,by first|exact n2 (by decide)|exact n3 rfl|exact hv,c1,by first|exact c2 (by decide)|(show (kids.length:Int)≤700;omega)⟩,r⟩
   ·rintro ⟨⟨-,tx,n1,n2,c1,c2⟩,r⟩
    exact ⟨⟨c1,fun _=>by first|exact c2|omega⟩,tx,⟨n1,fun _=>by first|exact n2|omega,fun _=>by first|exact n2|omega⟩,r⟩
  ·rw [loc_iff (t:=false) (mx:=0) (least:=1) (most:=1) (by rfl),kn_iff,abs_f,show shp (Int.toNat 34)=(false,0,1,1) from rfl]
   constructor
   ·rintro ⟨⟨c1,c2⟩,tx,⟨n1,n2,n3⟩,r⟩
    exact ⟨⟨by decide,tx,n1,by first|exact n2 (by decide)|exact n3 rfl|exact hv,c1,by first|exact c2 (by decide)|(show (kids.length:Int)≤700;omega)⟩,r⟩
   ·rintro ⟨⟨-,tx,n1,n2,c1,c2⟩,r⟩
    exact ⟨⟨c1,fun _=>by first|exact c2|omega⟩,tx,⟨n1,fun _=>by first|exact n2|omega,fun _=>by first|exact n2|omega⟩,r⟩
 ·have h1:shpN k=none:=by
   unfold shpN
   repeat rw [if_neg (by omega)]
  have h2:locN k t v kids false=false:=by unfold locN;rw [h1]
  rw [h2,kn_no hk]
  simp
theorem want_ex {k:Int} (h:21≤k) (n i:Nat):wantN k n i=(4,0):=by
 unfold wantN
 repeat rw [if_neg (by omega)]
theorem want_ty {k:Int} (n i:Nat) (h:k=3∨k=5∨k=8∨k=12):wantN k n i=(2,0):=by
 unfold wantN
 rw [if_neg (by omega),if_neg (by omega),if_pos h]
theorem lg_num {k:Int} {t:List UInt8} {v:Int} {kids:List Nd} (h:Lg (.mk k t v kids)):v≤9223372036854775807∧∀ x,x∈kids→Lg x:=by
 cases h with
 | mk _ _ _ _ h1 h2 h3=>exact ⟨h2,h3⟩
theorem ex_kn {k:Int} {t:List UInt8} {v:Int} {kids:List Nd} (hL:Lg (.mk k t v kids)) (hn:kids.length≤700):IsEx (.mk k t v kids) ↔ knB k t v kids.length=true∧21≤k∧(k=32→isOp v)∧∀ x,x∈kids→IsEx x:=by
 obtain ⟨hv,hLk⟩:=lg_num hL
 constructor
 ·intro h
  obtain ⟨hc,hi⟩:=ex_is h
  have hk:21≤k:=by have:=cls_ex.1 hc;simp only [Nd.kind] at this;omega
  rw [isN_iff] at hi
  obtain ⟨h1,h2⟩:=hi
  rw [loc_kn hn hv] at h1
  refine ⟨h1.1,hk,fun e=>op_of.1 (h1.2.1 e),kids_all (kind:=0) fun j hj=>?_⟩
  obtain ⟨a1,a2⟩:=kid_cls (want_ex hk _ _) (h2 j hj)
  exact is_ex _ (hLk _ (List.getElem_mem hj)) a2 a1
 ·rintro ⟨h1,hk,h3,h4⟩
  have h34:=(kn_iff.1 h1).1.2
  refine is_ex _ hL ((isN_iff _ _ _ _ _).2 ⟨(loc_kn hn hv).2 ⟨h1,fun e=>op_of.2 (h3 e),fun e=>by omega,fun e=>by omega⟩,fun j hj=>?_⟩) (cls_ex.2 (by simp only [Nd.kind];omega))
  have hx:=ex_is (h4 _ (List.getElem_mem hj))
  exact kid_ok (want_ex hk _ _) hx.1 hx.2
theorem ty_kn {k:Int} {t:List UInt8} {v:Int} {kids:List Nd} (hL:Lg (.mk k t v kids)) (hn:kids.length≤700):IsTy (.mk k t v kids) ↔ knB k t v kids.length=true∧(k=9∨k=10∨k=11∨k=12)∧∀ x,x∈kids→IsTy x:=by
 obtain ⟨hv,hLk⟩:=lg_num hL
 constructor
 ·intro h
  obtain ⟨hc,hi⟩:=ty_is h
  have hk:k=9∨k=10∨k=11∨k=12:=cls_ty.1 hc
  rw [isN_iff] at hi
  obtain ⟨h1,h2⟩:=hi
  rw [loc_kn hn hv] at h1
  refine ⟨h1.1,hk,fun x hx=>?_⟩
  cases h with
  | int=>simp at hx
  | long=>simp at hx
  | named s hs=>simp at hx
  | fn l d t hl ht=>
   rcases List.mem_append.1 hx with hx|hx
   ·exact hl x hx
   ·rw [List.mem_singleton.1 hx];exact ht
 ·rintro ⟨h1,hk,h4⟩
  refine is_ty _ ((isN_iff _ _ _ _ _).2 ⟨(loc_kn hn hv).2 ⟨h1,fun e=>by omega,fun e=>by omega,fun e=>by omega⟩,fun j hj=>?_⟩) (cls_ty.2 hk)
  have hx:=ty_is (h4 _ (List.getElem_mem hj))
  rcases hk with rfl|rfl|rfl|rfl
  ·have h6:(kids.length:Int)≤0:=(kn_iff.1 h1).2.2.2.2.2;omega
  ·have h6:(kids.length:Int)≤0:=(kn_iff.1 h1).2.2.2.2.2;omega
  ·have h6:(kids.length:Int)≤0:=(kn_iff.1 h1).2.2.2.2.2;omega
  ·exact kid_ok (want_ty _ _ (by omega)) hx.1 hx.2
end Go.Proofs.YthcfianhdkolhaaGreatDoor.T
namespace Go.Proofs.YthcfianhdkolhaaGreatDoor.T
open Go.RowKit Go.Proofs.YthcfianhdkolhaaGreatDoor.S
set_option maxRecDepth 100000
set_option maxHeartbeats 2000000
set_option linter.unusedVariables false
set_option linter.unusedSimpArgs false
theorem Pt.drew {w0 w:World} {b:Nat} {T:List (List UInt8)} (h:Pt w0 w b T):Pt w0 w.drew b T:=h.below ((Below.refl _ _).drew)
theorem St.drew (w:World):St w w.drew:=St.below ((Below.refl _ _).drew)
theorem Pt.app {w0 w:World} {b:Nat} {T:List (List UInt8)} {xs:List (List UInt8)} {ts:List Tk} (h:Pt w0 w b (T++xs)) (e:xs=txs ts):Pt w0 w b (T++txs ts):=e ▸ h
theorem kid_lt {kind:Int} {text:List UInt8} {num:Int} {kids:List Nd} {x:Nd} (hj:x∈kids):SizeOf.sizeOf x<SizeOf.sizeOf (Nd.mk kind text num kids):=by
 have:=List.sizeOf_lt_of_mem hj
 simp only [Nd.mk.sizeOf_spec]
 omega
theorem sh_ty9 (t:List UInt8) (v:Int) (l:List Nd):shT (.mk 9 t v l)=[wd sINT]:=by rw [shT_mk];simp [shK]
theorem sh_ty10 (t:List UInt8) (v:Int) (l:List Nd):shT (.mk 10 t v l)=[wd sLONG]:=by rw [shT_mk];simp [shK]
theorem sh_ty11 (t:List UInt8) (v:Int) (l:List Nd):shT (.mk 11 t v l)=[wd t]:=by rw [shT_mk];simp [shK]
theorem sh_ty12 (t:List UInt8) (v:Int) (l:List Nd) (x:Nd):shT (.mk 12 t v (l++[x]))=[wd sFN]++rowT (l.map shT) (decide (v=1))++shT x:=by rw [shT_mk];simp [shK,lastT]
theorem RowO.kid {w:World} {ka:Option Addr} {l:List Nd} (h:RowO w ka l) (j:Nat) (hj:j<l.length):∃ g o k0 x0 n0 a0 m0 c0,ka=some ⟨g,o,none⟩∧g<w.heap.size ∧
 w.cell? ⟨g,o+j*4,none⟩=some (.int .i64 k0)∧w.cell? ⟨g,o+j*4+1,none⟩=some (.string x0)∧w.cell? ⟨g,o+j*4+2,none⟩=some (.int .i64 n0)∧w.cell? ⟨g,o+j*4+3,none⟩=some (.slice a0 m0 c0)∧NdO w l[j] (.agg #[.int .i64 k0,.string x0,.int .i64 n0,.slice a0 m0 c0]):=by
 obtain ⟨g,o,e,hg,hx⟩:=h (fun e=>by rw [e] at hj;simp at hj)
 obtain ⟨k0,x0,n0,a0,m0,c0,r⟩:=hx j hj
 exact ⟨g,o,k0,x0,n0,a0,m0,c0,e,hg,r⟩
theorem below_cell {w0 w:World} (hb:Below w0.heap.size w0 w) {g o:Nat} {u:Value} (h:w0.cell? ⟨g,o,none⟩=some u):w.cell? ⟨g,o,none⟩=some u:=(hb.cell (p:=⟨g,o,none⟩) (World.block_lt_of_cell? w0 ⟨g,o,none⟩ h)).trans h
def TypN (w0:World) (n:Nd):Prop:=∀ (b:Nat) (w:World) (T:List (List UInt8)) (v:Value),Pt w0 w b T→NdO w0 n v→T.length+tb n≤1000000000000→Calls Tryz.prog 104 #[.pointer (some ⟨b,0,none⟩),v] w (PostP (IsTy n) w0 w b T (shT n))
theorem typ_step {w0:World} (hG:Gl w0) (kind:Int) (text:List UInt8) (num:Int) (kids:List Nd) (hn7:cntL kids≤700) (ih:∀ x,x∈kids→TypN w0 x):TypN w0 (.mk kind text num kids):=by
 intro b w T v hP hv hT
 have hL:=hv.lg
 have hk7:kids.length≤700:=Nat.le_trans (len_cnt kids) hn7
 have HIff:=hide (ty_kn hL hk7)
 rw [tb_mk] at hT
 obtain ⟨ka,kc,rfl,t1,n1,n2,l1,l2,hR⟩:=hv.part
 have HR:=hide hR
 have HG:=hide hG
 have HIh:=hide ih
 have HP0:=hide hP
 have HPa:Hid (Pt w0 (w.alloc (.cells #[.int .i64 kind,.string (str text),.int .i64 num,.slice ka kids.length kc] 24)) b T):=hP.alloc _
 have HSa:Hid (St w (w.alloc (.cells #[.int .i64 kind,.string (str text),.int .i64 num,.slice ka kids.length kc] 24))):=St.alloc _ _
 have HNa:=hide (heap_new w #[.int .i64 kind,.string (str text),.int .i64 num,.slice ka kids.length kc] 24)
 have hkn:=know_any kind text num ka kids.length kc _ ((hG.below hP.base).below ((Below.refl _ _).alloc (Nat.le_refl _) (.cells #[.int .i64 kind,.string (str text),.int .i64 num,.slice ka kids.length kc] 24))) t1 (by omega)
 clear hP hv hR hG ih hL
 go_enter Tryz.func104,Tryz.ntmps104
 go_wp2_with fail
 go_at_call 75
 refine hkn.mono ?_
 rintro e w1 ⟨⟨hk,rfl⟩|⟨hk,rfl⟩,hb1⟩
 rotate_left
 ·exact ⟨rfl,PostP.no (fun h=>by have:=(HIff.out.1 h).1;rw [hk] at this;cases this) (HPa.out.below hb1).base⟩
 have HK:=hide hk
 have HP1:=hide (HPa.out.below hb1)
 have HS1:=hide (HSa.out.trans (St.below hb1))
 have hn1:=(St.below hb1).node HNa.out
 have HN1:=hide (((St.below hb1).nodes _ _ _ HNa.out).trans HNa.out)
 clear hk hb1 hkn HPa HSa HNa
 have HTy:Hid ((kind=9∨kind=10∨kind=11)→IsTy (.mk kind text num kids)):=fun h=>HIff.out.2 ⟨HK.out,by omega,fun x hx=>by
  have h6:(kids.length:Int)≤0:=by
   have h6:=(kn_iff.1 HK.out).2.2.2.2.2
   rcases h with h|h|h<;>(rw [h] at h6;exact h6)
  rw [List.eq_nil_of_length_eq_zero (show kids.length=0 by omega)] at hx
  simp at hx⟩
 by_cases k9:kind=9
 ·subst k9
  have HI:=hide (HTy.out (by simp))
  go_wp2_with fail
  go_at_call 77
  refine (add_new HP1.out [sINT] _ rfl 1 rfl (by omega) (by omega) _ (by simp)).mono ?_
  rintro e w2 ⟨rfl,hP2,hS2⟩
  have HP2:=hide hP2
  have HS2:=hide (HS1.out.trans hS2)
  clear hP2 hS2
  go_wp2_with fail
  go_end0
  exact PostP.ok HI.out (HP2.out.app (by rw [sh_ty9];rfl)) HS2.out
 have k9':(kind == 9)=false:=by simpa using k9
 by_cases k10:kind=10
 ·subst k10
  have HI:=hide (HTy.out (by simp))
  clear k9 k9'
  go_wp2_with fail
  go_at_call 77
  refine (add_new HP1.out [sLONG] _ rfl 1 rfl (by omega) (by omega) _ (by simp)).mono ?_
  rintro e w2 ⟨rfl,hP2,hS2⟩
  have HP2:=hide hP2
  have HS2:=hide (HS1.out.trans hS2)
  clear hP2 hS2
  go_wp2_with fail
  go_end0
  exact PostP.ok HI.out (HP2.out.app (by rw [sh_ty10];rfl)) HS2.out
 have k10':(kind == 10)=false:=by simpa using k10
 by_cases k11:kind=11
 ·subst k11
  have HI:=hide (HTy.out (by simp))
  clear k9 k9' k10 k10'
  go_wp2_with fail
  go_at_call 77
  refine (add_new HP1.out [text] _ rfl 1 rfl (by omega) (by omega) _ (by simp)).mono ?_
  rintro e w2 ⟨rfl,hP2,hS2⟩
  have HP2:=hide hP2
  have HS2:=hide (HS1.out.trans hS2)
  clear hP2 hS2
  go_wp2_with fail
  go_end0
  exact PostP.ok HI.out (HP2.out.app (by rw [sh_ty11];rfl)) HS2.out
 have k11':(kind == 11)=false:=by simpa using k11
 by_cases k12:kind=12
 rotate_left
 ·have k12':(kind == 12)=false:=by simpa using k12
  have HNo:Hid (¬ IsTy (.mk kind text num kids)):=fun h=>by have:=(HIff.out.1 h).2.1;omega
  clear k9 k10 k11 k12
  go_wp2_with fail
  exact ⟨rfl,PostP.no HNo.out HP1.out.base⟩
 subst k12
 clear k9 k10 k11 k9' k10' k11'
 have hkl:1≤kids.length:=by
  have h5:=(kn_iff.1 HK.out).2.2.2.2.1
  have h5':(1:Int)≤kids.length:=h5
  omega
 obtain ⟨l,x,hkx⟩:=last_form hkl
 have HX:=hide hkx
 have hll:kids.length=l.length+1:=by rw [hkx];simp
 have htb:tbL kids=tbL l+tb x:=by rw [hkx,tbL_app,tbL_cons,tbL_nil];omega
 have HIT:Hid (IsTy (.mk 12 text num kids) ↔ (∀ y,y∈l→IsTy y)∧IsTy x):=by
  show _ ↔ _
  rw [HIff.out]
  constructor
  ·rintro ⟨_,_,h⟩;rw [hkx] at h;exact ⟨fun y hy=>h y (by simp [hy]),h x (by simp)⟩
  ·rintro ⟨h1,h2⟩
   refine ⟨HK.out,by omega,fun y hy=>?_⟩
   rw [hkx] at hy
   rcases List.mem_append.1 hy with hy|hy
   ·exact h1 y hy
   ·rw [List.mem_singleton.1 hy];exact h2
 obtain ⟨g,o,k0,x0,n0,a0,m0,c0,rfl,hg,q0,q1,q2,q3,hnd⟩:=HR.out.kid l.length (by omega)
 have HN:Hid (NdO w0 x (.agg #[.int .i64 k0,.string x0,.int .i64 n0,.slice a0 m0 c0])):=by
  have e:kids[l.length]'(by omega)=x:=by simp [hkx]
  rw [e] at hnd
  exact hnd
 have HQ0:=hide q0
 have HQ1:=hide q1
 have HQ2:=hide q2
 have HQ3:=hide q3
 have HEach:Hid (Each51 w0 b l):=fun j hj w' T' v' h1 h2 h3=>HIh.out l[j] (by rw [HX.out];simp [List.getElem_mem hj]) b w' T' v' h1 h2 h3
 have HRl:Hid (RowO w0 (some ⟨g,o,none⟩) l):=by
  have:=HR.out.take l.length
  rw [hkx] at this
  simpa [Hid] using this
 have hww:IntKind.i64.wrap ((kids.length:Int) - 1)=(l.length:Int):=by rw [IntKind.wrap_i64];omega
 have hsl:(0:Int)≤l.length∧(l.length:Int)≤kc:=by omega
 have hix:(0:Int)≤l.length∧(l.length:Int)<kids.length:=by omega
 have HTl:=hide (joinL_tb l)
 have HLl:=hide hll
 have HTx:Hid (T.length+(2*(tbL l+tb x)+3*(l.length+1)+9)≤1000000000000):=by show _≤_;omega
 clear hkx q0 q1 q2 q3 hnd hkl hll htb hT
 go_wp2_with fail
 go_at_call 77
 refine (add_new HP1.out [sFN] _ rfl 1 rfl (by omega) (by have:=HTx.out;omega) _ (by simp)).mono ?_
 rintro e w2 ⟨rfl,hP2,hS2⟩
 have HP2:=hide hP2
 have HS2:=hide (HS1.out.trans hS2)
 have hn2:=hS2.node HN1.out
 have HN2:=hide ((hS2.nodes _ _ _ HN1.out).trans HN1.out)
 clear hP2 hS2 hn1
 go_wp2_with fail
 have HSd:Hid (∀ w',St w2 w'→(fun w'=>∀ oo,w'.cell? ⟨w.heap.size,oo,none⟩=(#[Value.int .i64 12,.string (str text),.int .i64 num,.slice (some ⟨g,o,none⟩) kids.length kc])[oo]?) w'):=fun w' hw=>hw.node HN2.out
 refine wp_region_held_drew (S:=(fun w'=>∀ oo,w'.cell? ⟨w.heap.size,oo,none⟩=(#[Value.int .i64 12,.string (str text),.int .i64 num,.slice (some ⟨g,o,none⟩) kids.length kc])[oo]?)) (by kernel_rfl) (HSd.out _ (St.drew w2)) (fun hHeld=>?_)
 refine tq 0 ?_
 simp only [qq]
 refine tq 1 ?_
 simp only [qq]
 refine tq 2 ?_
 simp only [qq]
 refine tq 3 ?_
 simp only [qq]
 refine tq 4 ?_
 simp only [qq]
 refine tq 5 ?_
 simp only [qq]
 refine tq 6 ?_
 simp only [qq]
 refine tq 7 ?_
 simp only [qq]
 refine tq 8 ?_
 simp only [qq]
 refine rq 9 fun K hK=>?_
 go_simp
 refine (open_51 (HP2.out.drew) l _ kc num (decide (num=1)) rfl HRl.out (by have:=HLl.out;omega) HEach.out (by have:=HTx.out;simp only [List.length_append,List.length_cons,List.length_nil];omega)).mono ?_
 rintro e w3 (⟨hp,rfl,hP3,hS3⟩|⟨hp,rfl,hB3⟩)
 rotate_left
 ·exact ⟨rfl,PostP.no (fun h=>hp (HIT.out.1 h).1) hB3⟩
 have hst:=(St.drew w2).trans hS3
 refine hK.out _ _ (HSd.out _ hst) (fun hHeld1=>?_)
 clear hK K
 refine wpAnyH_done (by kernel_rfl) ?_ _
 have HA:=hide hp
 have HP3:=hide hP3
 have HS3:=hide (HS2.out.trans hst)
 have hn3:=hst.node HN2.out
 have hb3:=hP3.base
 have e0:=below_cell hb3 HQ0.out
 have e1:=below_cell hb3 HQ1.out
 have e2:=below_cell hb3 HQ2.out
 have e3:=below_cell hb3 HQ3.out
 clear hp hP3 hS3 hst hn2 hHeld hHeld1 hb3 HSd
 go_wp2_with fail
 go_at_call 104
 refine (HIh.out x (by rw [HX.out];simp) b w3 _ _ HP3.out HN.out (by have:=HTx.out;have:=HTl.out;have h9:=row_sum (l.map shT) (decide (num=1));have h8:=flatL_tb l;rw [flat_sum] at h8;rw [List.length_map] at h9;simp only [List.length_append,List.length_cons,List.length_nil,txs_len];omega)).mono ?_
 rintro e w4 (⟨hp,rfl,hP4,hS4⟩|⟨hp,rfl,hB4⟩)
 rotate_left
 ·exact ⟨rfl,PostP.no (fun h=>hp (HIT.out.1 h).2) hB4⟩
 have HI:=hide (HIT.out.2 ⟨HA.out,hp⟩)
 have HP4:Hid (Pt w0 w4 b (T++txs (shT (.mk 12 text num kids)))):=by
  show Pt _ _ _ _
  rw [HX.out,sh_ty12,txs_app,txs_app,txs_cons,raw_wd]
  simpa [txs] using hP4
 have HS4:=hide (HS3.out.trans hS4)
 clear hp hP4 hS4
 go_wp2_with fail
 go_end0
 exact PostP.ok HI.out HP4.out HS4.out
theorem typ_all {w0:World} (hG:Gl w0):∀ n,cnt n≤700→TypN w0 n:=by
 refine Nd.ind fun k t v kids ih hc=>?_
 rw [cnt_mk] at hc
 exact typ_step hG k t v kids (by omega) (fun x hx=>ih x hx (by have:=cnt_mem hx;omega))
end Go.Proofs.YthcfianhdkolhaaGreatDoor.T
