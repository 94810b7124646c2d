import Derived.Test.YtpcjkidgohpeoaaGreatDoorG02
set_option maxRecDepth 100000
set_option maxHeartbeats 2000000
set_option linter.all false
namespace Go.Proofs.YtpcjkidgohpeoaaGreatDoor
open RowKit Proofs.Tryz
def Kc (s:Seg):Value:= .agg #[iV s.perm,uV s.offs,uV s.addr,uV s.inFile,uV s.mem]
def Yr (B:List Int) (p:Nat) (w:World) (e:Ending) (w':World):Prop:=
 (GW B p/\e= .returned (.tuple #[Kc (D7 B p),.bool true])\/¬GW B p/\∃x0 x1 x2 x3 x4:Int,e= .returned (.tuple #[.agg #[iV x0,uV x1,uV x2,uV x3,uV x4],.bool false]))/\Bw w w'
def LX (b off C:Nat) (B:List Int) (k:Nat) (w:World) (hB:AK B) (H:B.length<=C) (I:B.length<=500000) (hv:Am w b off B) (Z:b<w.heap.size) (hp:64+56*k+56<=B.length) (hk:k<=8):
  cT 136 #[sL b off B.length C,iV k] w λe w'=>Yr B (64+56*k) w e w':=by
 obtain ⟨p,R⟩:=xE (64+56*k);rw [<-R] at hp ⊢;have HV:=AC hv;obtain ⟨K,hK⟩:∃x,x=AO B (p) 4:=⟨_,rfl⟩;have bK:=BP hB (p) 4 om;have NK:Hid (∀w',Am w' b off B->cT 102 #[sL b (off+p) 4 (C-p)] w' λe w''=>e= .returned (uV K)/\w''=w'):=AC (λw' h=>by rw [hK];exact BW b (off+p) 4 (C-p) B (p) w' hB om (λj hj=>by rw [show off+p+j=off+(p+j) from om];exact h (p+j) om));obtain ⟨P,hP⟩:∃x,x=AO B (p+4) 4:=⟨_,rfl⟩;have bP:=BP hB (p+4) 4 om;have NP:Hid (∀w',Am w' b off B->cT 102 #[sL b (off+p+4) 4 (C-p-4)] w' λe w''=>e= .returned (uV P)/\w''=w'):=AC (λw' h=>by rw [hP];exact BW b (off+p+4) 4 (C-p-4) B (p+4) w' hB om (λj hj=>by rw [show off+p+4+j=off+(p+4+j) from om];exact h (p+4+j) om));obtain ⟨O,hO⟩:∃x,x=AO B (p+8) 8:=⟨_,rfl⟩;have bO:=BP hB (p+8) 8 om
 have NO:Hid (∀w',Am w' b off B->cT 102 #[sL b (off+p+8) 8 (C-p-8)] w' λe w''=>e= .returned (uV O)/\w''=w'):=AC (λw' h=>by rw [hO];exact BW b (off+p+8) 8 (C-p-8) B (p+8) w' hB om (λj hj=>by rw [show off+p+8+j=off+(p+8+j) from om];exact h (p+8+j) om));obtain ⟨A,hA⟩:∃x,x=AO B (p+16) 8:=⟨_,rfl⟩;have bA:=BP hB (p+16) 8 om;have NA:Hid (∀w',Am w' b off B->cT 102 #[sL b (off+p+16) 8 (C-p-16)] w' λe w''=>e= .returned (uV A)/\w''=w'):=AC (λw' h=>by rw [hA];exact BW b (off+p+16) 8 (C-p-16) B (p+16) w' hB om (λj hj=>by rw [show off+p+16+j=off+(p+16+j) from om];exact h (p+16+j) om));obtain ⟨F,hF⟩:∃x,x=AO B (p+32) 8:=⟨_,rfl⟩;have bF:=BP hB (p+32) 8 om
 have NF:Hid (∀w',Am w' b off B->cT 102 #[sL b (off+p+32) 8 (C-p-32)] w' λe w''=>e= .returned (uV F)/\w''=w'):=AC (λw' h=>by rw [hF];exact BW b (off+p+32) 8 (C-p-32) B (p+32) w' hB om (λj hj=>by rw [show off+p+32+j=off+(p+32+j) from om];exact h (p+32+j) om));obtain ⟨M,hM⟩:∃x,x=AO B (p+40) 8:=⟨_,rfl⟩;have bM:=BP hB (p+40) 8 om;have NM:Hid (∀w',Am w' b off B->cT 102 #[sL b (off+p+40) 8 (C-p-40)] w' λe w''=>e= .returned (uV M)/\w''=w'):=AC (λw' h=>by rw [hM];exact BW b (off+p+40) 8 (C-p-40) B (p+40) w' hB om (λj hj=>by rw [show off+p+40+j=off+(p+40+j) from om];exact h (p+40+j) om))
 have L:GW B p↔(K=1/\NE P/\1<=M/\F<=M/\O+F<=(B.length:Int)/\O%256=A%256/\A+M<=65024):=by
  rw [hK,hP,hM,hF,hO,hA];rfl
 have J:D7 B p=⟨P,O,A,F,M⟩:=by rw [hP,hM,hF,hO,hA];rfl
 rw [<-hP] at bP;rw [<-hO] at bO;rw [<-hA] at bA;rw [<-hF] at bF;rw [<-hM] at bM;rw [<-hK] at bK;have D:=AC L;have X:=AC J;obtain ⟨P0,P1⟩:=bP;obtain ⟨O0,O1⟩:=bO;obtain ⟨A0,A1⟩:=bA;obtain ⟨F0,F1⟩:=bF;obtain ⟨M0,M1⟩:=bM;obtain ⟨q,hq⟩:=xE (p+56);have e1:(64:Int)+56*(k:Int)=(p:Int):=om;have e2:(p:Int)+56=(q:Int):=om;have a0:(p:Int)<=1000:=om;have e3:¬C=p:=om;have e4:q-p=56:=om;have e5:(p:Int)<=(q:Int):=om;have e6:(q:Int)<=(C:Int):=om;have n0:¬C-p=0:=om;have m0:(4:Int)<=((C-p:Nat):Int):=om;have n4:¬C-p=4:=om;have m4:(8:Int)<=((C-p:Nat):Int):=om;have n8:¬C-p=8:=om;have m8:(16:Int)<=((C-p:Nat):Int):=om;have V:¬C-p=16:=om;have U:(24:Int)<=((C-p:Nat):Int):=om;have a1:¬C-p=32:=om;have a2:(40:Int)<=((C-p:Nat):Int):=om;have Y:¬C-p=40:=om;have T:(48:Int)<=((C-p:Nat):Int):=om;have N:∀w',Bw w w'->Am w' b off B:=λw' h=>HV.below h Z;have G:=AC N
 have y0:IntKind.u64.wrap (B.length:Int)=(B.length:Int):=by rw [yh];omega
 have HL:=AC (xi H (xi I hp));clear hB hv L J hP hO hA hF hM hK bK P1 O1 A1 F1 M1 hq R N H I hp;go_enter func136,ntmps136
 go_wp2_with fail
 refine (AB NK _ (AB G _ (by first|exact bA|exact bA.alloc sI _))).mono ?_;rintro e w1 ⟨rfl,E⟩;subst E
 go_wp2_with fail
 refine (AB NP _ (AB G _ (by first|exact bA|exact bA.alloc sI _))).mono ?_;rintro e w1 ⟨rfl,E⟩;subst E
 go_wp2_with fail
 refine (AB NO _ (AB G _ (by first|exact bA|exact bA.alloc sI _))).mono ?_;rintro e w1 ⟨rfl,E⟩;subst E
 go_wp2_with fail
 refine (AB NA _ (AB G _ (by first|exact bA|exact bA.alloc sI _))).mono ?_;rintro e w1 ⟨rfl,E⟩;subst E
 go_wp2_with fail
 refine (AB NF _ (AB G _ (by first|exact bA|exact bA.alloc sI _))).mono ?_;rintro e w1 ⟨rfl,E⟩;subst E
 go_wp2_with fail
 refine (AB NM _ (AB G _ (by first|exact bA|exact bA.alloc sI _))).mono ?_;rintro e w1 ⟨rfl,E⟩;subst E;clear NK NP NO NA NF NM e1 e2 e3 e4 e5 e6 n0 n4 n8 V a1 Y m0 m4 m8 U a2 T a0;by_cases t1:K=1
 case neg=>
  have f1:(K !=1)=true:=sU t1;have T1:=AC t1;clear t1;go_wp2;exact xh (v:= .tuple #[.agg #[iV 0,uV O,uV A,uV F,uV M],.bool false]) (by simp [results,results136,go_sem]) rfl ⟨.inr ⟨λh=>AB T1 (D.1 h).1,0,O,A,F,M,rfl⟩,bA.alloc sI _⟩
 have f1:(K !=1)=false:=sU t1;have T1:=AC t1;clear t1;by_cases t2:1<=P
 case neg=>
  go_wp2;exact xh (v:= .tuple #[.agg #[iV 0,uV O,uV A,uV F,uV M],.bool false]) (by simp [results,results136,go_sem]) rfl ⟨.inr ⟨λh=>by (have:=(D.1 h).2.1.1;omega),0,O,A,F,M,rfl⟩,bA.alloc sI _⟩
 by_cases t3:P<=7
 case neg=>
  go_wp2;exact xh (v:= .tuple #[.agg #[iV 0,uV O,uV A,uV F,uV M],.bool false]) (by simp [results,results136,go_sem]) rfl ⟨.inr ⟨λh=>by (have:=(D.1 h).2.1.2.1;omega),0,O,A,F,M,rfl⟩,bA.alloc sI _⟩
 by_cases t4:bits BinOp.and IntKind.u64 P 3=3
 ·have f4:(bits BinOp.and IntKind.u64 P 3==3)=true:=sU t4;have T4:=AC t4;clear t4;go_wp2;exact xh (v:= .tuple #[.agg #[iV 0,uV O,uV A,uV F,uV M],.bool false]) (by simp [results,results136,go_sem]) rfl ⟨.inr ⟨λh=>(D.1 h).2.1.2.2 (AB T4),0,O,A,F,M,rfl⟩,bA.alloc sI _⟩
 have f4:(bits BinOp.and IntKind.u64 P 3==3)=false:=sU t4;have T4:=AC t4;clear t4;by_cases t5:1<=M
 case neg=>
  go_wp2;exact xh (v:= .tuple #[.agg #[iV 0,uV O,uV A,uV F,uV M],.bool false]) (by simp [results,results136,go_sem]) rfl ⟨.inr ⟨λh=>by (have:=(D.1 h).2.2.1;omega),0,O,A,F,M,rfl⟩,bA.alloc sI _⟩
 by_cases t6:F<=M
 case neg=>
  go_wp2;exact xh (v:= .tuple #[.agg #[iV 0,uV O,uV A,uV F,uV M],.bool false]) (by simp [results,results136,go_sem]) rfl ⟨.inr ⟨λh=>by (have:=(D.1 h).2.2.2.1;omega),0,O,A,F,M,rfl⟩,bA.alloc sI _⟩
 by_cases t7:O<=(B.length:Int)
 case neg=>
  go_wp2;exact xh (v:= .tuple #[.agg #[iV 0,uV O,uV A,uV F,uV M],.bool false]) (by simp [results,results136,go_sem]) rfl ⟨.inr ⟨λh=>by (have:=(D.1 h).2.2.2.2.1;omega),0,O,A,F,M,rfl⟩,bA.alloc sI _⟩
 have y1:IntKind.u64.wrap ((B.length:Int)-O)=(B.length:Int)-O:=by rw [yh];have:=AB HL;omega
 by_cases t8:F<=(B.length:Int)-O
 case neg=>
  go_wp2;exact xh (v:= .tuple #[.agg #[iV 0,uV O,uV A,uV F,uV M],.bool false]) (by simp [results,results136,go_sem]) rfl ⟨.inr ⟨λh=>by (have:=(D.1 h).2.2.2.2.1;omega),0,O,A,F,M,rfl⟩,bA.alloc sI _⟩
 by_cases t9:O%256=A%256
 case neg=>
  have f9:(O%256 !=A%256)=true:=sU t9;have T9:=AC t9;clear t9;go_wp2;exact xh (v:= .tuple #[.agg #[iV 0,uV O,uV A,uV F,uV M],.bool false]) (by simp [results,results136,go_sem]) rfl ⟨.inr ⟨λh=>AB T9 (D.1 h).2.2.2.2.2.1,0,O,A,F,M,rfl⟩,bA.alloc sI _⟩
 have f9:(O%256 !=A%256)=false:=sU t9;have T9:=AC t9;clear t9;by_cases ta:A<65024
 case neg=>
  go_wp2;exact xh (v:= .tuple #[.agg #[iV 0,uV O,uV A,uV F,uV M],.bool false]) (by simp [results,results136,go_sem]) rfl ⟨.inr ⟨λh=>by (have:=(D.1 h).2.2.2.2.2.2;omega),0,O,A,F,M,rfl⟩,bA.alloc sI _⟩
 have y2:IntKind.u64.wrap (65024-A)=65024-A:=by rw [yh];omega
 by_cases tb:M<=65024-A
 case neg=>
  go_wp2;exact xh (v:= .tuple #[.agg #[iV 0,uV O,uV A,uV F,uV M],.bool false]) (by simp [results,results136,go_sem]) rfl ⟨.inr ⟨λh=>by (have:=(D.1 h).2.2.2.2.2.2;omega),0,O,A,F,M,rfl⟩,bA.alloc sI _⟩
 go_wp2;exact xh (v:= .tuple #[Kc ⟨P,O,A,F,M⟩,.bool true]) (by simp [results,results136,go_sem,Kc]) rfl ⟨.inl ⟨D.2 ⟨AB T1,⟨t2,t3,AB T4⟩,t5,t6,om,AB T9,om⟩,by rw [AB X]⟩,bA.alloc sI _⟩
end Go.Proofs.YtpcjkidgohpeoaaGreatDoor
