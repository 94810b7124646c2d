import Derived.Deep.MidRow
import Derived.Deep.QuietTactic
import Derived.BigQuiet
import Derived.Test.YtpcjkidgohpeoaaGreatDoorG02
set_option maxRecDepth 100000
set_option maxHeartbeats 4000000
set_option linter.all false
namespace Go.Proofs.YtpcjkidgohpeoaaGreatDoor
open RowKit Proofs.Tryz
variable {w w' w'':World} {kb g cap k a b base off:Nat} {dir:Int} {name:ByteArray} {l:List ByteArray} {t:TypeId} (x:Int) (v:Value)
structure Ino where
 id:Int
 parent:Int
 name:ByteArray
 dir:Bool
 bytes:Value
def BQ (x:Ino):List Value:=[iV x.id,iV x.parent,.string x.name,.bool x.dir,x.bytes]
def CQ (xs:List Ino):List Value:=xs.flatMap BQ
def LO:∀(xs:List Ino) (j i:Nat) (x:Ino) (v:Value),xs[j]? =some x->i<5->(BQ x)[i]? =some v->(CQ xs)[j*5+i]? =some v
 |[],j,i,x,v,h,_,_=>by simp at h
 |a::r,0,i,x,v,h,hi,hv=>by
  have e:a=x:=sU h;subst e
  rw [CQ,vi,zo (by simp [BQ];omega),Nat.zero_mul,zq];exact hv
 |a::r,j+1,i,x,v,h,hi,hv=>by
  have ih:=LO r j i x v (sU h) hi hv;have e:(j+1)*5+i-5=j*5+i:=om;have e2:CQ (a::r)=BQ a++CQ r:=by rw [CQ,vi];rfl
  rw [e2,zn (by simp [BQ];omega),show (BQ a).length=5 from rfl,e];exact ih
def F5 (w:World) (kb g cap:Nat) (xs:List Ino):Prop:=w.cell? (xK kb 7)=some (sL g 0 xs.length cap)/\w.rangeAt g 0 (CQ xs)
def F5.cell {xs:List Ino} (h:F5 w kb g cap xs) {j:Nat} {x:Ino} (hx:xs[j]? =some x) {i:Nat} (hi:i<5) {v:Value} (hv:(BQ x)[i]? =some v):w.cell? (xK g (j*5+i))=some v:=by
 have:=h.2 (j*5+i) v (LO xs j i x v hx hi hv);rwa [zq] at this
def BO (xs:List Ino) (id:Int):Int:=match xs.findIdx? (λx=>x.id==id) with|some i=>i|none=> -1
def YY {xs:List Ino} {id:Int} (h:∀(j:Nat) (x:Ino),xs[j]? =some x->(x.id==id)=false):BO xs id= -1:=by
 unfold BO;rw [sh.2 (λx hx=>by obtain ⟨j,hj,rfl⟩:=sk.1 hx;exact h j _ (zz hj))]
def LQ {xs:List Ino} {id:Int} {x:Ino} (hx:xs[k]? =some x) (he:(x.id==id)=true) (h:∀j (x:Ino),j<k->xs[j]? =some x->(x.id==id)=false):BO xs id=k:=by
 unfold BO;have hk:=(zy.1 hx).1
 have:xs.findIdx? (λx=>x.id==id)=some k:=by
  rw [uo];refine ⟨hk,?_,λj hj=> ?_⟩
  ·rw [zz hk] at hx;rw [zr hx];exact he
  ·rw [h j _ hj (zz om)];simp
 rw [this]
def Gm (kb g cap:Nat) (xs:List Ino) (id:Int) (w:World) (h:F5 w kb g cap xs) (hn:xs.length<=1000000):
  cT 83 #[qP kb 0,iV id] w λe w'=>e= .returned (iV (BO xs id))/\w'=w:=by
 have c7:=h.1;have H:=AC h;clear h;go_enter func83,ntmps83;go_wp2
 go_loop [5] (λi=>∃k:Nat,k<=xs.length/\i= iV k/\Hid (∀j x,j<k->xs[j]? =some x->(x.id==id)=false)) (λi=>xs.length-(intOf i).toNat)
 case atStart=>exact ⟨0,om,rfl,AC (λj x hj=>om)⟩
 case round=>
  obtain ⟨k,hk,rfl,HA⟩:=hrel;by_cases B:k<xs.length
  ·obtain ⟨x,hx⟩:∃x,xs[k]? =some x:=⟨_,zz B⟩;have c0:w.cell? (xK g (k*5))=some (iV x.id):=by have:=H.cell hx (i:=0) om rfl;rwa [sq] at this
   have D:(0:Int)<=(k:Int):=om;have C:(k:Int)<(xs.length:Int):=om;by_cases t:x.id=id
   ·have g1:(x.id==id)=true:=sU t;have HR:=AC (LQ hx g1 HA);generalize x.id=X at c0 g1;clear hx t;go_wp2;go_ret;exact ⟨by rw [AB HR];rfl,rfl⟩
   ·have g1:(x.id==id)=false:=sU t
    have HN:Hid (∀j x,j<k+1->xs[j]? =some x->(x.id==id)=false):=AC (λj y hj hy=>by
     rcases sj.1 hj with h|h
     ·exact AB HA j y h hy
     ·subst h;rw [hx] at hy;obtain rfl:=zr hy
      exact g1)
    generalize x.id=X at c0 g1;clear hx t;go_wp2
    go_round
    case rel=>exact ⟨k+1,om,by go_num,HN⟩
    case measure=>simp [intOf];omega
  ·have HR:=AC (YY (xs:=xs) (id:=id) (λj x hx=>AB HA j x (o1 (zy.1 hx).1) hx));go_wp2;go_ret;exact ⟨by rw [AB HR];rfl,rfl⟩
def BD (dir:Int) (name:ByteArray) (x:Ino):Bool:=x.parent==dir&&x.name.toList==name.toList
def Ax (xs:List Ino) (dir:Int) (name:ByteArray):Int:=match xs.find? (BD dir name) with|some x=>x.id|none=>0
def YZ {xs:List Ino} (h:∀(j:Nat) (x:Ino),xs[j]? =some x->BD dir name x=false):Ax xs dir name=0:=by
 unfold Ax;rw [xm.2 (λx hx=>by obtain ⟨j,hj,rfl⟩:=sk.1 hx;rw [h j _ (zz hj)];decide)]
def Ya {xs:List Ino} {x:Ino} (hx:xs[k]? =some x) (he:BD dir name x=true) (h:∀j (x:Ino),j<k->xs[j]? =some x->BD dir name x=false):Ax xs dir name=x.id:=by
 unfold Ax;have hk:=(zy.1 hx).1;have B:xs[k]=x:=by rw [zz hk] at hx;exact zr hx
 have:xs.find? (BD dir name)=some x:=by
  rw [tm];refine ⟨he,k,hk,B,λj hj=> ?_⟩;rw [h j _ hj (zz om)];rfl
 rw [this]
def ME (kb g cap:Nat) (xs:List Ino) (dir:Int) (name:ByteArray) (w:World) (h:F5 w kb g cap xs) (hn:xs.length<=1000000):
  cT 134 #[qP kb 0,iV dir,.string name] w λe w'=>e= .returned (iV (Ax xs dir name))/\w'=w:=by
 have c7:=h.1;have H:=AC h;clear h;go_enter func134,ntmps134;go_wp2
 go_loop [7] (λi=>∃k:Nat,k<=xs.length/\i= iV k/\Hid (∀j x,j<k->xs[j]? =some x->BD dir name x=false)) (λi=>xs.length-(intOf i).toNat)
 case atStart=>exact ⟨0,om,rfl,AC (λj x hj=>om)⟩
 case round=>
  obtain ⟨k,hk,rfl,HA⟩:=hrel;by_cases D:k<xs.length
  ·obtain ⟨x,hx⟩:∃x,xs[k]? =some x:=⟨_,zz D⟩;have c0:w.cell? (xK g (k*5))=some (iV x.id):=by have:=H.cell hx (i:=0) om rfl;rwa [sq] at this
   have c1:w.cell? (xK g (k*5+1))=some (iV x.parent):=H.cell hx (i:=1) om rfl;have c2:w.cell? (xK g (k*5+2))=some (.string x.name):=H.cell hx (i:=2) om rfl;have G:(0:Int)<=(k:Int):=om;have F:(k:Int)<(xs.length:Int):=om;by_cases hc:BD dir name x=true
   ·have HR:=AC (Ya hx hc HA);have C:=hc;unfold BD at C;rw [ug] at C;obtain ⟨g1,g2⟩:=C;generalize x.id=X at c0 HR;generalize x.parent=Y at c1 g1;generalize x.name=Z at c2 g2;clear hx hc;go_wp2;go_ret;exact ⟨by rw [AB HR];rfl,rfl⟩
   ·have B:BD dir name x=false:=sU hc
    have HN:Hid (∀j x,j<k+1->xs[j]? =some x->BD dir name x=false):=AC (λj y hj hy=>by
     rcases sj.1 hj with h|h
     ·exact AB HA j y h hy
     ·subst h;rw [hx] at hy;obtain rfl:=zr hy
      exact B)
    by_cases g1:(x.parent==dir)=true
    ·have g2:(x.name.toList==name.toList)=false:=by
      unfold BD at B;rw [g1,Bool.true_and] at B;exact B
     generalize x.id=X at c0;generalize x.parent=Y at c1 g1;generalize x.name=Z at c2 g2;clear hx hc B;go_wp2
     go_round
     case rel=>exact ⟨k+1,om,by go_num,HN⟩
     case measure=>simp [intOf];omega
    ·have E:(x.parent==dir)=false:=sU g1;generalize x.id=X at c0;generalize x.parent=Y at c1 E;generalize x.name=Z at c2;clear hx hc B g1;go_wp2
     go_round
     case rel=>exact ⟨k+1,om,by go_num,HN⟩
     case measure=>simp [intOf];omega
  ·have HR:=AC (YZ (xs:=xs) (dir:=dir) (name:=name) (λj x hx=>AB HA j x (o1 (zy.1 hx).1) hx));go_wp2;go_ret;exact ⟨by rw [AB HR];rfl,rfl⟩
def Ce (xs:List Ino) (n:Int):Bool:=match xs.find? (λx=>x.id==n) with|some x=>x.dir|none=>false
structure Tt where
 dir:Int
 name:ByteArray
 n:Int
 e:Int
def C8 (e:Int):Tt:=⟨0,ByteArray.empty,0,e⟩
def CI (xs:List Ino):Int->List ByteArray->Tt
 |_,[]=>C8 0
 |dir,[name]=>⟨dir,name,Ax xs dir name,0⟩
 |dir,name::b::r=>if Ax xs dir name=0 then C8 9 else if Ce xs (Ax xs dir name)=true then CI xs (Ax xs dir name) (b::r) else C8 11
def AH (xs:List Ino) (s:ByteArray):Tt:=match Al s with
 |none=>C8 8
 |some []=>⟨0,ByteArray.empty,1,0⟩
 |some (a::r)=>CI xs 1 (a::r)
def Pa (r:Tt):Ending:= .returned (.tuple #[iV r.dir,.string r.name,iV r.n,iV r.e])
def Fo {xs:List Ino} {n:Int} {x:Ino} (h:xs.find? (λx=>x.id==n)=some x):∃k:Nat,BO xs n=k/\xs[k]? =some x:=by
 obtain ⟨he,k,hk,hx,B⟩:=tm.1 h;refine ⟨k,LQ (x:=x) (by rw [zz hk,hx]) he (λj y hj hy=> ?_),by rw [zz hk,hx]⟩;have h1:=B j hj;have C:j<xs.length:=om;rw [zz C] at hy;rw [<-zr hy];simpa using h1
def Sq {xs:List Ino} (h:Ax xs dir name≠0):∃x,xs.find? (λx=>x.id==Ax xs dir name)=some x:=by
 have:∃y∈xs,y.id=Ax xs dir name:=by
  unfold Ax at h ⊢
  cases hf:xs.find? (BD dir name) with
  |none=>rw [hf] at h;exact absurd rfl h
  |some y=>exact ⟨y,yk hf,rfl⟩
 obtain ⟨y,hy,he⟩:=this
 cases hf:xs.find? (λx=>x.id==Ax xs dir name) with
 |some x=>exact ⟨x,rfl⟩
 |none=>
  have:=xm.1 hf y hy;simp [he] at this
def F5.below {xs:List Ino} (h:F5 w kb g cap xs) (hb:Bw w w') (h1:kb<w.heap.size) (h2:g<w.heap.size):F5 w' kb g cap xs:=
 ⟨by rw [hb.cell (p:=(xK kb 7)) h1];exact h.1,λj v hj=>by rw [hb.cell (p:=(xK g (0+j))) h2];exact h.2 j v hj⟩
def F5.heap {xs:List Ino} (h:F5 w kb g cap xs) (hh:w'.heap=w.heap):F5 w' kb g cap xs:=by
 have hc:∀a,w'.cell? a=w.cell? a:=λa=>by unfold World.cell?;rw [hh]
 exact ⟨by rw [hc];exact h.1,λj v hj=>by rw [hc];exact h.2 j v hj⟩
def VS {α:Type} {l:List α} (h:k+1<l.length):∃a b r,l[k]? =some a/\l.drop k=a::b::r/\l.drop (k+1)=b::r:=by
 refine ⟨l[k],l[k+1],l.drop (k+2),zz om,?_,?_⟩
 ·rw [un om,un h]
 ·rw [un h]
def cQ (l:List UInt8):∀B,(parts l B).length<=l.length+1:=by
 induction l with
 |nil=>intro B;simp [parts]
 |cons c r ih=>
  intro B;unfold parts;split
  ·have:=ih [];simp;omega
  ·have:=ih (B++[c]);simp;omega
def cR {s:ByteArray} (h:Al s=some l):l.length<=100:=by
 unfold Al at h;split at h
 ·cases h
 rename_i hc
 split at h
 ·obtain rfl:=zr h;simp
 split at h
 ·obtain rfl:=zr h;have h2:=cQ (s.data.toList.drop 1) [];have h3:(s.data.toList.drop 1).length<=s.size:=sI;rw [Ap,zc];omega
 ·cases h
def Ny {a:ByteArray} (h:l[k]? =some a):(Cq l)[k]? =some (.string a):=by simp [Cq,h]
def Je (kb g cap:Nat) (xs:List Ino) (s:ByteArray) (w:World) (h:F5 w kb g cap xs) (h1:kb<w.heap.size) (h2:g<w.heap.size) (hn:xs.length<=1000000) (hs:s.size<=maxLen):
  cT 81 #[qP kb 0,.string s] w λe w'=>e=Pa (AH xs s)/\Bw w w':=by
 have H:=AC h;have HN:=AC (Ts s w hs);clear h hs;go_enter func81,ntmps81
 go_wp2_with fail
 refine HN.mono ?_;rintro e w1 ⟨(⟨Z,rfl⟩|⟨l,hl,v,rfl,E⟩),G⟩
 ·have HR:=AC (show AH xs s=C8 8 by unfold AH;rw [Z]);have M:=AC G;clear Z G;go_wp2;exact xh (v:= .tuple #[iV 0,.string ByteArray.empty,iV 0,iV 8]) (by simp [results,results81,go_sem];rfl) rfl ⟨by rw [AB HR];rfl,AB M⟩
 have M:=AC G;have Y:=AC (H.below G h1 h2);clear G
 cases l with
 |nil=>
  have HR:=AC (show AH xs s=⟨0,ByteArray.empty,1,0⟩ by unfold AH;rw [hl])
  have hv:∃a c,v= .slice a 0 c:=by
   rcases E.2 with ⟨hv,_⟩|⟨gg,cc,b6,hv,_⟩
   ·exact ⟨none,0,hv⟩
   ·exact ⟨_,_,hv⟩
  obtain ⟨a,c,rfl⟩:=hv;clear hl E;go_wp2
  exact xh (v:= .tuple #[iV 0,.string ByteArray.empty,iV 1,iV 0]) (by simp [results,results81,go_sem];rfl) rfl ⟨by rw [AB HR];rfl,AB M⟩
 |cons a0 r0=>
  have hr:AH xs s=CI xs 1 (a0::r0):=by unfold AH;rw [hl]
  obtain ⟨l,T⟩:=xE (a0::r0);rw [<-T] at E hr hl;have b1:1<=l.length:=by rw [T];simp
  have b2:l.length<=100:=cR hl;obtain ⟨gl,cl,rfl,b8,c4⟩:=E.form om;have HR:=AC hr;have a6:=AC E;have c1:((l.length:Int)==0)=false:=by rw [qk];omega
  clear hl E T hr;go_wp2
  go_loopw [10,11] (λdv i wr=>∃k:Nat,∃D:Int,k+1<=l.length/\i= iV k/\dv= iV D/\Hid (AH xs s=CI xs D (l.drop k))/\Hid (wr.heap=w1.heap)/\Hid (Bw w wr)) (λ_ i _=>l.length-(intOf i).toNat)
  case atStart=>exact ⟨0,1,om,rfl,rfl,HR,AC rfl,M⟩
  case round=>
   obtain ⟨k,D,hk,rfl,rfl,HF,I,L⟩:=hrel;have B:∀a,wr.cell? a=w1.cell? a:=λa=>by unfold World.cell?;rw [AB I]
   have J:=AC (Y.heap I);by_cases a1:k+1<l.length
   ·obtain ⟨a,b,r,ha,a5,a3⟩:=VS a1
    have c0:wr.cell? (xK gl k)=some (.string a):=by
     rw [B,a6.cellAt _ om];exact Ny ha
    have hf:=AB HF;rw [a5] at hf;unfold CI at hf;have O:=AC hf;have b0:=AC a3;have F:=AC (λw' (hh:w'.heap=w1.heap)=>ME kb g cap xs D a w' (Y.heap hh) hn);obtain ⟨n,X⟩:=xE (Ax xs D a);rw [<-X] at O F;have b3:(0:Int)<=(k:Int):=om;have b5:(k:Int)<(l.length:Int):=om;have b9:(k:Int)<(l.length:Int)-1:=om;have a7:=AC X;clear B ha a5 a3 hf X
    go_wp2_with fail
    refine (AB F wr I).mono ?_;rintro e w2 ⟨rfl,N⟩;subst N;by_cases hz:n=0
    ·have g1:(n==0)=true:=sU hz;have C:=AC (show AH xs s=C8 9 by rw [AB O,vu hz]);clear hz;go_wp2;exact xh (v:= .tuple #[iV 0,.string ByteArray.empty,iV 0,iV 9]) (by simp [results,results81,go_sem];try rfl) rfl ⟨by rw [AB C];rfl,AB L⟩
    ·have g1:(n==0)=false:=sU hz;obtain ⟨x,hx⟩:=Sq (xs:=xs) (dir:=D) (name:=a) (by rw [<-AB a7];exact hz);rw [<-AB a7] at hx;obtain ⟨K,hK,R⟩:=Fo hx;have c5:=(zy.1 R).1;have a4:=AC (Gm kb g cap xs n w2 J hn);rw [hK] at a4;have a2:Ce xs n=x.dir:=by unfold Ce;rw [hx]
     have c3:w2.cell? (xK g (K*5+3))=some (.bool x.dir):=J.cell R (i:=3) om rfl;have c7:=J.1;have V:=AB O;rw [vz hz,a2] at V;have U:=AC V;have c6:(0:Int)<=(K:Int):=om;have b7:(K:Int)<(xs.length:Int):=om;generalize x.dir=DD at c3 U;clear hz hx hK R a2 V
     go_wp2_with fail
     refine a4.mono ?_;rintro e w3 ⟨rfl,b4⟩;subst b4;cases DD
     ·have C:=AC (show AH xs s=C8 11 by rw [AB U];rfl);go_wp2;exact xh (v:= .tuple #[iV 0,.string ByteArray.empty,iV 0,iV 11]) (by simp [results,results81,go_sem];try rfl) rfl ⟨by rw [AB C];rfl,AB L⟩
     ·have C:=AC (show AH xs s=CI xs n (l.drop (k+1)) by rw [AB U,AB b0];rfl);go_wp2
      go_roundw
      case rel=>exact ⟨k+1,n,om,by go_num,rfl,C,I,L⟩
      case measure=>simp [intOf];omega
   ·have c2:k+1=l.length:=om;obtain ⟨a,ha⟩:∃a,l[k]? =some a:=⟨_,zz om⟩
    have a9:l.drop k=[a]:=by
     have a8:k<l.length:=om;rw [un a8,xw om];rw [zz a8] at ha;rw [zr ha]
    have c0:wr.cell? (xK gl k)=some (.string a):=by
     rw [B,a6.cellAt _ om];exact Ny ha
    have hf:=AB HF;rw [a9] at hf;have C:Hid (AH xs s=⟨D,a,Ax xs D a,0⟩):=hf;have F:=AC (ME kb g cap xs D a wr J hn);have e1:(l.length:Int)-1=(k:Int):=om;have b3:(0:Int)<=(k:Int):=om;have b5:(k:Int)<(l.length:Int):=om;generalize Ax xs D a=n at C F;clear B ha a9 hf a1
    go_wp2_with fail
    refine F.mono ?_;rintro e w2 ⟨rfl,N⟩;subst N;go_wp2;exact xh (v:= .tuple #[iV D,.string a,iV n,iV 0]) (by simp [results,results81,go_sem];try rfl) rfl ⟨by rw [AB C];rfl,AB L⟩
structure RK where
 lp:Int
 lf:Int
 lo:Int
 li:Int
 lb:Int
 pv:Value
 ov:Value
 cv:Value
 tv:Value
 uv:Value
 mv:Value
 inos:List Ino
 last:Int
def RK.cells (k:RK) (v:Value):List Value:=[iV k.lp,iV k.lf,iV k.lo,iV k.li,iV k.lb,k.pv,k.ov,v,k.cv,k.tv,k.uv,k.mv,iV k.last]
def EB (w:World) (base kb g cap:Nat) (k:RK):Prop:=
 AE w kb 85 (k.cells (sL g 0 k.inos.length cap))/\w.ownsRow base 126 5 (sL g 0 k.inos.length cap) k.inos.length (CQ k.inos)
def Rx (xs:List Ino):(CQ xs).length=xs.length*5:=by
 unfold CQ
 induction xs with
 |nil=>rfl
 |cons x r ih=>rw [vi,zm,ih];simp [BQ];omega
def EB.at {w:World} {base kb g cap:Nat} {k:RK} (h:EB w base kb g cap k):F5 w kb g cap k.inos:=
 ⟨h.1.cell rfl,λj v hj=>by
  have hl:=(zy.1 hj).1;rw [Rx] at hl
  rw [zq,h.2.cellAt j hl];exact hj⟩
structure Ao (w w':World) (a b:Nat):Prop where
 os:w'.os=w.os
 tape:w'.tape=w.tape
 output:w'.output=w.output
 size:w.heap.size<=w'.heap.size
 block:∀k,k<w.heap.size->k≠a->k≠b->w'.heap[k]? =w.heap[k]?
def Ao.refl (w:World) (a b:Nat):Ao w w a b:=⟨rfl,rfl,rfl,zx _,λ_ _ _ _=>rfl⟩
def Ao.ofBelow (h:Bw w w'):Ao w w' a b:=⟨h.os,h.tape,h.output,h.size,λk hk _ _=>h.block k hk⟩
def Ao.below {B:Nat} (h:Ao w w' a b) (ha:B<=a) (hb:B<=b) (hB:B<=w.heap.size):Below B w w':=⟨h.os,h.tape,h.output,h.size,λk hk=>h.block k om om om⟩
def Ao.grownL (h:Ao w w' a b) (hg:w'.grownBy w'' (some a)):Ao w w'' a b:=
 ⟨hg.os.trans h.os,hg.tape.trans h.tape,hg.output.trans h.output,zg h.size hg.size,λk hk h1 h2=>(hg.block k (o1 h.size) (sU h1)).trans (h.block k hk h1 h2)⟩
def Ao.grownR (h:Ao w w' a b) (hg:w'.grownBy w'' (some b)):Ao w w'' a b:=
 ⟨hg.os.trans h.os,hg.tape.trans h.tape,hg.output.trans h.output,zg h.size hg.size,λk hk h1 h2=>(hg.block k (o1 h.size) (sU h2)).trans (h.block k hk h1 h2)⟩
def Ao.step (h:Ao w w' a b) (hb:Bw w' w''):Ao w w'' a b:=
 ⟨hb.os.trans h.os,hb.tape.trans h.tape,hb.output.trans h.output,zg h.size hb.size,λk hk h1 h2=>(hb.block k (o1 h.size)).trans (h.block k hk h1 h2)⟩
def Ao.trans {b':Nat} (h:Ao w w' a b) (k:Ao w' w'' a b') (hb:b'=b\/w.heap.size<=b'):Ao w w'' a b:=
 ⟨k.os.trans h.os,k.tape.trans h.tape,k.output.trans h.output,zg h.size k.size,λi hi h1 h2=>(k.block i (o1 h.size) h1 (by rcases hb with rfl|hb;exact h2;omega)).trans (h.block i hi h1 h2)⟩
def Sr (b o j:Nat):((xK b o):Addr).add j=(xK b (o+j)):=by unfold Addr.add;split<;>simp_all
def MF (base kb:Nat) (k:RK) (v:Value) (w:World) (h:AE w kb 85 (k.cells v)) (h0:0<=k.last) (h1:k.last<=1000000):
  cT 40 #[qP kb 0] w λe w'=>e= .returned (iV (k.last+1))/\AE w' kb 85 ({k with last:=k.last+1}.cells v)/\w.grownBy w' (some kb):=by
 have c:cE w kb 12 (iV k.last):=h.cell rfl;have f:=h.frozen 12;have H2:Hid (AE (w.setCell (xK kb 12) (iV (k.last+1))) kb 85 ({k with last:=k.last+1}.cells v)):=h.set 12 _;have H3:=AC (AI (zj w (some kb)) 12 (iV (k.last+1)));generalize k.last=L at*;clear h;go_enter func40,ntmps40;go_wp2;go_ret;exact ⟨rfl,AB H2,AB H3⟩
def Tu:(prog.info? 126).map (λi=>(i.zero,i.size,i.bytes))=some (some (.agg #[iV 0,iV 0,.string ByteArray.empty,.bool false,sN]),5,64):=kf
def Bq (id dir:Int) (name:ByteArray) (is:Bool):Ino:=⟨id,dir,name,is,sN⟩
def RK.add (k:RK) (dir:Int) (name:ByteArray) (is:Bool):RK:={k with inos:=k.inos++[Bq (k.last+1) dir name is],last:=k.last+1}
def Nz (base kb g cap:Nat) (k:RK) (dir:Int) (name:ByteArray) (is:Bool) (w:World) (h:EB w base kb g cap k) (a5:kb<base) (a2:base<=w.heap.size) (hn:k.inos.length<=100000) (h0:0<=k.last) (h1:k.last<=1000000):
  cT 82 #[qP kb 0,iV dir,.string name,.bool is] w λe w'=>e= .returned (iV (k.last+1))/\∃g' cap',EB w' base kb g' cap' (k.add dir name is)/\Ao w w' kb g/\(g'=g\/w.heap.size<=g'):=by
 have HF:=AC (MF base kb k _ w h.1 h0 h1);have H:=AC h;have a6:=h.2.lt g rfl;obtain ⟨ii,V,R,T,U⟩:=DX Tu;have J:=AC (xi V (xi R (xi T U)));clear h V R T U;go_enter func82,ntmps82
 go_wp2_with fail
 refine HF.mono ?_;rintro e w1 ⟨rfl,G,I⟩;have a4:=I.size;have F:=H.2.kept I (.inr (by show some g≠some kb;simp;omega));have c7:w1.cell? (xK kb 7)=some (sL g 0 k.inos.length cap):=G.cell rfl;have a3:=G.lt;obtain ⟨Z,a1,D⟩:=H3 G I F;obtain ⟨L,hL⟩:=xE (k.last+1);rw [<-hL];have HL:=AC hL;obtain ⟨n,O⟩:=xE k.inos.length;rw [<-O] at c7 hn D;have X:=AC O;obtain ⟨o,ho⟩:=xE (Obj.cells #[iV L,iV dir,.string name,.bool is,sN] 126);have HO:=AC ho
 have Y:=AC (show ∀j u,(BQ (Bq L dir name is))[j]? =some u->(w1.alloc o).cell? (((xK w1.heap.size 0):Addr).add j)=some u from by
  rw [ho];intro j u hj;rw [Sr,zq]
  exact (AE.new w1 126 (BQ (Bq L dir name is))).cell hj)
 clear G I F hL O ho HF
 go_wp2_with (at_builtin;refine wpList_append_lies _ (by rfl) _ _ 81 (by rfl) base 126 ii _ 5 64 underlying81 J.1 J.2.1 J.2.2.1 J.2.2.2 rfl dz _ _ _ (by rfl) (D.alloc _) (xK w1.heap.size 0) 1 1 (BQ (Bq L dir name is)) (by rfl) (by rfl) (by have h:=AB Y;rw [AB HO] at h;exact h) (by intro u hu;simp only [BQ,Bq,vp,uu,or_false] at hu;rcases hu with rfl|rfl|rfl|rfl|rfl<;>rfl) om (by unfold maxLen;omega) om sO (w1.heap.size+1) sI ?_;intro g5 B w5 E C N a0;have k5:=(Z.alloc (Obj.cells #[iV L,iV dir,.string name,.bool is,sN] 126)).grown C (by show some kb≠some g;simp;omega);have x7:=k5.cell (j:=7) rfl;have y7:=k5.frozen 7;have K5:=AC k5;clear k5)
 have a7:g5=g\/g5=w1.heap.size+1:=by
  rcases N with h|h
  ·left;simpa [Value.ownBlock] using h.symm
  ·exact .inr h
 have M:g5≠kb:=om
 have r1:AE (w5.setCell (xK kb 7) (sL g5 0 (n+1) B)) kb 85 ((k.add dir name is).cells (sL g5 0 (k.add dir name is).inos.length B)):=by
  have h:=K5.set 7 (sL g5 0 (n+1) B);have e:(k.add dir name is).inos.length=n+1:=by rw [RK.add,AB X];simp
  rw [e];exact h
 have r2:(w5.setCell (xK kb 7) (sL g5 0 (n+1) B)).ownsRow base 126 5 (sL g5 0 (k.add dir name is).inos.length B) (k.add dir name is).inos.length (CQ (k.add dir name is).inos):=by
  have e:(k.add dir name is).inos.length=n+1:=by rw [RK.add,AB X];simp
  have e2:CQ (k.add dir name is).inos=CQ k.inos++BQ (Bq L dir name is):=by rw [RK.add,AB HL,CQ,CQ,ur];simp
  rw [e,e2];exact E.kept (AI (w:=w5) (wr:=w5) (b:=kb) ⟨rfl,rfl,rfl,zx _,λ_ _ _=>rfl⟩ 7 _) (.inr (by show some g5≠some kb;simpa using M))
 have r3:Ao w (w5.setCell (xK kb 7) (sL g5 0 (n+1) B)) kb g:=
  ((((Ao.refl w kb g).grownL a1).step bA).grownR C).grownL (AI (w:=w5) (wr:=w5) (b:=kb) ⟨rfl,rfl,rfl,zx _,λ_ _ _=>rfl⟩ 7 _)
 go_ret;exact ⟨by rw [<-AB HL];rfl,g5,B,⟨r1,r2⟩,r3,om⟩
def Cr (k:RK) (s:ByteArray):Int×RK:=
 if (AH k.inos s).e≠0 then ((AH k.inos s).e,k) else if (AH k.inos s).n≠0 then (10,k) else if k.li<=(k.inos.length:Int) then (12,k) else (0,k.add (AH k.inos s).dir (AH k.inos s).name true)
def EB.below {k:RK} (h:EB w base kb g cap k) (hb:Bw w w'):EB w' base kb g cap k:=
 ⟨h.1.below hb h.1.lt,h.2.kept (row:=none) ⟨hb.os,hb.tape,hb.output,hb.size,λq hq _=>hb.block q hq⟩ (.inr (by show some g≠none;simp))⟩
def EB.heap {k:RK} (h:EB w base kb g cap k) (hh:w'.heap=w.heap):EB w' base kb g cap k:=
 ⟨h.1.heap hh,by have h2:=h.2;unfold World.ownsRow at h2 ⊢;rw [hh];exact h2⟩
def Tv (base kb g cap:Nat) (k:RK) (s:ByteArray) (w:World) (h:EB w base kb g cap k) (U:kb<base) (X:base<=w.heap.size) (hn:k.inos.length<=100000) (h0:0<=k.last) (h1:k.last<=1000000) (hs:s.size<=maxLen):
  cT 80 #[qP kb 0,.string s] w λe w'=>e= .returned (iV (Cr k s).1)/\∃g' cap',EB w' base kb g' cap' (Cr k s).2/\Ao w w' kb g/\(g'=g\/w.heap.size<=g'):=by
 have V:=h.2.lt g rfl;have L:=h.1.lt;have HW:=AC (Je kb g cap k.inos s w h.at L V.2 om hs);have H:=AC h;obtain ⟨r,hr⟩:=xE (AH k.inos s);rw [<-hr] at HW;have hm:Cr k s=if r.e≠0 then (r.e,k) else if r.n≠0 then (10,k) else if k.li<=(k.inos.length:Int) then (12,k) else (0,k.add r.dir r.name true):=by rw [Cr,hr]
 have HM:=AC hm;clear h hs hr hm;obtain ⟨dir,name,n,e⟩:=r;simp only at HM;unfold Pa at HW;go_enter func80,ntmps80
 go_wp2_with fail
 refine HW.mono ?_;rintro e' w1 ⟨rfl,G⟩;have D:=AC (H.below G);have B:=AC (Ao.ofBelow (a:=kb) (b:=g) G);have R:=G.size;clear G HW;simp only;by_cases t1:e=0
 case neg=>
  have g1:(e !=0)=true:=sU t1;have hm:=AB HM;rw [vu t1] at hm;have C:=AC hm;clear t1 hm;go_wp2;go_ret;exact ⟨by rw [AB C];rfl,g,cap,by rw [AB C];exact AB D,AB B,.inl rfl⟩
 have g1:(e !=0)=false:=sU t1;by_cases t2:n=0
 case neg=>
  have g2:(n !=0)=true:=sU t2;have hm:=AB HM;rw [vz (sU t1),vu t2] at hm;have C:=AC hm;clear t1 t2 hm;go_wp2;go_ret;exact ⟨by rw [AB C];rfl,g,cap,by rw [AB C];exact AB D,AB B,.inl rfl⟩
 have g2:(n !=0)=false:=sU t2;have hm:=AB HM;rw [vz (sU t1),vz (sU t2)] at hm;have C:=AC hm;have c3:cE w1 kb 3 (iV k.li):=D.1.cell rfl;have c7:cE w1 kb 7 (sL g 0 k.inos.length cap):=D.1.cell rfl;clear t1 t2 hm HM;by_cases t3:k.li<=(k.inos.length:Int)
 ·have hm:=AB C;rw [vu t3] at hm;have F:=AC hm;clear hm;go_wp2
  go_quiet (fail)
  go_wp2;go_ret;exact ⟨by rw [AB F];rfl,g,cap,by rw [AB F];exact D.heap rfl,⟨B.os,B.tape,B.output,B.size,B.block⟩,.inl rfl⟩
 ·have hm:=AB C;rw [vz t3] at hm;have F:=AC hm;clear hm;go_wp2
  go_quiet (fail)
  have M:=AC (Nz base kb g cap k dir name true (w1.drewN nq) (D.heap rfl) U (by show base<=w1.heap.size;omega) hn h0 h1)
  go_wp2_with fail
  refine M.mono ?_;rintro e' w2 ⟨rfl,g',cap',I,E,J⟩;have O:=AC I;have T:=AC (show Ao w w2 kb g from ⟨E.os.trans B.os,E.tape.trans B.tape,E.output.trans B.output,zg B.size E.size,λq hq a b=>(E.block q (by show q<w1.heap.size;omega) a b).trans (B.block q hq a b)⟩);have N:g'=g\/w.heap.size<=g':=by rcases J with h|h;exact .inl h;exact .inr (zg R h)
  clear I E J;go_wp2;go_ret;exact ⟨by rw [AB F];rfl,g',cap',by rw [AB F];exact AB O,AB T,N⟩
def Ay (b off cap:Nat) (s:Seg):List Value:=[.int .u8 s.perm,uV s.addr,sL b (II off cap s) s.inFile.toNat (cap-s.offs.toNat),iV (s.addr/256),iV ((s.addr+s.mem-1)/256)]
def Eb:List Value:=[.int .u8 0,uV 0,sN,iV 0,iV 0]
def Bt (b off cap:Nat) (ss:List Seg):List Value:=ss.flatMap (Ay b off cap)
def BU (B:List Int) (k:Nat):List Seg:=(List.range k).map λi=>D7 B (64+56*i)
def DY (b off cap:Nat) (B:List Int) (n k:Nat):List Value:=Bt b off cap (BU B k)++(List.replicate (n-k) Eb).flatten
def Eo (b off cap:Nat) (ss:List Seg):(Bt b off cap ss).length=ss.length*5:=by
 unfold Bt
 induction ss with
 |nil=>rfl
 |cons s r ih=>rw [vi,zm,ih];simp [Ay];omega
def FY (B:List Int) (k:Nat):(BU B k).length=k:=by simp [BU]
def MI (b off cap:Nat) (s:Seg):∀v∈Ay b off cap s,v.oneCell'=true:=by
 intro v hv;simp only [Ay,vp,uu,or_false] at hv;rcases hv with rfl|rfl|rfl|rfl|rfl<;>rfl
def Tz (m:Nat):(List.replicate m Eb).flatten.length=m*5:=by
 induction m with
 |zero=>rfl
 |succ m ih=>rw [ri,List.flatten_cons,zm,ih];simp [Eb];omega
def PG (b off cap:Nat) (B:List Int) (n k:Nat) (h:k<=n):(DY b off cap B n k).length=n*5:=by
 rw [DY,zm,Eo,FY,Tz];omega
def Rz (b off cap:Nat) (B:List Int) (n k:Nat) (h:k<n):splice (DY b off cap B n k) (k*5) (Ay b off cap (D7 B (64+56*k)))=DY b off cap B n (k+1):=by
 have e1:n-k=(n-(k+1))+1:=om;have e2:BU B (k+1)=BU B k++[D7 B (64+56*k)]:=by simp [BU,qf]
 have hl:(Bt b off cap (BU B k)).length=k*5:=by rw [Eo,FY]
 unfold splice DY;rw [e1,ri,List.flatten_cons,e2,Bt,Bt,ur];change _=(Bt b off cap (BU B k)++_)++_;change List.take _ (Bt b off cap (BU B k)++_)++(_++List.drop _ (Bt b off cap (BU B k)++_))=_
 rw [xy om,xx om,rm,qw om,hl,
  show k*5+(Ay b off cap (D7 B (64+56*k))).length-k*5=5 from by simp [Ay]]
 simp [Eb]
def R8 (b off cap:Nat) (B:List Int) (n:Nat):DY b off cap B n n=Bt b off cap (BU B n):=by
 rw [DY,ya];simp
def SA (b off cap:Nat) (B:List Int) (n:Nat):DY b off cap B n 0=(List.replicate n Eb).flatten:=by
 rw [DY,Nat.sub_zero];rfl
def cZ (w:World):(Instr.makeSlice 264 (iV ((1:Nat):Int)) (iV ((1:Nat):Int))).run prog w= .ok (sL w.heap.size 0 1 1) (w.alloc (.cells (List.replicate 1 Eb).flatten.toArray 269)):=kf
def cd (w:World):(Instr.makeSlice 264 (iV ((2:Nat):Int)) (iV ((2:Nat):Int))).run prog w= .ok (sL w.heap.size 0 2 2) (w.alloc (.cells (List.replicate 2 Eb).flatten.toArray 269)):=kf
def ch (w:World):(Instr.makeSlice 264 (iV ((3:Nat):Int)) (iV ((3:Nat):Int))).run prog w= .ok (sL w.heap.size 0 3 3) (w.alloc (.cells (List.replicate 3 Eb).flatten.toArray 269)):=kf
def ci (w:World):(Instr.makeSlice 264 (iV ((4:Nat):Int)) (iV ((4:Nat):Int))).run prog w= .ok (sL w.heap.size 0 4 4) (w.alloc (.cells (List.replicate 4 Eb).flatten.toArray 269)):=kf
def cm (w:World):(Instr.makeSlice 264 (iV ((5:Nat):Int)) (iV ((5:Nat):Int))).run prog w= .ok (sL w.heap.size 0 5 5) (w.alloc (.cells (List.replicate 5 Eb).flatten.toArray 269)):=kf
def co (w:World):(Instr.makeSlice 264 (iV ((6:Nat):Int)) (iV ((6:Nat):Int))).run prog w= .ok (sL w.heap.size 0 6 6) (w.alloc (.cells (List.replicate 6 Eb).flatten.toArray 269)):=kf
def cr (w:World):(Instr.makeSlice 264 (iV ((7:Nat):Int)) (iV ((7:Nat):Int))).run prog w= .ok (sL w.heap.size 0 7 7) (w.alloc (.cells (List.replicate 7 Eb).flatten.toArray 269)):=kf
def ct (w:World):(Instr.makeSlice 264 (iV ((8:Nat):Int)) (iV ((8:Nat):Int))).run prog w= .ok (sL w.heap.size 0 8 8) (w.alloc (.cells (List.replicate 8 Eb).flatten.toArray 269)):=kf
def gj (w:World) (n:Nat) (h1:1<=n) (h8:n<=8):(Instr.makeSlice 264 (iV n) (iV n)).run prog w= .ok (sL w.heap.size 0 n n) (w.alloc (.cells (List.replicate n Eb).flatten.toArray 269)):=by
 have h:n=1\/n=2\/n=3\/n=4\/n=5\/n=6\/n=7\/n=8:=om;rcases h with rfl|rfl|rfl|rfl|rfl|rfl|rfl|rfl
 ·exact cZ w
 ·exact cd w
 ·exact ch w
 ·exact ci w
 ·exact cm w
 ·exact co w
 ·exact cr w
 ·exact ct w
def lJ:(prog.info? 269).map (·.size)=some 5:=kf
def Ep {b:Nat} {t:TypeId}:∀(vs:List Value) (o:Nat) (W:World) (L:List Value),AE W b t L->o+vs.length<=L.length->AE (W.setCells b o vs) b t (splice L o vs)
 |[],o,W,L,h,_=>by rw [En];exact h
 |v::r,o,W,L,h,hl=>by
  have B:o+(r.length+1)<=L.length:=hl;have:=Ep r (o+1) _ _ (h.set o v) (by rw [yu];omega);rw [World.setCells]
  have e:splice (L.set o v) (o+1) r=splice L o (v::r):=by
   have a:=Hc L o [v] 0 v rfl sO;simp only [List.take_zero,En,sq,zq] at a;rw [a,show (List.take 1 [v])=[v] from rfl];exact GN L o [v] r sO
  rwa [e] at this
def Er {w:World} {b:Nat}:∀(vs:List Value) (o:Nat) (wr:World),w.grownBy wr (some b)->w.grownBy (wr.setCells b o vs) (some b)
 |[],_,_,h=>h
 |v::r,o,wr,h=>Er r (o+1) _ (AI h o v)
def N4 {W:World} {vs:List Value} (h:AE W b t vs) (o n:Nat) (hn:o+n<=vs.length):W.there b o n:=λj hj=>
 ⟨by rw [h.cell (zz (show o+j<vs.length by omega))];rfl,h.frozen _⟩
def Ec {P:Program} {ops:Array Oper} {rest:List Oper} {o:Oper} {a:Act} {Q:Exit->Act->World->Prop} (D:o.guard=none) (ty:TypeId) (x y:Operand) (ho:o.op= .store ty x y)
  (g off:Nat) (cs:List Value) (hx:a.eval x= qP g off) (hy:a.eval y= .agg cs.toArray)
  (t:TypeId) (C:List Value) (hg:AE w g t C) (hi:(P.info? ty).map (·.size)=some cs.length) (B:off+cs.length<=C.length) (h1:∀v∈cs,v.oneCell'=true)
  (h:∀w',Hid (AE w' g t (splice C off cs))->Hid (w.grownBy w' (some g))->wpList P ops Q rest (a.put o.dst undef) w'):wpList P ops Q (o::rest) a w:=by
 refine wpList_store_mid D ty x y ho g off cs.toArray hx hy (N4 hg _ _ (sU B)) (sU hi) (all_oneCell_toArray h1) ?_;refine h _ (AC (Ep cs off _ _ hg B)) (AC (Er cs off w ⟨rfl,rfl,rfl,zx _,λ_ _ _=>rfl⟩))
def gk (b off cap:Nat) (s:Seg):(prog.info? 269).map (·.size)=some (Ay b off cap s).length:=lJ
def gm {B:List Int} {n:Nat} (h:k<n) (s:Seg):k*5+(Ay b off cap s).length<=(DY b off cap B n k).length:=by
 rw [PG _ _ _ _ _ _ om];show k*5+5<=n*5;omega
def Ic {p:Nat->Prop} (h:∀i,i<k->p i) (hk:p k):∀i,i<k+1->p i:=λi hi=>by
 rcases sj.1 hi with h'|h'
 ·exact h i h'
 ·rw [h'];exact hk
def go (b off cap:Nat) (B:List Int) (n:Nat) (w:World) (e:Ending) (w':World):Prop:=
 ((∀i,i<n->GW B (64+56*i))/\e= .returned (.tuple #[sL w.heap.size 0 n n,.bool true])/\AE w' w.heap.size 269 (Bt b off cap (BU B n))\/
  (¬∀i,i<n->GW B (64+56*i))/\e= .returned (.tuple #[sN,.bool false]))/\Bw w w'
def NG (b off cap:Nat) (B:List Int) (n:Nat) (w:World) (hB:AK B) (G:B.length<=cap) (H:B.length<=500000) (hv:Am w b off B) (a2:b<w.heap.size) (h1:1<=n) (h8:n<=8) (hp:64+56*n<=B.length):
  cT 122 #[sL b off B.length cap,iV n] w λe w'=>go b off cap B n w e w':=by
 have b0:=λw=>gj w n h1 h8;have HB:=AC hB;have HV:=AC hv;have HL:=AC (xi G (xi H hp));clear hB hv G H hp;go_enter func122,ntmps122;go_wp2
 go_loopw [14] (λi wr=>∃k:Nat,k<=n/\i= iV k/\(∀i,i<k->GW B (64+56*i))/\AE wr w.heap.size 269 (DY b off cap B n k)/\Bw w wr) (λi _=>n-(intOf i).toNat)
 case atStart=>exact ⟨0,om,rfl,λi hi=>om,by rw [SA];exact AE.new _ _ _,bA⟩
 case round=>
  obtain ⟨k,hk,rfl,Z,hh,R⟩:=hrel;obtain ⟨T,HH,F⟩:=H3 Z hh R;have a5:=hh.lt;clear Z hh R;by_cases J:k<n
  ·obtain ⟨p,hp⟩:=xE (64+56*k);have e1:(64:Int)+56*(k:Int)=(p:Int):=om;have a7:(p:Int)<=600:=om;have X:Am wr b off B:=HV.below F a2;have HR:=AC (PF b off cap B p wr HB HL.1 HL.2.1 X om (o1 HL.2.2));have HP:=AC hp;have a8:(0:Int)<=(k:Int):=om;have O:(k:Int)<(n:Int):=om;have a9:(k:Int)<=8:=om;clear hp X
   go_wp2_with fail
   refine HR.mono ?_;rintro e w1 ⟨(⟨ok,rfl⟩|⟨a0,rfl⟩),I⟩
   ·have V:=HH.below I a5;have C:=F.trans (I.mono F.size);obtain ⟨OK,Y,E⟩:=H3 ok V C;clear ok V C I HH F HR;unfold I0;obtain ⟨sg,L⟩:∃s,s=D7 B p:=⟨_,rfl⟩;rw [<-L];have D:splice (DY b off cap B n k) (k*5) (Ay b off cap sg)=DY b off cap B n (k+1):=by rw [L,AB HP];exact Rz _ _ _ _ _ _ J
    clear L;have a6:=AC D;have N:=Y.lt;clear D
    go_wp2_with (refine Ec rfl 269 (.tmp 30) (.tmp 29) rfl w.heap.size (k*5) (Ay b off cap sg) (by rfl) (by rfl) 269 (DY b off cap B n k) (Y.alloc _) (gk b off cap sg) (gm J sg) (MI b off cap sg) ?_;intro w2 a1 a3)
    go_roundw
    case rel=>
     have U:=E.alloc (Nat.le_of_lt N) (.cells (Ay b off cap sg).toArray 269);exact ⟨k+1,om,by go_num,Ic (AB T) (by rw [<-AB HP];exact AB OK),by rw [<-AB a6];exact AB a1,U.trans (Aa (AB a3) (zx _) U.size)⟩
    case measure=>simp [intOf];omega
   ·have C:=F.trans (I.mono F.size);have M:=C.size;have E:=AC C;have a4:=AC a0;clear I C a0 HR;unfold Gj;go_wp2;exact xh (v:= .tuple #[sN,.bool false]) (by simp [results,results122,go_sem]) rfl ⟨.inr ⟨λh=>AB a4 (by rw [AB HP];exact h k J),rfl⟩,E.alloc M _⟩
  ·have O:k=n:=om;subst O;go_wp2;exact xh (v:= .tuple #[sL w.heap.size 0 k k,.bool true]) (by simp [results,results122,go_sem]) rfl ⟨.inl ⟨AB T,rfl,by rw [<-R8];exact AB HH⟩,AB F⟩
abbrev EW:Seg:=⟨0,0,0,0,0⟩
def I4 (x y:Seg):Int:=if x.addr<y.addr then -1 else if y.addr<x.addr then 1 else 0
def Hq (x y:Seg):I4 x y<0↔x.addr<y.addr:=by
 unfold I4;split
 ·simp [*]
 ·split<;>simp [*]
def gr (w:World):cT 173 #[uV x] w λe w'=>e= .returned (.bool false)/\w'=w:=by
 go_enter func173,ntmps173;go_wp2;go_ret;exact ⟨rfl,rfl⟩
def nO (y r:Int) (w:World) (hr:r=if x<y then -1 else if y<x then 1 else 0):cT 125 #[uV x,uV y] w λe w'=>e= .returned (iV r)/\w'=w:=by
 have H:=AC gr;by_cases h1:x<y
 ·rw [vu h1] at hr;subst hr;go_enter func125,ntmps125
  go_wp2_with (go_at_call 173;refine (AB H _ _).mono ?_;rintro e w' ⟨rfl,rfl⟩)
  go_ret;exact ⟨rfl,rfl⟩
 ·rw [vz h1] at hr;by_cases h2:y<x
  ·rw [vu h2] at hr;subst hr;go_enter func125,ntmps125
   go_wp2_with (go_at_call 173;refine (AB H _ _).mono ?_;rintro e w' ⟨rfl,rfl⟩)
   go_ret;exact ⟨rfl,rfl⟩
  ·rw [vz h2] at hr;subst hr;go_enter func125,ntmps125
   go_wp2_with (go_at_call 173;refine (AB H _ _).mono ?_;rintro e w' ⟨rfl,rfl⟩)
   go_ret;exact ⟨rfl,rfl⟩
def VX (b off cap:Nat) (x y:Seg) (W:World):cT 124 #[.agg (Ay b off cap x).toArray,.agg (Ay b off cap y).toArray] W λe w'=>e= .returned (iV (I4 x y))/\∃q B,w'=Go.Sort.grow (W.drewN q) B:=by
 have H:=AC (λw=>nO x.addr y.addr (I4 x y) w rfl);generalize I4 x y=r at H ⊢;unfold Ay;go_enter func124,ntmps124
 go_wp2_with (go_at_call 125;refine (AB H _).mono ?_;rintro e w' ⟨rfl,rfl⟩)
 go_ret;exact ⟨rfl,0,_,by rw [Go.Sort.alloc_eq_grow,Go.Sort.alloc_eq_grow,Go.Sort.grow_grow];rfl⟩
def Jg (b off cap:Nat):∀(ss:List Seg) (i j:Nat) (s:Seg),j<5->ss[i]? =some s->(Bt b off cap ss)[i*5+j]? =(Ay b off cap s)[j]?
 |[],i,j,s,_,h=>by simp at h
 |x::r,0,j,s,hj,h=>by
  obtain rfl:x=s:=sU h
  rw [Bt,vi,Nat.zero_mul,zq,zo (show j<(Ay b off cap x).length from hj)]
 |x::r,i+1,j,s,hj,h=>by
  have ih:=Jg b off cap r i j s hj (sU h);rw [Bt,vi,zn (show (Ay b off cap x).length<=(i+1)*5+j from by show 5<=_;omega)];rw [show (i+1)*5+j-(Ay b off cap x).length=i*5+j from by show (i+1)*5+j-5=_;omega];exact ih
section
variable [Inhabited Seg]
def VY (b off cap:Nat) (ss:List Seg):Go.Sort.flatK (Ay b off cap) 5 ss.toArray=(Bt b off cap ss).toArray:=by
 apply Go.Sort.ext_get!
 ·simp [Eo]
 ·intro t ht;have B:t<ss.length*5:=sU ht;rw [Go.Sort.get_flatK _ _ _ _ (sU B)];have hi:t/5<ss.length:=om;have h:=Jg b off cap ss (t/5) (t%5) ss[t/5] (Nat.mod_lt _ om) (zz hi);rw [show t/5*5+t%5=t from om] at h;have e:ss.toArray[t/5]! =ss[t/5]:=by simp [getElem!_pos,hi]
  rw [e];simp only [List.getElem!_toArray,List.getElem!_eq_getElem?_getD,h]
def cu {ss:List Seg} (h:AE w g t (Bt b off cap ss)):Go.Sort.HoldsK (Ay b off cap) 5 w g 0 ss.toArray:=by
 unfold Go.Sort.HoldsK;rw [VY];intro j hj;rw [zq];refine ⟨?_,h.frozen j⟩;have B:j<(Bt b off cap ss).length:=sU hj;rw [h.cell (zz B)];simp [getElem!_pos,B]
def T7 {ss ss':List Seg} (h:AE w g t (Bt b off cap ss)) (hl:ss'.length=ss.length) (m:Nat) (os:Array Obj):
  AE (sortWorldK (Ay b off cap) 5 w g 0 m ss'.toArray os) g t (Bt b off cap ss')/\w.grownBy (sortWorldK (Ay b off cap) 5 w g 0 m ss'.toArray os) (some g):=by
 have C:=h.lt;have B:(Bt b off cap ss').length=(Bt b off cap ss).length:=by rw [Eo,Eo,hl]
 unfold sortWorldK Go.Sort.grow Go.Sort.putRowK Go.Sort.putRow Go.Sort.mapBlock Go.Sort.ahead;rw [VY];constructor
 ·unfold AE at h ⊢;simp only;rw [Array.getElem?_append_left (sU C),Array.getElem?_modify,vu rfl,h];simp only [Option.map_some,Go.Sort.onCells,Option.some.injEq,Obj.cells.injEq,and_true];unfold Go.Sort.putCells;apply Array.ext
  ·simp [B]
  ·intro i h1 h2;have D:i<(Bt b off cap ss').length:=sU h2;simp [D,getElem!_pos]
 ·refine ⟨rfl,rfl,rfl,sI,λk hk E=> ?_⟩;simp only;rw [Array.getElem?_append_left (sU hk),Array.getElem?_modify,vz (λe=>E (by rw [e]))]
end
def gt:Go.Sort.SWO (ltOf I4) where
 irrefl x:=by simp only [ltOf,Hq];simp
 trans x y z h1 h2:=by simp only [ltOf,Hq,rh] at*;omega
 ntrans x y z h1 h2:=by simp only [ltOf,Hq,decide_eq_false_iff_not] at*;omega
def T8 (n:Nat) (W:World) (h:n<=12):cT 172 #[uV n] W λe w'=>(∃l:Int,e= .returned (iV l))/\w'=W:=
 (Any.bits_Len lL n W om om).mono λ_ _ ⟨he,hw⟩=>⟨⟨_,he⟩,hw⟩
def gu (b off cap g c:Nat) (ss:List Seg) (w:World) (h:AE w g 269 (Bt b off cap ss)) (h8:ss.length<=8):
  cT 123 #[sL g 0 ss.length c,.func (.func 124) #[] #[]] w λe w'=>
   e= .returned (.tuple #[])/\∃ss':List Seg,ss'.Perm ss/\(∀i j,i<j->j<ss'.length->(ss'.getD i EW).addr<=(ss'.getD j EW).addr)/\AE w' g 269 (Bt b off cap ss')/\w.grownBy w' (some g):=by
 haveI hinh:Inhabited Seg:=⟨EW⟩
 have eg:eN 124:=enters_of func124 kf rfl;have C:=AnyQ.slices_SortFunc_small_sorted lK 5 isAgg269 sizeOf269 (Ay b off cap) (λ_=>rfl) (MI b off cap) I4 124 #[] gt g 0 c ss.toArray w eg (λ_ _ _ _ x y=>VX b off cap x y _) (cu h) h.lt sO (λn W hn=>T8 n W hn);change cT 123 #[sL g 0 ss.length c,.func (.func 124) #[] #[]] w _ at C;refine C.mono ?_;rintro e w' ⟨he,d',n,os,hp,hs,rfl⟩;refine ⟨he,d'.toList,?_,?_,?_⟩
 ·have:=hp.2.2;have B:=hp.1;simp only [List.size_toArray] at this B;rw [show d'.extract 0 ss.length=d' from by rw [<-B];simp] at this;simpa using this
 ·intro i j F hj;have B:=hp.1;simp only [List.size_toArray] at B;have:=hs i j (Nat.zero_le _) F (by simp only [List.size_toArray];simpa [B] using hj);simp only [ltOf,Hq,decide_eq_false_iff_not] at this;have E:j<d'.size:=sU hj;have D:i<d'.size:=om;rw [getElem!_pos d' j E,getElem!_pos d' i D] at this;simp only [List.getD,Array.getElem?_toList,Array.getElem?_eq_getElem E,Array.getElem?_eq_getElem D,Option.getD_some];omega
 ·have B:=hp.1;have:=T7 (ss':=d'.toList) h (sU B) n os;simpa using this
def Seg.first (s:Seg):Int:=s.addr/256
def Seg.last (s:Seg):Int:=(s.addr+s.mem-1)/256
def NH (ss:List Seg) (i:Nat):Prop:=(ss.getD (i+1) EW).first<=(ss.getD i EW).last
def EM {ss:List Seg} (h:AE w g t (Bt b off cap ss)) (i:Nat) (hi:i<ss.length) (j:Nat) (v:Value) (hj:j<5) (hv:(Ay b off cap (ss.getD i EW))[j]? =some v):w.cell? (xK g (i*5+j))=some v:=by
 refine h.cell ?_;rw [Jg b off cap ss i j (ss.getD i EW) hj (by simp [List.getD,zz hi])];exact hv
def VZ (b off cap g c:Nat) (ss:List Seg) (w:World) (h:AE w g 269 (Bt b off cap ss)) (h8:ss.length<=8) (h1:1<=ss.length):
  cT 126 #[sL g 0 ss.length c] w λe w'=>
   ((∃i,i+1<ss.length/\NH ss i)/\e= .returned (.bool true)\/(∀i,i+1<ss.length->¬NH ss i)/\e= .returned (.bool false))/\w'.heap=w.heap/\Bw w w':=by
 have H:=AC h;clear h;go_enter func126,ntmps126;go_wp2
 go_loopw [3] (λi wr=>∃k:Nat,k+1<=ss.length/\i= iV ((k+1:Nat):Int)/\Hid (∀j,j<k->¬NH ss j)/\wr.heap=w.heap/\Bw w wr) (λi _=>ss.length-(intOf i).toNat)
 case atStart=>exact ⟨0,om,rfl,λj hj=>om,rfl,zw _ _⟩
 case round=>
  obtain ⟨k,hk,rfl,HN,hh,E⟩:=hrel;obtain ⟨q,hq⟩:=xE (k+1);rw [<-hq];have HQ:=AC hq;have B:=AC E;have C:=H.heap hh;have HH:=AC hh;by_cases J:q<ss.length
  ·have c1:wr.cell? (xK g (q*5+3))=some (iV (ss.getD q EW).first):=EM C q J 3 _ om rfl;have c2:wr.cell? (xK g (k*5+4))=some (iV (ss.getD k EW).last):=EM C k om 4 _ om rfl;have e1:(q:Int)-1=(k:Int):=om;have R:(0:Int)<=(q:Int):=om;have I:(q:Int)<(ss.length:Int):=om;have O:(0:Int)<=(k:Int):=om;have N:(k:Int)<(ss.length:Int):=om;have T:(q:Int)<=8:=om;have G:NH ss k↔(ss.getD q EW).first<=(ss.getD k EW).last:=by rw [hq];rfl
   have D:=AC G;generalize (ss.getD q EW).first=F at c1 D;generalize (ss.getD k EW).last=L at c2 D;clear C hh E hq G;by_cases M:F<=L
   ·go_wp2
    go_quiet (fail)
    go_wp2;go_ret;exact ⟨.inl ⟨⟨k,om,D.2 M⟩,rfl⟩,AB HH,⟨B.os,B.tape,B.output,B.size,B.block⟩⟩
   ·go_wp2
    go_quiet (fail)
    go_wp2
    go_roundw
    case rel=>exact ⟨q,om,by go_num,AC (by rw [AB HQ];exact Ic (AB HN) (λho=>by (have:=D.1 ho;omega))),AB HH,⟨B.os,B.tape,B.output,B.size,B.block⟩⟩
    case measure=>simp [intOf];omega
  ·have I:¬(q:Int)<(ss.length:Int):=om;clear C hh E hq;go_wp2;go_ret;exact ⟨.inr ⟨λi hi=>(AB HN) i (o1 (AB HQ)),rfl⟩,AB HH,AB B⟩
def Yd (E:Int) (s:Seg):Prop:=bits BinOp.and IntKind.u8 s.perm 1≠0/\s.first<=E/256/\E/256<=s.last
def Su (E:Int) (ss:List Seg):Prop:=E%4=0/\E<65024/\∃i,i<ss.length/\Yd E (ss.getD i EW)
def lM (n:Int) (h0:0<=n) (h1:n<1000000):IntKind.i64.wrap n=n:=by
 simp [IntKind.wrap,IntKind.bits,IntKind.signed];split<;>omega
def Va (b off cap g c:Nat) (E:Int) (ss:List Seg) (w:World) (h:AE w g 269 (Bt b off cap ss)) (h8:ss.length<=8) (E0:0<=E):
  cT 128 #[uV E,sL g 0 ss.length c] w λe w'=>
   (Su E ss/\e= .returned (.bool true)\/¬Su E ss/\e= .returned (.bool false))/\Bw w w':=by
 have H:=AC h;have M:=h.lt;clear h;by_cases q1:E%4=0
 case neg=>
  have f1:(E%4 !=0)=true:=sU q1;have Q1:=AC q1;clear q1;go_enter func128,ntmps128;go_wp2;go_ret;exact ⟨.inr ⟨λho=>AB Q1 ho.1,rfl⟩,zw _ _⟩
 have f1:(E%4 !=0)=false:=sU q1;have Q1:=AC q1;clear q1;by_cases q2:E<65024
 case neg=>
  go_enter func128,ntmps128;go_wp2;go_ret;exact ⟨.inr ⟨λho=>by (have:=ho.2.1;omega),rfl⟩,zw _ _⟩
 obtain ⟨P,hP⟩:=xE (E/256);have y1:IntKind.i64.wrap (E/256)=P:=by rw [lM _ om om];exact hP.symm
 have HP:=AC hP;clear hP;go_enter func128,ntmps128;go_wp2
 go_loopw [20] (λi wr=>∃k:Nat,k<=ss.length/\i= iV k/\Hid (∀j,j<k->¬Yd E (ss.getD j EW))/\Bw w wr) (λi _=>ss.length-(intOf i).toNat)
 case atStart=>exact ⟨0,om,rfl,λj hj=>om,zw _ _⟩
 case round=>
  obtain ⟨k,hk,rfl,HN,D⟩:=hrel;have I:=AC D;have B:=H.below D M;have J:=D.size;by_cases C:k<ss.length
  ·obtain ⟨s,hs⟩:=xE (ss.getD k EW);have c0:wr.cell? (xK g (k*5))=some (.int .u8 s.perm):=by rw [hs];exact EM B k C 0 _ om rfl
   have c1:wr.cell? (xK g (k*5+1))=some (uV s.addr):=by rw [hs];exact EM B k C 1 _ om rfl
   have c2:wr.cell? (xK g (k*5+2))=some (sL b (II off cap s) s.inFile.toNat (cap-s.offs.toNat)):=by rw [hs];exact EM B k C 2 _ om rfl
   have c3:wr.cell? (xK g (k*5+3))=some (iV s.first):=by rw [hs];exact EM B k C 3 _ om rfl
   have c4:wr.cell? (xK g (k*5+4))=some (iV s.last):=by rw [hs];exact EM B k C 4 _ om rfl
   have O:(0:Int)<=(k:Int):=om;have N:(k:Int)<(ss.length:Int):=om;have G:Yd E (ss.getD k EW)↔(bits BinOp.and IntKind.u8 s.perm 1≠0/\s.first<=P/\P<=s.last):=by rw [<-hs,AB HP];rfl
   have HE:=AC G;obtain ⟨X,hX⟩:=xE (bits BinOp.and IntKind.u8 s.perm 1);rw [<-hX] at HE;have R:=hX.symm;generalize s.first=F at c3 HE;generalize s.last=L at c4 HE;generalize s.addr=A at c1;generalize s.inFile.toNat=FL at c2;generalize s.offs.toNat=OF at c2;clear B D hs G hX;by_cases t1:X=0
   ·have g1:(X !=0)=false:=sU t1;clear t1;go_wp2
    go_roundw
    case rel=>exact ⟨k+1,om,by go_num,AC (Ic (AB HN) (λho=>by (have:=(HE.1 ho).1;simp at g1;exact this g1))),I.alloc J _⟩
    case measure=>simp [intOf];omega
   ·have g1:(X !=0)=true:=sU t1;have T1:=AC t1;clear t1;by_cases t2:F<=P
    ·by_cases t3:P<=L
     ·go_wp2;go_ret;exact ⟨.inl ⟨⟨AB Q1,q2,k,C,HE.2 ⟨AB T1,t2,t3⟩⟩,rfl⟩,I.alloc J _⟩
     ·go_wp2
      go_roundw
      case rel=>exact ⟨k+1,om,by go_num,AC (Ic HN (λho=>by (have:=(HE.1 ho).2.2;omega))),I.alloc J _⟩
      case measure=>simp [intOf];omega
    ·go_wp2
     go_roundw
     case rel=>exact ⟨k+1,om,by go_num,AC (Ic HN (λho=>by (have:=(HE.1 ho).2.1;omega))),I.alloc J _⟩
     case measure=>simp [intOf];omega
  ·clear B D;go_wp2;go_ret;exact ⟨.inr ⟨λho=>by (obtain ⟨_,_,i,hi,he⟩:=ho;exact HN i om he),rfl⟩,AB I⟩
section
open Extern.Stop Stop Extern
def Tryz.typeOfC (w:World):(ReflectliteType.typeOf #[.iface 331 v]).run Tryz.prog w= .ok (.iface 204 (.agg #[qP 6 331])) w:=kf
def Tryz.assignableC (w:World):(ReflectliteType.relation "AssignableTo" ReflectliteType.assignableTo #[.agg #[qP 6 331],.iface 204 (.agg #[qP 6 40])]).run Tryz.prog w= .ok (.bool false) w:=kf
def Tryz.asC (w:World):(Instr.typeAssert (.iface 331 v) 33 209 true).run Tryz.prog w= .ok (.tuple #[.nilIface,.bool false]) w:=run_typeAssert_lacksB Tryz.underlying209 kf kf v _ w
def Tryz.unC (w:World):(Instr.typeAssert (.iface 331 v) 33 212 true).run Tryz.prog w= .ok (.tuple #[.iface 331 v,.bool true]) w:=run_typeAssert_hasB Tryz.underlying212 kf v _ w
def Tryz.methodUnwrap (h:Value) (w:World):(Go.method 710 331 h "Unwrap").run Tryz.prog w= .ok (500,h) w:=kf
def mT (n:Int) (q:Nat) (t:Addr) (B:Value) (w:World) (hg:w.cell? (xK 0 0)=some (.iface 204 (.agg #[qP 6 33]))) (D:w.cell? t=some B) (F:w.frozen? t=false) (hq:cE w q 1 (iV n)):
  cT 14 #[.iface 331 (qP q 0),.iface 62 (.pointer (some t))] w λev w'=>ev= .returned (.bool true)/\w'=((((w.alloc (.cells #[.pointer (some t)] 62)).alloc (.cells #[qP 6 62,qP w.heap.size 0,uV 150] 115)).alloc (.cells #[qP 6 62,qP w.heap.size 0,uV 150] 115)).alloc (.cells #[iV n] 40)).setCell t (iV n):=by
 have h6:= @run_callFunc_extern prog 36 _ (λargs=>ReflectliteValue.unpack (args.getD 0 (.tuple #[]))) func36 kf kf kf kf;have h7:= @run_callFunc_extern prog 37 _ (ReflectliteValue.methodAny (ReflectliteValue.valueError "reflectlite.Value.Type" 0) (λt _ _ _=>ReflectliteType.toType t)) func37 kf kf kf kf
 have h8:= @run_callFunc_extern prog 38 _ (ReflectliteValue.method (ReflectliteValue.valueError "reflectlite.Value.IsNil" 0) ReflectliteValue.isNil) func38 kf kf kf kf
 have N:= @run_callFunc_extern prog 467 _ (ReflectliteType.abiMethod λt=>do pure (.int .u8 (<-Rtype.kind t))) func467 kf kf kf kf;have X:= @run_callFunc_extern prog 487 _ (ReflectliteType.method ReflectliteType.elem) func487 kf kf kf kf;have a1:= @run_callFunc_extern prog 488 _ (ReflectliteType.relation "Implements" ReflectliteType.implements_) func488 kf kf kf kf
 have L:= @run_callFunc_extern prog 77 _ ReflectliteType.typeOf func77 kf kf kf kf;have H:= @run_callFunc_extern prog 485 _ (ReflectliteType.relation "AssignableTo" ReflectliteType.assignableTo) func485 kf kf kf kf
 have R:= @run_callFunc_extern prog 78 _ (ReflectliteValue.method (ReflectliteValue.valueError "reflectlite.Value.Elem" 0) ReflectliteValue.elem) func78 kf kf kf kf
 have M:= @run_callFunc_extern prog 79 _ ReflectliteValue.set func79 kf kf kf kf;have tO:=Tryz.typeOfE;have tC:=Tryz.typeOfC;have aC:=Tryz.assignableC;have U:=Tryz.asC;have V:=Tryz.unC;have mU:=Tryz.methodUnwrap;have mA:=Tryz.methodAssignableTo;have a2:=Tryz.assignableE;have O:=Tryz.valueOfE;have f6:=Tryz.valueOfP;have f7:=Tryz.typeP;have mK:=Tryz.methodKind;have mE:=Tryz.methodElem;have mI:=Tryz.methodImplements;have a0:=Tryz.kindP;have I:=Tryz.kindE;have Y:=Tryz.elemP;have J:=Tryz.implementsE;have n8:=Tryz.isNilP (xK w.heap.size 0) t ((w.alloc (.cells #[.pointer (some t)] 62)).alloc (.cells #[qP 6 62,qP w.heap.size 0,uV 150] 115)) sI
 have E:0<w.heap.size:=by
  rcases sf w.heap.size with h0|h
  ·simp [World.cell?,h0] at hg
  ·exact h
 have T:((w.alloc (.cells #[.pointer (some t)] 62)).alloc (.cells #[qP 6 62,qP w.heap.size 0,uV 150] 115)).cell? (xK 0 0)=some (.iface 204 (.agg #[qP 6 33])):=by
  rw [ux _ _ (xK 0 0) sI,ux _ _ (xK 0 0) E];exact hg
 have C:t.block<w.heap.size:=by
  rcases Nat.lt_or_ge t.block w.heap.size with h|h
  ·exact h
  ·simp [World.cell?,Array.getElem?_eq_none h] at D
 have el:=Tryz.elemVP (xK w.heap.size 0) t (((w.alloc (.cells #[.pointer (some t)] 62)).alloc (.cells #[qP 6 62,qP w.heap.size 0,uV 150] 115)).alloc (.cells #[qP 6 62,qP w.heap.size 0,uV 150] 115)) (by rw [ux _ _ (xK w.heap.size 0) sO];simp)
 have st:=Tryz.setE t (xK (w.heap.size+1+1+1) 0) n B ((((w.alloc (.cells #[.pointer (some t)] 62)).alloc (.cells #[qP 6 62,qP w.heap.size 0,uV 150] 115)).alloc (.cells #[qP 6 62,qP w.heap.size 0,uV 150] 115)).alloc (.cells #[iV n] 40))
  (by rw [World.cell?_alloc_at _ _ _ _ sI];rfl)
  (by rw [ux _ _ t sO,ux _ _ t sO,ux _ _ t sO,ux _ _ t C];exact D)
  (by rw [rr _ _ t sO,rr _ _ t sO,rr _ _ t sO,rr _ _ t (Nat.ne_of_lt C)];exact F)
 have G:q<w.heap.size:=zu w _ hq
 have Z:(((w.alloc (.cells #[.pointer (some t)] 62)).alloc (.cells #[qP 6 62,qP w.heap.size 0,uV 150] 115)).alloc (.cells #[qP 6 62,qP w.heap.size 0,uV 150] 115)).cell? (xK q 1)=some (iV n):=by
  rw [ux _ _ (xK q 1) sO,ux _ _ (xK q 1) sO,ux _ _ (xK q 1) G];exact hq
 clear hq;go_enter func14,ntmps14;go_wp2;refine wp_loop_rounds 2 ?_;rw [rounds_succ];go_wp2;rw [rounds_succ];go_wp2;go_ret;exact ⟨rfl,rfl⟩
def fh (n:Int) (q:Nat) (w:World) (hq:w.cell? (xK q 1)=some (iV n)) (hg:w.cell? (xK 0 0)=some (.iface 204 (.agg #[qP 6 33]))):
  cT 8 #[.iface 331 (qP q 0)] w λe w'=>e= .returned (iV n)/\Bw w w':=by
 have B:0<w.heap.size:=by
  rcases sf w.heap.size with h0|h
  ·simp [World.cell?,h0] at hg
  ·exact h
 have E:(w.alloc (.cells #[iV 0] 40)).cell? (xK 0 0)=some (.iface 204 (.agg #[qP 6 33])):=by
  rw [ux _ _ (xK 0 0) B];exact hg
 have F:(w.alloc (.cells #[iV 0] 40)).cell? (xK q 1)=some (iV n):=by
  rw [ux _ _ (xK q 1) (zu w _ hq)];exact hq
 have D:(w.alloc (.cells #[iV 0] 40)).cell? (xK w.heap.size 0)=some (iV 0):=sI;have C:(w.alloc (.cells #[iV 0] 40)).frozen? (xK w.heap.size 0)=false:=sI;go_enter func8,ntmps8
 go_wp2_with (go_at_call 14;refine (mT n q _ (iV 0) _ E D C F).mono ?_;rintro e w' ⟨rfl,rfl⟩)
 go_ret;refine ⟨rfl,?_⟩;exact (((bA.alloc sI _).alloc sO _).alloc sO _).alloc sO _
end
end Go.Proofs.YtpcjkidgohpeoaaGreatDoor
