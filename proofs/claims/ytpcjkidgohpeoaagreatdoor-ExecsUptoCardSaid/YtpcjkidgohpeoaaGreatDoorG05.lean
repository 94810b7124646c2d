import Derived.Test.YtpcjkidgohpeoaaGreatDoorG03
import Derived.RegionTactic
import Derived.ChangeAlike
import Derived.BigRegion
import Derived.Deep.DeepCutAuto
import Derived.Test.YtpcjkidgohpeoaaGreatDoorG04
import Derived.Laws.MakeOwn
import Derived.Deep.RegionLaw
set_option maxRecDepth 100000
set_option maxHeartbeats 4000000
set_option linter.all false
namespace Go.Proofs.YtpcjkidgohpeoaaGreatDoor
open RowKit Proofs.Tryz
variable {n kb g base cap M K p:Nat} {w w' W:World} {v:Value} {c c0:List Int} {xs:List Ino} {cs cs1:List (List Int)} {k k1:RK} {s:ByteArray} {n1:Int} (aa:Option Addr) (PS:List Pg) (B:List Int)
def BK (a b c d e:Int):List Value:=[iV a,iV b,iV c,iV d,iV e]
def Iy (w:World) (v:Value) (PL:List Nat):Prop:=∃a c,v= .slice a PL.length c/\∀(i n:Nat),PL[i]? =some n->∃gp b d,a=some (xK gp 0)/\gp<w.heap.size/\w.cell? (xK gp (i*31+22))=some (.slice b n d)
def Ps (xs:List Ino) (BL:List Nat):Prop:=BL.length=xs.length/\∀(i:Nat) (x:Ino) (n:Nat),xs[i]? =some x->BL[i]? =some n->∃a c,x.bytes= .slice a n c
def K0 {l:List Nat} {j:Nat} (h:l[j]? =some n):(l.take (j+1)).sum=(l.take j).sum+n:=by
 rw [uw,h];simp
def Hp (l:List Nat) (j:Nat):(l.take j).sum<=l.sum:=by
 have h:=uq j l
 have h2:l.sum=(l.take j).sum+(l.drop j).sum:=by
  conv=>lhs;rw [<-h]
  rw [List.sum_append]
 omega
def GV (base kb g cap:Nat) (k:RK) (PL BL:List Nat) (oa:Option Addr) (on oc:Nat) (w:World) (h:EB w base kb g cap k) (hP:Iy w k.pv PL) (hO:k.ov= .slice oa on oc) (hB:Ps k.inos BL)
  (hn:k.inos.length<=100000) (hp:PL.length<=100000) (a3:PL.sum<=10000000) (a2:BL.sum<=10000000):
  cT 62 #[qP kb 0] w λe w'=>e= .returned (.agg (BK PL.length PL.sum on k.inos.length BL.sum).toArray)/\Bw w w':=by
 have L:=h.1.lt;have a0:=h.2.lt g rfl;obtain ⟨pa,pc,Z,O⟩:=hP;have c5:w.cell? (xK kb 5)=some (.slice pa PL.length pc):=by rw [<-Z];exact h.1.cell rfl
 have c6:w.cell? (xK kb 6)=some (.slice oa on oc):=by rw [<-hO];exact h.1.cell rfl
 have c7:cE w kb 7 (sL g 0 k.inos.length cap):=h.1.cell rfl;obtain ⟨H,HP,G⟩:=H3 h O hB;clear h O hB
 have Z1:=AC (show AE ((w.alloc (.cells (BK 0 0 0 0 0).toArray 68)).alloc (.cells (BK PL.length 0 on k.inos.length 0).toArray 68)) (w.heap.size+1) 68 (BK PL.length 0 on k.inos.length 0) from by
  have h:=AE.new (w.alloc (.cells (BK 0 0 0 0 0).toArray 68)) 68 (BK PL.length 0 on k.inos.length 0)
  rwa [show (w.alloc (.cells (BK 0 0 0 0 0).toArray 68)).heap.size=w.heap.size+1 from sI] at h)
 have Z2:=AC ((AE.new w 68 (BK 0 0 0 0 0)).alloc (.cells (BK PL.length 0 on k.inos.length 0).toArray 68));have Z3:=AC (((zw w.heap.size w).alloc (zx _) (.cells (BK 0 0 0 0 0).toArray 68)).alloc sI (.cells (BK PL.length 0 on k.inos.length 0).toArray 68));go_enter func62,ntmps62;go_wp2
 go_region
 go_wp2
 go_loopw [4] (λi wr=>∃j:Nat,j<=PL.length/\i= iV j/\Hid (AE wr (w.heap.size+1) 68 (BK PL.length (PL.take j).sum on k.inos.length 0))/\Hid (AE wr w.heap.size 68 (BK 0 0 0 0 0))/\Hid (Bw w wr)) (λi _=>PL.length-(intOf i).toNat)
 case atStart=>
  exact ⟨0,om,rfl,AC (Z1.heap rfl),AC (Z2.heap rfl),AC ⟨Z3.os,Z3.tape,Z3.output,Z3.size,Z3.block⟩⟩
 case round=>
  obtain ⟨j,hj,rfl,HU,HR,HB⟩:=hrel;have C:∀b o,b<w.heap.size->wr.cell? (xK b o)=w.cell? (xK b o):=λb o hb=>HB.cell (p:=(xK b o)) hb;have d5:wr.cell? (xK kb 5)=some (.slice pa PL.length pc):=by rw [C _ _ L];exact c5
  by_cases F:j<PL.length
  ·obtain ⟨n,E⟩:∃n,PL[j]? =some n:=⟨_,zz F⟩;obtain ⟨gp,b,d,a1,V,hc⟩:=AB HP j n E;subst a1;have a4:wr.cell? (xK gp (j*31+22))=some (.slice b n d):=by rw [C _ _ V];exact hc
   have u1:wr.cell? (xK (w.heap.size+1) 1)=some (iV ((PL.take j).sum:Nat)):=HU.cell rfl;have uf:=HU.frozen 1;have D:=K0 E;have I:=Hp PL (j+1);obtain ⟨A,hA⟩:=xE ((PL.take j).sum);rw [<-hA] at u1 D;have HS:=AC D;have X:(A:Int)+(n:Int)<=10000000:=om;have T:(0:Int)<=(j:Int):=om;have U:(j:Int)<(PL.length:Int):=om;have R:gp≠w.heap.size+1:=om;have Y:kb≠w.heap.size+1:=om
   have N1:=AC (show AE (wr.setCell (xK (w.heap.size+1) 1) (iV ((A:Int)+(n:Int)))) (w.heap.size+1) 68 (BK PL.length ((PL.take (j+1)).sum:Nat) on k.inos.length 0) from by
    have h:=HU.set 1 (iV ((A:Int)+(n:Int)))
    rw [D,Int.natCast_add];exact h)
   have N2:=AC (HR.set_other (c:=w.heap.size+1) om 1 (iV ((A:Int)+(n:Int))));have N3:=AC (HB.setCell (p:=(xK (w.heap.size+1) 1)) (Nat.le_succ _) (iV ((A:Int)+(n:Int))));clear C E hc D I hA c5 c6 c7;go_wp2
   go_region
   go_wp2
   go_roundw
   case rel=>exact ⟨j+1,om,by go_num,AC (N1.heap rfl),AC (N2.heap rfl),AC ⟨N3.os,N3.tape,N3.output,N3.size,N3.block⟩⟩
   case measure=>simp [intOf];omega
  ·have J:j=PL.length:=om;subst J;rw [uh] at HU;go_wp2
   go_loopw [5] (λi wr=>∃j:Nat,j<=k.inos.length/\i= iV j/\Hid (AE wr (w.heap.size+1) 68 (BK PL.length PL.sum on k.inos.length (BL.take j).sum))/\Hid (AE wr w.heap.size 68 (BK 0 0 0 0 0))/\Hid (Bw w wr)) (λi _=>k.inos.length-(intOf i).toNat)
   case atStart=>exact ⟨0,om,rfl,HU,HR,HB⟩
   case round=>
    obtain ⟨j,hj,rfl,HU,HR,HB⟩:=hrel;have C:∀b o,b<w.heap.size->wr.cell? (xK b o)=w.cell? (xK b o):=λb o hb=>HB.cell (p:=(xK b o)) hb;have d7:wr.cell? (xK kb 7)=some (sL g 0 k.inos.length cap):=by rw [C _ _ L];exact c7
    clear d5;by_cases F:j<k.inos.length
    ·obtain ⟨x,hx⟩:∃x,k.inos[j]? =some x:=⟨_,zz F⟩;obtain ⟨n,E⟩:∃n,BL[j]? =some n:=⟨_,zz (by rw [G.1];exact F)⟩;obtain ⟨b,d,hb⟩:=G.2 j x n hx E
     have d4:wr.cell? (xK g (j*5+4))=some (.slice b n d):=by
      rw [C _ _ a0.2,H.at.cell hx (i:=4) om rfl,hb]
     have u1:wr.cell? (xK (w.heap.size+1) 4)=some (iV ((BL.take j).sum:Nat)):=HU.cell rfl;have uf:=HU.frozen 4;have D:=K0 E;have I:=Hp BL (j+1);obtain ⟨A,hA⟩:=xE ((BL.take j).sum);rw [<-hA] at u1 D;have HS:=AC D;have X:(A:Int)+(n:Int)<=10000000:=om;have T:(0:Int)<=(j:Int):=om;have U:(j:Int)<(k.inos.length:Int):=om;have R:g≠w.heap.size+1:=om;have Y:kb≠w.heap.size+1:=om
     have N1:=AC (show AE (wr.setCell (xK (w.heap.size+1) 4) (iV ((A:Int)+(n:Int)))) (w.heap.size+1) 68 (BK PL.length PL.sum on k.inos.length ((BL.take (j+1)).sum:Nat)) from by
      have h:=HU.set 4 (iV ((A:Int)+(n:Int)))
      rw [D,Int.natCast_add];exact h)
     have N2:=AC (HR.set_other (c:=w.heap.size+1) om 4 (iV ((A:Int)+(n:Int))));have N3:=AC (HB.setCell (p:=(xK (w.heap.size+1) 4)) (Nat.le_succ _) (iV ((A:Int)+(n:Int))));clear C E hx hb D I hA c5 c6 c7;go_wp2
     go_region
     go_wp2
     go_roundw
     case rel=>exact ⟨j+1,om,by go_num,AC (N1.heap rfl),AC (N2.heap rfl),AC ⟨N3.os,N3.tape,N3.output,N3.size,N3.block⟩⟩
     case measure=>simp [intOf];omega
    ·have J:j=k.inos.length:=om;have N:BL.take j=BL:=xx (by rw [G.1];omega);rw [N] at HU;have l0:=HU.cell (j:=0) rfl;have l1:=HU.cell (j:=1) rfl;have l2:=HU.cell (j:=2) rfl;have l3:=HU.cell (j:=3) rfl;have l4:=HU.cell (j:=4) rfl;have r0:=HR.cell (j:=0) rfl;have r1:=HR.cell (j:=1) rfl;have r2:=HR.cell (j:=2) rfl;have r3:=HR.cell (j:=3) rfl;have r4:=HR.cell (j:=4) rfl;have f0:=HR.frozen 0;have f1:=HR.frozen 1;have f2:=HR.frozen 2;have f3:=HR.frozen 3;have f4:=HR.frozen 4;have u5:=((((HR.set 0 (iV PL.length)).set 1 (iV (PL.sum:Nat))).set 2 (iV on)).set 3 (iV k.inos.length)).set 4 (iV (BL.sum:Nat));have v0:=u5.cell (j:=0) rfl;have v1:=u5.cell (j:=1) rfl;have v2:=u5.cell (j:=2) rfl;have v3:=u5.cell (j:=3) rfl;have v4:=u5.cell (j:=4) rfl
     have N3:=AC (((((HB.setCell (p:=(xK w.heap.size 0)) (zx _) (iV PL.length)).setCell (p:=(xK w.heap.size 1)) (zx _) (iV (PL.sum:Nat))).setCell (p:=(xK w.heap.size 2)) (zx _) (iV on)).setCell (p:=(xK w.heap.size 3)) (zx _) (iV k.inos.length)).setCell (p:=(xK w.heap.size 4)) (zx _) (iV (BL.sum:Nat)));clear C u5 N J;go_wp2;exact xh (v:= .agg (BK PL.length PL.sum on k.inos.length BL.sum).toArray) (by simp [results,results62,go_sem,v0,v1,v2,v3,v4,BK]) rfl ⟨rfl,AB N3⟩
def Iz (w:World) (v:Value) (c:List Int):Prop:=c=[]/\v= sN\/c≠[]/\∃q,v= sL q 0 c.length c.length/\AE w q 5 (AF c)
def DA (w:World) (xs:List Ino) (cs:List (List Int)):Prop:=cs.length=xs.length/\∀(i:Nat) (x:Ino) (c:List Int),xs[i]? =some x->cs[i]? =some c->Iz w x.bytes c
def Iz.len (h:Iz w v c):∃a d,v= .slice a c.length d:=by
 rcases h with ⟨rfl,h⟩|⟨_,q,h,_⟩
 ·exact ⟨none,0,h⟩
 ·exact ⟨_,_,h⟩
def DA.lens (h:DA w xs cs):Ps xs (cs.map List.length):=by
 refine ⟨by rw [zc];exact h.1,λi x n hx hn=> ?_⟩;rw [ze] at hn;obtain ⟨c,hc,rfl⟩:=up.1 hn;exact (h.2 i x c hx hc).len
def Iz.frame (h:Iz w v c) (hf:Ao w w' kb g) (h1:∀vs,¬AE w kb 5 vs) (h2:∀vs,¬AE w g 5 vs):Iz w' v c:=by
 rcases h with h|⟨hc,q,hv,hh⟩
 ·exact .inl h
 ·refine .inr ⟨hc,q,hv,?_⟩;have hl:=hh.lt;have n1:q≠kb:=λe=>h1 _ (e▸hh);have n2:q≠g:=λe=>h2 _ (e▸hh);unfold AE at hh ⊢;rw [hf.block q hl n1 n2];exact hh
def DA.frame (h:DA w xs cs) (hf:Ao w w' kb g) (h1:∀vs,¬AE w kb 5 vs) (h2:∀vs,¬AE w g 5 vs):DA w' xs cs:=
 ⟨h.1,λi x c hx hc=>(h.2 i x c hx hc).frame hf h1 h2⟩
def EB.apart (h:EB w base kb g cap k):(∀vs,¬AE w kb 5 vs)/\(∀vs,¬AE w g 5 vs):=by
 refine ⟨λvs hv=> ?_,λvs hv=> ?_⟩
 ·have h1:=h.1;unfold AE at h1 hv;rw [h1] at hv;simp at hv
 ·rcases h.2.2 with ⟨h',_⟩|⟨g',cap',C,h',_,hg,_⟩
  ·simp at h'
  ·simp only [Value.slice.injEq,Option.some.injEq,Addr.mk.injEq,and_true,true_and] at h';obtain ⟨rfl,_⟩:=h';unfold AE at hv;rw [hg] at hv;simp at hv
def DA.add (h:DA w k.inos cs) (dir:Int) (name:ByteArray) (is:Bool):DA w (k.add dir name is).inos (cs++[[]]):=by
 refine ⟨by rw [RK.add];simp [h.1],λi x c hx hc=> ?_⟩;have C:(k.inos++[Bq (k.last+1) dir name is])[i]? =some x:=hx;rcases Nat.lt_or_ge i k.inos.length with hi|hi
 ·rw [zo hi] at C;rw [zo (by rw [h.1];exact hi)] at hc;exact h.2 i x c C hc
 ·rw [zn hi] at C;rw [zn (by rw [h.1];exact hi)] at hc;rw [h.1] at hc;generalize i-k.inos.length=j at C hc
  match j,C,hc with
  |0,C,hc=>
   have e1:Bq (k.last+1) dir name is=x:=sU C;have e2:[]=c:=sU hc;subst e1 e2
   exact .inl ⟨rfl,rfl⟩
  |(m+1),C,_=>simp at C
def Ia (k:RK):Prop:=(∀x∈k.inos,x.id<=k.last)/\(∃x∈k.inos,x.id=1)/\1<=k.last
def Tw {n:Int} (h:∃x∈xs,x.id=n):∃x,xs.find? (λx=>x.id==n)=some x:=by
 obtain ⟨y,hy,he⟩:=h
 cases hf:xs.find? (λx=>x.id==n) with
 |some x=>exact ⟨x,rfl⟩
 |none=>
  have:=xm.1 hf y hy;simp [he] at this
def Pu {xs:List Ino}:∀(l:List ByteArray) (dir:Int),(CI xs dir l).e=0->(CI xs dir l).n≠0->∃x∈xs,x.id=(CI xs dir l).n
 |[],dir,_,h=>by simp [CI,C8] at h
 |[a],dir,_,h=>by
  simp only [CI] at h ⊢;obtain ⟨x,hx⟩:=Sq h
  exact ⟨x,yk hx,by have:=qz hx;simpa using this⟩
 |a::b::r,dir,h0,h=>by
  unfold CI at h0 h ⊢;split at h0
  ·simp [C8] at h0
  ·rename_i h1
   rw [vz h1] at h ⊢;split at h0
   ·rename_i h2
    rw [vu h2] at h ⊢;exact Pu (b::r) _ h0 h
   ·simp [C8] at h0
def gh (hi:Ia k) (s:ByteArray) (h0:(AH k.inos s).e=0) (h:(AH k.inos s).n≠0):∃x∈k.inos,x.id=(AH k.inos s).n:=by
 unfold AH at h0 h ⊢;split at h0
 ·simp [C8] at h0
 ·exact hi.2.1
 ·rename_i a r heq
  rw [heq] at h;exact Pu (a::r) 1 h0 h
def lG (k:RK) (dir:Int) (name:ByteArray) (is:Bool):∃x∈(k.add dir name is).inos,x.id=k.last+1:=⟨Bq (k.last+1) dir name is,by simp [RK.add],rfl⟩
def Ag (k:RK) (cs:List (List Int)) (s:ByteArray):RK×List (List Int)×Int:=if (AH k.inos s).n=0 then (k.add (AH k.inos s).dir (AH k.inos s).name false,cs++[[]],k.last+1) else (k,cs,(AH k.inos s).n)
def Fb (c B:List Int):List Int:=B++c.drop B.length
def erase (x:Ino):Ino:={x with bytes:= sN}
def Tx (h:Ag k cs s=(k1,cs1,n1)):k1.pv=k.pv/\k1.ov=k.ov/\k1.lb=k.lb/\k1.inos.length<=k.inos.length+1/\(cs1.map List.length).sum=(cs.map List.length).sum:=by
 unfold Ag at h;split at h
 ·simp only [qx] at h;obtain ⟨rfl,rfl,rfl⟩:=h;refine ⟨rfl,rfl,rfl,by simp [RK.add],sI⟩
 ·simp only [qx] at h;obtain ⟨rfl,rfl,rfl⟩:=h;exact ⟨rfl,rfl,rfl,om,rfl⟩
def cV (hi:Ia k) (h0:(AH k.inos s).e=0) (h:Ag k cs s=(k1,cs1,n1)):∃x∈k1.inos,x.id=n1:=by
 unfold Ag at h;split at h
 ·simp only [qx] at h;obtain ⟨rfl,rfl,rfl⟩:=h;exact lG k _ _ _
 ·rename_i hne
  simp only [qx] at h;obtain ⟨rfl,rfl,rfl⟩:=h;exact gh hi s h0 hne
def VT {oa:Option Addr} {od:Nat} {z:Array Value} (h:Iz w (.slice oa c0.length od) c0):∀nq,0<(AF c0).length->∃ad,oa=some ad/\∀j v,(AF c0)[j]? =some v->((w.drewN nq).alloc (.cells z 5)).cell? (ad.add j)=some v:=by
 intro nq h0;rcases h with ⟨rfl,_⟩|⟨_,q,hv,hh⟩
 ·simp [AF] at h0
 ·simp only [Value.slice.injEq] at hv;obtain ⟨rfl,_,_⟩:=hv;refine ⟨_,rfl,λj v hj=> ?_⟩;rw [Ah,zq];exact ((hh.heap (W':=w.drewN nq) rfl).alloc _).cell hj
def cW {w6:World} {nq:Nat} {ba:Option Addr} {bb C:Nat} {B:List Int} (h:ba=some (xK bb C)) (hb:Below W.heap.size (W.drewN nq) w6) (D:bb<W.heap.size) (hv:Am W bb C B):0<(AF B).length->(some (xK W.heap.size 0):Option Addr)=some (xK W.heap.size 0)/\∃ad,ba=some ad/\∀j v,(AF B)[j]? =some v->w6.cell? (ad.add j)=some v:=by
 intro _;refine ⟨rfl,_,h,λj v hj=> ?_⟩;have hl:=(zy.1 hj).1;rw [AG] at hl;rw [AN _ _ hl] at hj;rw [Ah,hb.cell (p:=(xK bb (C+j))) D];exact (hv j hl).trans hj
def lH {B:List Int} (hM:M=max B.length c0.length):splice (splice (List.replicate M 0) 0 c0) 0 B=Fb c0 B:=by
 unfold splice Fb;simp only [List.take_zero,xt,zq];congr 1;rw [rm]
 have:(List.drop c0.length (List.replicate M (0:Int))).drop (B.length-c0.length)=[]:=by
  rw [List.drop_replicate,List.drop_replicate,show M-c0.length-(B.length-c0.length)=0 from om];rfl
 rw [this,xr]
def Ib {B:List Int} (hM:M=max B.length c0.length):(Fb c0 B).length=M:=by
 unfold Fb;rw [zm,sx];omega
def Pv:∀(xs:List Ino) (K:Nat) (x:Ino) (v:Value),xs[K]? =some x->(CQ xs).set (K*5+4) v=CQ (xs.set K {x with bytes:=v})
 |[],K,x,v,h=>by simp at h
 |a::r,0,x,v,h=>by
  have e:a=x:=sU h;subst e
  rfl
 |a::r,K+1,x,v,h=>by
  have ih:=Pv r K x v (sU h);have e2:CQ (a::r)=BQ a++CQ r:=by rw [CQ,vi];rfl
  have e3:CQ ((a::r).set (K+1) {x with bytes:=v})=BQ a++CQ (r.set K {x with bytes:=v}):=by rw [zi,CQ,vi];rfl
  rw [e2,e3,ul _ _ (by simp [BQ];omega),show (K+1)*5+4-(BQ a).length=K*5+4 from by simp [BQ];omega,ih]
def cX {w7:World} {z:Nat} {x:Ino} {B:List Int} (hr:EB w7 base kb g cap k1) (hc:DA w7 k1.inos cs1) (hz:AE w7 z 5 (AF (Fb c0 B))) (hx:k1.inos[K]? =some x) (hB:0<B.length) (H:kb≠g) (hl:(Fb c0 B).length=M):
  ∃k':RK,EB (w7.setCell (xK g (K*5+4)) (sL z 0 M M)) base kb g cap k'/\DA (w7.setCell (xK g (K*5+4)) (sL z 0 M M)) k'.inos (cs1.set K (Fb c0 B))/\k'.inos.map erase=k1.inos.map erase/\{k' with inos:=[]}={k1 with inos:=[]}:=by
 have hK:=(zy.1 hx).1;have F:k1.inos[K]=x:=by rw [zz hK] at hx;exact zr hx
 refine ⟨{k1 with inos:=k1.inos.set K {x with bytes:= sL z 0 M M}},⟨?_,?_⟩,⟨?_,?_⟩,?_,rfl⟩
 ·have h:=hr.1.set_other (c:=g) H (K*5+4) (sL z 0 M M);show AE _ kb _ (RK.cells _ (.slice _ (k1.inos.set K _).length cap));rw [yu];exact h
 ·have h:=(hr.2.stored (K*5+4) (sL z 0 M M)).1;show World.ownsRow _ base _ 5 (.slice _ (k1.inos.set K _).length cap) (k1.inos.set K _).length (CQ (k1.inos.set K _));rw [yu,<-Pv k1.inos K x _ hx];exact h
 ·show (cs1.set K _).length=(k1.inos.set K _).length;rw [yu,yu];exact hc.1
 ·intro i y c hy C;have E:=hr.apart;have D:(k1.inos.set K {x with bytes:= sL z 0 M M})[i]? =some y:=hy;have G:Ao w7 (w7.setCell (xK g (K*5+4)) (sL z 0 M M)) kb g:=(Ao.refl w7 kb g).grownR (AI (zj w7 (some g)) _ _);rw [yv] at D C;by_cases hi:K=i
  ·rw [vu hi,vu hK] at D;rw [vu hi,vu (by rw [hc.1];exact hK)] at C;obtain rfl:=zr D;obtain rfl:=zr C;refine .inr ⟨λh=> ?_,z,by rw [hl],?_⟩
   ·have:(Fb c0 B).length=0:=by rw [h];rfl
    unfold Fb at this;rw [zm] at this;omega
   ·exact hz.set_other (c:=g) (λe=>E.2 _ (e▸hz)) _ _
  ·rw [vz hi] at D C;exact (hc.2 i y c D C).frame G E.1 E.2
 ·show (k1.inos.set K _).map erase=k1.inos.map erase;rw [List.map_set];have:erase {x with bytes:= sL z 0 M M}=(k1.inos.map erase)[K]'(sU hK):=by rw [List.getElem_map,F];rfl
  rw [this,List.set_getElem_self]
def JY (o:RK×List (List Int)×Int):List Int:=o.2.1.getD (BO o.1.inos o.2.2).toNat []
def AM (cs:List (List Int)):Nat:=(cs.map List.length).sum
def Ka (h:cs[K]? =some c):c.length<=AM cs:=by
 unfold AM;have hm:c.length∈cs.map List.length:=yt.2 ⟨c,zv h,rfl⟩;generalize cs.map List.length=l at hm
 induction l with
 |nil=>simp at hm
 |cons a r ih=>
  rw [rz];rcases vp.1 hm with rfl|hm
  ·omega
  ·have:=ih hm;omega
def fileCode (k:RK) (cs:List (List Int)) (s:ByteArray) (B:List Int):Int:=
 if (AH k.inos s).e≠0 then (AH k.inos s).e
 else if (AH k.inos s).n=0/\k.li<=(k.inos.length:Int) then 12
 else if Ce (Ag k cs s).1.inos (Ag k cs s).2.2=true then 11
 else if 0<B.length/\k.lb<(AM (Ag k cs s).2.1:Int)-((JY (Ag k cs s)).length:Int)+((max B.length (JY (Ag k cs s)).length:Nat):Int) then 12 else 0
def F6 (k:RK) (cs:List (List Int)) (s:ByteArray) (B:List Int):List (List Int):=
 if B.length=0 then (Ag k cs s).2.1 else (Ag k cs s).2.1.set (BO (Ag k cs s).1.inos (Ag k cs s).2.2).toNat (Fb (JY (Ag k cs s)) B)
def gi (base kb g:Nat) (k:RK) (cs:List (List Int)) (s:ByteArray) (B:List Int) (w:World) (e:Ending) (w':World):Prop:=
 e= .returned (iV (fileCode k cs s B))/\Below kb w w'/\(fileCode k cs s B=0->∃(k':RK) (g' cap':Nat),EB w' base kb g' cap' k'/\DA w' k'.inos (F6 k cs s B)/\k'.inos.map erase=(Ag k cs s).1.inos.map erase/\{k' with inos:=[]}={(Ag k cs s).1 with inos:=[]}/\Ao w w' kb g/\(g'=g\/w.heap.size<=g'))
def Ty (base kb g cap:Nat) (k:RK) (cs:List (List Int)) (s:ByteArray) (ba:Option Addr) (bb G Z:Nat) (B:List Int) (w:World) (h:EB w base kb g cap k) (hc:DA w k.inos cs) (hi:Ia k) (h2:kb<base) (j6:base<=w.heap.size) (hn:k.inos.length<=10000) (h1:k.last<=100000) (hs:s.size<=maxLen)
  (j4:k.pv= sN) (h5:k.ov= sN) (hB:B.length<=1000000) (k4:(cs.map List.length).sum<=1000000) (j2:0<B.length->ba=some (xK bb G)) (f6:0<B.length->bb<kb) (g0:Am w bb G B):
  cT 41 #[qP kb 0,.string s,.bool false,.slice ba B.length Z] w λe w'=>gi base kb g k cs s B w e w':=by
 have j5:=h.2.lt g rfl;have j1:=h.1.lt;have j7:=hi.2.2;have HW:=AC (Je kb g cap k.inos s w h.at j1 j5.2 om hs);have H:=AC h;have HC:=AC hc;have HI:=AC hi;obtain ⟨r,hr⟩:=xE (AH k.inos s);rw [<-hr] at HW;have HR:=AC hr;have j3:=AC g0;clear h hc hi hs hr g0;obtain ⟨dir,name,n,e⟩:=r;unfold Pa at HW;go_enter func41,ntmps41
 go_wp2_with fail
 refine HW.mono ?_;rintro e' w1 ⟨rfl,c8⟩;have c4:=AC (H.below c8);have N:=AC (Ao.ofBelow (a:=kb) (b:=g) c8);have i6:=c8.size;clear c8 HW;simp only;by_cases t1:e=0
 case neg=>
  have g1:(e !=0)=true:=sU t1;have g5:=t1;clear t1;have HX:=AC (show fileCode k cs s B=e from by unfold fileCode;rw [<-AB HR];exact vu g5);go_wp2;go_ret;exact ⟨by rw [AB HX];rfl,N.below (zx _) om om,λh=>absurd (HX.symm.trans h) g5⟩
 have g1:(e !=0)=false:=sU t1;have HE:=AC (show (AH k.inos s).e=0 from by rw [<-AB HR];exact t1);clear t1
 go_upto_if 34 with fail
 go_cut [11] (λnv wc=>∃(k1:RK) (cs1:List (List Int)) (n1:Int) (g1 C:Nat),nv= iV n1/\Hid (Ag k cs s=(k1,cs1,n1))/\Hid (EB wc base kb g1 C k1)/\Hid (DA wc k1.inos cs1)/\Hid (Ao w wc kb g)/\(g1=g\/w.heap.size<=g1)/\Hid (¬((AH k.inos s).n=0/\k.li<=(k.inos.length:Int))))
 case first=>
  by_cases t2:n=0
  ·have g2:(n==0)=true:=sU t2;have E:=AC (show Ag k cs s=(k.add dir name false,cs++[[]],k.last+1) from by unfold Ag;rw [<-AB HR];exact vu t2);have g7:=AC (show (AH k.inos s).n=0 from by rw [<-AB HR];exact t2);have c3:w1.cell? (xK kb 3)=some (iV k.li):=c4.1.cell rfl;have c7:cE w1 kb 7 (sL g 0 k.inos.length cap):=c4.1.cell rfl;clear t2;by_cases t3:k.li<=(k.inos.length:Int)
   ·have HX:=AC (show fileCode k cs s B=12 from by unfold fileCode;rw [vz (λh=>h (AB HE)),vu ⟨AB g7,t3⟩]);go_wp2
    go_quiet (fail)
    go_wp2;go_ret;have J:=N.below (B:=kb) (zx _) om om;exact ⟨by rw [AB HX];rfl,⟨J.os,J.tape,J.output,J.size,J.block⟩,λh=>absurd (HX.symm.trans h) dz⟩
   ·go_wp2
    go_quiet (fail)
    have i4:=AC (Nz base kb g cap k dir name false (w1.drewN nq) (c4.heap rfl) h2 (by show base<=w1.heap.size;omega) om om om)
    go_wp2_with fail
    refine i4.mono ?_;rintro e' w2 ⟨rfl,g',cap',f4,a2,a7⟩;have d5:Ao w w2 kb g:=⟨a2.os.trans N.os,a2.tape.trans N.tape,a2.output.trans N.output,zg N.size a2.size,λq hq a b=>(a2.block q (by show q<w1.heap.size;omega) a b).trans (N.block q hq a b)⟩;have I:=AC f4;have a8:=AC d5;have O:=AC ((HC.frame d5 H.apart.1 H.apart.2).add dir name false);have h7:g'=g\/w.heap.size<=g':=by rcases a7 with h|h;exact .inl h;exact .inr (zg i6 h)
    have a6:Hid (¬((AH k.inos s).n=0/\k.li<=(k.inos.length:Int))):=λh=>by (have:=h.2;omega)
    clear f4 a2 a7 d5;go_wp2
    go_meet
    case rel=>exact ⟨_,_,_,g',cap',rfl,E,I,O,a8,h7,a6⟩
  ·have g2:(n==0)=false:=sU t2;have E:=AC (show Ag k cs s=(k,cs,n) from by unfold Ag;rw [<-AB HR];exact vz t2);have O:=AC (HC.frame N H.apart.1 H.apart.2);have a6:Hid (¬((AH k.inos s).n=0/\k.li<=(k.inos.length:Int))):=λh=>t2 (by rw [<-AB HR] at h;exact h.1);clear t2;go_wp2
   go_meet
   case rel=>exact ⟨_,_,_,g,cap,rfl,E,c4,O,N,.inl rfl,a6⟩
 case rest=>
  obtain ⟨k1,cs1,n1,D,C,rfl,E,I,O,a8,a7,a6⟩:=hcut;have h6:=Tx E;obtain ⟨b4,b8,d0,i8,V⟩:=h6;obtain ⟨x,hx⟩:=Tw (cV HI HE E);obtain ⟨K,hK,a1⟩:=Fo hx;have k5:=(zy.1 a1).1;have c1:Ce k1.inos n1=x.dir:=by unfold Ce;rw [hx]
  have f5:=O.1;obtain ⟨c0,a3⟩:∃c,cs1[K]? =some c:=⟨_,zz om⟩;have c9:=O.2 K x c0 a1 a3;obtain ⟨oa,od,c2⟩:=c9.len;have b5:JY (Ag k cs s)=c0:=by rw [JY,AB E];show cs1.getD (BO k1.inos n1).toNat []=c0;rw [hK,List.getD,Int.toNat_natCast,a3];rfl
  have k7:=AC c9;have b2:=AC b5;have Y:=AC (xi a1 a3);have HK:=AC hK;have h3:=I.1.lt;have j0:=I.2.lt D rfl;have j8:=a8.size;have R:Below kb w wc:=a8.below (zx _) om om;have i1:=AC R;have c3:wc.cell? (xK D (K*5+3))=some (.bool x.dir):=I.at.cell a1 (i:=3) om rfl;have c7:cE wc kb 7 (sL D 0 k1.inos.length C):=I.1.cell rfl;have c5:=AC (Gm kb D C k1.inos n1 wc I.at om);rw [hK] at c5;have k6:(0:Int)<=(K:Int):=om;have j9:(K:Int)<(k1.inos.length:Int):=om;clear c9 b5 hx R;by_cases td:x.dir=true
  ·rw [td] at c3
   have HX:=AC (show fileCode k cs s B=11 from by
    unfold fileCode;rw [vz (λh=>h (AB HE)),vz (AB a6),AB E]
    exact vu (c1.trans td))
   clear c1 a1 a3 c2 hK td
   go_wp2_with fail
   refine c5.mono ?_;rintro e' w3 ⟨rfl,d9⟩;subst d9;go_wp2;go_ret;exact ⟨by rw [AB HX];rfl,AB i1,λh=>absurd (HX.symm.trans h) dz⟩
  have d3:x.dir=false:=sU td;rw [d3] at c3;have f0:=AC (GV base kb D C k1 [] (cs1.map List.length) none 0 0 wc (AB I) ⟨none,0,by rw [b4,j4];rfl,λi n hh=>by simp at hh⟩ (by rw [b8,h5]) O.lens om sI sI (by rw [V];omega))
  have b9:=AC (show fileCode k cs s B=if 0<B.length/\k.lb<(AM cs1:Int)-(c0.length:Int)+((max B.length c0.length:Nat):Int) then 12 else 0 from by
   unfold fileCode;rw [vz (λh=>h (AB HE)),vz (AB a6),AB b2,AB E]
   exact vz (by rw [c1,d3];decide))
  obtain ⟨U,hU⟩:=xE (AM cs1);have k2:U<=1000000:=by rw [hU,AM,V];omega
  rw [show (cs1.map List.length).sum=U from hU.symm] at f0;rw [<-hU] at b9;have k8:c0.length<=U:=by rw [hU];exact Ka a3
  clear c1 a1 a3 hK td d3 hU b4 b8 V
  go_wp2_with fail
  refine c5.mono ?_;rintro e' w3 ⟨rfl,d9⟩;subst d9
  go_wp2_with fail
  refine f0.mono ?_;rintro e' w4 ⟨rfl,f3⟩;simp only [BK,List.length_nil,List.sum_nil];obtain ⟨bx,d6⟩:=xE (Obj.cells #[iV 0,iV 0,iV 0,iV (k1.inos.length:Int),iV (U:Int)] 68);have f7:Bw w4 (w4.alloc bx):=bA;have b7:Bw w3 (w4.alloc bx):=f3.trans (f7.mono f3.size);have L:=AC (I.below b7);have F:=AC (a8.step b7);have b3:=AC (O.frame (Ao.ofBelow (a:=kb) (b:=D) b7) I.apart.1 I.apart.2);have h4:=b7.size;have d7:(w4.alloc bx).cell? (xK kb 7)=some (sL D 0 k1.inos.length C):=L.1.cell rfl;have d4:(w4.alloc bx).cell? (xK kb 4)=some (iV k1.lb):=L.1.cell rfl;have db:(w4.alloc bx).cell? (xK D (K*5+4))=some (.slice oa c0.length od):=by rw [<-c2];exact L.at.cell Y.1 (i:=4) om rfl
  have i9:=AC d6;rw [d6] at d7 d4 db;obtain ⟨M,hM⟩:=xE (max B.length c0.length);rw [<-hM] at b9;rw [d0] at d4;have X:=AC hM;have f9:=AC c2;have k0:M<=2000000:=om;clear d6 f7 f3 b7 f0 c5 c3 c7 O a8 c2 hM
  go_upto_if 76 with fail
  go_cut [16] (λsv wx=>sv= iV (M:Int)/\wx=w4.alloc (Obj.cells #[iV 0,iV 0,iV 0,iV (k1.inos.length:Int),iV (U:Int)] 68))
  case first=>
   by_cases t5:B.length<c0.length
   ·have e1:=AC (show M=c0.length from o1 (AB X));go_wp2
    go_meet
    case rel=>exact ⟨by rw [AB e1],rfl⟩
   ·have e1:=AC (show M=B.length from o1 (AB X));go_wp2
    go_meet
    case rel=>exact ⟨by rw [AB e1],rfl⟩
  case rest=>
   obtain ⟨rfl,rfl⟩:=hcut;obtain ⟨W,hW⟩:=xE (w4.alloc (Obj.cells #[iV 0,iV 0,iV 0,iV (k1.inos.length:Int),iV (U:Int)] 68));have xb:W.cell? (xK w4.heap.size 4)=some (iV (U:Int)):=by rw [hW];exact (AE.new w4 68 [iV 0,iV 0,iV 0,iV (k1.inos.length:Int),iV (U:Int)]).cell rfl
   rw [AB i9,<-hW] at L F b3 h4;rw [<-hW] at d7 d4 db;have g6:=AC (F.below (B:=kb) (zx _) om om);rw [<-hW];clear hW;by_cases b1:0<B.length
   ·by_cases t5:k.lb<(U:Int)-(c0.length:Int)+(M:Int)
    ·have HX:=AC (show fileCode k cs s B=12 from by rw [AB b9,vu ⟨b1,t5⟩]);go_wp2
     go_quiet (fail)
     go_wp2;go_ret;have J:=AB g6;exact ⟨by rw [AB HX];rfl,⟨J.os,J.tape,J.output,J.size,J.block⟩,λh=>absurd (HX.symm.trans h) dz⟩
    ·have HX:=AC (show fileCode k cs s B=0 from by rw [AB b9,vz (λh=>t5 h.2)]);have d8:=j2 b1;subst d8
     have i0:∀w,(Instr.makeSlice 36 (iV (M:Int)) (iV (M:Int))).run prog w= .ok (sL w.heap.size 0 M M) (w.alloc (.cells (CW M) 5)):=by
      intro w;have:=run_make_row' (P:=prog) 36 5 (.int .u8 0) 1 underlying36 M9 rfl .i64 .i64 M om om w;rwa [Hd] at this
     have a0:=AC (VT (w:=W) (z:=CW M) (by rw [<-AB f9];exact b3.2 K x c0 Y.1 Y.2));have d1:Hid (Am W bb G B):=λj hj=>by rw [g6.cell (p:=(xK bb (G+j))) (f6 b1)];exact AB j3 j hj
     have i5:c0.length<=M:=o1 (AB X);have k3:B.length<=M:=o1 (AB X);have i3:bb<W.heap.size:=o1 (f6 b1);go_wp2
     go_quiet (fail)
     have HZ:Hid (AE ((W.drewN nq).alloc (.cells (CW M) 5)) W.heap.size 5 (AF (List.replicate M 0))):=AE.new (W.drewN nq) 5 (AF (List.replicate M 0));have d2:Hid (Below W.heap.size (W.drewN nq) ((W.drewN nq).alloc (.cells (CW M) 5))):=(show Below (W.drewN nq).heap.size (W.drewN nq) ((W.drewN nq).alloc (.cells (CW M) 5)) from bA);have f1:=AC (AB a0 nq);have a9:(AF c0).length=Nat.min c0.length M:=by rw [AG];simp only [Nat.min_def];split<;>omega
     have a4:0+(AF c0).length<=(AF (List.replicate M (0:Int))).length:=by rw [AG,AG];simp;omega
     have f8:(AF B).length=Nat.min B.length M:=by rw [AG];simp only [Nat.min_def];split<;>omega
     have g4:0+(AF B).length<=(splice (AF (List.replicate M (0:Int))) 0 (AF c0)).length:=by rw [BJ _ _ _ a4,AG,AG];simp;omega
     have HL:=AC (xi a9 (xi a4 (xi f8 g4)));clear a9 a4 f8 g4
     go_wp2_with (first
      |(refine wpList_copy_splice rfl _ _ 36 36 rfl 5 underlying36 N0 (some (xK W.heap.size 0)) oa M M c0.length od rfl rfl W.heap.size 0 (AF (List.replicate M 0)) 5 HZ (AF c0) HL.1 (λh0=>⟨rfl,AB f1 h0⟩) HL.2.1 (C4 _) W.heap.size (W.drewN nq) d2 (zx _) ?_
        intro w6 H6 a5)
      |(refine wpList_copy_splice rfl _ _ 36 36 rfl 5 underlying36 N0 (some (xK W.heap.size 0)) (some (xK bb G)) M M B.length Z rfl rfl W.heap.size 0 (splice (AF (List.replicate M 0)) 0 (AF c0)) 5 H6 (AF B) HL.2.2.1 (cW rfl a5 i3 d1) HL.2.2.2 (C4 _) W.heap.size (W.drewN nq) a5 (zx _) ?_
        intro w7 H7 f2;have b0:=(L.heap (w':=W.drewN nq) rfl).below f2;have y7:cE w7 kb 7 (sL D 0 k1.inos.length C):=b0.1.cell rfl;have y4:cE w7 D (K*5+4) x.bytes:=b0.at.cell Y.1 (i:=4) om rfl;have yf:=b0.2.frozenAt (K*5+4);have h9:=AC b0;have g3:=AC f2
        clear b0 f2))
     have hz:AE w7 W.heap.size 5 (AF (Fb c0 B)):=by
      have h:=AB H7;rw [CD,CD,lH (AB X)] at h;exact h
     have g8:DA w7 k1.inos cs1:=(show DA (W.drewN nq) k1.inos cs1 from AB b3).frame (Ao.ofBelow (a:=kb) (b:=D) (show Below (W.drewN nq).heap.size (W.drewN nq) w7 from AB g3)) (λvs h=>L.apart.1 vs (h.heap rfl)) (λvs h=>L.apart.2 vs (h.heap rfl));obtain ⟨k',q1,q2,q3,q4⟩:=cX h9 g8 hz Y.1 b1 om (Ib X);have c6:Ao w w7 kb g:=((show Ao w (W.drewN nq) kb g from ⟨F.os,F.tape,F.output,F.size,F.block⟩)).step (show Below (W.drewN nq).heap.size (W.drewN nq) w7 from AB g3);have b6:=c6.trans (b':=D) ((Ao.refl w7 kb D).grownR (AI (zj w7 (some D)) (K*5+4) (sL W.heap.size 0 M M))) a7
     have T:F6 k cs s B=cs1.set K (Fb c0 B):=by
      unfold F6;rw [vz om,AB b2,AB E];show cs1.set (BO k1.inos n1).toNat _=_;rw [AB HK,Int.toNat_natCast]
     go_ret;exact ⟨by rw [AB HX];rfl,b6.below (zx _) om om,λ_=>⟨k',D,C,q1,by rw [T];exact q2,by rw [AB E];exact q3,by rw [AB E];exact q4,b6,a7⟩⟩
   ·have i7:B.length=0:=om;have g9:B=[]:=uz i7;subst g9;have HX:=AC (show fileCode k cs s []=0 from by rw [AB b9,vz (λh=>by have:=h.1;simp at this)])
    have i0:∀w,(Instr.makeSlice 36 (iV (M:Int)) (iV (M:Int))).run prog w= .ok (sL w.heap.size 0 M M) (w.alloc (.cells (CW M) 5)):=by
     intro w;have:=run_make_row' (P:=prog) 36 5 (.int .u8 0) 1 underlying36 M9 rfl .i64 .i64 M om om w;rwa [Hd] at this
    have a0:=AC (VT (w:=W) (z:=CW M) (by rw [<-AB f9];exact b3.2 K x c0 Y.1 Y.2));have i5:c0.length<=M:=o1 (AB X);simp only [List.length_nil] at*;go_wp2
    go_quiet (fail)
    have HZ:Hid (AE ((W.drewN nq).alloc (.cells (CW M) 5)) W.heap.size 5 (AF (List.replicate M 0))):=AE.new (W.drewN nq) 5 (AF (List.replicate M 0));have d2:Hid (Below W.heap.size (W.drewN nq) ((W.drewN nq).alloc (.cells (CW M) 5))):=(show Below (W.drewN nq).heap.size (W.drewN nq) ((W.drewN nq).alloc (.cells (CW M) 5)) from bA);have f1:=AC (AB a0 nq);have a9:(AF c0).length=Nat.min c0.length M:=by rw [AG];simp only [Nat.min_def];split<;>omega
    have a4:0+(AF c0).length<=(AF (List.replicate M (0:Int))).length:=by rw [AG,AG];simp;omega
    have HL:=AC (xi a9 a4);clear a9 a4
    go_wp2_with (first
      |(refine wpList_copy_splice rfl _ _ 36 36 rfl 5 underlying36 N0 (some (xK W.heap.size 0)) oa M M c0.length od rfl rfl W.heap.size 0 (AF (List.replicate M 0)) 5 HZ (AF c0) HL.1 (λh0=>⟨rfl,AB f1 h0⟩) HL.2 (C4 _) W.heap.size (W.drewN nq) d2 (zx _) ?_
        intro w6 H6 a5)
      |(refine wpList_copy_nothing rfl _ _ 36 36 rfl 5 underlying36 N0 (some (xK W.heap.size 0)) ba M M 0 Z rfl rfl sI ?_))
    have i2:DA w6 k1.inos cs1:=(show DA (W.drewN nq) k1.inos cs1 from AB b3).frame (Ao.ofBelow (a:=kb) (b:=D) (show Below (W.drewN nq).heap.size (W.drewN nq) w6 from a5)) (λvs h=>L.apart.1 vs (h.heap rfl)) (λvs h=>L.apart.2 vs (h.heap rfl));have h8:EB w6 base kb D C k1:=(L.heap (w':=W.drewN nq) rfl).below a5;have c6:Ao w w6 kb g:=((show Ao w (W.drewN nq) kb g from ⟨F.os,F.tape,F.output,F.size,F.block⟩)).step (show Below (W.drewN nq).heap.size (W.drewN nq) w6 from a5)
    have T:F6 k cs s []=cs1:=by
     unfold F6;rw [vu List.length_nil,AB E]
    go_ret;exact ⟨by rw [AB HX];rfl,c6.below (zx _) om om,λ_=>⟨k1,D,C,h8,by rw [T];exact i2,by rw [AB E],by rw [AB E],c6,a7⟩⟩
def I5 (B:List Int) (s:Seg) (at_:Nat):Int:=if s.addr.toNat<=at_/\at_-s.addr.toNat<s.inFile.toNat then B.getD (s.offs.toNat+(at_-s.addr.toNat)) 0 else 0
def Cj (B:List Int) (s:Seg) (p:Nat):List Int:=(List.range 256).map λj=>I5 B s (p*256+j)
def He (s:Seg) (p:Nat):(Cj B s p).length=256:=by simp [Cj]
def EC (B:List Int) (s:Seg) (n:Nat):List Pg:=(List.range n).map λi=>⟨(s.addr.toNat/256+i:Nat),s.perm,Cj B s (s.addr.toNat/256+i)⟩
def BH (PS:List Pg):List Value:=PS.flatMap λp=>Av p.num p.perm p.bytes
def DQ:List Value:=Av 0 0 An
def Ev:DQ.length=258:=by rw [DQ,Ci,AT]
def Du (B:List Int) (s:Seg) (n k:Nat):List Value:=BH (EC B s k)++(List.replicate (n-k) DQ).flatten
def IJ (h:∀p∈PS,p.bytes.length=256):(BH PS).length=PS.length*258:=by
 unfold BH
 induction PS with
 |nil=>rfl
 |cons p r ih=>
  rw [vi,zm,ih (λq hq=>h q (ut _ hq)),Ci,h p ym,um];omega
def I6 (s:Seg) (n:Nat):∀p∈EC B s n,p.bytes.length=256:=by
 intro p hp;obtain ⟨i,_,rfl⟩:=yt.1 hp;exact He _ _ _
def EU (s:Seg) (n:Nat):(EC B s n).length=n:=by simp [EC]
def PI (m:Nat):(List.replicate m DQ).flatten.length=m*258:=by
 induction m with
 |zero=>rfl
 |succ m ih=>rw [ri,List.flatten_cons,zm,ih,Ev];omega
def SE (s:Seg) (n k:Nat) (h:k<=n):(Du B s n k).length=n*258:=by
 rw [Du,zm,IJ _ (I6 B s k),EU,PI];omega
def Vf (s:Seg) (n:Nat):Du B s n n=BH (EC B s n):=by rw [Du,ya];simp
def Vg (s:Seg) (n:Nat):Du B s n 0=(List.replicate n DQ).flatten:=by rw [Du,Nat.sub_zero];rfl
def DC (s:Seg) (k:Nat):Nat:=if k=0 then 0 else Nat.min s.inFile.toNat (k*256-s.addr.toNat%256)
def C9 (s:Seg) (k:Nat):Nat:=if k=0 then s.addr.toNat%256 else 0
def Fp (B:List Int) (s:Seg) (k:Nat):List Int:=(List.range (Nat.min (s.inFile.toNat-DC s k) (256-C9 s k))).map λj=>B.getD (s.offs.toNat+DC s k+j) 0
def Gp (s:Seg) (k:Nat):(Fp B s k).length=Nat.min (s.inFile.toNat-DC s k) (256-C9 s k):=by simp [Fp]
def LV (s:Seg) (k:Nat):C9 s k<256:=by
 unfold C9;have:=Nat.mod_lt s.addr.toNat (show 256>0 by omega);split<;>omega
def P3 (s:Seg) (k:Nat):DC s k<=s.inFile.toNat:=by
 unfold DC;simp only [Nat.min_def];split
 ·omega
 ·split<;>omega
def P4 (a b:Nat):(Nat.min a b=a/\a<=b)\/(Nat.min a b=b/\b<=a):=by simp only [Nat.min_def];split<;>omega
def NI (s:Seg) (k:Nat):(k=0/\C9 s k=s.addr.toNat%256/\DC s k=0)\/(0<k/\C9 s k=0/\(DC s k=k*256-s.addr.toNat%256/\DC s k<=s.inFile.toNat\/DC s k=s.inFile.toNat/\s.inFile.toNat<=k*256-s.addr.toNat%256)):=by
 rcases k with _|k
 ·exact .inl ⟨rfl,rfl,rfl⟩
 ·refine .inr ⟨om,rfl,?_⟩;have e:DC s (k+1)=Nat.min s.inFile.toNat ((k+1)*256-s.addr.toNat%256):=by rw [DC,vz om]
  have:=P4 s.inFile.toNat ((k+1)*256-s.addr.toNat%256);omega
def Yg (s:Seg) (k:Nat):DC s (k+1)=DC s k+Nat.min (s.inFile.toNat-DC s k) (256-C9 s k):=by
 have a:=NI s k;have b:=NI s (k+1);have c:=P4 (s.inFile.toNat-DC s k) (256-C9 s k);have r:=Nat.mod_lt s.addr.toNat (show 256>0 by omega);omega
def N9 (j:Nat):An[j]? =if j<256 then some 0 else none:=by rw [An,xn]
def Yh (s:Seg) (k:Nat):splice An (C9 s k) (Fp B s k)=Cj B s (s.addr.toNat/256+k):=by
 have D:=Gp B s k
 have E:∀i,i<Nat.min (s.inFile.toNat-DC s k) (256-C9 s k)->(Fp B s k)[i]? =some (B.getD (s.offs.toNat+DC s k+i) 0):=λi hi=>by
  rw [Fp,ze,xo hi];rfl
 have hM:=P4 (s.inFile.toNat-DC s k) (256-C9 s k);have hK:=NI s k;have hs:=LV s k;have he:=P3 s k;have hr:=Nat.mod_lt s.addr.toNat (show 256>0 by omega);generalize Nat.min (s.inFile.toNat-DC s k) (256-C9 s k)=M at*;generalize C9 s k=S at*;generalize DC s k=Ea at*;have C:S+(Fp B s k).length<=An.length:=by rw [D,AT];omega
 apply ru;intro j;rw [EA _ _ _ C,D,N9];by_cases hj:j<256
 ·have hp:(Cj B s (s.addr.toNat/256+k))[j]? =some (I5 B s ((s.addr.toNat/256+k)*256+j)):=by
   rw [Cj,ze,xo hj];rfl
  rw [vu hj,hp];unfold I5;generalize s.addr.toNat=A at*;generalize s.inFile.toNat=F at*;by_cases h1:j<S
  ·rw [vu h1,vz om]
  ·rw [vz h1];by_cases h2:j<S+M
   ·rw [vu h2,E _ om,vu om];congr 2;omega
   ·rw [vz h2,vz om]
 ·rw [vz hj,vz om,vz om];rw [Cj,ze,yw sO];rfl
def dC (C Z D xs:List Value) (a b x y:Value) (o:Nat) (hz:o+xs.length<=Z.length):
  splice (((C++(a::b::(Z++D))).set C.length x).set (C.length+1) y) (C.length+2+o) xs=C++(x::y::(splice Z o xs++D)):=by
 have e1:(C++(a::b::(Z++D))).set C.length x=C++(x::b::(Z++D)):=by
  rw [ul _ _ (zx _)];simp
 have e2:(C++(x::b::(Z++D))).set (C.length+1) y=C++(x::y::(Z++D)):=by
  rw [ul _ _ om];simp
 rw [e1,e2];unfold splice
 have e3:(C++(x::y::(Z++D))).take (C.length+2+o)=C++(x::y::Z.take o):=by
  rw [List.take_append,xx om,show C.length+2+o-C.length=o+2 from om];simp only [List.take_succ_cons];rw [xy om]
 have e4:(C++(x::y::(Z++D))).drop (C.length+2+o+xs.length)=Z.drop (o+xs.length)++D:=by
  rw [rm,qw om,show C.length+2+o+xs.length-C.length=o+xs.length+2 from om];simp only [List.drop_succ_cons,xt];rw [List.drop_append_of_le_length om]
 rw [e3,e4];simp
def Vh (s:Seg) (n k:Nat) (h:k<n):
  splice (((Du B s n k).set (k*258) (iV (s.addr.toNat/256+k:Nat))).set (k*258+1) (.int .u8 s.perm)) (k*258+2+C9 s k) (AF (Fp B s k))=Du B s n (k+1):=by
 have hl:(BH (EC B s k)).length=k*258:=by rw [IJ _ (I6 B s k),EU]
 have e1:n-k=(n-(k+1))+1:=om;have e2:EC B s (k+1)=EC B s k++[⟨(s.addr.toNat/256+k:Nat),s.perm,Cj B s (s.addr.toNat/256+k)⟩]:=by simp [EC,qf]
 have C:C9 s k+(AF (Fp B s k)).length<=(AF An).length:=by
  rw [AG,AG,Gp,AT];have:=LV s k;simp only [Nat.min_def];split<;>omega
 have D:=dC (BH (EC B s k)) (AF An) (List.replicate (n-(k+1)) DQ).flatten (AF (Fp B s k)) (iV 0) (.int .u8 0) (iV (s.addr.toNat/256+k:Nat)) (.int .u8 s.perm) (C9 s k) C;rw [hl] at D
 have e3:Du B s n k=BH (EC B s k)++(iV 0:: .int .u8 0::(AF An++(List.replicate (n-(k+1)) DQ).flatten)):=by
  rw [Du,e1,ri,List.flatten_cons];rfl
 rw [e3,D,CD,Yh,Du,e2,BH,BH,ur];simp [Av]
def bJ {α:Type} (Z:List α):∀(n t:Nat),t<n*Z.length->(List.replicate n Z).flatten[t]? =Z[t%Z.length]?
 |0,t,h=>by simp at h
 |n+1,t,h=>by
  rw [ri,List.flatten_cons];by_cases h1:t<Z.length
  ·rw [zo h1,Nat.mod_eq_of_lt h1]
  ·rw [zn om,bJ Z n (t-Z.length) (by rw [Nat.add_mul] at h;omega),<-Nat.mod_eq_sub_mod om]
def MN:(prog.info? 164).map (λi=>(i.zero,i.size,i.bytes))=some (some (.agg DQ.toArray),258,272):=kf
def gx (Z:List Value) (m n:Nat) (hZ:Z.length=m) (hm:0<m):madeCells Z.toArray (n*m)=(List.replicate n Z).flatten.toArray:=by
 have D:(List.replicate n Z).flatten.length=n*m:=by simp [hZ]
 apply Array.ext
 ·rw [size_madeCells];simp only [List.size_toArray];rw [D]
 ·intro i h1 h2;rw [size_madeCells] at h1;have C:i%m<Z.length:=by rw [hZ];exact Nat.mod_lt _ hm
  have h:=bJ Z n i (by rw [hZ];exact h1);rw [hZ,zz C] at h;have E:i<(List.replicate n Z).flatten.length:=by rw [D];exact h1
  rw [zz E] at h;have h3:=zr h;simp only [madeCells,Array.getElem_map,Array.getElem_range,List.size_toArray,hZ,List.getElem_toArray,h3];rw [getElem!_pos Z.toArray (i%m) (sU C)];rfl
def gy (n:Nat):madeCells DQ.toArray (n*258)=(List.replicate n DQ).flatten.toArray:=gx DQ 258 n Ev om
def lO (w:World) (n:Nat) (h:n<=100000):(Instr.makeSlice 158 (iV n) (iV n)).run prog w= .ok (sL w.heap.size 0 n n) (w.alloc (.cells (List.replicate n DQ).flatten.toArray 164)):=by
 obtain ⟨i,hi,C⟩:=up.1 MN;simp only [qx] at C;obtain ⟨hz,hs,hb⟩:=C;have hr:=run_make (P:=prog) w 158 164 i _ underlying158 hi hz .i64 .i64 n n om (si _) (by rw [hb];omega) om;rw [hs,Int.toNat_natCast,show (Value.agg DQ.toArray).cells=DQ.toArray from rfl,gy] at hr;exact hr
structure Ew (B:List Int) (s:Seg):Prop where
 addr0:0<=s.addr
 offs0:0<=s.offs
 file0:0<=s.inFile
 mem1:1<=s.mem
 file:s.inFile<=s.mem
 fits:s.offs+s.inFile<=(B.length:Int)
 top:s.addr+s.mem<=65024
def Seg.count (s:Seg):Nat:=(s.last-s.first+1).toNat
def dD {b off:Nat} {B:List Int} {s:Seg} (hv:Am w b off B) (hf:Ew B s) (k:Nat):∀j v,(AF (Fp B s k))[j]? =some v->w.cell? (xK b (off+s.offs.toNat+DC s k+j))=some v:=by
 intro j v hj;have hl:=(zy.1 hj).1;rw [AG] at hl;rw [AN _ _ hl] at hj;have C:=hl;rw [Gp] at C;have hm:=P4 (s.inFile.toNat-DC s k) (256-C9 s k);have he:=P3 s k;obtain ⟨_,h2,h3,_,_,h6,_⟩:=hf;have:=hv (s.offs.toNat+DC s k+j) om;rw [show off+(s.offs.toNat+DC s k+j)=off+s.offs.toNat+DC s k+j from om] at this;rw [this,<-hj];have hc:(Fp B s k)[j]? =some (B.getD (s.offs.toNat+DC s k+j) 0):=by rw [Fp,ze,xo C];rfl
 simp only [List.getD,hc,Option.getD_some]
def dE (b off cap:Nat) (B:List Int) (s:Seg) (w:World) (hf:Ew B s) (V:B.length<=cap) (Z:B.length<=500000) (hv:Am w b off B) (d9:b<w.heap.size):
  cT 129 #[I0 b off cap s] w λe w'=>e= .returned (sL (w.heap.size+1) 0 s.count s.count)/\AE w' (w.heap.size+1) 164 (BH (EC B s s.count))/\Bw w w':=by
 have HF:=AC hf;have HV:=AC hv;obtain ⟨a0,o0,i0,m1,d6,G,a4⟩:=hf;obtain ⟨N,hN⟩:=xE s.count;rw [<-hN];have e0:(s.addr+s.mem-1)/256-s.addr/256+1=(N:Int):=by rw [hN,Seg.count,Seg.last,Seg.first];omega
 have g9:N<=255:=om;have e5:s.addr%256=((C9 s 0:Nat):Int):=by show _=((s.addr.toNat%256:Nat):Int);omega
 have g2:=λw=>lO w N om;have b7:s.addr/256=((s.addr.toNat/256:Nat):Int):=om;have c5:=AC b7;have HN:=AC hN;have F:Ay b off cap s=[.int .u8 s.perm,uV s.addr,sL b (II off cap s) s.inFile.toNat (cap-s.offs.toNat),iV (s.addr/256),iV ((s.addr+s.mem-1)/256)]:=rfl;have a1:=AC F;have H:=AC (xi V (xi Z (xi G (xi o0 (xi i0 (xi a4 (xi a0 m1)))))));unfold I0;clear hv hN b7 F a0 o0 i0 m1 d6 G a4 V Z;generalize s.addr/256=F1 at*;generalize (s.addr+s.mem-1)/256=L1 at*;have y1:(L1-F1+1:Int)=(N:Int):=e0;have f9:(N:Int)<=255:=om;have y2:L1-F1=(N:Int)-1:=om;have y3:(N:Int)-1+1=(N:Int):=om;clear e0;go_enter func129,ntmps129;go_wp2
 go_loopw [4,5,22] (λrest c3 i wr=>∃k:Nat,k<=N/\i= iV k/\c3= uV (C9 s k:Nat)/\(∃X:Nat,rest= sL b X (s.inFile.toNat-DC s k) (cap-s.offs.toNat-DC s k)/\(0<s.inFile.toNat-DC s k->X=off+s.offs.toNat+DC s k))/\
   AE wr w.heap.size 269 (Ay b off cap s)/\AE wr (w.heap.size+1) 164 (Du B s N k)/\Bw w wr) (λ_ _ i _=>N-(intOf i).toNat)
 case atStart=>
  refine ⟨0,om,rfl,?_,⟨II off cap s,?_,λh=> ?_⟩,?_,?_,?_⟩
  ·rw [yi H.2.2.2.2.2.2.1,e5]
  ·rfl
  ·have f8:=AB H;unfold II;rw [vz (by have:DC s 0=0:=rfl;omega)];rfl
  ·rw [AB a1];exact (AE.new _ _ _).alloc _
  ·rw [Vg];have:=AE.new (w.alloc (.cells (Ay b off cap s).toArray 269)) 164 (List.replicate N DQ).flatten;rw [AB a1] at this;simpa using this
  ·exact bA.alloc sI _
 case round=>
  obtain ⟨k,hk,rfl,rfl,⟨X,rfl,hX⟩,D,U,a5⟩:=hrel;have HX:=AC hX;clear hX;have f6:=AC U;have d2:=AC a5;by_cases c8:k<N
  ·have g3:wr.cell? (xK w.heap.size 0)=some (.int .u8 s.perm):=D.cell (by rw [AB a1];rfl);have g8:wr.cell? (xK w.heap.size 3)=some (iV F1):=D.cell (by rw [AB a1];rfl);have hL:=SE B s N k hk;have c0:wr.cell? (xK (w.heap.size+1) (k*258))=some ((Du B s N k).getD (k*258) .nilIface):=U.cell (by rw [List.getD,zz (by rw [hL];omega)];rfl);have f0:=U.frozen (k*258);obtain ⟨fk,b9⟩:∃fk:Nat,fk=s.addr.toNat/256+k:=⟨_,rfl⟩;have z1:F1+(k:Int)=(fk:Int):=o1 (AB c5);have d5:(fk:Int)<=1000:=o1 (AB H);have a6:=U.set (k*258) (iV (fk:Int));have c1:(wr.setCell (xK (w.heap.size+1) (k*258)) (iV (fk:Int))).cell? (xK (w.heap.size+1) (k*258+1))=some (((Du B s N k).set (k*258) (iV (fk:Int))).getD (k*258+1) .nilIface):=a6.cell (by rw [List.getD,zz (by rw [yu,hL];omega)];rfl);have f1:=a6.frozen (k*258+1)
   have g4:(wr.setCell (xK (w.heap.size+1) (k*258)) (iV (fk:Int))).cell? (xK w.heap.size 0)=some (.int .u8 s.perm):=(D.set_other (c:=w.heap.size+1) om (k*258) (iV (fk:Int))).cell (by rw [AB a1];rfl);have b8:=a6.set (k*258+1) (.int .u8 s.perm);have I:=(D.set_other (c:=w.heap.size+1) om (k*258) (iV (fk:Int))).set_other (c:=w.heap.size+1) om (k*258+1) (.int .u8 s.perm);have T:=(a5.setCell (p:=(xK (w.heap.size+1) (k*258))) (by show w.heap.size<=w.heap.size+1;omega) (iV (fk:Int))).setCell (p:=(xK (w.heap.size+1) (k*258+1))) (by show w.heap.size<=w.heap.size+1;omega) (.int .u8 s.perm);have c6:=AC b8;have f4:=AC I;have d3:=AC T;generalize (Du B s N k).getD (k*258) .nilIface=v0 at c0;generalize ((Du B s N k).set (k*258) (iV (fk:Int))).getD (k*258+1) .nilIface=v1 at c1;obtain ⟨S,hS⟩:=xE (C9 s k);have c4:=LV s k;rw [<-hS] at c4;obtain ⟨Ea,O⟩:∃E,E=DC s k:=⟨_,rfl⟩
   have f3:=P3 s k;rw [<-hS,<-O];rw [<-O] at f3;have g1:(0:Int)<=(S:Int):=om;have g7:(S:Int)<=256:=om;have g5:¬256=S:=om;have g0:(0:Int)<=(k:Int):=om;have g6:(k:Int)<(N:Int):=om;obtain ⟨R,hR⟩:=xE (s.inFile.toNat-Ea);obtain ⟨C,hC⟩:=xE (cap-s.offs.toNat-Ea);rw [<-hR,<-hC];obtain ⟨m,hm⟩:=xE ((AF (Fp B s k)).length);have a8:m=Nat.min R (256-S):=by rw [hm,AG,Gp,<-hS,<-O,<-hR]
   have d4:=P4 R (256-S);have c7:R<=C:=o1 (AB H);have a7:0<R->X=off+s.offs.toNat+Ea:=by rw [hR,O];exact AB HX
   have G:k*258+2+S+(AF (Fp B s k)).length<=(((Du B s N k).set (k*258) (iV (fk:Int))).set (k*258+1) (.int .u8 s.perm)).length:=by
    rw [yu,yu,hL,<-hm];omega
   have a3:0<(AF (Fp B s k)).length->(some (xK (w.heap.size+1) (k*258+2+S)):Option Addr)=some (xK (w.heap.size+1) (k*258+2+S))/\∃ad,(some (xK b X):Option Addr)=some ad/\∀j v,(AF (Fp B s k))[j]? =some v->((wr.setCell (xK (w.heap.size+1) (k*258)) (iV (fk:Int))).setCell (xK (w.heap.size+1) (k*258+1)) (.int .u8 s.perm)).cell? (ad.add j)=some v:=
    λd1=>⟨rfl,(xK b X),rfl,λj v hj=>by
     rw [a7 om,Ah,O]
     exact dD (HV.below T d9) HF k j v hj⟩
   have L:splice (((Du B s N k).set (k*258) (iV (fk:Int))).set (k*258+1) (.int .u8 s.perm)) (k*258+2+S) (AF (Fp B s k))=Du B s N (k+1):=by
    rw [b9,hS];exact Vh B s N k c8
   have J:DC s (k+1)=Ea+m:=by rw [a8,hR,O,hS];exact Yg s k
   have b2:(AF (Fp B s k)).length=Nat.min R (256-S):=by rw [<-hm,a8]
   have HM:=AC hm;have b0:=AC a3;have f7:=AC L;have b4:=AC J;have f5:=AC G;have c9:=AC b2;have HR:=AC hR;have HC:=AC hC;have n1:(m:Int)<=(R:Int):=om
   obtain ⟨Y,b6,b1⟩:∃Y:Nat,(C=m->Y=X)/\(¬C=m->Y=X+m):=by
    by_cases q:C=m
    ·exact ⟨X,λ_=>rfl,λh=>absurd q h⟩
    ·exact ⟨X+m,λh=>absurd h q,λ_=>rfl⟩
   have f2:=AC (show 0<R-m->Y=off+s.offs.toNat+(Ea+m) from λh=>by
    rw [b1 om,a7 om];omega)
   have n4:(0:Int)<=(m:Int):=om;clear D U a5 a6 b8 I T hL b9 hS O hm a3 L J G b2 hR hC a8 d4 c7 a7;by_cases n3:C=m
   all_goals (
    go_wp2_with (
     refine wpList_copy_splice rfl (.tmp 44) (.tmp 45) 36 36 rfl 5 underlying36 LU (some (xK (w.heap.size+1) (k*258+2+S))) (some (xK b X)) (256-S) (256-S) R C (by rfl) (by rfl) (w.heap.size+1) (k*258+2+S) _ 164 c6 (AF (Fp B s k)) c9 b0 f5 (Dd _) (w.heap.size+1) _ (zw _ _) (zx _) ?_;intro w3 H3 a9;have b3:AE w3 (w.heap.size+1) 164 (Du B s N (k+1)):=by rw [<-AB f7];exact AB H3
     have b5:=f4.below a9 om;have a2:=d3.trans (a9.mono (Nat.le_succ _));have d0:=AC b3;have d7:=AC b5;have d8:=AC a2;clear b3 b5 a2 a9 H3
     rw [<-AB HM])
    go_roundw
    case rel=>
     refine ⟨k+1,om,by go_num,rfl,⟨Y,?_,?_⟩,AB d7,AB d0,AB d8⟩
     ·rw [AB b4,Nat.sub_add_eq,Nat.sub_add_eq,<-AB HR,<-AB HC]
      first
       |(rw [b6 n3];done)
       |(rw [b1 n3];done)
       |(simp [b6 n3,n3];done)
       |(simp [b1 n3,n3];done)
     ·rw [AB b4,Nat.sub_add_eq,<-AB HR];exact AB f2
    case measure=>simp [intOf];omega)
  ·have c2:k=N:=om;subst c2;clear D U a5;go_wp2;go_ret;exact ⟨rfl,by rw [<-Vf];exact AB f6,AB d2⟩
def Gf:Value:= .agg #[uV 0,sN]
def Hr (c:Int):Ending:= .returned (.tuple #[Gf,.iface 40 (iV c)])
def CH (B:List Int):Nat:=(AO B 56 2).toNat
def Jl (B:List Int):Prop:=∀i,i<CH B->GW B (64+56*i)
def Yi (ss:List Seg):Prop:=∀i j,i<j->j<ss.length->(ss.getD i EW).addr<=(ss.getD j EW).addr
def BV (B:List Int) (ss:List Seg):List Pg:=ss.flatMap λs=>EC B s s.count
def Vi (B:List Int) (w:World) (e:Ending) (w':World):Prop:=
 (¬CO B/\e=Hr 2\/CO B/\¬Jl B/\e=Hr 3\/
  CO B/\Jl B/\∃ss:List Seg,ss.Perm (BU B (CH B))/\Yi ss/\
   ((∃i,i+1<ss.length/\NH ss i)/\e=Hr 4\/
   (∀i,i+1<ss.length->¬NH ss i)/\(¬Su (AO B 24 8) ss/\e=Hr 5\/
    Su (AO B 24 8) ss/\∃g gc,e= .returned (.tuple #[.agg #[uV (AO B 24 8),sL g 0 (BV B ss).length gc],.nilIface])/\w'.ownsRow w.heap.size 164 258 (sL g 0 (BV B ss).length gc) (BV B ss).length (BH (BV B ss)))))/\Bw w w'
def Jm (h:AE W p 197 [uV 0,sN]) (hb:Below p w W):
  ((W.setCell (xK p 0) (uV 0)).setCell (xK p 1) sN).cell? (xK p 0)=some (uV 0)/\((W.setCell (xK p 0) (uV 0)).setCell (xK p 1) sN).cell? (xK p 1)=some sN/\
  Below p w ((W.setCell (xK p 0) (uV 0)).setCell (xK p 1) sN):=
 have h2:=(h.set 0 (uV 0)).set 1 sN
 ⟨h2.cell rfl,h2.cell rfl,(hb.setCell (p:=(xK p 0)) (zx _) _).setCell (p:=(xK p 1)) (zx _) _⟩
def dF {B:List Int} (hB:AK B) (h:GW B p):Ew B (D7 B p):=
 ⟨(BP hB _ _ om).1,(BP hB _ _ om).1,(BP hB _ _ om).1,h.2.2.1,h.2.2.2.1,h.2.2.2.2.1,h.2.2.2.2.2.2⟩
def P6 {B:List Int} (hB:AK B) (h:∀i,i<n->GW B (64+56*i)) {ss:List Seg} (hp:ss.Perm (BU B n)):∀s∈ss,Ew B s:=by
 intro s hs;have:=hp.mem_iff.1 hs;obtain ⟨i,hi,rfl⟩:=yt.1 this;exact dF hB (h i (sU hi))
def OA (ss:List Seg) (k:Nat) (s:Seg) (h:ss[k]? =some s):BV B (ss.take (k+1))=BV B (ss.take k)++EC B s s.count:=by
 have:ss.take (k+1)=ss.take k++[s]:=by rw [uw,h];rfl
 rw [this,BV,ur];simp [BV]
def IK (a b:List Pg):BH (a++b)=BH a++BH b:=by simp [BH]
def Ig {B:List Int} {s:Seg} (h:Ew B s):1<=s.count/\s.count<=255:=by
 obtain ⟨a0,o0,i0,m1,E,C,D⟩:=h;unfold Seg.count Seg.last Seg.first;omega
def dG {B:List Int} {ss:List Seg} (h:∀s∈ss,Ew B s):(BV B ss).length<=ss.length*255:=by
 induction ss with
 |nil=>simp [BV]
 |cons s r ih=>
  have h1:=ih (λx hx=>h x (ut _ hx));have h2:=(Ig (h s ym)).2;have e:BV B (s::r)=EC B s s.count++BV B r:=by simp [BV]
  rw [e,zm,EU,um];omega
def Yj {P:Program} {ops:Array Oper} {o:Oper} {a:Act} {K:Act->World->Prop} {Q:Exit->Act->World->Prop} {E:Prop} (G:o.guard=none) (f n:Nat) (t:TypeId)
  (ho:o.op= .call {callee:= .value (.func f),args:=#[.tmp n],argTypes:=#[t]}) (D:Value) (hx:a.eval (.tmp n)=D)
  (he:∀args w,(callFunc f args).run P w= .ok (.enter f args) w) (r:Value) (C:World->Prop) (hc:Calls P f #[D] w λe w'=>e= .returned r/\C w')
  (h:∀w',C w'->K (a.put o.dst r) w'):
  if Region.wanted o (yielded ops a.tmps)=true then Oper.wp P o a w K Q else E:=by
 have hw:Region.wanted o (yielded ops a.tmps)=true:=by simp [Region.wanted,G]
 have F:a.tmps[n]?.getD undef=D:=by rw [<-hx];simp [go_sem]
 rw [vu hw];unfold Oper.wp;simp [execOp,ho,resolve,invoke,F,Result.andThen,go_sem,he];refine hc.mono ?_;rintro e w' ⟨rfl,hp⟩;have:=h w' hp;simpa [go_sem] using this
def Yk:eN 129:=enters_of func129 kf rfl
def EN {base' C:Nat} {e:TypeId} {xs:List Value} (h:W.ownsRow base e C v n xs) (hb:base'<=base):W.ownsRow base' e C v n xs:=by
 obtain ⟨h1,h2⟩:=h;refine ⟨h1,?_⟩;rcases h2 with h2|⟨g,cap,D,a,b,c⟩
 ·exact .inl h2
 ·exact .inr ⟨g,cap,D,a,om,c⟩
def Hf {t:TypeId} {C:List Value} (h:Hid (AE W p t C)):∀j u,C[j]? =some u->W.cell? (((xK p 0):Addr).add j)=some u:=λj u hj=>by
 rw [Ah,zq];exact h.cell hj
def P8:∀v∈BH PS,v.oneCell'=true:=by
 intro v hv;obtain ⟨p,_,hv⟩:=sy.1 hv;simp only [Av,vp] at hv;rcases hv with rfl|rfl|hv
 ·rfl
 ·rfl
 ·exact Dd _ v hv
def gz (b off cap:Nat) (B:List Int) (w:World) (hB:AK B) (c7:B.length<=cap) (c8:B.length<=500000) (hv:Am w b off B) (f6:b<w.heap.size) (ht:w.rangeAt 1 0 DK) (m2:1<w.heap.size):
  cT 71 #[sL b off B.length cap] w λe w'=>Vi B w e w':=by
 have b3:=(zw w.heap.size w).alloc (zx _) (.cells #[uV 0,sN] 197);have HH:=AC (P5 b off cap B (w.alloc (.cells #[uV 0,sN] 197)) hB om om (hv.below b3 f6) sO (λj v hj=>by rw [b3.cell (p:=(xK 1 (0+j))) m2];exact ht j v hj) sO);have HB:=AC hB;have HV:=AC hv;have I:=AC (xi c7 c8);clear hB hv ht b3 c7 c8;go_enter func71,ntmps71
 go_wp2_with fail
 refine HH.mono ?_;rintro e w1 ⟨n,ok,rfl,j1,k3,hn⟩;have r1:=AE.new w 197 [uV 0,sN];have g3:=r1.below j1 sI;have d3:=((zw w.heap.size w).alloc (zx _) (.cells #[uV 0,sN] 197)).trans (j1.mono sI);have l3:w.heap.size<w1.heap.size:=g3.lt;have a9:=AC g3;have L:=AC d3;have HN:=AC hn;have i3:=AC k3;clear r1 j1 g3 d3 hn k3 HH;cases ok
 ·have c0:w1.cell? (xK w.heap.size 0)=some (uV 0):=a9.cell rfl;have c1:w1.cell? (xK w.heap.size 1)=some sN:=a9.cell rfl;have f0:=a9.frozen 0;have f1:=a9.frozen 1;obtain ⟨d0,d1,d2⟩:=Jm a9 L;have D2:=AC d2;clear d2;go_wp2;exact xh (v:= .tuple #[Gf,.iface 40 (iV 2)]) (by simp [results,results71,go_sem,Gf,d0,d1]) rfl ⟨.inl ⟨λh=>by (have:=i3.2 h;cases this),rfl⟩,AB D2⟩
 have b2:CO B:=i3.1 rfl
 have o7:n=((CH B:Nat):Int):=by
  have h1:=(AB HN) b2;have h2:=b2.2.2.2.2.2.2.2.2.1;rw [h1,CH];omega
 have m0:1<=CH B:=by have h2:=b2.2.2.2.2.2.2.2.2.1;rw [CH];omega
 have l2:CH B<=8:=by have h2:=b2.2.2.2.2.2.2.2.2.2.1;rw [CH];omega
 have l9:64+56*CH B<=B.length:=by (have h1:=b2.2.2.2.2.2.2.2.2.1;have h2:=b2.2.2.2.2.2.2.2.2.2.2;rw [CH];omega)
 subst o7;have f8:=AC b2;obtain ⟨N,hN⟩:=xE (CH B);rw [<-hN] at m0 l2 l9 ⊢;have b9:=AC hN;have k6:Am w1 b off B:=HV.below L f6;have k5:=AC (NG b off cap B N w1 HB I.1 I.2 k6 om m0 l2 l9);clear b2 hN HN i3 k6
 go_wp2_with fail
 refine k5.mono ?_;rintro e w2 ⟨(⟨l6,rfl,h4⟩|⟨l5,rfl⟩),c5⟩
 case inr=>
  have Z:=a9.below c5 l3;have V:=L.trans (c5.mono om);have c0:w2.cell? (xK w.heap.size 0)=some (uV 0):=Z.cell rfl;have c1:w2.cell? (xK w.heap.size 1)=some sN:=Z.cell rfl;have f0:=Z.frozen 0;have f1:=Z.frozen 1;obtain ⟨d0,d1,d2⟩:=Jm Z V;have D2:=AC d2;have n7:=AC l5;clear d2 l5 Z V c5;go_wp2;exact xh (v:= .tuple #[Gf,.iface 40 (iV 3)]) (by simp [results,results71,go_sem,Gf,d0,d1]) rfl ⟨.inr (.inl ⟨AB f8,λh=>AB n7 (by rw [AB b9];exact h),rfl⟩),AB D2⟩
 have Z:=a9.below c5 l3;have V:=L.trans (c5.mono om);have h0:(BU B N).length=N:=FY B N;have j0:=AC (gu b off cap w1.heap.size N (BU B N) w2 h4 om);rw [h0] at j0;have p2:w1.heap.size<w2.heap.size:=h4.lt;have l1:=AC Z;have f3:=AC V;have f4:=AC l6;clear Z V c5 l6 h4 a9 L k5
 go_wp2_with fail
 refine j0.mono ?_;rintro e w3 ⟨rfl,ss,J,F,b4,g9⟩;have j9:=l1.grown g9 sO;have d5:=f3.trans (Aa g9 om om);have O:ss.length=N:=by rw [J.length_eq,h0]
 have f7:=AC J;have j4:=AC F;have i4:=AC j9;have T:=AC d5;have d7:=AC b4;have g4:=AC (VZ b off cap w1.heap.size N ss w3 b4 om om);rw [O] at g4;clear J F g9 j9 d5 b4 l1 f3 j0 h0
 go_wp2_with fail
 refine g4.mono ?_;rintro e w4 ⟨(⟨k8,rfl⟩|⟨k4,rfl⟩),d8,f9⟩
 case inl=>
  have a6:=i4.heap d8;have H:=T.trans (f9.mono T.size);have c0:w4.cell? (xK w.heap.size 0)=some (uV 0):=a6.cell rfl;have c1:w4.cell? (xK w.heap.size 1)=some sN:=a6.cell rfl;have f0:=a6.frozen 0;have f1:=a6.frozen 1;obtain ⟨d0,d1,d2⟩:=Jm a6 H;have D2:=AC d2;have OV:=AC k8;clear d2 k8 a6 H f9 d8;go_wp2;exact xh (v:= .tuple #[Gf,.iface 40 (iV 4)]) (by simp [results,results71,go_sem,Gf,d0,d1]) rfl ⟨.inr (.inr ⟨AB f8,by rw [Jl,<-AB b9];exact AB f4,ss,by rw [<-AB b9];exact AB f7,AB j4,.inl ⟨by rw [O];exact AB OV,rfl⟩⟩),AB D2⟩
 have a6:=i4.heap d8;have H:=T.trans (f9.mono T.size);have a5:=d7.heap d8;have k7:Am w4 b off B:=HV.below H f6;have g5:=AC a6;have b7:=AC H;have c9:=AC a5;have k2:=AC k4;have n6:=a5.lt;have n5:64<=B.length:=om;have g7:=AC (Ch b off cap B 24 8 w4 HB om om om (o1 I.1) (o1 I.2) k7);have hE:=(BP HB 24 8 om).1;obtain ⟨E,j2⟩:=xE (AO B 24 8);rw [<-j2] at hE g7;have i1:=AC j2;have h6:=AC (Va b off cap w1.heap.size N E ss w4 a5 om hE);rw [O] at h6;clear a6 H a5 k7 k4 j2 f9 d8 i4 T d7 g4
 go_wp2_with fail
 refine g7.mono ?_;rintro e w5 ⟨rfl,m9⟩;subst m9
 go_wp2_with fail
 refine h6.mono ?_;rintro e w6 ⟨(⟨l7,rfl⟩|⟨l0,rfl⟩),b5⟩
 case inr=>
  have a0:=g5.below b5 om;have R:=b7.trans (b5.mono om);have c0:w6.cell? (xK w.heap.size 0)=some (uV 0):=a0.cell rfl;have c1:w6.cell? (xK w.heap.size 1)=some sN:=a0.cell rfl;have f0:=a0.frozen 0;have f1:=a0.frozen 1;obtain ⟨d0,d1,d2⟩:=Jm a0 R;have D2:=AC d2;have m5:=AC l0;clear d2 l0 a0 R b5;go_wp2;exact xh (v:= .tuple #[Gf,.iface 40 (iV 5)]) (by simp [results,results71,go_sem,Gf,d0,d1]) rfl ⟨.inr (.inr ⟨AB f8,by rw [Jl,<-AB b9];exact AB f4,ss,by rw [<-AB b9];exact AB f7,AB j4,.inr ⟨by rw [O];exact AB k2,.inl ⟨by rw [<-AB i1];exact AB m5,rfl⟩⟩⟩),AB D2⟩
 have a0:=g5.below b5 om;have R:=b7.trans (b5.mono om);have b6:=c9.below b5 n6;have m3:=AC a0;have g6:=AC R;have g2:=AC b6;have i0:=AC l7;have p0:=b6.lt;clear a0 R b6 l7 b5 g5 b7 c9 h6 g7;have i7:=AC (P6 HB f4 f7);obtain ⟨ip,j8,i5⟩:=up.1 MN;simp only [qx] at i5;have g0:=AC (xi j8 i5);clear j8 i5;go_wp2
 go_loopw [48] (λi wr=>∃k:Nat,k<=N/\i= iV k/\∃v:Value,AE wr w6.heap.size 197 [uV E,v]/\AE wr w.heap.size 197 [uV 0,sN]/\AE wr w1.heap.size 269 (Bt b off cap ss)/\
   wr.ownsRow (w6.heap.size+1) 164 258 v (BV B (ss.take k)).length (BH (BV B (ss.take k)))/\Bw w wr/\w6.heap.size+1<=wr.heap.size) (λi _=>N-(intOf i).toNat)
 case atStart=>
  refine ⟨0,om,rfl,sN,AE.new _ _ _,m3.alloc _,g2.alloc _,uy _ _ _ _,g6.alloc om _,sI⟩
 case round=>
  obtain ⟨k,hk,rfl,v,f5,j3,b1,g8,i2,o9⟩:=hrel;have h8:=AC f5;have c6:=AC j3;have o4:=AC b1;have U:=AC g8;have d6:=AC i2;by_cases p3:k<N
  ·obtain ⟨s,hs⟩:=xE (ss.getD k EW);have g1:ss[k]? =some s:=by rw [hs,List.getD,zz om];rfl
   have i9:Ew B s:=(AB i7) s (zv g1);have c0:wr.cell? (xK w1.heap.size (k*5))=some (.int .u8 s.perm):=by rw [hs];exact EM b1 k om 0 _ om rfl
   have c1:wr.cell? (xK w1.heap.size (k*5+1))=some (uV s.addr):=by rw [hs];exact EM b1 k om 1 _ om rfl
   have c2:wr.cell? (xK w1.heap.size (k*5+2))=some (sL b (II off cap s) s.inFile.toNat (cap-s.offs.toNat)):=by rw [hs];exact EM b1 k om 2 _ om rfl
   have c3:wr.cell? (xK w1.heap.size (k*5+3))=some (iV (s.addr/256)):=by rw [hs];exact EM b1 k om 3 _ om rfl
   have c4:wr.cell? (xK w1.heap.size (k*5+4))=some (iV ((s.addr+s.mem-1)/256)):=by rw [hs];exact EM b1 k om 4 _ om rfl
   have X:=AC (λw'=>dE b off cap B s w' i9 I.1 I.2);have b3:=(zw wr.heap.size wr).alloc (zx _) (.cells (Ay b off cap s).toArray 269);have b8:=f5.alloc (.cells (Ay b off cap s).toArray 269);have p1:=b8.cell (j:=1) rfl;have pf:=b8.frozen 1;have p5:(0:Int)<=(k:Int):=om;have p9:(k:Int)<(N:Int):=om;have j7:=AC i9;have n8:=AC g1;unfold I0 at X;unfold Ay at p1 pf;generalize s.addr/256=F1 at c3 X p1 pf;generalize (s.addr+s.mem-1)/256=L1 at c4 X p1 pf;generalize s.addr=AA at c1 X p1 pf;generalize II off cap s=SP at c2 X p1 pf;generalize s.offs.toNat=OO at c2 X p1 pf;generalize s.inFile.toNat=FF at c2 X p1 pf;generalize s.perm=PP at c0 X p1 pf;clear f5 j3 b1 g8 i2 b3 b8 i9 g1 hs;obtain ⟨W,hW⟩:=xE (wr.alloc (.cells #[.int .u8 PP,uV AA,sL b SP FF (cap-OO),iV F1,iV L1] 269));have HW:=AC hW
   have q5:=AE.new wr 269 [.int .u8 PP,uV AA,sL b SP FF (cap-OO),iV F1,iV L1];rw [<-hW] at q5 p1 pf;have i6:W.heap.size=wr.heap.size+1:=by rw [hW];simp
   have d4:=AC (show Bw wr W from by rw [hW];exact bA);have q0:cE W wr.heap.size 0 (.int .u8 PP):=q5.cell rfl;have q1:cE W wr.heap.size 1 (uV AA):=q5.cell rfl;have q2:cE W wr.heap.size 2 (sL b SP FF (cap-OO)):=q5.cell rfl;have q3:cE W wr.heap.size 3 (iV F1):=q5.cell rfl;have q4:cE W wr.heap.size 4 (iV L1):=q5.cell rfl;obtain ⟨m,hm⟩:=xE s.count;obtain ⟨Y,D⟩:∃x,x=BH (EC B s m):=⟨_,rfl⟩;obtain ⟨G,hG⟩:=xE (W.heap.size+1)
   have n4:Hid (cT 129 #[.agg #[.int .u8 PP,uV AA,sL b SP FF (cap-OO),iV F1,iV L1]] W.drew λe w''=>e= .returned (sL G 0 m m)/\Hid (AE w'' G 164 Y)/\Hid (Bw W w'')):=by
    have n3:Am W.drew b off B:=λj hj=>((HV.below d6 f6).below d4 (o1 d6.size)) j hj;have m4:b<W.drew.heap.size:=by show b<W.heap.size;rw [i6];have:=d6.size;omega
    refine AC ((AB X W.drew n3 m4).mono ?_);rintro e w'' ⟨he,h1,h2⟩;rw [<-hm] at he h1;exact ⟨by rw [hG];exact he,by rw [D,hG];exact h1,⟨h2.os,h2.tape,h2.output,h2.size,h2.block⟩⟩
   obtain ⟨M,hM⟩:=xE ((BV B (ss.take k)).length);obtain ⟨xs,d9⟩:=xE (BH (BV B (ss.take k)));rw [<-hM,<-d9] at U;have HM:=AC (xi hm (xi D (xi hM d9)));have o3:=(Ig j7).1;have m8:=(Ig j7).2
   have p4:M<=8*255:=by
    have:=dG (ss:=ss.take k) (λx hx=>(AB i7) x (sm hx));rw [<-hM] at this;have h9:(ss.take k).length<=8:=sO;omega
   rw [<-hm] at o3 m8;have l8:Y.length=m*258:=by rw [D,IJ _ (I6 B s m),EU]
   have j5:∀u∈Y,u.oneCell'=true:=by rw [D];exact P8 _
   have j6:=AC (xi l8 j5);have o8:w6.heap.size<wr.heap.size:=om
   have l4:Hid (∀w',Hid (Bw W w')->w'.frozen? (xK w6.heap.size 1)=false/\w'.cell? (xK w6.heap.size 1)=some v/\w'.cell? (xK wr.heap.size 0)=some (.int .u8 PP)/\w'.cell? (xK wr.heap.size 1)=some (uV AA)/\w'.cell? (xK wr.heap.size 2)=some (sL b SP FF (cap-OO))/\w'.cell? (xK wr.heap.size 3)=some (iV F1)/\w'.cell? (xK wr.heap.size 4)=some (iV L1)):=
    AC (λw' hb=>⟨by rw [hb.frozen (p:=(xK w6.heap.size 1)) (by show w6.heap.size<_;omega)];exact pf,by rw [hb.cell (p:=(xK w6.heap.size 1)) (by show w6.heap.size<_;omega)];exact p1,by rw [hb.cell (p:=(xK wr.heap.size 0)) (by show wr.heap.size<_;omega)];exact q0,by rw [hb.cell (p:=(xK wr.heap.size 1)) (by show wr.heap.size<_;omega)];exact q1,by rw [hb.cell (p:=(xK wr.heap.size 2)) (by show wr.heap.size<_;omega)];exact q2,by rw [hb.cell (p:=(xK wr.heap.size 3)) (by show wr.heap.size<_;omega)];exact q3,by rw [hb.cell (p:=(xK wr.heap.size 4)) (by show wr.heap.size<_;omega)];exact q4⟩)
   have i8:=AC (show W.ownsRow (w6.heap.size+1) 164 258 v M xs from by rw [hW];exact U.alloc _)
   have m6:Hid (∀w7 w',Hid (Bw W w7)->w7.grownBy w' v.ownBlock->w'.frozen? (xK w6.heap.size 1)=false/\w'.cell? (xK w6.heap.size 1)=some v/\w'.cell? (xK wr.heap.size 0)=some (.int .u8 PP)/\w'.cell? (xK wr.heap.size 1)=some (uV AA)/\w'.cell? (xK wr.heap.size 2)=some (sL b SP FF (cap-OO))/\w'.cell? (xK wr.heap.size 3)=some (iV F1)/\w'.cell? (xK wr.heap.size 4)=some (iV L1)):=by
    refine AC (λw7 w' hb hg=> ?_);have h7:=(AB l4) w7 hb;have n9:=hb.size;have n1:some w6.heap.size≠v.ownBlock:=λh=>o1 (U.lt _ h.symm);have n2:some wr.heap.size≠v.ownBlock:=λh=>o1 (U.lt _ h.symm);refine ⟨?_,?_,?_,?_,?_,?_,?_⟩
    ·rw [World.frozen?_of_block (a:=(xK w6.heap.size 1)) (hg.block w6.heap.size om n1)];exact h7.1
    ·rw [qy (a:=(xK w6.heap.size 1)) (hg.block w6.heap.size om n1)];exact h7.2.1
    ·rw [qy (a:=(xK wr.heap.size 0)) (hg.block wr.heap.size om n2)];exact h7.2.2.1
    ·rw [qy (a:=(xK wr.heap.size 1)) (hg.block wr.heap.size om n2)];exact h7.2.2.2.1
    ·rw [qy (a:=(xK wr.heap.size 2)) (hg.block wr.heap.size om n2)];exact h7.2.2.2.2.1
    ·rw [qy (a:=(xK wr.heap.size 3)) (hg.block wr.heap.size om n2)];exact h7.2.2.2.2.2.1
    ·rw [qy (a:=(xK wr.heap.size 4)) (hg.block wr.heap.size om n2)];exact h7.2.2.2.2.2.2
   have k0:=AC i6;clear hG;clear hW hm D hM d9 l8 j5 X i6;go_wp2;rw [<-AB HW];clear c0 c1 c2 c3 c4
   go_region_law (first|(refine Yj (by rfl) 129 54 269 (by rfl) _ (by rfl) Yk _ _ (AB n4) ?_;rintro w7 ⟨o5,a7⟩;obtain ⟨z0,z1,z2,z3,z4,z5,z6⟩:=AB l4 _ a7)|(refine step_append_lies _ (by rfl) _ _ 158 (by rfl) (w6.heap.size+1) 164 ip _ 258 272 underlying158 g0.1 g0.2.1 g0.2.2.1 g0.2.2.2 (by show DQ.toArray.size=258;simp [Ev]) dz v M xs (by rfl) (Aw (AB i8) a7) (xK G 0) m m Y (by rfl) j6.1 (Hf o5) j6.2 om (by unfold maxLen;omega) om (o2 a7.size (AB k0)) w7.heap.size (by rfl) ?_;intro g gc w8 b0 C m7 o6;obtain ⟨x0,x1,x2,x3,x4,x5,x6⟩:=AB m6 _ _ a7 C))
   all_goals
    have a8:(w8.setCell (xK w6.heap.size 1) (sL g 0 (M+m) gc)).ownsRow (w6.heap.size+1) 164 258 (sL g 0 (M+m) gc) (BV B (ss.take (k+1))).length (BH (BV B (ss.take (k+1)))):=by
     have b3:=OA B ss k s n8;obtain ⟨hm,D,hM,d9⟩:=AB HM;rw [b3,IK,zm,EU,<-hm,<-hM,<-d9,<-D];exact b0.kept (AI (w:=w8) (wr:=w8) (b:=w6.heap.size) ⟨rfl,rfl,rfl,zx _,λ_ _ _=>rfl⟩ 1 _) (.inr (λh=>o1 (b0.lt _ h)))
    have n9:=a7.size;have p8:=AB k0;have p7:=C.size;have n0:some w.heap.size≠v.ownBlock:=λh=>o1 (U.lt _ h.symm);have n1:some w6.heap.size≠v.ownBlock:=λh=>o1 (U.lt _ h.symm);have n2:some w1.heap.size≠v.ownBlock:=λh=>o1 (U.lt _ h.symm);have a1:=((((h8.below d4 om).below a7 om).grown C n1).set 1 (sL g 0 (M+m) gc));have a2:=(((c6.below d4 om).below a7 om).grown C n0).set_other (c:=w6.heap.size) om 1 (sL g 0 (M+m) gc);have a3:=(((o4.below d4 om).below a7 om).grown C n2).set_other (c:=w6.heap.size) om 1 (sL g 0 (M+m) gc);have f2:Bw w w8:=((d6.trans (d4.mono om)).trans (a7.mono om)).trans ⟨C.os,C.tape,C.output,C.size,λq hq=>C.block q om (λh=>o1 (U.lt _ h.symm))⟩;have a4:=f2.setCell (p:=(xK w6.heap.size 1)) (by show w.heap.size<=w6.heap.size;omega) (sL g 0 (M+m) gc);have A0:=AC a8;have A1:=AC a1;have A2:=AC a2;have A3:=AC a3;have A4:=AC a4
    have A5:w6.heap.size+1<=(w8.setCell (xK w6.heap.size 1) (sL g 0 (M+m) gc)).heap.size:=by simp [World.setCell];omega
    clear a8 a1 a2 a3 a4 f2;go_wp2
    go_roundw
    case rel=>exact ⟨k+1,om,by go_num,_,AB A1,AB A2,AB A3,AB A0,AB A4,A5⟩
    case measure=>simp [intOf];omega
  ·have m1:k=N:=om;subst m1;have o0:ss.take k=ss:=xx om;rw [o0] at U
   have h5:0<(BV B ss).length:=by
    obtain ⟨s0,k9⟩:∃s0,ss[0]? =some s0:=⟨_,zz om⟩;have h1:=OA B ss 0 s0 k9;have h2:=(Ig ((AB i7) s0 (zv k9))).1;have h3:BV B ss=BV B (ss.take 1)++BV B (ss.drop 1):=by rw [BV,BV,BV,<-ur,uq]
    rw [h3,h1,zm,zm,EU];omega
   obtain ⟨g,gc,rfl,p6,q6⟩:=U.form h5;have d0:=h8.cell (j:=0) rfl;have d1:=h8.cell (j:=1) rfl;have r0:=c6.cell (j:=0) rfl;have r1:=c6.cell (j:=1) rfl;have f0:=c6.frozen 0;have f1:=c6.frozen 1;have u2:=(c6.set 0 (uV E)).set 1 (sL g 0 (BV B ss).length gc);have u0:=u2.cell (j:=0) rfl;have u1:=u2.cell (j:=1) rfl;have u3:=(d6.setCell (p:=(xK w.heap.size 0)) (zx _) (uV E)).setCell (p:=(xK w.heap.size 1)) (zx _) (sL g 0 (BV B ss).length gc);have u4:=U.kept (AI (AI (w:=wr) (wr:=wr) (b:=w.heap.size) ⟨rfl,rfl,rfl,zx _,λ_ _ _=>rfl⟩ 0 (uV E)) 1 (sL g 0 (BV B ss).length gc)) (.inr (λh=>by simp [Value.ownBlock] at h;omega));have U3:=AC u3;have U4:=AC (EN (base':=w.heap.size) u4 om);clear f5 j3 b1 g8 i2 u2 u3 u4;go_wp2
   exact xh (v:= .tuple #[.agg #[uV E,sL g 0 (BV B ss).length gc],.nilIface]) (by simp [results,results71,go_sem,u0,u1]) rfl ⟨.inr (.inr ⟨AB f8,by rw [Jl,<-AB b9];exact AB f4,ss,by rw [<-AB b9];exact AB f7,AB j4,.inr ⟨by rw [O];exact AB k2,.inr ⟨by rw [<-AB i1];exact AB i0,g,gc,by rw [<-AB i1],AB U4⟩⟩⟩),AB U3⟩
def Kw (PS:List Pg) (n:Int):Int:=match PS.findIdx? (λp=>p.num==n) with|some k=>k|none=> -1
def dR {PS:List Pg} {n:Int} {k:Nat} {p:Pg} (hk:PS[k]? =some p) (hp:p.num=n) (C:∀(j:Nat) (q:Pg),j<k->PS[j]? =some q->q.num≠n):Kw PS n=k:=by
 have hl:=(zy.1 hk).1
 have:PS.findIdx? (λp=>p.num==n)=some k:=by
  rw [uo];refine ⟨hl,?_,λj hj=> ?_⟩
  ·rw [zz hl] at hk;rw [zr hk];simpa using hp
  ·have:=C j PS[j] hj (zz om);simpa using this
 unfold Kw;rw [this]
def dS {PS:List Pg} {n:Int} (h:∀(j:Nat) (q:Pg),PS[j]? =some q->q.num≠n):Kw PS n= -1:=by
 have:PS.findIdx? (λp=>p.num==n)=none:=by
  rw [sh];intro x hx;obtain ⟨j,hj⟩:=List.getElem?_of_mem hx;simpa using h j x hj
 unfold Kw;rw [this]
def QO (ga ca:Nat) (PS:List Pg) (n:Int) (w:World) (ha:0<PS.length->aa=some (xK ga 0)) (hA:Bs w ga PS) (hn:PS.length<=100000):
  cT 44 #[.slice aa PS.length ca,iV n] w λe w'=>e= .returned (iV (Kw PS n))/\w'.heap=w.heap/\Bw w w':=by
 have HA:=AC hA;have N:=AC ha;clear hA ha;go_enter func44,ntmps44;go_wp2
 go_loopw [5] (λi wr=>∃k:Nat,k<=PS.length/\i= iV k/\wr.heap=w.heap/\Bw w wr/\∀(j:Nat) (q:Pg),j<k->PS[j]? =some q->q.num≠n) (λi _=>PS.length-(intOf i).toNat)
 case atStart=>exact ⟨0,om,rfl,rfl,zw _ _,λj q hj=>om⟩
 case round=>
  obtain ⟨k,hk,rfl,hh,G,H⟩:=hrel;obtain ⟨HH,D,E⟩:=H3 hh G H;clear hh G H;by_cases J:k<PS.length
  ·have e1:=(AB N) om;subst e1;obtain ⟨p,F⟩:∃p,PS[k]? =some p:=⟨_,zz J⟩;have C:∀a,wr.cell? a=w.cell? a:=λa=>by unfold World.cell?;rw [AB HH]
   obtain ⟨a1,a2,a3⟩:=(AB HA) k p F;rw [<-C] at a1;have HP:=AC F;have R:(0:Int)<=(k:Int):=om;have O:(k:Int)<(PS.length:Int):=om;clear a2 a3 C F;by_cases he:p.num=n
   ·have hq:(p.num==n)=true:=sU he;have HE:=AC he;clear he;go_wp2;go_ret;exact ⟨by rw [dR (AB HP) (AB HE) (AB E)];rfl,AB HH,AB D⟩
   ·have hq:(p.num==n)=false:=sU he;have HE:=AC he;clear he;go_wp2
    go_roundw
    case rel=>exact ⟨k+1,om,by go_num,AB HH,AB D,λj q hj I=>by
     by_cases L:j<k
     ·exact E j q L I
     ·obtain rfl:j=k:=om;obtain rfl:=zr (HP.symm.trans I)
      exact AB HE⟩
    case measure=>simp [intOf];omega
  ·go_wp2;go_ret;refine ⟨by rw [dS (λj q hq=>(AB E) j q (o1 (zy.1 hq).1) hq)];rfl,AB HH,AB D⟩
def Ed (PS:List Pg) (perm n:Int):Bool:=match PS.find? (λp=>p.num==n) with|some q=> !(bits .and .i64 q.perm perm==0)|none=>false
def Cf (PS:List Pg) (addr n perm:Int):Bool:=
 if n=0 then true else if n<0\/65536<=addr\/65536-addr<n then false
 else (List.range ((addr+n-1)/256-addr/256+1).toNat).all λj=>Ed PS perm (addr/256+(j:Int))
def QP (n:Int):(Kw PS n= -1/\PS.find? (λp=>p.num==n)=none)\/∃(k:Nat) (q:Pg),Kw PS n=k/\PS[k]? =some q/\PS.find? (λp=>p.num==n)=some q/\q.num=n:=by
 unfold Kw
 cases h:PS.findIdx? (λp=>p.num==n) with
 |none=>
  left;refine ⟨rfl,xm.2 λx hx=> ?_⟩;have:=sh.1 h x hx
  simpa using this
 |some k=>
  right;obtain ⟨hk,he,C⟩:=uo.1 h;refine ⟨k,PS[k],rfl,zz hk,?_,by simpa using he⟩;refine tm.2 ⟨by simpa using he,k,hk,rfl,λj hj=> ?_⟩;have:=C j hj;simpa using this
def Vs (sv:Value) (D C:Int) (w:World):cT 43 #[sv,uV D,iV 0,iV C] w λe w'=>e= .returned (.bool true)/\w'.heap=w.heap/\Bw w w':=by
 go_enter func43,ntmps43;go_wp2;go_ret;exact ⟨rfl,rfl,zw _ _⟩
def bQ (ga ca:Nat) (PS:List Pg) (C n D:Int) (w:World) (ha:0<PS.length->aa=some (xK ga 0)) (hA:Bs w ga PS) (hn:PS.length<=100000) (h0:0<=C) (h1:C<=18446744073709551615) (b2:1<=n) (a9:n<=1000000):
  cT 43 #[.slice aa PS.length ca,uV C,iV n,iV D] w λe w'=>e= .returned (.bool (Cf PS C n D))/\w'.heap=w.heap/\Bw w w':=by
 have q1:(n==0)=false:=sO;have q2:decide (n<0)=false:=sO;have q3:IntKind.u64.wrap n=n:=by simp [IntKind.wrap,IntKind.bits,IntKind.signed];omega
 by_cases hx:65536<=C
 ·have ho:Cf PS C n D=false:=by unfold Cf;rw [vz om,vu om]
  have q4:decide (C>=65536)=true:=ve hx;clear hA ha;go_enter func43,ntmps43;go_wp2;go_ret;exact ⟨by first|rfl|(rw [ho];rfl),rfl,zw _ _⟩
 have q4:decide (C>=65536)=false:=vf hx;have q5:IntKind.u64.wrap (65536-C)=65536-C:=by simp [IntKind.wrap,IntKind.bits,IntKind.signed];omega
 by_cases hy:65536-C<n
 ·have ho:Cf PS C n D=false:=by unfold Cf;rw [vz om,vu om]
  have q6:decide (n>65536-C)=true:=ve hy;clear hA ha;go_enter func43,ntmps43;go_wp2;go_ret;exact ⟨by first|rfl|(rw [ho];rfl),rfl,zw _ _⟩
 have q6:decide (n>65536-C)=false:=vf hy;have q7:wrap64 C=C:=by unfold wrap64;omega
 have q8:wrap64 (wrap64 C+n)=C+n:=by rw [q7];unfold wrap64;omega
 have q9:wrap64 (C+n-1)=C+n-1:=by unfold wrap64;omega
 have qa:0<=C+n-1:=om;obtain ⟨lo,F⟩:=xE (C/256);obtain ⟨hi,G⟩:=xE ((C+n-1)/256);obtain ⟨K,hK⟩:∃K:Nat,K=(hi-lo+1).toNat:=⟨_,rfl⟩
 have E:Cf PS C n D=(List.range K).all λj=>Ed PS D (lo+(j:Int)):=by
  unfold Cf;rw [vz om,vz om,hK,F,G]
 have qb:(wrap64 C).tdiv 256=lo:=by rw [q7,F,tj h0]
 have qc:(C+n-1).tdiv 256=hi:=by rw [G,tj qa]
 have qd:wrap64 lo=lo:=by rw [F];unfold wrap64;omega
 have qe:wrap64 hi=hi:=by rw [G];unfold wrap64;omega
 have HF:=AC (λ(m:Int) (w':World) (hh:w'.heap=w.heap)=>QO aa ga ca PS m w' ha (λi p hp=>by
  have hc:∀a,w'.cell? a=w.cell? a:=λa=>by unfold World.cell?;rw [hh]
  obtain ⟨a1,a2,a3⟩:=hA i p hp
  exact ⟨by rw [hc];exact a1,by rw [hc];exact a2,λj v hv=>by rw [hc];exact a3 j v hv⟩) hn)
 have HA:=AC hA;have a4:=AC ha;have HL:=AC (xi (show (K:Int)=hi-lo+1 by omega) (show 0<=lo/\lo<=hi/\hi<=256 by omega));have HM:=AC E;have HQ:=AC (xi qd qe);clear E hK F G hA ha hx hy h1 qd qe q7;go_enter func43,ntmps43;go_wp2
 go_loopw [10] (λi wr=>∃k:Nat,k<=K/\i= iV (lo+k)/\wr.heap=w.heap/\Bw w wr/\∀j:Nat,j<k->Ed PS D (lo+(j:Int))=true) (λi _=>K-((intOf i)-lo).toNat)
 case atStart=>exact ⟨0,om,by simp [HQ.1],rfl,zw _ _,λj hj=>om⟩
 case round=>
  obtain ⟨k,hk,rfl,hh,I,a0⟩:=hrel;obtain ⟨N,U,T,X⟩:=AB HL;have V:=AC a0;clear a0;by_cases O:k<K
  ·have r1:decide (lo+(k:Int)<=wrap64 hi)=true:=ve (by rw [HQ.2];omega)
   have HN:=AC (show wrap64 (lo+(k:Int)+1)=lo+((k+1:Nat):Int) by
     have:wrap64 (lo+(k:Int)+1)=lo+(k:Int)+1:=by unfold wrap64;omega
     rw [this];omega)
   have HK:=AC (xi O N);have a5:=AC ((AB HF) (lo+(k:Int)) wr hh);have HH:=AC hh;have H:=AC I;clear O N U T X hk hh I
   go_wp2_with fail
   refine a5.mono ?_;rintro e w1 ⟨rfl,L,Z⟩;have R:Hid (Bw w w1):=H.trans (Z.mono H.size);have J:Hid (w1.heap=w.heap):=L.trans HH;clear Z;rcases QP PS (lo+(k:Int)) with ⟨c1,c2⟩|⟨m,q,c1,c2,c3,c4⟩
   ·rw [c1]
    have HO:=AC (show Cf PS C n D=false by
     rw [AB HM,List.all_eq_false]
     exact ⟨k,zf.2 HK.1,by unfold Ed;rw [c2];simp⟩)
    clear c1 c2 L;go_wp2;go_ret;exact ⟨by first|rfl|(rw [AB HO];rfl),AB J,AB R⟩
   ·rw [c1];have a7:=(zy.1 c2).1;have e1:=(AB a4) om;subst e1;have a2:=((AB HA) m q c2).2.1;have hc:∀a,w1.cell? a=w.cell? a:=λa=>by unfold World.cell?;rw [AB J]
    rw [<-hc] at a2;have b0:(0:Int)<=(m:Int):=om;have b3:(m:Int)<(PS.length:Int):=om;have b1:decide ((m:Int)<0)=false:=vf om;have Y:=AC (show Ed PS D (lo+(k:Int))= !(bits .and .i64 q.perm D==0) by unfold Ed;rw [c3]);clear hc c1 c2 c3 c4 a7 L;by_cases hz:(bits .and .i64 q.perm D==0)=true
    ·have HO:=AC (show Cf PS C n D=false by
      rw [AB HM,List.all_eq_false]
      exact ⟨k,zf.2 HK.1,by rw [AB Y,hz];simp⟩)
     go_wp2;go_ret;exact ⟨by first|rfl|(rw [AB HO];rfl),AB J,AB R⟩
    ·have a8:(bits .and .i64 q.perm D==0)=false:=sU hz;have HZ:=AC a8;clear hz;go_wp2
     go_roundw
     case rel=>exact ⟨k+1,HK.1,by first|(rw [AB HN])|(simp only [Value.int.injEq,true_and];exact AB HN)|go_num,AB J,AB R,λj hj=>by
      by_cases a6:j<k
      ·exact V j a6
      ·obtain rfl:j=k:=om
       rw [AB Y,AB HZ];rfl⟩
     case measure=>have:=AB HK;have:=AB HN;simp [intOf];omega
  ·have r1:decide (lo+(k:Int)<=wrap64 hi)=false:=vf (by rw [HQ.2];omega)
   have HO:=AC (show Cf PS C n D=true by
    rw [AB HM,za]
    exact λj hj=>(AB V) j (o1 (zf.1 hj)))
   have HH:=AC hh;have H:=AC I;clear O N U T X hk hh I;go_wp2;go_ret;exact ⟨by first|rfl|(rw [AB HO];rfl),AB HH,AB H⟩
end Go.Proofs.YtpcjkidgohpeoaaGreatDoor
