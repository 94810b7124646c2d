import Derived.Test.YtpcjkidgohpeoaaGreatDoorG12
import Derived.Test.YtpcjkidgohpeoaaGreatDoorG13
set_option maxRecDepth 1000000
set_option maxHeartbeats 4000000
set_option linter.all false
namespace Go.Proofs.YtpcjkidgohpeoaaGreatDoor
open RowKit Proofs.Tryz
variable {w w':World} {base gp cp j i g b size n cap:Nat} {v:Value} {PS:List Pg} {e:TypeId} {xs:List Value} {c:Int} {cs:List (List Int)} (old:Value) (kb:Nat) (a lp lf lo li lb:Int)
def dV (of B:Int) (w:World) (h:cE w kb 6 sN):
  cT 185 #[qP kb 0,iV of,iV B] w λe w'=>e= .returned (iV 0)/\w'=w:=by
 go_enter func185,ntmps185;go_wp2
 go_loop [7,8] (λn i=>n= iV 0/\i= iV 0) (λ_ _=>0)
 case atStart=>exact ⟨rfl,rfl⟩
 case round=>
  obtain ⟨rfl,rfl⟩:=hrel;go_wp2;go_ret;exact ⟨rfl,rfl⟩
def TA (base kb:Nat) (k:RK) (w:World) (e:Ending) (w':World):Prop:=
 e= .returned (.tuple #[])/\∃v,AE w' kb 85 (k.cells v)/\w'.ownsRow w.heap.size 126 5 v k.inos.length (CQ k.inos)/\w.grownBy w' (some kb)
def dW (base kb g cap:Nat) (k:RK) (w:World) (h:EB w base kb g cap k) (d4:kb<base) (T:k.ov= sN) (Z:k.cv= sN) (hn:k.inos.length<=100000) (hl:∀x∈k.inos,0<x.parent\/x.id=1) (H:∀x∈k.inos,∃a n c,x.bytes= .slice a n c):
  cT 145 #[qP kb 0] w (TA base kb k w):=by
 have d2:=h.2.lt g rfl;have d9:=h.1.lt;obtain ⟨ii,b7,b2,b6,b5⟩:=DX Tu;have F:=AC (xi b7 (xi b2 (xi b6 b5)));have c6:w.cell? (xK kb 6)=some sN:=by rw [<-T];exact h.1.cell rfl
 have f6:=h.1.frozen 6;obtain ⟨W1,J⟩:=xE (w.setCell (xK kb 6) sN)
 have V:AE W1 kb 85 (k.cells (sL g 0 k.inos.length cap)):=by
  rw [J];have:=h.1.set 6 sN;have e:(k.cells (sL g 0 k.inos.length cap)).set 6 sN=k.cells (sL g 0 k.inos.length cap):=by unfold RK.cells;rw [T];rfl
  rwa [e] at this
 have d1:W1.cell? (xK kb 8)=some sN:=by rw [<-Z];exact V.cell rfl
 have f8:=V.frozen 8;obtain ⟨W2,I⟩:=xE (W1.setCell (xK kb 8) sN)
 have b1:AE W2 kb 85 (k.cells (sL g 0 k.inos.length cap)):=by
  rw [I];have:=V.set 8 sN;have e:(k.cells (sL g 0 k.inos.length cap)).set 8 sN=k.cells (sL g 0 k.inos.length cap):=by unfold RK.cells;rw [Z];rfl
  rwa [e] at this
 have a6:w.grownBy W2 (some kb):=by rw [I,J];exact AI (AI (zj _ _) 6 _) 8 _
 have R:W2.heap.size=w.heap.size:=by rw [I,J];simp [World.setCell]
 have N:∀j v,(CQ k.inos)[j]? =some v->W2.cell? (xK g j)=some v:=λj v hv=>a6.cell (by have:=h.at.2 j v hv;rwa [zq] at this) sO;obtain ⟨d0,c1,L,U,c8,a0⟩:=H6 J I b1 a6 R N;have HL:=AC (xi hl H);have c2:=AC T;clear h J I V b1 a6 R N hl H b7 b2 b6 b5 T Z;go_enter func145,ntmps145;go_wp2
 go_loop [2,3] (λn i=>n= sN/\i= iV 0) (λ_ _=>0)
 case atStart=>exact ⟨rfl,rfl⟩
 case round=>
  obtain ⟨rfl,rfl⟩:=hrel
  go_upto_region 8 with fail
  rw [<-AB d0];clear c6 f6;go_wp2
  go_loop [5,6] (λn i=>n= sN/\i= iV 0) (λ_ _=>0)
  case atStart=>exact ⟨rfl,rfl⟩
  case round=>
   obtain ⟨rfl,rfl⟩:=hrel
   go_upto_region 16 with fail
   rw [<-AB c1];clear d1 f8;go_wp2;obtain ⟨n,a7⟩:=xE k.inos.length;have a5:=AC a7;rw [<-a7] at hn L;clear a7
   go_loopw [8,9] (λv i wr=>∃j:Nat,j<=n/\i= iV j/\Hid (wr.ownsRow w.heap.size 126 5 v j (CQ (k.inos.take j)))/\Hid (Below w.heap.size W2 wr)) (λ_ i _=>n-(intOf i).toNat)
   case atStart=>exact ⟨0,om,rfl,AC (uy _ _ _ _),AC (zw _ _)⟩
   case round=>
    obtain ⟨j,hj,rfl,G,B⟩:=hrel;have d3:=B.size;have R:=AB c8;have c7:cE wr kb 7 (sL g 0 n cap):=(L.below B om).cell rfl;have c6:wr.cell? (xK kb 6)=some sN:=by rw [<-AB c2];exact (L.below (AB B) om).cell rfl
    have b8:=AB G
    obtain ⟨sa,sc,c0⟩:∃sa sc,u8= .slice sa j sc:=by
     rcases b8.2 with ⟨e1,e2⟩|⟨g',c',_,e1,_⟩
     ·exact ⟨none,0,by rw [e1,e2]⟩
     ·exact ⟨_,c',e1⟩
    subst c0;clear b8;by_cases c5:j<n
    ·obtain ⟨x,hx⟩:∃x,k.inos[j]? =some x:=⟨_,zz (by rw [<-AB a5];exact c5)⟩;have Y:=zv hx
     have D:∀w':World,Below w.heap.size W2 w'->∀(i:Nat) (v:Value),i<5->(BQ x)[i]? =some v->w'.cell? (xK g (j*5+i))=some v:=λw' hb i v hi hv=>by
      rw [hb.cell (p:=(xK g (j*5+i))) d2.2];exact AB a0 _ _ (LO k.inos j i x v hx hi hv)
     have i0:cE wr g (j*5) (iV x.id):=D wr B 0 _ om rfl;have b3:=AC (dV kb x.id 1 wr c6);have d5:(0:Int)<=(j:Int):=om;have d7:(j:Int)<(n:Int):=om;have HX:=AC hx;have HC:=AC D;have b4:=AC (xi (HL.1 x Y) (HL.2 x Y));have d8:w.heap.size<=wr.heap.size:=om;clear hx Y D R
     go_wp2_with fail
     refine b3.mono ?_;rintro e w1 ⟨rfl,c3⟩;subst c3;obtain ⟨ba,bn,bc,X⟩:=b4.2;have O:BQ x=[iV x.id,iV x.parent,.string x.name,.bool x.dir,.slice ba bn bc]:=by unfold BQ;rw [X]
     have i1:cE w1 g (j*5+1) (iV x.parent):=AB HC w1 B 1 _ om rfl;have i2:cE w1 g (j*5+2) (.string x.name):=AB HC w1 B 2 _ om rfl;have i3:cE w1 g (j*5+3) (.bool x.dir):=AB HC w1 B 3 _ om rfl;have i4:w1.cell? (xK g (j*5+4))=some (.slice ba bn bc):=by rw [<-X];exact AB HC w1 (AB B) 4 _ om rfl
     have a9:=AC (show CQ (k.inos.take (j+1))=CQ (k.inos.take j)++[iV x.id,iV x.parent,.string x.name,.bool x.dir,.slice ba bn bc] from by
      rw [uw,AB HX,CQ,ur,<-O]
      simp [CQ])
     have a8:=AC (show ∀j u,[Value.int .i64 x.id,iV x.parent,.string x.name,.bool x.dir,.slice ba bn bc][j]? =some u->(w1.alloc (Obj.cells #[iV x.id,iV x.parent,.string x.name,.bool x.dir,.slice ba bn bc] 126)).cell? (((xK w1.heap.size 0):Addr).add j)=some u from by
      intro j u hj;rw [Sr,zq]
      exact (AE.new w1 126 _).cell hj)
     have b0:=AC (show ∀u∈[Value.int .i64 x.id,iV x.parent,.string x.name,.bool x.dir,.slice ba bn bc],u.oneCell'=true from by
      intro u hu;simp only [vp,uu,or_false] at hu
      rcases hu with rfl|rfl|rfl|rfl|rfl<;>rfl)
     clear O X b3;obtain ⟨qb,M⟩:∃qb:Bool,qb=decide (0<x.parent):=⟨_,rfl⟩
     have c4:=AC (show qb=false->x.id=1 from λq=>by
      rcases b4.1 with hp|hi
      ·rw [M,ve hp] at q;cases q
      ·exact hi)
     cases qb with
     |true=>
      have hp:0<x.parent:=tu M.symm;clear M
      go_wp2_with (at_builtin;refine wpList_append_lies _ (by rfl) _ _ 81 (by rfl) w.heap.size 126 ii _ 5 64 underlying81 F.1 F.2.1 F.2.2.1 F.2.2.2 rfl dz _ _ _ (by rfl) (G.alloc _) (xK w1.heap.size 0) 1 1 [iV x.id,iV x.parent,.string x.name,.bool x.dir,.slice ba bn bc] (by rfl) (by rfl) a8 b0 om (by unfold maxLen;omega) om sO (w1.heap.size+1) sI ?_;intro g5 a2 w5 E C a3 a4)
      have a1:Below w.heap.size W2 w5:=(B.alloc om _).grown C sO (by intro q h;have:=G.lt q h;omega)
      exact ⟨⟨j+1,om,sI,AC (by rw [AB a9];exact E),AC a1⟩,by simp only [intOf];omega⟩
     |false=>
      have hp:¬0<x.parent:=tr M.symm;have d6:(x.id==1)=true:=by rw [AB c4 rfl];rfl
      clear M
      go_wp2_with (at_builtin;refine wpList_append_lies _ (by rfl) _ _ 81 (by rfl) w.heap.size 126 ii _ 5 64 underlying81 F.1 F.2.1 F.2.2.1 F.2.2.2 rfl dz _ _ _ (by rfl) (G.alloc _) (xK w1.heap.size 0) 1 1 [iV x.id,iV x.parent,.string x.name,.bool x.dir,.slice ba bn bc] (by rfl) (by rfl) a8 b0 om (by unfold maxLen;omega) om sO (w1.heap.size+1) sI ?_;intro g5 a2 w5 E C a3 a4)
      have a1:Below w.heap.size W2 w5:=(B.alloc om _).grown C sO (by intro q h;have:=G.lt q h;omega);exact ⟨⟨j+1,om,sI,AC (by rw [AB a9];exact E),AC a1⟩,by simp only [intOf];omega⟩
    ·have c9:j=n:=om;subst c9;have f7:=(L.below B om).frozen 7;go_wp2;go_end0;have hG:w.grownBy wr (some kb):=⟨B.os.trans U.os,B.tape.trans U.tape,B.output.trans U.output,om,λi hi b9=>(B.block i om).trans (U.block i hi b9)⟩;refine ⟨rfl,.slice sa j sc,(L.below B om).set 7 _,?_,AI hG 7 _⟩;have hw:=AB G;rw [xx (by rw [<-AB a5];omega)] at hw;rw [<-AB a5];refine hw.kept (AI (zj wr (some kb)) 7 _) ?_
     cases hv:Value.ownBlock (.slice sa j sc) with
     |none=>exact .inl rfl
     |some q=>exact .inr (by have:=G.lt q hv;simp;omega)
def UK:List Int:=[0,0,0,0,0,0,0,0]
def AP.ended (p:AP) (st:Int):AP:={p with st:=2,su:=st,le:=0,PS:=[],F:=UK}
structure RL where
 aa:Option Addr
 ga:Nat
 ca:Nat
def rpc (x:AP×RL):List Value:=Au x.1.pid x.1.par x.1.st x.1.su x.1.le x.1.pc x.1.R (.slice x.2.aa x.1.PS.length x.2.ca) x.1.F
def Ai (L:List (AP×RL)):List Value:=L.flatMap rpc
def GO (x:AP×RL):(rpc x).length=31:=rfl
def Cw:∀(L:List (AP×RL)),(Ai L).length=L.length*31
 |[]=>rfl
 |a::r=>by
  unfold Ai;rw [vi,zm,GO];have:=Cw r;unfold Ai at this;rw [this,um];omega
def G0:∀(L:List (AP×RL)) (j i:Nat) (x:AP×RL) (v:Value),L[j]? =some x->(rpc x)[i]? =some v->(Ai L)[j*31+i]? =some v
 |[],j,i,x,v,h,_=>by simp at h
 |a::r,0,i,x,v,h,hv=>by
  have e:a=x:=sU h;subst e;have hi:=(zy.1 hv).1;unfold Ai;rw [vi,zo om,Nat.zero_mul,zq]
  exact hv
 |a::r,j+1,i,x,v,h,hv=>by
  have ih:=G0 r j i x v (sU h) hv;unfold Ai at ih ⊢;rw [vi,zn (by rw [GO];omega),GO,show (j+1)*31+i-31=j*31+i by omega];exact ih
structure RPs (w:World) (base gp cp:Nat) (L:List (AP×RL)):Prop where
 own:w.ownsRow base 78 31 (sL gp 0 L.length cp) L.length (Ai L)
 pages:∀x∈L,0<x.1.PS.length->x.2.aa=some (xK x.2.ga 0)/\x.2.ga<w.heap.size/\x.2.ga≠gp/\Bs w x.2.ga x.1.PS/\∀i,w.frozen? (xK x.2.ga i)=false
 apart:L.Pairwise (λx y=>0<x.1.PS.length->0<y.1.PS.length->x.2.ga≠y.2.ga)
 cap:∀x∈L,x.1.PS.length<=x.2.ca
def RPs.cell {L:List (AP×RL)} (h:RPs w base gp cp L) {x:AP×RL} (hx:L[j]? =some x) (hv:(rpc x)[i]? =some v):w.cell? (xK gp (j*31+i))=some v:=by
 have hj:=(zy.1 hx).1;have hi:=(zy.1 hv).1;rw [GO] at hi;rw [h.own.cellAt _ om];exact G0 L j i x v hx hv
def RPs.lt {L:List (AP×RL)} (h:RPs w base gp cp L):base<=gp/\gp<w.heap.size:=h.own.lt gp rfl
def GX (h:Bs w g PS) (hb:w'.heap[g]? =w.heap[g]?):Bs w' g PS:=by
 have hc:∀o,w'.cell? (xK g o)=w.cell? (xK g o):=λo=>by unfold World.cell?;rw [hb]
 intro i p hp;obtain ⟨h1,h2,h3⟩:=h i p hp;exact ⟨by rw [hc];exact h1,by rw [hc];exact h2,λj v hv=>by rw [hc];exact h3 j v hv⟩
def E9 (h:w.frozen? (xK b i)=false) (hb:w'.heap[b]? =w.heap[b]?):w'.frozen? (xK b i)=false:=by
 unfold World.frozen? at h ⊢;rw [hb];exact h
def Hh (h:w.ownsRow base e size (sL g 0 n cap) n xs) (hb:w'.heap[g]? =w.heap[g]?):w'.ownsRow base e size (sL g 0 n cap) n xs:=by
 refine ⟨h.1,h.2.imp id ?_⟩;rintro ⟨g',cap',B,x1,x2,x3,x4⟩;have:g=g':=by injection x1 with x1;injection x1 with x1;injection x1
 subst this;exact ⟨g,cap',B,x1,x2,by rw [hb];exact x3,x4⟩
def RPs.block {L:List (AP×RL)} (h:RPs w base gp cp L) (hs:w.heap.size<=w'.heap.size) (hg:w'.heap[gp]? =w.heap[gp]?) (hp:∀x∈L,0<x.1.PS.length->w'.heap[x.2.ga]? =w.heap[x.2.ga]?):RPs w' base gp cp L:=
 ⟨Hh h.own hg,λx hx h0=>by
  obtain ⟨h1,h2,h3,h4,h5⟩:=h.pages x hx h0
  exact ⟨h1,yz h2 hs,h3,GX h4 (hp x hx h0),λi=>E9 (h5 i) (hp x hx h0)⟩,h.apart,h.cap⟩
def RPs.below {L:List (AP×RL)} (h:RPs w base gp cp L) (hb:Bw w w'):RPs w' base gp cp L:=
 h.block hb.size (hb.block gp h.lt.2) (λx hx h0=>hb.block _ (h.pages x hx h0).2.1)
def Fs (L:List (AP×RL)) (pid:Int):Int:=match L.findIdx? (λx=>x.1.pid==pid) with|some i=>(i:Int)|none=> -1
def Fi (base gp cp:Nat) (L:List (AP×RL)) (pid:Int) (w:World) (h5:w.cell? (xK kb 5)=some (sL gp 0 L.length cp)) (h:RPs w base gp cp L) (hn:L.length<=1000):
  cT 20 #[qP kb 0,iV pid] w λe w'=>e= .returned (iV (Fs L pid))/\w'=w:=by
 obtain ⟨N,hN⟩:=xE L.length;rw [<-hN] at h5;have H:N<=1000:=om
 have HC:=AC (show ∀(k:Nat) (x:AP×RL),L[k]? =some x->w.cell? (xK gp (k*31))=some (iV x.1.pid) from λk x hx=>by
  have e:(rpc x)[0]? =some (iV x.1.pid):=by unfold rpc Au;rfl
  have:=h.cell (i:=0) hx e
  rwa [sq] at this)
 have HN:=AC hN;obtain ⟨IX,C⟩:=xE (Fs L pid);rw [<-C];have D:=AC C;clear h hn hN C;go_enter func20,ntmps20;go_wp2
 go_loopw [5] (λi wr=>∃k:Nat,k<=N/\i= iV k/\wr=w/\Hid (∀(j:Nat) (x:AP×RL),j<k->L[j]? =some x->x.1.pid≠pid)) (λi _=>N-(intOf i).toNat)
 case atStart=>exact ⟨0,om,rfl,rfl,AC (λj x hj=>om)⟩
 case round=>
  obtain ⟨k,hk,rfl,rfl,HB⟩:=hrel;have k0:(0:Int)<=(k:Int):=om;by_cases G:k<N
  ·have k1:(k:Int)<(N:Int):=om;obtain ⟨x,hx⟩:∃x,L[k]? =some x:=⟨_,zz (o1 (AB HN))⟩;have c0:=AB HC k x hx;obtain ⟨xp,B⟩:=xE x.1.pid;rw [<-B] at c0;by_cases he:xp=pid
   ·have HE:=AC (show IX=(k:Int) from by
     rw [AB D];unfold Fs
     rw [(uo (i:=k)).2 ⟨o1 (AB HN),by
      obtain ⟨h1,h2⟩:=zy.1 hx;rw [h2,<-B,he];simp,λj hj=>by
      have E:j<L.length:=o1 (AB HN);have:=AB HB j L[j] hj (zz E)
      simpa using this⟩])
    subst he;clear hx B;go_wp2;go_ret;exact ⟨by rw [AB HE];rfl,rfl⟩
   ·have F:=AC (show ∀(j:Nat) (y:AP×RL),j<k+1->L[j]? =some y->y.1.pid≠pid from λj y hj hy=>by
     by_cases e:j=k
     ·subst e;rw [hx] at hy;obtain rfl:=zr hy;rw [<-B];exact he
     ·exact AB HB j y om hy)
    clear hx B;go_wp2;exact ⟨⟨k+1,om,sI,trivial,F⟩,by simp only [intOf];omega⟩
  ·have k1:¬(k:Int)<(N:Int):=om;obtain rfl:k=N:=om
   have HE:=AC (show IX= -1 from by
    rw [AB D];unfold Fs;rw [sh.2 (λx hx=> ?_)];obtain ⟨j,hj⟩:=yj.1 hx;have h1:=(zy.1 hj).1;have:=AB HB j x (o1 (AB HN)) hj
    simpa using this)
   go_wp2;go_ret;exact ⟨by rw [AB HE];rfl,rfl⟩
def Aj:ByteArray:=⟨#[47,105,110,105,116]⟩
def BI:ByteArray:=⟨#[105,110,105,116]⟩
def Gk:List Value:=[iV 1,iV 0,iV 0,iV 0,iV 0,uV 0]++Ii++[sN,iV (-1),iV (-1),iV (-1),iV 0,iV 0,iV 0,iV 0,iV 0]
def Pc (lp lf lo li lb:Int) (FZ:List AQ) (c:Int):Prop:=
 ((CP lp lf lo li lb).puts FZ).1≠0/\c=((CP lp lf lo li lb).puts FZ).1\/((CP lp lf lo li lb).puts FZ).1=0/\((CP lp lf lo li lb).puts FZ).2.ExecErr [0] 0 Aj [BI] c
structure BtA (p:PK) (w w':World) (k:RK) (cs:List (List Int)) (g cap gp pc gn cn:Nat):Prop where
 toP:k.toP cs=p
 rep:EB w' (w.heap.size+2) (w.heap.size+1) g cap k
 cont:DA w' k.inos cs
 inv:Ia k
 bytes:By cs
 used:AM cs<=200000
 inos:k.inos.length<=101
 last:k.last<=101
 pv:k.pv= sL gp 0 1 pc
 nils:k.ov= sN/\k.cv= sN/\k.tv= sN/\k.uv= sN/\k.mv= sN
 ok:p.ExecOk [0] 0 Aj [BI]
 pages:w'.ownsRow (w.heap.size+2) 136 258 (sL gn 0 ((Ad (p.fileOf Aj)).length+2) cn) ((Ad (p.fileOf Aj)).length+2) (As (Ad (p.fileOf Aj))++ED (AS [BI]) 2)
 procs:w'.ownsRow (w.heap.size+2) 78 31 (sL gp 0 1 pc) 1 (Ij Gk 0 (sL gn 0 ((Ad (p.fileOf Aj)).length+2) cn) (AO (p.fileOf Aj) 24 8) (65024+(Dc [BI]:Int)))
 apart:g≠gp/\g≠gn/\gp≠gn
def Qb (w:World):Ending:= .returned (.tuple #[qP (w.heap.size+1) 0,iV 0])
def iN (lp lf lo li lb:Int) (FZ:List AQ) (w:World) (e:Ending) (w':World):Prop:=
 Bw w w'/\((∃c,Pc lp lf lo li lb FZ c/\e=Js c)\/(((CP lp lf lo li lb).puts FZ).1=0/\e=Qb w/\∃k cs g cap gp pc gn cn,BtA ((CP lp lf lo li lb).puts FZ).2 w w' k cs g cap gp pc gn cn))
def TB:List Value:=[iV 0,iV 0,iV 0,iV 0,iV 0,uV 0]++Ii++[sN,iV 0,iV 0,iV 0,iV 0,iV 0,iV 0,iV 0,iV 0]
def MX:(prog.info? 78).map (λi=>(i.zero,i.size,i.bytes))=some (some (.agg TB.toArray),31,264):=kf
def GY:(prog.info? 78).map (·.size)=some Gk.length:=kf
def df:∀u∈Gk,u.oneCell'=true:=by
 intro u hu;simp only [Gk,Ii,List.replicate,List.cons_append,xt,vp,uu,or_false] at hu;rcases hu with rfl|rfl|rfl|rfl|rfl|rfl|rfl|rfl|rfl|rfl|rfl|rfl|rfl|rfl|rfl|rfl|rfl|rfl|rfl|rfl|rfl|rfl|rfl|rfl|rfl|rfl|rfl|rfl|rfl|rfl|rfl<;>rfl
def Yx:bN Gk [0]:=⟨rfl,λj n h=>by
 match j,h with
 |0,h=>
  have:n=0:=sU h.symm;subst this
  exact ⟨none,0,rfl⟩⟩
def iO {B:List Int} (h:Bad B c):c≠0:=by
 rcases h with ⟨_,rfl⟩|⟨_,_,rfl⟩|⟨_,_,(⟨_,rfl⟩|⟨_,_,rfl⟩)⟩<;>decide
def Yy {k:RK} {PL:List Nat} {s:ByteArray} {ss:List ByteArray} (h:ExecErr k cs PL i s ss c):c≠0:=by
 rcases h with ⟨h,rfl⟩|⟨_,(⟨_,rfl⟩|⟨_,(⟨_,rfl⟩|⟨_,(h|⟨_,(⟨_,rfl⟩|⟨_,_,rfl⟩)⟩)⟩)⟩)⟩
 ·exact h
 ·decide
 ·decide
 ·exact iO h
 ·decide
 ·decide
def iP (h:By cs) (hu:AM cs<=n):∀c∈cs,AK c/\c.length<=n:=λc hc=>by
 obtain ⟨i,hi⟩:=yj.1 hc;exact ⟨h c hc,zg (Ka hi) hu⟩
def Yz (h:w.ownsRow base 78 31 (sL g 0 n cap) n xs):∀vs,¬AE w g 5 vs:=λvs hv=>by
 rcases h.2 with ⟨h',_⟩|⟨g',cap',B,h',_,hg,_⟩
 ·simp at h'
 ·simp only [Value.slice.injEq,Option.some.injEq,Addr.mk.injEq,and_true,true_and] at h';obtain ⟨rfl,_⟩:=h';unfold AE at hv;rw [hg] at hv;simp at hv
def dg (FZ:List AQ) (w wr:World) (hn:FZ.length<=100) (L:(FZ.map (λf=>f.bytes.length)).sum<=200000) (k:RK) (cs:List (List Int)) (g cap:Nat) (h:QZ lp lf lo li lb w FZ FZ.length wr k cs g cap)
  (wX:World) (gp pc:Nat) (hG:wr.grownBy wX (some (w.heap.size+1))) (hk:AE wX (w.heap.size+1) 85 ({k with pv:= sL gp 0 1 pc}.cells (sL g 0 k.inos.length cap)))
  (B:wX.ownsRow (w.heap.size+2) 78 31 (sL gp 0 1 pc) 1 Gk) (Y:wr.heap.size<=gp) (ab D:Nat) (N:ab<wX.heap.size) (M:cE wX ab 0 (.string BI)):
  cT 42 #[qP (w.heap.size+1) 0,qP gp 0,.string Aj,sL ab 0 1 D] wX λe w'=>∃c:Int,e= .returned (.tuple #[iV 0,iV c])/\Bw w w'/\(c≠0->Pc lp lf lo li lb FZ c)/\
   (c=0->((CP lp lf lo li lb).puts FZ).1=0/\∃k cs g cap gp pc gn cn,BtA ((CP lp lf lo li lb).puts FZ).2 w w' k cs g cap gp pc gn cn):=by
 have a3:=h.rep.2.lt g rfl;have Z:=h.below.size;have R:=B.lt gp rfl;have J:=h.used;have C:=h.puts;rw [uh] at J C;have T:({k with pv:= sL gp 0 1 pc}:RK).toP cs=k.toP cs:=rfl;have hr:EB wX (w.heap.size+2) (w.heap.size+1) g cap {k with pv:= sL gp 0 1 pc}:=⟨hk,h.rep.2.kept hG (.inr (by show some g≠some (w.heap.size+1);simp;omega))⟩;have F:Ao wr wX (w.heap.size+1) (w.heap.size+1):=⟨hG.os,hG.tape,hG.output,hG.size,λb hb h1 _=>hG.block b hb (sU h1)⟩;have hc:DA wX k.inos cs:=h.cont.frame F h.rep.apart.1 h.rep.apart.1;have G:Bw w wX:=h.below.trans (F.below om om om);have U:(cs.map List.length).sum<=1000000:=by have:AM cs=(cs.map List.length).sum:=rfl;omega
 have a0:=h.inos;have a1:=h.last
 have V:=OG (w.heap.size+2) (w.heap.size+1) g cap gp 1 pc 0 {k with pv:= sL gp 0 1 pc} cs [0] Gk 0 0 none Aj (some (xK ab 0)) ab 0 D [BI] wX hr hc h.inv (λc hc=>by have:=iP h.bytes J c hc;exact ⟨this.1,om⟩) rfl B Yx om h.nils.ov om om (show k.inos.length<=10000 by omega) dz U om dz dz (λ_=>rfl) N (λj hj=>by
  have:j=0:=by simp at hj;omega
  subst this;exact M) (λx hx=>by
  have:x=BI:=sU hx
  subst this;decide)
 refine V.mono ?_;rintro e w' (⟨c,he,rfl,hb⟩|⟨X,rfl,hg,gn,cn,H,O⟩)
 ·refine ⟨c,rfl,G.trans (hb.mono om),λ_=> .inr ?_,λh0=>absurd h0 (Yy he)⟩;rw [C];exact ⟨rfl,OI he⟩
 ·have a2:=H.lt gn rfl;refine ⟨0,rfl,G.trans ⟨hg.os,hg.tape,hg.output,hg.size,λb hb=>hg.block b om sO⟩,λh0=>absurd rfl h0,λ_=> ?_⟩;rw [C];refine ⟨rfl,{k with pv:= sL gp 0 1 pc},cs,g,cap,gp,pc,gn,cn,⟨T,⟨hr.1.grown hg sO,hr.2.kept hg (.inr (by show some g≠some gp;simp;omega))⟩,?_,h.inv,h.bytes,om,show k.inos.length<=101 by omega,show k.last<=101 by omega,rfl,?_,QY X,?_,?_,⟨om,om,om⟩⟩⟩
  ·have E:Ao wX w' gp gp:=⟨hg.os,hg.tape,hg.output,hg.size,λb hb h1 _=>hg.block b hb (sU h1)⟩;have I:=Yz B;exact hc.frame E I I
  ·have h1:=h.nils;exact ⟨congrArg RK.ov h1,congrArg RK.cv h1,congrArg RK.tv h1,congrArg RK.uv h1,congrArg RK.mv h1⟩
  ·rw [Hi];exact EN H om
  ·rw [Hi];exact O
def ON (w:World):(Instr.alloc 186 true old).run prog w= .ok (qP w.heap.size 0) (w.alloc (.cells Af.toArray 186)):=by
 have h:=zeroValue186 w;rw [Qd] at h;generalize Af=Z at h;simp [Instr.alloc,h,newVar,newRow,Value.cells]
def dj (w:World):(Instr.alloc 164 true old).run prog w= .ok (qP w.heap.size 0) (w.alloc (.cells (Av 0 0 An).toArray 164)):=kf
def bT:(prog.info? 164).map (·.size)=some 258:=kf
def Vx:(prog.info? 134).map (·.size)=some 256:=kf
def TC:(prog.info? 183).map (·.size)=some 257:=kf
def Kh:(prog.info? 186).map (·.size)=some 65792:=by
 have h:=sizeOf186 default
 cases hi:prog.info? 186 with
 |none=>simp [sizeOf,typeInfo,hi] at h
 |some i=>simp [sizeOf,typeInfo,hi] at h;simp [h]
def OP (b:Int) (L:List Int):∀v∈Av a b L,v.oneCell'=true:=by
 intro v hv;simp only [Av,vp] at hv;rcases hv with rfl|rfl|hv
 ·rfl
 ·rfl
 ·obtain ⟨x,_,rfl⟩:=yt.1 hv;rfl
def EO (b:Int) (L:List Int):(Av a b L).length=L.length+2:=by simp [Av,AG]
def IP (p:Pg):∀v∈Bi p,v.oneCell'=true:=by
 intro v hv;simp only [Bi,vp] at hv;rcases hv with rfl|hv
 ·rfl
 ·obtain ⟨x,_,rfl⟩:=yt.1 hv;rfl
def SL (PS:List Pg) (j:Nat):∀v∈Cx PS j,v.oneCell'=true:=by
 intro v hv;unfold Cx at hv;split at hv
 ·exact IP _ v hv
 ·rw [qt hv];rfl
def JF (PS:List Pg):∀v∈AW PS,v.oneCell'=true:=by
 intro v hv;obtain ⟨j,_,hj⟩:=sy.1 hv;exact SL PS j v hj
def GZ {P:Program} {fn:Func} {B:Array Value} {a:Tmp} {t:TypeId} (h:fn.results=#[.cell a t]) (ht:B.getD a undef= qP b 0) (hl:(loadVar t (xK b 0)).run P w= .ok v w):(results fn B).run P w= .ok v w:=by
 unfold results;rw [h];have C:B[a]?.getD undef= qP b 0:=sU ht;simp [C,asAddr,hl]
def CY:Af.length=65792:=by rw [<-Kf];exact CM (λp hp=>by simp at hp)
def dm {k:Nat} {p:Pg} (h:If w g PS) (hp:PS[k]? =some p):w.rangeAt g (k*258) (Av p.num p.perm p.bytes):=by
 obtain ⟨h0,h1,h2⟩:=h k p hp;intro j v hv;unfold Av at hv
 cases j with
 |zero=>obtain rfl:=zr hv;rw [sq];exact h0
 |succ j=>
  cases j with
  |zero=>obtain rfl:=zr hv;exact h1
  |succ j=>
   have:=h2 j v hv;rw [show k*258+(j+1+1)=k*258+2+j by omega];exact this
def If.below (h:If w g PS) (hb:Bw w w') (hg:0<PS.length->g<w.heap.size):If w' g PS:=by
 intro i p hp;have hl:0<PS.length:=o1 (zy.1 hp).1;obtain ⟨h0,h1,h2⟩:=h i p hp;refine ⟨by rw [hb.cell (p:=(xK g (i*258))) (hg hl)];exact h0,by rw [hb.cell (p:=(xK g (i*258+1))) (hg hl)];exact h1,λj v hv=> ?_⟩;rw [hb.cell (p:=(xK g (i*258+2+j))) (hg hl)];exact h2 j v hv
def UM (a:Option Addr) (g cap:Nat) (PS:List Pg) (w:World) (N:Bc PS) (ha:0<PS.length->a=some (xK g 0)/\g<w.heap.size) (hp:If w g PS) (hn:PS.length<=256):
  cT 76 #[.slice a PS.length cap] w λe w'=>e= .returned (.agg (AW PS).toArray)/\Bw w w':=by
 have HP:=AC hp;have F:=AC N;have HA:=AC ha;obtain ⟨W1,E⟩:=xE (w.alloc (.cells Af.toArray 186));obtain ⟨W2,D⟩:=xE (W1.alloc (.cells Af.toArray 186));have I:W1.heap.size=w.heap.size+1:=by rw [E];simp
 have h1:AE W1 w.heap.size 186 Af:=by rw [E];exact AE.new w 186 Af
 have h2:AE W2 (w.heap.size+1) 186 (AW (PS.take 0)):=by rw [List.take_zero,Kf,<-I,D];exact AE.new W1 186 Af
 have h3:AE W2 w.heap.size 186 Af:=by rw [D];exact h1.alloc _
 have U:Bw w W2:=by rw [D,E];exact bA.alloc sI _
 have b3:=AC E;have a9:=AC D;have a8:=AC I;have H2:=AC h2;have H3:=AC h3;have b2:=AC U;clear hp N ha E D I h1 h2 h3 U;go_enter func76,ntmps76
 go_upto_region 1 with (refine Bh rfl 186 rfl Af.toArray ON ?_)
 rw [<-AB b3]
 go_upto_region 2 with (refine Bh rfl 186 rfl Af.toArray ON ?_)
 rw [<-AB a9,AB a8];go_wp2
 go_loopw [8] (λi wr=>∃k:Nat,k<=PS.length/\i= iV k/\Hid (AE wr (w.heap.size+1) 186 (AW (PS.take k)))/\Hid (AE wr w.heap.size 186 Af)/\Hid (Bw w wr)) (λi _=>PS.length-(intOf i).toNat)
 case atStart=>exact ⟨0,om,rfl,H2,H3,b2⟩
 case round=>
  obtain ⟨k,hk,rfl,HR,HZ,HB⟩:=hrel;by_cases b0:k<PS.length
  ·obtain ⟨p,G⟩:∃p,PS[k]? =some p:=⟨_,zz b0⟩;obtain ⟨rfl,O⟩:=AB HA om;have a1:=dm (HP.below HB (λ_=>O)) G;have V:=F.each p (zv G);have b8:(0:Int)<=(k:Int):=om;have c2:(k:Int)<(PS.length:Int):=om;obtain ⟨nu,H⟩:∃nu:Nat,p.num=nu:=⟨p.num.toNat,om⟩;have Y:=V.2.2.2.2;have a7:(nu:Int)<256:=om;have b4:(0:Int)<=(nu:Int):=om;have J:PS.take (k+1)=PS.take k++[p]:=by rw [uw,G];rfl
   have C:splice (AW (PS.take k)) (nu*257) (Bi p)=AW (PS.take (k+1)):=by
    rw [J];refine Y0 ?_ nu H;rw [<-J];have:PS=PS.take (k+1)++PS.drop (k+1):=(uq _ _).symm;have ho:=AB F;rw [this] at ho;exact ho.pre
   have T:(AW (PS.take k)).length=65792:=CM (λq hq=>(F.each q (sm hq)).2.2.2.2);have a4:=AC C;have Z:=AC a1;have B:=AC (xi Y T);obtain ⟨pn,b6⟩:=xE p.num;obtain ⟨pp,b5⟩:=xE p.perm;obtain ⟨pb,a5⟩:=xE p.bytes;clear C a1 J V O T Y G b6 b5 a5
   go_upto_region 5 with (first
    |(refine te rfl 164 _ rfl g (k*258) (by rfl) (Av p.num p.perm p.bytes) _ (AB Z) underlying164 rfl (by rw [bT,EO,B.1]) ?_)
    |(refine Bh rfl 164 rfl (Av 0 0 An).toArray dj ?_)
    |(refine Bo rfl 164 _ _ rfl wr.heap.size (Av p.num p.perm p.bytes) (by rfl) (by rfl) 164 (Av 0 0 An) (AE.new wr 164 _) (by rw [bT,EO,B.1]) (by rw [EO,EO,B.1,AT]) (OP _ _ _) ?_;intro w5 H5 G5))
   have a2:Bw w w5:=by
    have h1:=HB.alloc HB.size (.cells (Av 0 0 An).toArray 164);have hs:=HB.size;exact h1.trans (Aa G5 hs (zg hs sI))
   have hs:=HB.size;have a6:w.heap.size+1<wr.heap.size:=HR.lt;have n5:=AB H5;rw [H] at n5;have c0:w5.cell? (xK wr.heap.size 0)=some (iV nu):=n5.cell rfl;have c1:w5.cell? (xK wr.heap.size 1)=some (.int .u8 p.perm):=n5.cell rfl;have R:w5.rangeAt wr.heap.size 2 (AF p.bytes):=λj v hv=>n5.cell (by rw [show 2+j=j+1+1 by omega];exact hv);have r5:AE w5 (w.heap.size+1) 186 (AW (PS.take k)):=(HR.alloc _).grown G5 sO;have z5:AE w5 w.heap.size 186 Af:=(HZ.alloc _).grown G5 sO;have M:=AC R;have a0:=AC r5;have a3:=AC z5;have L:=AC a2;obtain ⟨X,hX⟩:=xE wr.heap.size;rw [<-hX] at c0 c1 M ⊢;clear n5 R r5 z5 a2 hX G5 H5 H hs a6;have b7:=dh p B.1;have b9:(AF p.bytes).length=256:=by rw [AG];exact B.1
   go_upto_region 6 with (first
    |(refine te rfl 134 _ rfl X 2 (by rfl) (AF p.bytes) _ (AB M) underlying134 rfl (by rw [Vx,AG,B.1]) ?_)
    |(refine Ec rfl 183 (.tmp 20) (.tmp 18) rfl (w.heap.size+1) (nu*257) (Bi p) (by rfl) (by rfl) 186 (AW (PS.take k)) (AB a0) (by rw [TC,CX B.1]) (by rw [CX B.1,B.2];omega) (IP p) ?_;intro w6 H6 G6))
   have HF:=AC (show AE w6 (w.heap.size+1) 186 (AW (PS.take (k+1)))/\AE w6 w.heap.size 186 Af/\Bw w w6 from
    ⟨by rw [<-AB a4];exact AB H6,a3.grown (AB G6) sI,L.trans (Aa (AB G6) om L.size)⟩)
   clear H6 G6 c0 c1 M a0 a3 L a4 Z;go_wp2;exact ⟨⟨k+1,om,sI,AC HF.1,AC HF.2.1,AC HF.2.2⟩,by simp only [intOf];omega⟩
  ·have b1:k=PS.length:=om;subst b1;rw [uh] at HR;have HL:Hid ((AW PS).length=65792):=CM (λq hq=>(F.each q hq).2.2.2.2)
   go_wp2_with (first
    |(refine te rfl 186 _ rfl (w.heap.size+1) 0 (by rfl) (AW PS) _ HR.range underlying186 rfl (by rw [Kh,AB HL]) ?_)
    |(refine Bo rfl 186 _ _ rfl w.heap.size (AW PS) (by rfl) (by rfl) 186 Af (AB HZ) (by rw [Kh,AB HL]) (by rw [CY,AB HL]) (JF PS) ?_;intro w6 H6 G6))
   have HF:Hid (Bw w w6):=HB.trans (Aa G6 (zx _) HB.size);have h6:=AB H6;exact ⟨rfl,.agg (AW PS).toArray,GZ (by rfl) (by rfl) (run_loadVar_mid w6 w.heap.size 0 186 (AW PS) _ h6.range underlying186 rfl (by rw [Kh,AB HL])),rfl,AB HF⟩
def CK (E:Int) (R:List Int) (S:List Value):List Value:=(Value.int .u64 E::R.map (Value.int .u64))++S
def AX (E:Int) (R:List Int) (S:List Value) (pid par st su wk:Int) (fds:List Value):List Value:=
 CK E R S++([iV pid,iV par,iV st,iV su,iV wk]++fds)
def lZ:zeroCells193.toList.take 17=List.replicate 17 (uV 0):=kf
def ld:iQ ((zeroCells193.toList.drop 17).take 65792)=true:=kf
def lg:(zeroCells193.toList.drop 17).drop 65792=[iV 0,iV 0,iV 0,iV 0,iV 0]++List.replicate 8 .nilIface:=kf
def nZ:zeroCells188.toList.take 17=List.replicate 17 (uV 0):=kf
def Co:List Int:=List.replicate 16 0
def GA:List Value:=List.replicate 8 .nilIface
def Bj {E:Int} {R:List Int} {S:List Value} (hR:R.length=16) (hS:S.length=65792):(CK E R S).length=65809:=by unfold CK;simp [hR,hS]
def TD:zeroCells193.toList=AX 0 Co Af 0 0 0 0 0 GA:=by
 have h2:=Qc _ ld;have hl:zeroCells193.toList.length=65822:=by rw [xl];exact zeroCells193_size
 have h1:=lZ;have h3:=lg;generalize zeroCells193.toList=Z at h1 h2 h3 hl;have hm:((Z.drop 17).take 65792).length=65792:=by rw [yr,sx,hl];rfl
 rw [hm] at h2;have e1:Z=Z.take 17++((Z.drop 17).take 65792++(Z.drop 17).drop 65792):=by rw [uq,uq]
 rw [e1,h1,h2,h3];unfold AX CK Af GA;rw [<-xu];rfl
def Qg {α:Type} {A B:List α} (h:A.length=n) (v:α):(A++B).set (n+j) v=A++B.set j v:=by
 rw [ul _ _ om,h,yc]
def iT (pid par:Int):(zeroCells193.setIfInBounds 65809 (iV pid)).setIfInBounds 65810 (iV par)=(AX 0 Co Af pid par 0 0 0 GA).toArray:=by
 have h:=TD;generalize zeroCells193=ZA at h;obtain ⟨Z⟩:=ZA;have h:Z=_:=h;rw [h,zl,zl];refine congrArg List.toArray ?_;have hc:(CK 0 Co Af).length=65809:=Bj (by unfold Co;exact tz) CY;unfold AX;rw [show (65810:Nat)=65809+1 from rfl,show (CK 0 Co Af++([Value.int .i64 0,iV 0,iV 0,iV 0,iV 0]++GA)).set 65809 (iV pid)=_ from Qg (j:=0) hc _,Qg hc];rfl
def SV (pa da ba:Option Addr) (pb O g1 db N g2 bb M h3:Nat) (FZ:List AQ) (w:World) (h:F8 lp lf lo li lb) (h0:li≠0) (hn:FZ.length<=100) (a0:(FZ.map (λf=>f.bytes.length)).sum<=200000)
  (l4:0<FZ.length->pa=some (xK pb O)/\da=some (xK db N)/\ba=some (xK bb M)) (hf:Pb w pb O db N bb M FZ) (g3:pb<w.heap.size/\db<w.heap.size/\bb<w.heap.size) (j2:∀f∈FZ,f.path.size<=maxLen/\AK f.bytes):
  cT 18 #[.agg #[iV lp,iV lf,iV lo,iV li,iV lb],.slice pa FZ.length g1,.slice da FZ.length g2,.slice ba FZ.length h3] w λe w'=>iN lp lf lo li lb FZ w e w':=by
 obtain ⟨a1,a2,a3,a4,a5,a6,a7,a8,a9,m2⟩:=h;have o7:(li==0)=false:=sU h0;have b1:decide (lp<1)=false:=vf om;have b2:decide (16<lp)=false:=vf om;have b3:decide (lf<1)=false:=vf om;have b4:decide (1000<lf)=false:=vf om;have b5:decide (lo<0)=false:=vf om;have b6:decide (100000<lo)=false:=vf om;have b7:decide (li<0)=false:=vf om;have b8:decide (100000<li)=false:=vf om;have b9:decide (lb<0)=false:=vf om;have o5:decide (100000<lb)=false:=vf om;have HF:=AC hf;have n6:=AC l4;have n8:=AC (λ(j:Nat) (f:AQ) (hf:FZ[j]? =some f)=>de lp lf lo li lb FZ w j f hf hn a0 j2);obtain ⟨o1,k2⟩:∃o,o=Obj.cells #[iV lp,iV lf,iV lo,iV li,iV lb] 68:=⟨_,rfl⟩;obtain ⟨W0,d9⟩:=xE ((w.alloc o1).alloc (Obj.cells ((rk0 lp lf lo li lb).cells sN).toArray 85))
 have i6:AE W0 (w.heap.size+1) 85 ((rk0 lp lf lo li lb).cells sN):=by
  have hh:=AE.new (w.alloc o1) 85 ((rk0 lp lf lo li lb).cells sN);rw [show (w.alloc o1).heap.size=w.heap.size+1 from sI] at hh;rw [d9];exact hh
 have j1:Bw w W0:=by rw [d9];exact bA.alloc sI _
 have i4:W0.heap.size=w.heap.size+2:=by rw [d9];simp
 have i5:=AC (MF (w.heap.size+2) (w.heap.size+1) (rk0 lp lf lo li lb) sN W0 i6 (si 0) (by show (0:Int)<=1000000;decide));have m7:=AC j1;have i1:=AC i4;have k7:=AC (d9.trans (by rw [k2]));have g0:=AC a0;clear hf l4 j2 a0 h0 k2 d9 i6 j1 i4 a1 a2 a3 a4 a5 a6 a7 a8 a9 m2;go_enter func18,ntmps18
 go_wp2_with fail
 have h6:=AB i5;rw [AB k7] at h6;refine h6.mono ?_;rintro e w1 ⟨rfl,h7,f6⟩;clear h6 i5;rw [<-AB k7] at f6;have o6:w.heap.size+2<=w1.heap.size:=by have h1:=f6.size;have h2:=AB i1;omega
 have n1:=AC (m7.trans (Aa (B:=w.heap.size) f6 om (by have h2:=AB i1;omega)));have c7:cE w1 (w.heap.size+1) 7 sN:=h7.cell rfl;have m1:=AC h7;obtain ⟨ii,l1,i2,k8,f9⟩:=DX Tu;have f7:=AC (xi l1 (xi i2 (xi k8 f9)))
 have l7:=AC (show ∀j u,(BQ root)[j]? =some u->(w1.alloc (Obj.cells (BQ root).toArray 126)).cell? (((xK w1.heap.size 0):Addr).add j)=some u from λj u hj=>by
  rw [Ah,zq]
  exact (AE.new w1 126 (BQ root)).cell hj)
 clear h7 f6 l1 i2 k8 f9;simp only [show (rk0 lp lf lo li lb).last+1=1 from rfl]
 go_upto_region 11 with (at_builtin;refine wpList_append_lies _ (by rfl) _ _ 81 (by rfl) (w.heap.size+2) 126 ii _ 5 64 underlying81 f7.1 f7.2.1 f7.2.2.1 f7.2.2.2 rfl dz _ 0 [] (by rfl) (uy _ _ _ _) (xK w1.heap.size 0) 1 1 (BQ root) (by rfl) (by rfl) (AB l7) (by intro u hu;simp only [BQ,root,vp,uu,or_false] at hu;rcases hu with rfl|rfl|rfl|rfl|rfl<;>rfl) om (by unfold maxLen;omega) om sO (w1.heap.size+1) sI ?_;intro g5 I w5 T F f0 h5;have k5:=(m1.alloc (Obj.cells (BQ root).toArray 126)).grown F (by show some (w.heap.size+1)≠none;simp);have x7:=k5.cell (j:=7) rfl;have y7:=k5.frozen 7;have K5:=AC k5;clear k5)
 have n7:g5=w1.heap.size+1:=by rcases f0 with h|h;simp [Value.ownBlock] at h;exact h
 have i7:EB (w5.setCell (xK (w.heap.size+1) 7) (sL g5 0 1 I)) (w.heap.size+2) (w.heap.size+1) g5 I (rk1 lp lf lo li lb):=by
  refine ⟨K5.set 7 _,?_⟩;exact T.kept (AI (zj w5 (some (w.heap.size+1))) 7 _) (.inr (by show some g5≠some (w.heap.size+1);simp;omega))
 have j8:Bw w (w5.setCell (xK (w.heap.size+1) 7) (sL g5 0 1 I)):=
  ((n1.alloc om _).grown F sO (by intro q h;simp [Value.ownBlock] at h)).setCell (p:=(xK (w.heap.size+1) 7)) (Nat.le_succ _) _
 have l8:=AC (show Qa lp lf lo li lb w FZ 0 (w5.setCell (xK (w.heap.size+1) 7) (sL g5 0 1 I)) from ⟨rk1 lp lf lo li lb,[[]],g5,I,i7,⟨rfl,λi x c hx hc=>by
   match i,hx,hc with
   |0,hx,hc=>
    have e1:root=x:=by simpa [rk1] using hx
    have e2:[]=c:=sU hc;subst e1 e2
    exact .inl ⟨rfl,rfl⟩
   |(m+1),hx,_=>simp [rk1] at hx⟩,lX lp lf lo li lb,rfl,rfl,MW,by simp [AM],by simp [rk1],by simp [rk1],j8⟩)
 clear T F f0 i7 j8 x7 y7 c7 n7 h5
 go_loopw [12] (λi wr=>∃(j:Nat),j<=FZ.length/\i= iV j/\Hid (Qa lp lf lo li lb w FZ j wr)) (λi _=>FZ.length-(intOf i).toNat)
 case atStart=>exact ⟨0,om,rfl,l8⟩
 case round=>
  obtain ⟨j,hj,rfl,HR⟩:=hrel;by_cases f5:j<FZ.length
  ·obtain ⟨f,hf⟩:∃f,FZ[j]? =some f:=⟨_,zz f5⟩;obtain ⟨e1,e2,e3⟩:=(AB n6) om;subst e1 e2 e3;obtain ⟨a,q,o,c,k3,l0,j7⟩:=HF.bytes j f hf;obtain ⟨k,cs,g,cap,J⟩:=AB HR;have d1:wr.cell? (xK pb (O+j))=some (.string f.path):=by rw [J.below.cell (p:=(xK pb (O+j))) g3.1];exact HF.path j f hf
   have d2:wr.cell? (xK db (N+j))=some (.bool f.dir):=by rw [J.below.cell (p:=(xK db (N+j))) g3.2.1];exact HF.dir j f hf
   have d3:wr.cell? (xK bb (M+j))=some (.slice a f.bytes.length c):=by rw [J.below.cell (p:=(xK bb (M+j))) g3.2.2];exact k3
   have o0:(0:Int)<=(j:Int):=om;have o3:(j:Int)<(FZ.length:Int):=om;have m8:=AC (AB n8 j f hf a q o c l0 j7 wr.drew HR.drew);clear J hf k3 l0 j7;go_wp2
   go_region_with (go_at_call 41;refine m8.mono ?_;rintro e w7 ⟨c1,rfl,l3,d4,d7⟩;obtain ⟨m9,c0,Z⟩:=H3 l3 d4 d7;clear l3 d4 d7)
   all_goals
    by_cases hz:c1=0
    ·subst hz;have j0:=AC (AB Z rfl);clear Z c0;go_wp2
     go_roundw
     case rel=>first|exact ⟨j+1,om,by go_num,j0⟩|((repeat apply Exists.intro);exact ⟨⟨j+1,om,by go_num,j0⟩,rfl⟩)
     case measure=>simp [intOf];omega
    ·have f9:(c1 !=0)=true:=sU hz;have HX:=AC (show Pc lp lf lo li lb FZ c1 from .inl (by rw [AB c0 hz];exact ⟨hz,rfl⟩));clear hz Z c0;go_wp2
     go_ret2
     exact ⟨AB m9,.inl ⟨c1,AB HX,rfl⟩⟩
  ·have n0:j=FZ.length:=om;subst n0;obtain ⟨k,cs,g,cap,J⟩:=AB HR;have o8:=J.below.size;have o2:=J.rep.2.lt g rfl;obtain ⟨W8,c2⟩:=xE (wr.alloc (Obj.cells Gk.toArray 78));have i8:W8.heap.size=wr.heap.size+1:=by rw [c2];simp
   have c4:AE W8 (w.heap.size+1) 85 (k.cells (sL g 0 k.inos.length cap)):=by rw [c2];exact J.rep.1.alloc _
   have k4:AE W8 wr.heap.size 78 Gk:=by rw [c2];exact AE.new wr 78 Gk
   have c5:W8.cell? (xK (w.heap.size+1) 5)=some sN:=by rw [<-J.nils.pv];exact c4.cell rfl
   have l6:w.heap.size+1<W8.heap.size:=om;obtain ⟨ip,h9,l2,k6,j9⟩:=DX MX;have L:=AC (xi h9 (xi l2 (xi k6 j9)));obtain ⟨PP,c9⟩:=xE Gk;have h8:PP.length=31:=by rw [c9];rfl
   have n4:=AC (show ∀u∈PP,u.oneCell'=true from by rw [c9];exact df);have m4:=AC (show (prog.info? 78).map (·.size)=some PP.length from by rw [c9];exact GY);have n2:=AC c9;have l5:=AC (show W8.drew.rangeAt wr.heap.size 0 PP from by rw [World.rangeAt_drew,c9];exact k4.range)
   have m5:=AC (show ∀(W:World) (j:Nat) (u:Value),PP[j]? =some u->(W.alloc (Obj.cells PP.toArray 78)).cell? (((xK W.heap.size 0):Addr).add j)=some u from λW j u hj=>by
    rw [Ah,zq]
    exact (AE.new W 78 PP).cell hj)
   obtain ⟨m6,n3,m3⟩:=H3 c4 i8 c2;simp only [Gk,Ii,List.replicate,List.cons_append,xt] at c2;have m0:=AC c2;have l9:=AC J;clear J HR f5 hj c4 i8 c2 k4 c9 h9 l2 k6 j9
   go_upto_region 21 with fail
   rw [<-AB m0];refine Ak ?_;intro A hA;have h4:A.eval (.tmp 10)= qP (w.heap.size+1) 0:=eH hA;have j6:A.eval (.tmp 14)= qP wr.heap.size 0:=eH hA;have c3:A.tmps.size=137:=eZ hA;have HA:=AC hA;clear hA;refine xf (S:=λw'=>w'.rangeAt wr.heap.size 0 PP) kf l5 (λhS=> ?_);refine tq 0 112 rfl (Jr rfl _ rfl _ h4) hS (tq 1 113 rfl (Jr rfl _ rfl _ ((BY dz).trans h4)) hS (tq 2 114 rfl (LZ rfl _ rfl _ (Dv (by simp only [AU,c3];decide))) hS (tq 3 115 rfl (MS rfl _ rfl _ (Dv (by simp only [AU,c3];decide))) hS (tq 5 117 rfl (yieldsIf_load_mid (by simp [Region.wanted]) _ _ rfl wr.heap.size 0 ((BY dz).trans ((BY dz).trans ((BY dz).trans ((BY dz).trans j6)))) PP _ (λw h=>h) underlying78 rfl (AB m4)) hS ?_))))
   obtain ⟨A1,b0⟩:=xE (((((A.put (some 112) (qP (w.heap.size+1) 0)).put (some 113) (qP (w.heap.size+1) 0)).put (some 114) (qP (w.heap.size+1) 0)).put (some 115) (qP (w.heap.size+1) 5)).put (some 117) (.agg PP.toArray));rw [<-b0];have X:A1.eval (.tmp 112)= qP (w.heap.size+1) 0:=by rw [b0];exact (BY dz).trans ((BY dz).trans ((BY dz).trans ((BY dz).trans (Dv (by simp only [AU,c3];decide)))))
   have c8:A1.eval (.tmp 115)= qP (w.heap.size+1) 5:=by rw [b0];exact (BY dz).trans (Dv (by simp only [AU,c3];decide))
   have U:A1.eval (.tmp 117)= .agg PP.toArray:=by rw [b0];exact Dv (by simp only [AU,c3];decide)
   have s1:A1.tmps.size=137:=by rw [b0];simp only [AU,c3]
   have i0:=AC b0;clear b0 h4 j6 c3;have j5:Hid (∀W:World,W.cell? (xK (w.heap.size+1) 5)=some sN->(Instr.loadAt 79 (qP (w.heap.size+1) 5)).run prog W= .ok sN W):=λW hW=>gS;have f8:=AC (SK W8.drew wr.heap.size 0 PP (Obj.cells PP.toArray 78) l5);have k0:Hid (W8.drew.cell? (xK (w.heap.size+1) 5)=some sN):=c5;refine wpAnyH_ready (rs:=[4,6]) kf sI (vq rfl (λK hK=> ?_) (vq rfl (λK hK=> ?_) vr))
   case' refine_1=>
    refine NV rfl _ _ rfl _ c8 sN (AB j5 W8.drew k0) (some 116) rfl ?_;refine hK.out _ _ hS (λ_=> ?_);clear hK K;refine rdy [6] kf (vq rfl (λK hK=> ?_) vr);refine Hu rfl _ _ _ rfl PP ((BY dz).trans U) ip _ underlying79 L.1 L.2.1 (L.2.2.1.trans h8.symm) om om W8.heap.size rfl (some 118) rfl ?_;refine hK.out _ _ f8 (λ_=> ?_);clear hK K;obtain ⟨A2,E⟩:=xE ((A1.put (some 116) sN).put (some 118) (sL W8.heap.size 0 1 1));rw [<-E];have G:A2.eval (.tmp 112)= qP (w.heap.size+1) 0:=by rw [E];exact (BY dz).trans ((BY dz).trans X)
    have V:A2.eval (.tmp 116)= sN:=by rw [E];exact (BY dz).trans (Dv (by rw [s1];decide))
    have Y:A2.eval (.tmp 118)= sL W8.heap.size 0 1 1:=by rw [E];exact Dv (by simp only [AU,s1];decide)
    have s2:A2.tmps.size=137:=by rw [E];simp only [AU,s1]
    have g6:=AC E;clear E
   case' refine_2=>
    refine Hu rfl _ _ _ rfl PP U ip _ underlying79 L.1 L.2.1 (L.2.2.1.trans h8.symm) om om W8.heap.size rfl (some 118) rfl ?_;refine hK.out _ _ f8 (λ_=> ?_);clear hK K;refine rdy [4] kf (vq rfl (λK hK=> ?_) vr);refine NV rfl _ _ rfl _ ((BY dz).trans c8) sN (AB j5 _ (by rw [ux _ _ _ l6];exact AB k0)) (some 116) rfl ?_;refine hK.out _ _ f8 (λ_=> ?_);clear hK K;obtain ⟨A2,E⟩:=xE ((A1.put (some 118) (sL W8.heap.size 0 1 1)).put (some 116) sN);rw [<-E];have G:A2.eval (.tmp 112)= qP (w.heap.size+1) 0:=by rw [E];exact (BY dz).trans ((BY dz).trans X)
    have V:A2.eval (.tmp 116)= sN:=by rw [E];exact Dv (by simp only [AU,s1];decide)
    have Y:A2.eval (.tmp 118)= sL W8.heap.size 0 1 1:=by rw [E];exact (BY dz).trans (Dv (by rw [s1];decide))
    have s2:A2.tmps.size=137:=by rw [E];simp only [AU,s1]
    have g6:=AC E;clear E
   all_goals
    refine rdy [7] kf (vq rfl (λK hK=> ?_) vr);refine step_append_lies _ rfl _ _ 79 rfl (w.heap.size+2) 78 ip _ 31 264 underlying79 L.1 L.2.1 L.2.2.1 L.2.2.2 rfl dz _ 0 [] V (uy _ _ _ _) (xK W8.heap.size 0) 1 1 PP Y (by rw [h8]) (AB m5 W8.drew) (AB n4) om (by unfold maxLen;omega) om sO (W8.heap.size+1) sI ?_;intro g9 D w9 R C d8 g4;have n5:g9=W8.heap.size+1:=by rcases d8 with h|h;simp [Value.ownBlock] at h;exact h
    have d5:w9.rangeAt wr.heap.size 0 PP:=Dm (AB f8) C (by simp [Value.ownBlock]);refine hK.out _ _ d5 (λ_=> ?_);clear hK K;change wpAnyH _ _ _ _ _ _ _ (A2.put (some 119) (sL g9 0 1 D)) _;obtain ⟨A3,d0⟩:=xE (A2.put (some 119) (sL g9 0 1 D));rw [<-d0];have f1:A3.eval (.tmp 112)= qP (w.heap.size+1) 0:=by rw [d0];exact (BY dz).trans G
    have f4:A3.eval (.tmp 119)= sL g9 0 1 D:=by rw [d0];exact Dv (by rw [s2];decide)
    have s3:A3.tmps.size=137:=by rw [d0];simp only [AU,s2]
    have j4:=AC d0;clear d0;refine tq 8 120 rfl (LZ rfl _ rfl _ f1) d5 ?_;refine tq 9 121 rfl (MS rfl _ rfl _ (Dv (by rw [s3];decide))) d5 ?_;refine rdy [10] kf (vq rfl (λK hK=> ?_) vr);have k9:AE w9 (w.heap.size+1) 85 (k.cells (sL g 0 k.inos.length cap)):=((m6.heap (W':=W8.drew) rfl).alloc (Obj.cells PP.toArray 78)).grown C (by show some (w.heap.size+1)≠none;simp)
    have i3:(Instr.storeAt 79 (qP (w.heap.size+1) 5) (sL g9 0 1 D)).run prog w9= .ok () (w9.setCell (xK (w.heap.size+1) 5) (sL g9 0 1 D)):=by
     have x5:=k9.cell (j:=5) rfl;have y5:=k9.frozen 5;go_simp
    refine Hv rfl _ _ _ rfl (xK (w.heap.size+1) 5) (sL g9 0 1 D) (Dv (by simp only [AU,s3];decide)) ((BY dz).trans ((BY dz).trans f4)) i3 rfl ?_;refine hK.out _ _ (Dm d5 (AI (zj w9 (some (w.heap.size+1))) 5 _) sO) (λ_=> ?_);clear hK K;refine vg kf ?_ _;obtain ⟨c6,H⟩:=xE (w9.setCell (xK (w.heap.size+1) 5) (sL g9 0 1 D));have g8:AE c6 (w.heap.size+1) 85 ({k with pv:= sL g9 0 1 D}.cells (sL g 0 k.inos.length cap)):=by rw [H];exact k9.set 5 _
    have j3:wr.grownBy c6 (some (w.heap.size+1)):=by
     rw [H];refine AI (World.grownBy.trans (b:=W8.drew.alloc (Obj.cells PP.toArray 78)) ?_ ⟨C.os,C.tape,C.output,C.size,λi hi _=>C.block i hi (by simp [Value.ownBlock])⟩) 5 _;refine World.grownBy.trans (b:=W8.drew) ?_ (World.grownBy_alloc _ _ _);rw [AB m3];have hx:=World.grownBy_alloc wr (Obj.cells Gk.toArray 78) (some (w.heap.size+1));exact ⟨hx.os,hx.tape,hx.output,hx.size,hx.block⟩
    have i9:c6.ownsRow (w.heap.size+2) 78 31 (sL g9 0 1 D) 1 Gk:=by
     rw [H,<-AB n2];exact R.kept (AI (zj w9 (some (w.heap.size+1))) 5 _) (.inr (by show some g9≠some (w.heap.size+1);simp;omega))
    have n9:cE c6 (w.heap.size+1) 5 (sL g9 0 1 D):=g8.cell rfl;rw [<-H];have g7:wr.heap.size<=g9:=by have:=AB n3;omega
    have k1:=AC (dg lp lf lo li lb FZ w wr hn g0 k cs g cap l9 (c6.alloc (Obj.cells #[.string BI] 9)) g9 D (j3.trans (World.grownBy_alloc _ _ _)) (g8.alloc _) (i9.alloc _) g7 c6.heap.size 1 sI (by have:=(AE.new c6 9 [.string BI]).cell (j:=0) rfl;exact this));rw [AB j4,AB g6,AB i0,AB HA];simp only [Act.put,zl,zh,zi];clear C d8 g4 n5 d5 k9 g8 j3 i9 R i3 H HA i0 g6 j4 s1 s2 s3 X c8 U G V Y f1 f4 hS
    go_wp2_with fail
    refine k1.mono ?_;rintro e o4 ⟨c1,rfl,d6,d4,d7⟩;obtain ⟨f2,c0,Z⟩:=H3 d6 d4 d7;clear d6 d4 d7 k1;by_cases hz:c1=0
    ·subst hz;have f3:=AC (AB Z rfl);clear Z c0;go_wp2
     go_ret2
     exact ⟨AB f2,.inr ⟨f3.1,rfl,f3.2⟩⟩
    ·have f9:(c1 !=0)=true:=sU hz;have HX:=AC (AB c0 hz);clear hz Z c0;go_wp2
     go_ret2
     exact ⟨AB f2,.inl ⟨c1,AB HX,rfl⟩⟩
def Uj (v1 v2 v3:Value) (w:World) (h:F8 lp lf lo 0 lb):
  cT 18 #[.agg #[iV lp,iV lf,iV lo,iV 0,iV lb],v1,v2,v3] w λe w'=>e=Js 12/\Bw w w':=by
 obtain ⟨a1,a2,a3,a4,a5,a6,a7,a8,a9,C⟩:=h;have B:∀(o1 o2:Obj),Bw w ((w.alloc o1).alloc o2):=λo1 o2=>bA.alloc sI _;have HF:=AC B;have b1:decide (lp<1)=false:=vf om;have b2:decide (16<lp)=false:=vf om;have b3:decide (lf<1)=false:=vf om;have b4:decide (1000<lf)=false:=vf om;have b5:decide (lo<0)=false:=vf om;have b6:decide (100000<lo)=false:=vf om;have b9:decide (lb<0)=false:=vf om;have D:decide (100000<lb)=false:=vf om;clear B a1 a2 a3 a4 a5 a6 a7 a8 a9 C;go_enter func18,ntmps18;go_wp2
 go_ret2
 exact ⟨rfl,AB HF _ _⟩
def GR (lp lf lo li lb:Int) (FZ:List AQ) (c:Int):Prop:=
 ¬F8 lp lf lo li lb/\c=6\/F8 lp lf lo li lb/\(li=0/\c=12\/li≠0/\Pc lp lf lo li lb FZ c)
def Fv (lp lf lo li lb:Int) (FZ:List AQ):Prop:=
 F8 lp lf lo li lb/\li≠0/\((CP lp lf lo li lb).puts FZ).1=0/\((CP lp lf lo li lb).puts FZ).2.ExecOk [0] 0 Aj [BI]
def WW (lp lf lo li lb:Int) (FZ:List AQ) (w:World) (e:Ending) (w':World):Prop:=
 Bw w w'/\((∃c,GR lp lf lo li lb FZ c/\e=Js c)\/(Fv lp lf lo li lb FZ/\e=Qb w/\∃k cs g cap gp pc gn cn,BtA ((CP lp lf lo li lb).puts FZ).2 w w' k cs g cap gp pc gn cn))
def WX (pa da ba:Option Addr) (pb C G db D E bb B F:Nat) (FZ:List AQ) (w:World) (hn:FZ.length<=100) (H:(FZ.map (λf=>f.bytes.length)).sum<=200000)
  (M:0<FZ.length->pa=some (xK pb C)/\da=some (xK db D)/\ba=some (xK bb B)) (hf:Pb w pb C db D bb B FZ) (J:pb<w.heap.size/\db<w.heap.size/\bb<w.heap.size) (L:∀f∈FZ,f.path.size<=maxLen/\AK f.bytes):
  cT 18 #[.agg #[iV lp,iV lf,iV lo,iV li,iV lb],.slice pa FZ.length G,.slice da FZ.length E,.slice ba FZ.length F] w λe w'=>WW lp lf lo li lb FZ w e w':=by
 by_cases hl:F8 lp lf lo li lb
 case neg=>
  refine (UL lp lf lo li lb _ _ _ w hl).mono ?_;rintro e w' ⟨rfl,hb⟩;exact ⟨hb,.inl ⟨6,.inl ⟨hl,rfl⟩,rfl⟩⟩
 by_cases h0:li=0
 ·subst h0;refine (Uj lp lf lo lb _ _ _ w hl).mono ?_;rintro e w' ⟨rfl,hb⟩;exact ⟨hb,.inl ⟨12,.inr ⟨hl,.inl ⟨rfl,rfl⟩⟩,rfl⟩⟩
 ·refine (SV lp lf lo li lb pa da ba pb C G db D E bb B F FZ w hl h0 hn H M hf J L).mono ?_;rintro e w' ⟨hb,(⟨c,hc,rfl⟩|⟨hp,rfl,k,cs,g,cap,gp,pc,gn,cn,I⟩)⟩
  ·exact ⟨hb,.inl ⟨c,.inr ⟨hl,.inr ⟨h0,hc⟩⟩,rfl⟩⟩
  ·exact ⟨hb,.inr ⟨⟨hl,h0,hp,I.ok⟩,rfl,k,cs,g,cap,gp,pc,gn,cn,I⟩⟩
def Km (h:w.ownsRow base e size v n xs) (hb:b<=base):w.ownsRow b e size v n xs:=
 ⟨h.1,h.2.imp id (λ⟨g,cap,cur,x1,x2,x3⟩=>⟨g,cap,cur,x1,zg hb x2,x3⟩)⟩
end Go.Proofs.YtpcjkidgohpeoaaGreatDoor
