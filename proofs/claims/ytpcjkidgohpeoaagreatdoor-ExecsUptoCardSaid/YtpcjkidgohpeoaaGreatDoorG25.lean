import Derived.Test.YtpcjkidgohpeoaaGreatDoorG22
import Derived.Test.YtpcjkidgohpeoaaGreatDoorG23
set_option maxRecDepth 100000
set_option maxHeartbeats 4000000
set_option linter.all false
namespace Go.Proofs.YtpcjkidgohpeoaaGreatDoor
open RowKit Maps Proofs.Tryz
variable {w wr:World} {m k j i base gp n cp:Nat} {pid E:Int} {R:List Int} {S:List Value} {ks:List AP} {x:AP×RL} {L:List (AP×RL)} {RR:List (List Value)} {p:PK} {v:Value} {EL:List (Nat×Az)} {PR:List Nat}
def ZQ (h:Jb w m) (cb:Nat):(Instr.lookup 316 (.map (some m)) (Ef cb) false).run prog w= .ok (iV 0) w:=by
 obtain ⟨c,hc⟩:=h;have B:=LE;have G:(zeroValue 3).run prog w= .ok (iV 0) w:=kf
 cases hi:prog.info? 97 with
 |none=>simp [hi] at B
 |some i=>
  have C:i.comparable=true:=by simpa [hi] using B
  have hk:∀d:Nat,(Instr.checkKey true (d+2) 190 (Ef cb)).run prog w= .ok () w:=λd=>by
   unfold Ef;simp [Instr.checkKey,ue underlying190,ue underlying97,typeInfo,hi,C]
  have D:=hk 9998;have F:(getObj m).run prog w= .ok (.map #[] c) w:=by simp [getObj,Sem.run,hc]
  simp [Instr.lookup,ue underlying316,F,Instr.findKey,Instr.findNow,ue underlying190,D,G]
def jE (cb:Nat) (w:World):cT 473 #[qP cb 0] w λe w'=>e= .returned (.tuple #[])/\w'=w:=by
 go_enter func473,ntmps473;go_wp2;go_end0;exact ⟨rfl,rfl⟩
def DM (par:Int×Nat->Int) (pid:Int) (PL:List (Int×Nat)):List (Int×Nat):=PL.filter (λx=>par x==pid)
def eV {par:Int×Nat->Int} {PL:List (Int×Nat)} {x:Int×Nat} (hx:PL[k]? =some x):DM par pid (PL.take (k+1))=DM par pid (PL.take k)++(if par x=pid then [x] else []):=by
 unfold DM;rw [uw,hx,List.filter_append];by_cases h:par x=pid<;>simp [h]
def SZ (a b:List (Int×Nat)):EY (a++b)=EY a++EY b:=by simp [EY]
def Q0 (par:Int×Nat->Int) (pid:Int) (PL:List (Int×Nat)):(DM par pid PL).length<=PL.length:=List.length_filter_le _ _
def Sa (kb pm n pb:Nat) (pid:Int) (PL:List (Int×Nat)) (par:Int×Nat->Int) (w:World) (hk:cE w kb 9 (.map (some pm))) (b7:kb<w.heap.size) (hm:AZ w pm n PL) (hp:0<PL.length) (hn:PL.length<=1000) (h1:cE w pb 65809 (iV pid)) (h2:∀x∈PL,w.cell? (xK x.2 65810)=some (iV (par x))):
  cT 195 #[qP kb 0,qP pb 0] w λe w'=>∃v,e= .returned v/\w'.ownsRow w.heap.size 102 1 v (DM par pid PL).length (EY (DM par pid PL))/\Bw w w':=by
 have b5:pb<w.heap.size:=zu w _ h1;obtain ⟨m,a0⟩:=xE PL.length;have Z:=AC (Wj kb pm n PL w hk b7 hm hp hn);have HC:Hid (∀W,Bw w W->∀x∈PL,W.cell? (xK pb 65809)=some (iV pid)/\W.cell? (xK x.2 65810)=some (iV (par x))):=λW hb x hx=>⟨by rw [hb.cell (p:=(xK pb 65809)) b5];exact h1,by rw [hb.cell (p:=(xK x.2 65810)) (zu w _ (h2 x hx))];exact h2 x hx⟩;obtain ⟨ip,a3,D,J,H⟩:=info_parts J8;have T:=AC (xi a3 (xi D (xi J H)));have O:=AC (xi a0 (xi hp hn));have X:m<=1000:=om;rw [<-a0] at Z;clear hm h1 h2 a3 D J H hp hn a0;go_enter func195,ntmps195
 go_wp2_with fail
 refine Z.mono ?_;rintro e w2 ⟨v2,rfl,U,a5⟩;obtain ⟨g2,c2,rfl,b8,C⟩:=U.form (o1 (AB O))
 have HS:=AC (show ∀(j:Nat) (x:Int×Nat),PL[j]? =some x->w2.cell? (xK g2 j)=some (qP x.2 0) from λj x hx=>by
  have c0:=(zy.1 hx).1;have h:=U.cellAt j (o1 (AB O));rw [h];unfold EY;rw [ze,hx]
  rfl)
 have b0:=AC C;have G:=AC a5;clear U a5 b8 C Z hk;go_wp2
 go_loopw [5,11] (λv i wr=>∃k:Nat,k<=m/\i= iV k/\Hid (wr.ownsRow w2.heap.size 102 1 v (DM par pid (PL.take k)).length (EY (DM par pid (PL.take k))))/\Hid (Bw w2 wr)) (λ_ i _=>m-(intOf i).toNat)
 case atStart=>exact ⟨0,om,rfl,AC (uy _ _ _ _),AC (zw _ _)⟩
 case round=>
  obtain ⟨k,hk,rfl,HO,HR⟩:=hrel;have F:=AB HR;by_cases c1:k<m
  ·obtain ⟨x,hx⟩:∃x,PL[k]? =some x:=⟨_,zz (o1 (AB O))⟩;have b1:wr.cell? (xK g2 k)=some (qP x.2 0):=by rw [F.cell (p:=(xK g2 k)) (AB b0)];exact AB HS k x hx
   have a6:=zv hx;have hc:=AB HC wr.drew (G.trans (F.mono G.size)).drew x a6;have a8:=AC hc;have a4:Bw w2 wr.drew:=F.drew;have V:=Aw HO (AC (show Bw wr wr.drew from (zw _ _).drew));have I:=AC a4;have N:=AC (eV (par:=par) (pid:=pid) hx);obtain ⟨K,hK⟩:=xE (DM par pid (PL.take k));have c4:K.length<=1000:=by rw [hK];have:=Q0 par pid (PL.take k);rw [yr] at this;omega
   rw [<-hK] at N V;have c3:(0:Int)<=(k:Int):=om;have c6:(k:Int)<(m:Int):=om;have a1:=AC V;obtain ⟨xp,xb⟩:=x;obtain ⟨q,hq⟩:=xE (par (xp,xb));rw [<-hq] at N a8;obtain ⟨wd,a7⟩:=xE wr.drew;have b4:=AC a7;clear hc F hx a6 a4 V hK hq a7;simp only at b1
   go_upto_region 5 with fail
   go_region_held (λW=>W.cell? (xK pb 65809)=some (iV pid)/\W.cell? (xK xb 65810)=some (iV q)) (exact AB a8) (fail)
   by_cases a9:q=pid
   ·have Y:=AC (N.trans (by rw [vu a9]));rw [<-AB b4] at a1 I ⊢;have a2:Bw wd (wd.alloc (Obj.cells #[qP xb 0] 102)):=bA;have HA:=AC (Aw a1 (AC a2));have b6:=AC (I.trans (a2.mono I.size));have c5:w2.heap.size<=wd.heap.size:=I.size;clear a2
    go_wp2_with (at_builtin;refine wpList_append_lies _ (by rfl) _ _ 105 (by rfl) w2.heap.size 102 ip _ 1 8 underlying105 T.1 T.2.1 T.2.2.1 T.2.2.2 rfl dz _ K.length (EY K) (by rfl) (AB HA) (xK wd.heap.size 0) 1 1 [qP xb 0] (by rfl) (by rfl) (Wd wd _ _) (by intro u hu;simp only [vp,uu,or_false] at hu;subst hu;rfl) om (by unfold maxLen;omega) om sO (wd.heap.size+1) sI ?_;intro g8 c8 w8 M B b2 b9)
    refine ⟨⟨k+1,om,sI,AC ?_,AC (b6.trans ⟨B.os,B.tape,B.output,B.size,λq hq=>B.block q sO (λe=> ?_)⟩)⟩,by simp [intOf];omega⟩
    ·rw [AB Y,SZ,zm];exact M
    ·have:=HA.lt q e.symm;omega
   ·have Y:=AC (N.trans (by rw [vz a9,xr]));go_wp2;refine ⟨⟨k+1,om,sI,AC ?_,I⟩,by simp [intOf];omega⟩;rw [AB Y];exact AB a1
  ·have b3:k=m:=om;subst b3;clear F;go_wp2;go_ret;refine ⟨_,rfl,?_,G.trans (HR.mono G.size)⟩;have h:=AB HO;rw [O.1,uh] at h;exact EN h G.size
def JO (pid par st su wk:Int) (fds:List Value) (hR:R.length=16) (hS:S.length=65792) (j:Nat) (v:Value):(AX E R S pid par st su wk fds).set (65809+j) v=CK E R S++(([Value.int .i64 pid,Value.int .i64 par,Value.int .i64 st,Value.int .i64 su,Value.int .i64 wk]++fds).set j v):=by
 have hc:=Bj (E:=E) hR hS;unfold AX;rw [ul _ _ om,hc,yc]
def RG {Z:List Value} (pid par st su wk:Int) (fds:List Value) (hR:R.length=16) (hS:S.length=Z.length):splice (AX E R S pid par st su wk fds) 17 Z=AX E R Z pid par st su wk fds:=by
 unfold AX CK splice;have h1:(Value.int .u64 E::R.map (Value.int .u64)).length=17:=by simp [hR]
 rw [xu,xu,xy om,xx om,rm,xw om];rw [xt,rm,xw om,xt];rw [h1,show 17+Z.length-17-S.length=0 by omega,List.drop_zero]
def RH (xs:List Value):Nat->List Value
 |0=>xs
 |k+1=>(RH xs k).set k .nilIface
def Lr {cb:Nat} {xs:List Value} (h:IS cb xs):∀k,IS cb (RH xs k)
 |0=>h
 |k+1=>⟨by show ((RH xs k).set k _).length=8;rw [yu];exact (Lr h k).1,λy hy=>by
  rcases rj hy with h1|h1
  ·exact (Lr h k).2 y h1
  ·exact .inr h1⟩
def jQ {xs:List Value} (h:xs.length=8):RH xs 8=GA:=by
 match xs,h with
 |[_,_,_,_,_,_,_,_],_=>rfl
def pC:List Int:=[-1, -1, -1,0,0,0,0,0]
structure AOk (p:AP):Prop where
 regs:p.R.length=16
 pages:Bc p.PS
 bytes:∀q∈p.PS,AK q.bytes
 pc:0<=p.pc/\p.pc<=18446744073709551615
 rbd:∀r,0<=p.R.getD r 0/\p.R.getD r 0<=18446744073709551615
 le:p.le=0
 st:(p.st=0/\p.su=0/\p.F=pC)\/(p.st=2/\p.PS=[]/\p.F=UK/\p.pid≠1)
 pid:1<=p.pid/\p.pid<=100000
 par:0<=p.par/\p.par<=100000/\p.par≠p.pid/\(p.pid=1->p.par=0)
 live:p.st=0->0<p.PS.length
def Cc (ks:List AP):Nat:=(ks.map (λz=>z.PS.length)).sum
structure KOk (P:PK) (ks:List AP):Prop where
 each:∀p∈ks,AOk p
 sorted:ks.Pairwise (λa b=>a.pid<b.pid)
 one:∃p∈ks,p.pid=1
 cnt:(ks.length:Int)<=P.lp
 frames:(Cc ks:Int)<=P.lf
def Fz (x:AP) (k:Int):AP:={x with pid:=k,par:=x.pid,st:=0,su:=0,le:=0}
def FK (x:AP) (c:List Int) (ss:List ByteArray):AP:={x with pc:=AO c 24 8,R:=List.replicate 15 0++[65024+(Dc ss:Int)],PS:=Ad c++CS (AS ss)}
def Lx (ks:List AP) (y:AP):List AP:=ks.filter (λz=>decide (z.pid<y.pid))++y::ks.filter (λz=>decide (y.pid<z.pid))
structure JR (ks:List AP) (k:Nat):Prop where
 pos:1<=k
 free:∀y∈ks,y.pid≠k
 used:∀j:Nat,1<=j->j<k->∃y∈ks,y.pid=j
def IV (ks:List AP) (y:AP):List AP:=ks.map (λz=>if z.pid=y.pid then y else z)
def GI (pid s:Int) (z:AP):AP:=if z.pid=pid then z.ended s else if z.par=pid then {z with par:=1} else z
def Nm (ks:List AP) (pid s:Int):List AP:=ks.map (GI pid s)
def TV (ks:List AP) (pid:Int):List AP:=ks.filter (λz=>z.par==pid)
def waitZ (ks:List AP) (pid:Int):Option AP:=(TV ks pid).find? (λz=>z.st==2)
def Sg (x:AP):Nat:=CN x.PS 254
structure DoO where
 n:Int
 m:Int
 out:List Int
 c:Int
 ks:List AP
def D6 (ks:List AP) (c:Int):DoO:=⟨0,0,[],c,ks⟩
structure Dr where
 kind:Int
 a:Int
 b:Int
 s:ByteArray
 ss:List ByteArray
 B:List Int
def Xf (P:PK) (ks:List AP) (x:AP) (o:DoO):Prop:=
 (P.lp<=(ks.length:Int)/\o=D6 ks 19)\/((ks.length:Int)<P.lp/\P.lf-(Cc ks:Int)<(x.PS.length:Int)/\o=D6 ks 7)\/
 ((ks.length:Int)<P.lp/\(x.PS.length:Int)<=P.lf-(Cc ks:Int)/\∃k:Nat,JR ks k/\o=⟨k,0,[],0,Lx ks (Fz x k)⟩)
def Xg (P:PK) (ks:List AP) (x:AP) (s:ByteArray) (ss:List ByteArray) (o:DoO):Prop:=
 ∃i,ks[i]? =some x/\((∃c,P.ExecErr (ks.map (λz=>z.PS.length)) i s ss c/\o=D6 ks c)\/(P.ExecOk (ks.map (λz=>z.PS.length)) i s ss/\o=⟨0,0,[],0,IV ks (FK x (P.fileOf s) ss)⟩))
def pD (ks:List AP) (x:AP) (a:Int) (o:DoO):Prop:=(x.pid=1/\o=D6 ks 18)\/(x.pid≠1/\o=⟨0,0,[],0,Nm ks x.pid (a%256)⟩)
def bj (ks:List AP) (x:AP) (o:DoO):Prop:=
 (TV ks x.pid=[]/\o=D6 ks 17)\/(TV ks x.pid≠[]/\waitZ ks x.pid=none/\o=D6 ks 16)\/(∃z,waitZ ks x.pid=some z/\o=⟨z.pid,z.su,[],0,ks.filter (λy=>y.pid !=z.pid)⟩)
def oD (P:PK) (ks:List AP) (x:AP) (a:Int) (o:DoO):Prop:=
 (¬(0<=a/\a<=64)/\o=D6 ks 6)\/((0<=a/\a<=64)/\(P.lf-(Cc ks:Int)<a\/254<(Sg x:Int)+a)/\o=D6 ks 7)\/
 ((0<=a/\a<=64)/\a<=P.lf-(Cc ks:Int)/\(Sg x:Int)+a<=254/\o=⟨(Sg x:Int)*256,0,[],0,IV ks {x with PS:=Cp x.PS (Sg x) a.toNat}⟩)
def nK (ks:List AP) (x:AP) (a b:Int) (o:DoO):Prop:=
 (¬(0<=b/\b<=4096)/\o=D6 ks 6)\/((0<=b/\b<=4096)/\Cf x.PS (IntKind.u64.wrap a) b 4=false/\o=D6 ks 7)\/
 ((0<=b/\b<=4096)/\Cf x.PS (IntKind.u64.wrap a) b 4=true/\o=⟨b,0,BG x.PS (IntKind.u64.wrap a) b.toNat,0,ks⟩)
def jY (ks:List AP) (x:AP) (a:Int) (B:List Int) (o:DoO):Prop:=
 (4096<B.length/\o=D6 ks 6)\/(B.length<=4096/\Cf x.PS (IntKind.u64.wrap a) (B.length:Int) 2=false/\o=D6 ks 7)\/
 (B.length<=4096/\Cf x.PS (IntKind.u64.wrap a) (B.length:Int) 2=true/\o=⟨B.length,0,[],0,IV ks {x with PS:=CF x.PS (IntKind.u64.wrap a) B B.length}⟩)
def Ot (P:PK) (ks:List AP) (x:AP) (k:Dr) (o:DoO):Prop:=
 (k.kind=1/\Xf P ks x o)\/(k.kind=2/\Xg P ks x k.s k.ss o)\/(k.kind=3/\pD ks x k.a o)\/(k.kind=4/\bj ks x o)\/(k.kind=17/\oD P ks x k.a o)\/(k.kind=18/\nK ks x k.a k.b o)\/(k.kind=19/\jY ks x k.a k.B o)\/(¬(1<=k.kind/\k.kind<=21)/\o=D6 ks 23)
def DoR (P:PK) (ks:List AP) (pid:Int) (k:Dr) (o:DoO):Prop:=
 ((∀y∈ks,y.pid≠pid)/\o=D6 ks 18)\/(∃x∈ks,x.pid=pid/\((x.st≠0/\o=D6 ks 24)\/(x.st=0/\Ot P ks x k o)))
def JR.unique (h:JR ks j) (h':JR ks k):j=k:=by
 rcases rf j k with q|q|q
 ·obtain ⟨y,hy,e⟩:=h'.used j h.pos q;exact absurd e (h.free y hy)
 ·exact q
 ·obtain ⟨y,hy,e⟩:=h.used k h'.pos q;exact absurd e (h'.free y hy)
def Zh (hs:ks.Pairwise (λa b=>a.pid<b.pid)) {x y:AP} (hx:x∈ks) (hy:y∈ks) (e:x.pid=y.pid):x=y:=by
 obtain ⟨i,hi,rfl⟩:=sk.1 hx;obtain ⟨j,hj,rfl⟩:=sk.1 hy;have hp:=vd.1 hs;rcases rf i j with q|q|q
 ·have:=hp i j hi hj q;omega
 ·subst q;rfl
 ·have:=hp j i hj hi q;omega
def Zi (hs:ks.Pairwise (λa b=>a.pid<b.pid)) {x:AP} (hi:ks[i]? =some x) (hj:ks[j]? =some x):i=j:=by
 obtain ⟨h1,e1⟩:=zy.1 hi;obtain ⟨h2,e2⟩:=zy.1 hj;have hp:=vd.1 hs;rcases rf i j with q|q|q
 ·have:=hp i j h1 h2 q;rw [e1,e2] at this;omega
 ·exact q
 ·have:=hp j i h2 h1 q;rw [e1,e2] at this;omega
def RV:∀(RR:List (List Value)) (i j:Nat) (v:Value),(∀r∈RR,r.length=31)->j<31->RR.flatten.set (i*31+j) v=(RR.modify i (λr=>r.set j v)).flatten
 |[],i,j,v,_,_=>sI
 |a::r,0,j,v,h,hj=>by
  have ha:=h a sI;rw [List.flatten_cons,Nat.zero_mul,zq,List.set_append_left _ _ om]
  rfl
 |a::r,i+1,j,v,h,hj=>by
  have ha:=h a sI;have ih:=RV r i j v (λx hx=>h x (by simp [hx])) hj;rw [List.flatten_cons,ul _ _ om,ha,show (i+1)*31+j-31=i*31+j by omega,ih];rfl
def Ly {y:AP×RL} {f:List Value->List Value} (hx:L[i]? =some x) (hf:f (rpc x)=rpc y):(L.map rpc).modify i f=(L.set i y).map rpc:=by
 induction L generalizing i with
 |nil=>simp at hx
 |cons a r ih=>
  cases i with
  |zero=>
   have e:a=x:=sU hx;subst e;show f (rpc a)::r.map rpc=rpc y::r.map rpc
   rw [hf]
  |succ i=>
   have:=ih (i:=i) (sU hx);show rpc a::(r.map rpc).modify i f=rpc a::(r.set i y).map rpc;rw [this]
def Bd {α:Type} (f g:α->α):∀(l:List α) (i:Nat),(l.modify i f).modify i g=l.modify i (λx=>g (f x))
 |[],i=>sI
 |a::r,0=>rfl
 |a::r,i+1=>by
  show a::(r.modify i f).modify i g=a::r.modify i (λx=>g (f x));rw [Bd f g r i]
def Zj (h:∀r∈RR,r.length=31) (i j:Nat) (v:Value):∀r∈RR.modify i (λr=>r.set j v),r.length=31:=by
 induction RR generalizing i with
 |nil=>intro r hr;simp at hr
 |cons a s ih=>
  intro r hr
  cases i with
  |zero=>
   rcases vp.1 (show r∈a.set j v::s from hr) with rfl|q
   ·rw [yu];exact h a sI
   ·exact h r (by simp [q])
  |succ i=>
   rcases vp.1 (show r∈a::s.modify i (λr=>r.set j v) from hr) with rfl|q
   ·exact h r sI
   ·exact ih (λx hx=>h x (by simp [hx])) i r q
def Di (h:w.ownsRow base 78 31 (sL gp 0 n cp) n RR.flatten) (hl:∀r∈RR,r.length=31) (i j:Nat) (hj:j<31) (v:Value):(w.setCell (xK gp (i*31+j)) v).ownsRow base 78 31 (sL gp 0 n cp) n (RR.modify i (λr=>r.set j v)).flatten/\∀r∈RR.modify i (λr=>r.set j v),r.length=31:=by
 have:=(h.stored (i*31+j) v).1;rw [RV RR i j v hl hj] at this;exact ⟨this,Zj hl i j v⟩
def GJ (L:List (AP×RL)):Ai L=(L.map rpc).flatten:=List.flatMap_def
def Uy (L:List (AP×RL)):∀r∈L.map rpc,r.length=31:=λr hr=>by obtain ⟨x,_,rfl⟩:=yt.1 hr;rfl
def Is (w:World) (gp o:Nat) (st:Int):World:=(((((((((((w.setCell (xK gp (o+2)) (iV 2)).setCell (xK gp (o+3)) (iV st)).setCell (xK gp (o+4)) (iV 0)).setCell (xK gp (o+22)) sN).setCell (xK gp (o+23)) (iV 0)).setCell (xK gp (o+24)) (iV 0)).setCell (xK gp (o+25)) (iV 0)).setCell (xK gp (o+26)) (iV 0)).setCell (xK gp (o+27)) (iV 0)).setCell (xK gp (o+28)) (iV 0)).setCell (xK gp (o+29)) (iV 0)).setCell (xK gp (o+30)) (iV 0)
def jb (h:w.ownsRow base 78 31 (sL gp 0 L.length cp) L.length (Ai L)) (hx:L[i]? =some x) (st:Int):
  (Is w gp (i*31) st).ownsRow base 78 31 (sL gp 0 L.length cp) L.length (Ai (L.set i (x.1.ended st,⟨none,x.2.ga,0⟩)))/\w.grownBy (Is w gp (i*31) st) (some gp):=by
 rw [GJ] at h;have h0:=Di h (Uy L) i 2 dz (iV 2);have h1:=Di h0.1 h0.2 i 3 dz (iV st);have h2:=Di h1.1 h1.2 i 4 dz (iV 0);have h3:=Di h2.1 h2.2 i 22 dz sN;have h4:=Di h3.1 h3.2 i 23 dz (iV 0);have h5:=Di h4.1 h4.2 i 24 dz (iV 0);have h6:=Di h5.1 h5.2 i 25 dz (iV 0);have h7:=Di h6.1 h6.2 i 26 dz (iV 0);have h8:=Di h7.1 h7.2 i 27 dz (iV 0);have h9:=Di h8.1 h8.2 i 28 dz (iV 0);have B:=Di h9.1 h9.2 i 29 dz (iV 0);have C:=Di B.1 B.2 i 30 dz (iV 0);refine ⟨?_,?_⟩
 ·have:=C.1;rw [Bd,Bd,Bd,Bd,Bd,Bd,Bd,Bd,Bd,Bd,Bd,Ly (y:=(x.1.ended st,⟨none,x.2.ga,0⟩)) hx rfl,<-GJ] at this;exact this
 ·unfold Is;exact AI (AI (AI (AI (AI (AI (AI (AI (AI (AI (AI (AI (zj w (some gp)) _ _) _ _) _ _) _ _) _ _) _ _) _ _) _ _) _ _) _ _) _ _) _ _
def FH (pid:Int) (x:AP×RL):AP×RL:=(if x.1.par=pid then {x.1 with par:=1} else x.1,x.2)
def Ca (pid:Int) (j:Nat) (L:List (AP×RL)):List (AP×RL):=(L.take j).map (FH pid)++L.drop j
def Uz (pid:Int) (j:Nat) (L:List (AP×RL)):(Ca pid j L).length=L.length:=by
 unfold Ca;rw [zm,zc,yr,sx];omega
def U0 (hx:L[j]? =some x):(Ca pid j L)[j]? =some x:=by
 have hj:=(zy.1 hx).1;unfold Ca;rw [zn (by rw [zc,yr];omega),zc,yr,List.getElem?_drop,show j+(j-min j L.length)=j by omega];exact hx
def LI (hx:L[j]? =some x):Ca pid (j+1) L=(Ca pid j L).set j (FH pid x):=by
 obtain ⟨hj,e⟩:=zy.1 hx;unfold Ca;have hl:((L.take j).map (FH pid)).length=j:=by rw [zc,yr];omega
 rw [ul _ _ om,hl,ya,un hj,zh,uw,hx,xj,xu];rfl
def Rl (B cb:Nat) (vt vw:Value) (typed out:List Int) (w w':World):Prop:=∃vt' vw',IF w' B cb vt' vw' typed out/\Mz w w' cb vt vw/\aJ w vt vw vt' vw'
def X6 (B cb:Nat) (vt vw x:Value) (C D N:List Int) (w:World) (h:IF w B cb vt vw C D) (hx:Td w x N) (hB:B<=w.heap.size) (hl:C.length+N.length<=10000000):
  cT 110 #[qP cb 0,x] w λe w'=>e= .returned (.tuple #[])/\Rl B cb vt vw (C++N) D w w':=by
 have HA:=AC (kF cb 0 B vt x C N w 101 [vt,vw] h.row dz rfl h.typed hx hB hl);have HH:=AC h;clear h hx hB hl;go_enter func110,ntmps110
 go_wp2_with fail
 refine HA.mono ?_;rintro e w1 ⟨rfl,ha⟩;obtain ⟨v',h1,h2,h3⟩:=HH.typedAdd ha;have HP:=AC (show Rl B cb vt vw (C++N) D w w1 from ⟨v',vw,h1,h2,h3⟩);clear h1 h2 h3 ha HA;go_wp2;go_end0;exact ⟨rfl,AB HP⟩
def X9 (p:PK) (i:Nat) (w:World) (e:Ending) (w':World):Prop:=∃v EL,e= .returned v/\Ho p w' w.heap.size v EL/\(EL.map Prod.fst).Nodup/\(∀j,j∈EL.map Prod.fst↔DF p.xs i j)/\Bw w w'
structure M5 (p:PK) (i:Nat) (D:DataW Unit) (w:World) (wr:World) (left:Lit->Bool) (v:Value) (EL:List (Nat×Az)) (PR:List Nat):Prop where
 rep:Ho p wr (w.heap.size+1) v EL
 nodup:(EL.map Prod.fst).Nodup
 mem:∀j,j∈EL.map Prod.fst↔∃c∈PR,j=c\/DF p.xs c j
 done:∀j∈PR,Kid p.xs i j/\∀y,p.xs[j]? =some y->left (.string y.name.data.toList)=false
 todo:∀j y,Kid p.xs i j->p.xs[j]? =some y->j∈PR\/left (.string y.name.data.toList)=true
 sub:∀kl,left kl=true->Maps.has D kl=true
 below:Bw w wr
 low:w.heap.size<wr.heap.size
def M5.start (hi:EX p) {D:DataW Unit} {NB:List Nat} {x:Ino} (hx:p.xs[i]? =some x) (hl:NB.length=p.xs.length) (hf:∀s:ByteArray,D.atKey (.string s.data.toList) .nil=DT (Eg p.xs NB x.id s)) (hb:Bw w wr) (hs:w.heap.size<wr.heap.size):M5 p i D w wr (Maps.has D) sN [] []:=by
 refine ⟨Ho.empty _ _ _,sI,λj=>sI,λj hj=>absurd hj sI,λj y hk hy=> .inr ?_,λkl h=>h,hb,hs⟩;have B:=(zy.1 hy).1;have h1:=hf y.name;rw [ZK hi hx hy hk hl,zz om] at h1
 cases hh:Maps.has D (.string y.name.data.toList) with
 |true=>rfl
 |false=>
  rw [Maps.atKey_of_not_has hh] at h1;cases h1
def M5.fin {D:DataW Unit} {left:Lit->Bool} (h:M5 p i D w wr left v EL PR) (hl:∀kl,left kl=false):X9 p i w (.returned v) wr:=by
 refine ⟨v,EL,rfl,h.rep.base om,h.nodup,λj=> ?_,h.below⟩;rw [h.mem j];constructor
 ·rintro ⟨c,hc,rfl|hd⟩
  ·exact .kid (h.done _ hc).1
  ·exact .cons (h.done _ hc).1 hd
 ·intro hd;obtain ⟨c,hk,hc⟩:=hd.head;obtain ⟨y,hy⟩:∃y,p.xs[c]? =some y:=⟨_,zz hk.bound.2⟩;rcases h.todo c y hk hy with q|q
  ·exact ⟨c,q,by rcases hc with e|e;exact .inl e.symm;exact .inr e⟩
  ·rw [hl] at q;cases q
def M5.next (hi:EX p) {D:DataW Unit} {w9:World} {left:Lit->Bool} {v9:Value} {EL2:List (Nat×Az)} {l:Az} {y:Ino} (h:M5 p i D w wr left v EL PR) (hk:Kid p.xs i j) (hy:p.xs[j]? =some y) (M:left (.string y.name.data.toList)=true)
  (O:(EL2.map Prod.fst).Nodup) (J:∀k,k∈EL2.map Prod.fst↔DF p.xs j k) (C:Ho p w9 (w.heap.size+1) v9 (EL++[(j,l)]++EL2)) (hb:Bw w w9) (hs:w.heap.size<w9.heap.size):M5 p i D w w9 (λz=>left z&& !z.sameKey (.string y.name.data.toList)) v9 (EL++[(j,l)]++EL2) (j::PR):=by
 have G:∀c∈PR,c≠j:=λc hc e=>by
  subst e;rw [(h.done c hc).2 y hy] at M;cases M
 have I:∀s t:List UInt8,(Lit.string s).sameKey (.string t)=decide (s=t):=λs t=>by
  by_cases e:s=t
  ·subst e;simp [Lit.sameKey]
  ·simp [Lit.sameKey,e]
 refine ⟨C,?_,λk=> ?_,λc hc=> ?_,λc z hc hz=> ?_,λkl H=>h.sub kl (by simp at H;exact H.1),hb,hs⟩
 ·rw [xj,xj];refine List.nodup_append.2 ⟨List.nodup_append.2 ⟨h.nodup,sI,λa ha b B e=> ?_⟩,O,λa ha b B e=> ?_⟩
  ·have:b=j:=sU B;subst this;subst e;obtain ⟨c,hc,hd⟩:=(h.mem a).1 ha;exact G c hc (sib hi (h.done c hc).1 hk hd (.inl rfl))
  ·subst e;have F:=(J a).1 B;rcases vo.1 ha with ha|ha
   ·obtain ⟨c,hc,hd⟩:=(h.mem a).1 ha;exact G c hc (sib hi (h.done c hc).1 hk hd (.inr F))
   ·have:a=j:=sU ha;subst this;have:=F.lt hi;omega
 ·rw [xj,xj,vo,vo,h.mem k,J k];constructor
  ·rintro ((⟨c,hc,hd⟩|hj)|hd)
   ·exact ⟨c,by simp [hc],hd⟩
   ·exact ⟨j,sI,.inl (sU hj)⟩
   ·exact ⟨j,sI,.inr hd⟩
  ·rintro ⟨c,hc,hd⟩;rcases vp.1 hc with rfl|hc
   ·rcases hd with rfl|hd
    ·exact .inl (.inr sI)
    ·exact .inr hd
   ·exact .inl (.inl ⟨c,hc,hd⟩)
 ·rcases vp.1 hc with rfl|hc
  ·refine ⟨hk,λz hz=> ?_⟩;rw [hy] at hz;obtain rfl:=zr hz;simp [I]
  ·refine ⟨(h.done c hc).1,λz hz=> ?_⟩;rw [(h.done c hc).2 z hz];rfl
 ·by_cases e:c=j
  ·left;rw [e];simp
  ·rcases h.todo c z hc hz with q|q
   ·left;simp [q]
   ·right
    have N:z.name.data.toList≠y.name.data.toList:=by
     intro e2;obtain ⟨a1,b1,c1,d1,e1,f1⟩:=hc;obtain ⟨a2,b2,c2,d2,T,f2⟩:=hk;rw [hz] at d1;obtain rfl:=zr d1;rw [hy] at d2;obtain rfl:=zr d2;rw [c1] at c2;obtain rfl:=zr c2;exact e (IR hi.incr hz hy (hi.kids z (zv hz) y (zv hy) om f1 (by rw [tw,tw];exact e2)))
    simp [q,I,N]
def oN (B:Value) (kl:Lit) (h:keyOf prog 9 B=some kl):∃x,B=Value.string x:=by
 obtain ⟨x,rfl,_⟩:=Maps.keyOf_string_inv underlying9 h;exact ⟨x,rfl⟩
def mW {x:ByteArray} {kl:Lit} (h:keyOf prog 9 (.string x)=some kl):kl= .string x.data.toList:=by
 simp [keyOf,mapKey,underlying9] at h
 first|exact h.2.symm|exact h.symm|(obtain ⟨_,h⟩:=h;exact h.symm)
def YA:eN 197:=enters_of func197 kf rfl
def aM (s:ByteArray) (d:Bool) (a:Option Addr) (n c:Nat) (w:World):(Instr.build 39 #[(0,.string s),(1,.bool d),(2,.slice a n c)]).run prog w= .ok (.agg #[.string s,.bool d,.slice a n c]) w:=kf
def Iv:AQ:=⟨Aj,false,D9⟩
def aZ:Al Aj=some [BI]:=kf
def Tm:PK:=⟨2,10,2,3,1000,2,[root,Bq 2 1 BI false],[[],D9]⟩
def KW:D9.length=260:=kf
def gL:((CP 2 10 2 3 1000).put Iv).1=0:=kf
def kh:((CP 2 10 2 3 1000).put Iv).2=Tm:=kf
def Tn:(CP 2 10 2 3 1000).puts [Iv]=(0,Tm):=by
 unfold PK.puts;rw [vz (by rw [gL];decide),kh];rfl
def Rt:AH Tm.xs Aj=⟨1,BI,2,0⟩:=by
 unfold AH;rw [aZ];kernel_rfl
def ki:Ce Tm.xs 2=false:=kf
def gM:Tm.fileOf Aj=D9:=by
 unfold PK.fileOf;rw [Rt];rfl
def ae:I7 D9:=by
 unfold I7;kernel_rfl
def To:AO D9 16 2=2/\AO D9 18 2=243/\AO D9 20 4=1/\AO D9 32 8=64/\AO D9 52 2=64/\AO D9 54 2=56/\AO D9 56 2=1/\AO D9 24 8=256:=⟨kf,kf,kf,kf,kf,kf,kf,kf⟩
def kj:CO D9:=by
 obtain ⟨a,b,c,d,e,f,g,h⟩:=To;refine ⟨by rw [KW];decide,ae,a,b,c,d,e,f,?_⟩;rw [g,KW];decide
def af:CH D9=1:=kf
def ah:D7 D9 64=⟨5,256,256,4,4⟩:=by
 unfold D7;kernel_rfl
def km:GW D9 64:=by
 unfold GW;rw [ah,KW];exact ⟨kf,⟨dz,dz,dz⟩,dz,dz,dz,dz,dz⟩
def Tp:Bb D9=[⟨5,256,256,4,4⟩]:=kf
def ko:(Ad D9).length=1:=kf
def gN:MP D9:=by
 refine ⟨kj,λi hi=> ?_,λp hp=> ?_,?_⟩
 ·rw [af] at hi;have:i=0:=om;subst this;exact km
 ·rw [Tp];exact List.countP_le_length
 ·rw [To.2.2.2.2.2.2.2];refine ⟨dz,dz,⟨1,5,Cj D9 ⟨5,256,256,4,4⟩ 1⟩,?_,dz,dz⟩;unfold Ad Bl;rw [Tp]
  exact sy.2 ⟨1,zf.2 dz,by
   rw [show List.filter (λs=>cov s 1) [(⟨5,256,256,4,4⟩:Seg)]=[⟨5,256,256,4,4⟩] from kf]
   exact qh.2 rfl⟩
def ai:AK D9:=by
 refine Bx.2 ?_;have h:D9.all (λx=>decide (0<=x)&&decide (x<=255))=true:=kf;intro x hx;have:=za.1 h x hx;simpa using this
def mh:Cv [BI]=true:=kf
def gO:Tm.ExecOk [0] 0 Aj [BI]:=by
 unfold PK.ExecOk;rw [Rt,gM,ko];exact ⟨rfl,dz,ki,gN,mh,dz⟩
def aj:Fv 2 10 2 3 1000 [Iv]:=by
 refine ⟨by unfold F8;decide,dz,?_,?_⟩
 ·rw [Tn]
 ·rw [Tn];exact gO
def gP (w:World) (KR:World->Nat->Addr->PK->Prop)
  (B:∀(w':World) (va:Option Addr) (vb vcap:Nat) (LS':List Az),Bw w w'->(0<[Iv].length->va=some (xK vb 0)/\vb<w'.heap.size)->Dz w' vb 0 [Iv] LS'->cT 6 #[.agg #[iV 2,iV 10,iV 2,iV 3,iV 1000],.slice va [Iv].length vcap] w' (J7 2 10 2 3 1000 [Iv] KR w')):
  cT 4 #[] w λe w'=>e= .returned (.bool true)/\Bw w w':=by
 have N:=AC B;have HT:=AC (kg w);clear B;go_enter func4,ntmps4
 go_wp2_with fail
 refine HT.mono ?_;rintro e w1 ⟨rfl,G,M⟩;obtain ⟨W2,D⟩:=xE (w1.alloc (Obj.cells #[.string Aj,.bool false,sL w.heap.size 0 260 260] 39));have J:Bw w1 W2:=by rw [D];exact bA
 have F:AE W2 w1.heap.size 39 [.string Aj,.bool false,sL w.heap.size 0 260 260]:=by rw [D];exact AE.new w1 39 _
 have H:AE W2 w.heap.size 5 (AF D9):=G.below J G.lt;have C:Bw w W2:=M.trans (J.mono M.size)
 have T:=AC (AB N W2 (some (xK w1.heap.size 0)) w1.heap.size 1 [⟨some (xK w.heap.size 0),w.heap.size,0,260⟩] C (λ_=>⟨rfl,F.lt⟩) ⟨rfl,λi f l hf hl=>by
  have hi:=(zy.1 hf).1;have a0:i=0:=by simp at hi;omega
  subst a0;have e1:Iv=f:=sU hf;have e2:(⟨some (xK w.heap.size 0),w.heap.size,0,260⟩:Az)=l:=sU hl;subst e1 e2;refine ⟨F.cell (j:=0) rfl,F.cell (j:=1) rfl,?_,λ_=>⟨rfl,H.lt⟩,λj hj=> ?_⟩
  ·rw [show Iv.bytes.length=260 from KW];exact F.cell (j:=2) rfl
  ·rw [zq];exact H.bytes j hj⟩)
 have U:=AC C;unfold Aj at D;have I:=AC D;clear G M J F H C D HT N
 go_wp2_with fail
 rw [<-AB I];refine T.mono ?_;rintro e w3 ⟨Y,(⟨c,hc,rfl⟩|⟨_,kp,rfl,_⟩)⟩
 ·exact (J6 hc aj).elim
 ·have O:=AC (U.trans (Y.mono U.size));have X:=AC (Pt w3);clear Y T
  go_wp2_with fail
  refine X.mono ?_;rintro e w4 ⟨rfl,V⟩;have Z:=AC (O.trans (V.mono O.size));clear V X;go_wp2;go_ret;exact ⟨rfl,AB Z⟩
end Go.Proofs.YtpcjkidgohpeoaaGreatDoor
