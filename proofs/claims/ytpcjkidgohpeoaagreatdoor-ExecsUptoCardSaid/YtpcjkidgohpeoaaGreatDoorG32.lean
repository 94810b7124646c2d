import Derived.Test.YtpcjkidgohpeoaaGreatDoorG29
import Derived.Test.YtpcjkidgohpeoaaGreatDoorG31
import Derived.Shelf.SlSortCmp.NoneTotal
import Derived.Test.YtpcjkidgohpeoaaGreatDoorG30
import Derived.Deep.CutBlock
set_option maxRecDepth 100000
set_option maxHeartbeats 4000000
set_option linter.all false
namespace Go.Proofs.YtpcjkidgohpeoaaGreatDoor
open RowKit Maps Proofs.Tryz
variable {L:List (AP×RL)} {i j n fuel:Nat} {x:AP×RL} {P:Program} {ops:Array Oper} {S:World->Prop} {o:Oper} {w w':World} {PS:List Pg} {md:Region.Mode} {Q:Exit->Act->World->Prop} {listed:Array Bool} {a:Act} {rs:List Nat} (p:PK)
def EZ (L:List (AP×RL)):List AP:=L.map (λx=>x.1)
def Mw (L:List (AP×RL)):Prop:=(EZ L).Pairwise (λa b=>a.pid<b.pid)
def KI (h:L[i]? =some x):(EZ L)[i]? =some x.1:=by
 unfold EZ;rw [ze,h];rfl
def mC (L:List (AP×RL)):(DP L).sum=Cc (EZ L):=by unfold DP Cc EZ;rw [rx];rfl
def TW {ks:List AP} (hs:ks.Pairwise (λa b=>a.pid<b.pid)) {x y:AP} (hx:ks[i]? =some x) (hy:ks[j]? =some y) (h:x.pid=y.pid):i=j:=by
 obtain ⟨hi,rfl⟩:=zy.1 hx;obtain ⟨hj,rfl⟩:=zy.1 hy;rcases rf i j with q|q|q
 ·have:=vd.1 hs i j hi hj q;omega
 ·exact q
 ·have:=vd.1 hs j i hj hi q;omega
def jd (hs:Mw L) {y:AP×RL} (hx:L[i]? =some x) (h:y.1.pid=x.1.pid):EZ (L.set i y)=IV (EZ L) y.1:=by
 have B:=KI hx;unfold IV;refine ru λj=> ?_;have e1:EZ (L.set i y)=(EZ L).set i y.1:=by unfold EZ;rw [List.map_set]
 rw [e1,ze];by_cases hj:i=j
 ·subst hj;rw [B,uj ((zy.1 B).1)];simp [h]
 ·rw [uc hj]
  cases hz:(EZ L)[j]? with
  |none=>rfl
  |some z=>
   simp only [Option.map_some];rw [vz (λe=>hj (TW hs B hz om))]
def je (h:jZ L j):JR (EZ L) j:=by
 refine ⟨h.pos,λy hy e=> ?_,λk h1 h2=> ?_⟩
 ·have hf:=h.free;unfold Fs at hf
  cases hq:L.findIdx? (λx=>x.1.pid==(j:Int)) with
  |some i=>rw [hq] at hf;simp at hf;omega
  |none=>
   obtain ⟨x,hx,rfl⟩:=yt.1 hy;have:=sh.1 hq x hx;simp [e] at this
 ·have:=Xi (h.used k h1 h2);obtain ⟨x,hx,e⟩:=yt.1 this;exact ⟨x.1,ui (f:=λx:AP×RL=>x.1) hx,e⟩
def TX:∀{ks:List AP} {p:Int},ks.Pairwise (λa b=>a.pid<b.pid)->ks.takeWhile (λz=>decide (z.pid<p))=ks.filter (λz=>decide (z.pid<p))/\ks.dropWhile (λz=>decide (z.pid<p))=ks.filter (λz=> !decide (z.pid<p))
 |[],p,_=>⟨rfl,rfl⟩
 |a::r,p,hs=>by
  obtain ⟨ha,hr⟩:=se.1 hs;obtain ⟨h1,h2⟩:=TX (p:=p) hr;by_cases h:a.pid<p
  ·simp only [List.takeWhile_cons,List.dropWhile_cons,List.filter_cons,h,decide_true,if_true,Bool.not_true];exact ⟨by rw [h1],by simpa using h2⟩
  ·have hn:∀z∈r,¬z.pid<p:=λz hz=>o1 (ha z hz);have e1:r.filter (λz=>decide (z.pid<p))=[]:=tp.2 (λz hz=>by simpa using hn z hz);have e2:r.filter (λz=> !decide (z.pid<p))=r:=qu.2 (λz hz=>by simpa using hn z hz);simp [List.takeWhile_cons,List.dropWhile_cons,List.filter_cons,h,e1,e2]
def oE (hs:Mw L) {q:AP×RL} (hq:∀y∈EZ L,y.pid≠q.1.pid):EZ (Ky L q)=Lx (EZ L) q.1:=by
 have hl:IU L q.1.pid=((EZ L).takeWhile (λz=>decide (z.pid<q.1.pid))).length:=by
  unfold IU EZ;rw [List.takeWhile_map,zc];rfl
 obtain ⟨h1,h2⟩:=TX (p:=q.1.pid) hs;have C:∀(l A B:List AP),A++B=l->l.take A.length=A/\l.drop A.length=B:=λl A B e=>by subst e;exact ⟨List.take_left,List.drop_left⟩
 obtain ⟨e1,e2⟩:=C _ _ _ (List.takeWhile_append_dropWhile (p:=λz:AP=>decide (z.pid<q.1.pid)) (l:=EZ L));rw [<-hl] at e1 e2
 have e3:(EZ L).filter (λz=> !decide (z.pid<q.1.pid))=(EZ L).filter (λz=>decide (q.1.pid<z.pid)):=List.filter_congr λz hz=>by
  have:=hq z hz;by_cases h:z.pid<q.1.pid
  ·have h':¬q.1.pid<z.pid:=om;simp [h,h']
  ·have h':q.1.pid<z.pid:=om;simp [h,h']
 unfold Lx;rw [<-h1,<-e3,<-h2,<-e1,<-e2];unfold Ky EZ;rw [xj,xj,List.map_take,List.map_drop,xu];rfl
def oF (hs:Mw L) (hx:L[i]? =some x) (D:x.1.par≠x.1.pid) (st:Int):EZ (PX L i x st)=Nm (EZ L) x.1.pid st:=by
 have C:=KI hx;unfold PX Ca Nm;rw [show (L.set i (x.1.ended st,⟨none,x.2.ga,0⟩)).take L.length=L.set i (x.1.ended st,⟨none,x.2.ga,0⟩) from xx sI,show (L.set i (x.1.ended st,⟨none,x.2.ga,0⟩)).drop L.length=[] from qw sI,xr];refine ru λj=> ?_;unfold EZ at C ⊢;rw [rx,ze,ze,ze];by_cases hj:i=j
 ·subst hj;rw [uj ((zy.1 hx).1),hx];simp only [Option.map_some,Function.comp,FH,GI];have h1:(x.1.ended st).par=x.1.par:=rfl;rw [vu trivial,h1,vz D]
 ·rw [uc hj]
  cases hz:L[j]? with
  |none=>rfl
  |some z=>
   have B:¬z.1.pid=x.1.pid:=λe=>hj (TW hs (KI hx) (KI hz) e.symm);simp only [Option.map_some,Function.comp,FH,GI];rw [vz B]
def TY {A:Act} (hg:o.guard=none) (op:UnOp) (t:TypeId) (x:Operand) (ho:o.op= .unOp op t x) (vx:Value) (hx:A.eval x=vx) (v:Value) (B:∀w',(Op.unary op vx).run P w'= .ok v w'):YieldsIf P ops S o v A:=
 Bm hg λw' hS=>by simp only [execOp,ho,hx,uk,B w',ye,sr]
def br (b:Bool) (w:World):(Op.unary .not (.bool b)).run prog w= .ok (.bool (!b)) w:=by cases b<;>rfl
def fE:eN 244:=enters_of func244 kf rfl
def U1:eN 271:=enters_of func271 kf rfl
def L4 {b o:Nat} {a:Option Addr} {c:Nat} (d:cE w b o (.slice a n c)):(Instr.loadAt 36 (qP b o)).run prog w= .ok (.slice a n c) w:=gS
def Mx (ca:Int) (w:World):(convert 3 73 (iV ca)).run prog w= .ok (uV (IntKind.u64.wrap ca)) w:=gS
def Ou {pb:Nat} (B:Bc PS) (C:w.rangeAt pb 17 (AW PS)) {M K:Nat} (hM:M<256) (hK:K<256):w.cell? (xK pb (17+M*257+1+K))=some (.int .u8 (TQ PS (M*256+K))):=by
 have hb:∀q∈PS,q.bytes.length=256:=λq hq=>(B.each q hq).2.2.2.2;have e:17+M*257+1+K=17+(M*257+(K+1)):=om;rw [e];refine C _ _ ?_;rw [Ik hb M (K+1) hM om];unfold Cx TQ Lb;rw [show ((M*256+K:Nat):Int)/256=(M:Int) by omega,show (((M*256+K:Nat):Int)%256).toNat=K by omega]
 cases hf:PS.find? (λq=>q.num==(M:Int)) with
 |none=>
  show (List.replicate 257 (Value.int .u8 0))[K+1]? =some (.int .u8 0)
  rw [xn,vu om]
 |some q=>
  show (Value.int .u8 q.perm::AF q.bytes)[K+1]? =_;rw [List.getElem?_cons_succ];exact AN _ K (by rw [hb q (yk hf)];exact hK)
def fF (B Z:List Int) (j:Nat) (hj:j<B.length) (hz:Z.length=B.length):(B.take j++Z.drop j).set (0+j) (B.getD j 0)=B.take (j+1)++Z.drop (j+1):=by
 have hl:(B.take j).length=j:=by rw [yr];omega
 rw [zq,ul _ _ om,hl,ya,un om,zh,uw,zz hj,xu,zk,zz hj];rfl
def RZ {w:World} {bb:Nat} {B Z:List Int} (h:AE w bb 5 (AF Z)) (hz:Z.length=B.length):∀j,j<=B.length->AE (GD w bb 0 B j) bb 5 (AF (B.take j++Z.drop j))
 |0,_=>by simpa [GD] using h
 |j+1,hj=>by
  have:=(RZ h hz j om).set (0+j) (.int .u8 (B.getD j 0));rw [Cz,fF B Z j om hz] at this;exact this
def ji {bb:Nat} {B Z:List Int} (h:AE w bb 5 (AF Z)) (hz:Z.length=B.length):AE (GD w bb 0 B B.length) bb 5 (AF B):=by
 have:=RZ h hz B.length (zx _);rwa [uh,xw om,xr] at this
def oH {C B:Int} (h0:0<=B) (h:Cf PS B n C=true):((List.range n).map λi:Nat=>TQ PS (IntKind.u64.wrap (B+(i:Int))).toNat)=BG PS B n:=by
 unfold BG;refine qv λi hi=> ?_;have:=jK h0 h (zf.1 hi);unfold TQ;rw [yh];congr 1;omega
def Ra (PS:List Pg) (ca cn:Int) (w:World) (e:Ending) (w':World):Prop:=
 (¬(0<=cn/\cn<=4096)/\e=Ey 6/\Bw w w')\/
 ((0<=cn/\cn<=4096)/\Cf PS (IntKind.u64.wrap ca) cn 4=false/\e=Ey 7/\Bw w w')\/
 ((0<=cn/\cn<=4096)/\Cf PS (IntKind.u64.wrap ca) cn 4=true/\∃gb,e=EJ cn 0 (.slice (some (xK gb 0)) cn.toNat cn.toNat) 0/\w.heap.size<=gb/\AE w' gb 5 (AF (BG PS (IntKind.u64.wrap ca) cn.toNat))/\Bw w w')
def fG (kb pm n cb:Nat) (PL:List (Int×Nat)) (D:Nat->PD) (x:Int×Nat) (c0:Value) (ca cn:Int) (c3 c4 c5:Value) (w:World) (h:XK w kb pm n cb PL D) (hx:x∈PL):
  cT 240 #[qP kb 0,qP x.2 0,.agg #[c0,iV ca,iV cn,c3,c4,c5]] w (Ra (D x.2).p.PS ca cn w):=by
 obtain ⟨E,O,a6⟩:=DO w c0 (iV ca) (iV cn) c3 c4 c5;obtain ⟨W2,a8⟩:=xE ((w.alloc (Obj.cells #[c0,iV ca,iV cn,c3,c4,c5] 51)).alloc (Obj.cells #[iV 0,iV 0,sN] 140));have b4:W2.heap.size=w.heap.size+2:=by rw [a8];simp
 rw [<-a8] at E O a6;have d8:=h.below a6;obtain ⟨CB,a3⟩:=xE w.heap.size;rw [<-a3] at E O b4;have a1:cE W2 CB 1 (iV ca):=O.cell rfl;have a2:cE W2 CB 2 (iV cn):=O.cell rfl;obtain ⟨AD,b3⟩:=xE (IntKind.u64.wrap ca);obtain ⟨qi,b9⟩:∃qi:Bool,qi=(decide (0<=cn)&&decide (cn<=4096)):=⟨_,rfl⟩;obtain ⟨PS,b1⟩:=xE ((D x.2).p.PS);have b0:0<=AD/\AD<=18446744073709551615:=by rw [b3];exact Yw _
 have d0:=E.cell (j:=0) rfl;have d1:=E.cell (j:=1) rfl;have d2:=E.cell (j:=2) rfl;have f0:=E.frozen 0;have f1:=E.frozen 1;have f2:=E.frozen 2;have g6:=AC (show cT 63 #[iV cn,iV 0,iV 4096] W2 λe w'=>e= .returned (.bool qi)/\w'=W2 from by rw [b9];exact Gv cn 0 4096 W2);obtain ⟨QQ,c1⟩:=xE (Ra (D x.2).p.PS ca cn w);have g0:∀W,Bw W2 W->W.rangeAt x.2 17 (AW PS):=λW hb=>by rw [b1];exact (d8.below hb).space hx
 have X:Bc PS:=by rw [b1];exact (h.each x hx).2.1.pages
 rw [<-c1];have HQ:=AC (show QQ=Ra PS ca cn w from by rw [c1,b1]);obtain ⟨c9,U,b7,f3,a4,c8,J,g2⟩:=H8 a8 a6 E O a3 g0 X b9;have I:=AC b3;have h0:=AC b4;have d7:x.2<w.heap.size:=(h.each x hx).1.lt;have c7:=AC d7;obtain ⟨xp,xb⟩:=x;simp only at c8 c7 ⊢;clear h hx a8 a6 d8 E O b9 c1 g0 X b1 d7 b4 b3;go_enter func240,ntmps240
 go_upto_region 1 with fail
 rw [<-AB c9,<-a3];clear a3
 go_wp2_with fail
 refine g6.mono ?_;rintro e w1 ⟨rfl,g8⟩;subst g8;clear g6 c9
 cases qi with
 |false=>
  obtain ⟨r0,r1,r2,rb⟩:=Cm (x:= iV 0) (y:= iV 0) (z:= sN) b7 U (o1 (AB a4));have R:=AC rb;clear rb;go_wp2;refine xh (v:= .tuple #[Br 0 0 sN,.iface 40 (iV 6)]) (by simp [results,results240,go_sem,Br,r0,r1,r2]) rfl ?_;rw [AB HQ];refine .inl ⟨λhc=> ?_,rfl,AB R⟩;have:=AB g2;rw [ve hc.1,ve hc.2] at this
  exact absurd this dz
 |true=>
  have g7:0<=cn/\cn<=4096:=by have:=AB g2;simp at this;exact this
  obtain ⟨c,rfl⟩:∃c:Nat,cn=(c:Int):=⟨cn.toNat,om⟩;have h6:c<=4096:=om
  have h3:∀w,(Instr.makeSlice 36 (iV (c:Int)) (iV (c:Int))).run prog w= .ok (.slice (some (xK w.heap.size 0)) c c) (w.alloc (.cells (CW c) 5)):=by
   intro w;have:=run_make_row' (P:=prog) 36 5 (.int .u8 0) 1 underlying36 M9 rfl .i64 .i64 c om om w;rwa [Hd] at this
  obtain ⟨W3,a9⟩:=xE (w1.alloc (.cells (CW c) 5));have b6:AE W3 w1.heap.size 5 (AF (List.replicate c 0)):=by rw [a9];exact AE.new w1 5 _
  have f6:Bw w1 W3:=by rw [a9];exact bA
  obtain ⟨GB,T⟩:=xE w1.heap.size;rw [<-T] at b6;obtain ⟨f8,f7,h5⟩:=H3 a9 f6 b6;clear a9 f6 b6 g7
  go_upto_region 4 with fail
  rw [<-AB f8,<-T];clear h3 f8;have C:Bw w1 W3.drew:=f7.trans ((show Bw W3 W3.drew from (zw _ _).drew).mono f7.size);have d5:GB≠xb:=o3 (AB c7) (AB h0) (AB a4);have N:=AB c8 _ C;have H:AE W3.drew GB 5 (AF (List.replicate c 0)):=h5.heap rfl;obtain ⟨qm,a0⟩:=xE (Cf PS AD (c:Int) 4)
  have G:=jF xb 17 GB 0 c (DR PS) (TQ PS) 4 AD c W3.drew om d5 b0 (zx _) (λj hj=>(Hj J N hj).1) (λM K hM hK=>Ou J N hM hK) (λi hi=>⟨0,by
   rw [zq];refine H.cell ?_;rw [AN _ _ (sU hi),zk,xn,vu hi]
   rfl⟩) (λi=>H.frozen i)
  rw [Mm (AB J) (.inr (.inr rfl)) b0.1 b0.2 om,<-a0] at G;obtain ⟨FW,b2⟩:=xE (GD W3.drew GB 0 ((List.range c).map λi:Nat=>TQ PS (IntKind.u64.wrap (AD+(i:Int))).toNat) c);have Y:W3.drew.grownBy FW (some GB):=by rw [b2];exact Lq _ _ _ _ _
  have g5:qm=true->AE FW GB 5 (AF (BG PS AD c)):=λhq=>by
   have h1:=oH (PS:=PS) b0.1 (a0▸hq);have h2:=ji (B:=BG PS AD c) H (by simp [BG]);rw [b2,h1];rw [show (BG PS AD c).length=c by simp [BG]] at h2;exact h2
  rw [<-b2] at G;have d9:=AC G;have a7:W3.drew.cell? (xK CB 1)=some (iV ca):=by rw [C.cell (p:=(xK CB 1)) f3.lt];exact a1
  have d3:CB≠GB:=o1 f3.lt;have d6:=AC a7
  have f9:=AC (show ∀w8,((qm=true->w8=FW)/\(qm=false->w8=W3.drew))->w8.cell? (xK CB 1)=some (iV ca) from λw8 hh=>by
   cases hq:qm with
   |true=>rw [hh.1 hq];exact Y.cell a7 (sU d3)
   |false=>rw [hh.2 hq];exact a7)
  have f4:=b7.lt;have g3:CB+1≠GB:=om
  have V:=AC (show ∀w8,((qm=true->w8=FW)/\(qm=false->w8=W3.drew))->AE w8 (CB+1) 140 [iV 0,iV 0,sN]/\Bw w w8/\(qm=true->AE w8 GB 5 (AF (BG PS AD c))) from λw8 hh=>by
   have g1:=b7.below C f4;have b5:=U.trans (C.mono U.size)
   cases hq:qm with
   |true=>
    rw [hh.1 hq]
    exact ⟨g1.grown Y (sU g3),b5.trans (Aa Y (by rw [T];exact U.size) b5.size),λ_=>g5 hq⟩
   |false=>
    rw [hh.2 hq]
    exact ⟨g1,b5,λe=>by cases e⟩)
  have f5:=AC a0;have d4:=AC (show w.heap.size<=GB/\CB+1<GB from ⟨by rw [T];exact U.size,om⟩);have R1:Hid (∀w':World,w'.cell? (xK CB 1)=some (iV ca)->(Instr.loadAt 3 (qP CB 1)).run prog w'= .ok (iV ca) w'):=λw' h=>Hk h;have R2:Hid (∀w':World,(convert 3 73 (iV ca)).run prog w'= .ok (uV AD) w'):=λw'=>by rw [AB I];exact Mx ca w'
  have R3:=AC (br qm);clear G Y g5 b2 a7 d3 f4 g3 C d5 N H a0 T a1 a2 d0 d1 d2 f0 f1 f2;refine Ak ?_;intro A hA;have e1:A.eval (.tmp 1)= qP xb 0:=eH hA;have e5:A.eval (.tmp 5)= qP CB 0:=eH hA;have e8:A.eval (.tmp 8)= .slice (some (xK GB 0)) c c:=eH hA;have h4:A.tmps.size=34:=eZ hA;have HA:=AC hA;clear hA;refine xf (S:=λw'=>w'.cell? (xK CB 1)=some (iV ca)) kf d6 (λhS=> ?_);refine tq 0 18 rfl (yM (qP xb 0)) hS (tq 1 19 rfl (yN (xK xb 0)) hS (tq 2 20 rfl (yF (qP xb 0) (qP xb 0)) hS (tq 3 21 rfl (yF (qP xb 0) (qP xb 17)) hS (tq 4 22 rfl (yM (.slice (some (xK GB 0)) c c)) hS (tq 5 23 rfl (yF (qP CB 0) (qP CB 1)) hS ?_)))))
  refine tq 6 24 rfl (yl R1) hS (tq 7 25 rfl (Ex rfl _ _ _ rfl (iV ca) sE (uV AD) R2) hS ?_);refine rdy [8] kf (vq rfl (λK hK=> ?_) vr);refine Bn rfl 244 _ _ rfl #[qP xb 17,.slice (some (xK GB 0)) c c,uV AD,.int .u8 4] sE fE _ (λe w' h=>⟨_,h.1⟩) d9 (some 26) rfl ?_;rintro r8 w8 ⟨a5,b8⟩;have a5:r8= .bool qm:=by injection a5
  subst a5;refine hK.out _ _ (AB f9 w8 b8) (λc6=> ?_);clear hK K;refine tq 9 27 rfl (TY rfl .not _ _ rfl (.bool qm) sE (.bool (!qm)) R3) c6 ?_;refine vg kf ?_ _;rw [AB HA];simp only [Act.put,zl,zh,zi];obtain ⟨F,Z,c2⟩:=AB V w8 b8;clear a5 hS c6 b8 HA e1 e5 e8 h4 A f9 V d9 d6 R1 R2 R3;have d0:=F.cell (j:=0) rfl;have d1:=F.cell (j:=1) rfl;have d2:=F.cell (j:=2) rfl;have f0:=F.frozen 0;have f1:=F.frozen 1;have f2:=F.frozen 2
  cases qm with
  |false=>
   obtain ⟨r0,r1,r2,rb⟩:=Cm (x:= iV 0) (y:= iV 0) (z:= sN) F Z (o1 (AB a4));have R:=AC rb;clear rb F Z c2;go_wp2;refine xh (v:= .tuple #[Br 0 0 sN,.iface 40 (iV 7)]) (by simp [results,results240,go_sem,Br,r0,r1,r2]) rfl ?_;rw [AB HQ]
   exact .inr (.inl ⟨⟨om,om⟩,by rw [<-AB I];exact f5.symm,rfl,AB R⟩)
  |true=>
   obtain ⟨r0,r1,r2,rb⟩:=Cm (x:= iV (c:Int)) (y:= iV 0) (z:= .slice (some (xK GB 0)) c c) F Z (o1 (AB a4));have R:=AC rb;have g4:=FG (w:=w8) (b:=CB+1) (iV (c:Int)) (iV 0) (.slice (some (xK GB 0)) c c);have g9:=AC ((c2 rfl).grown g4 (by have:=d4.2;simp;omega));clear rb F Z c2 g4;go_wp2;refine xh (v:= .tuple #[Br (c:Int) 0 (.slice (some (xK GB 0)) c c),.nilIface]) (by simp [results,results240,go_sem,Br,r0,r1,r2]) rfl ?_;rw [AB HQ];refine .inr (.inr ⟨⟨om,om⟩,by rw [<-AB I];exact f5.symm,GB,rfl,d4.1,?_,AB R⟩);rw [<-AB I];exact AB g9
def Xn (kb pm n cb:Nat) (PL:List (Int×Nat)) (D:Nat->PD) (x:Int×Nat) (ca:Int) (B:List Int) (w:World) (e:Ending) (w':World):Prop:=
 (4096<B.length/\e=Ey 6/\Bw w w')\/
 (B.length<=4096/\Cf (D x.2).p.PS (IntKind.u64.wrap ca) (B.length:Int) 2=false/\e=Ey 7/\Bw w w')\/
 (B.length<=4096/\Cf (D x.2).p.PS (IntKind.u64.wrap ca) (B.length:Int) 2=true/\e=EJ (B.length:Int) 0 sN 0/\XK w' kb pm n cb PL (upd D x.2 (setPS (D x.2) (CF (D x.2).p.PS (IntKind.u64.wrap ca) B B.length)))/\At [x.2] w w')
def fH (kb pm n cb:Nat) (PL:List (Int×Nat)) (D:Nat->PD) (x:Int×Nat) (c0:Value) (ca:Int) (c2 c3 c4:Value) (bb dc:Nat) (B:List Int) (w:World) (h:XK w kb pm n cb PL D) (hx:x∈PL) (hB:∀i,i<B.length->w.cell? (xK bb i)=some (.int .u8 (B.getD i 0))) (d8:bb<w.heap.size) (d4:bb≠x.2) (c7:B.length<=dc):
  cT 241 #[qP kb 0,qP x.2 0,.agg #[c0,iV ca,c2,c3,c4,.slice (some (xK bb 0)) B.length dc]] w (Xn kb pm n cb PL D x ca B w):=by
 obtain ⟨L,hL⟩:=xE B.length;obtain ⟨da,c1⟩:∃da:Option Addr,da=some (xK bb 0):=⟨_,rfl⟩;rw [<-hL,<-c1];obtain ⟨G,X,a6⟩:=DO w c0 (iV ca) c2 c3 c4 (.slice da L dc);obtain ⟨W2,b6⟩:=xE ((w.alloc (Obj.cells #[c0,iV ca,c2,c3,c4,.slice da L dc] 51)).alloc (Obj.cells #[iV 0,iV 0,sN] 140));rw [<-b6] at G X a6;have d3:=h.below a6;obtain ⟨CB,R⟩:=xE w.heap.size;rw [<-R] at G X;have a1:cE W2 CB 1 (iV ca):=X.cell rfl;have a5:cE W2 CB 5 (.slice da L dc):=X.cell rfl;obtain ⟨AD,b1⟩:=xE (IntKind.u64.wrap ca);have a8:0<=AD/\AD<=18446744073709551615:=by rw [b1];exact Yw _
 have d0:=G.cell (j:=0) rfl;have d1:=G.cell (j:=1) rfl;have d2:=G.cell (j:=2) rfl;have f0:=G.frozen 0;have f1:=G.frozen 1;have f2:=G.frozen 2;obtain ⟨QQ,b9⟩:=xE (Xn kb pm n cb PL D x ca B w);rw [<-b9];obtain ⟨HQ,c8,T,d5,V,f8,HX,J⟩:=H8 b9 b6 a6 G R d3 hx b1;have a2:=AC (xi hB (xi d8 (xi d4 c7)));have E:=AC (xi c1 hL);have b4:=AC (show kb<w.heap.size/\pm<w.heap.size/\∀y∈PL,y.2<w.heap.size from ⟨h.kl,h.map.lt,λy hy=>(h.each y hy).1.lt⟩);obtain ⟨xp,xb⟩:=x;simp only at a2 ⊢;clear h hx b6 a6 d3 G X b9 b1 hB d8 d4 c7 c1 hL;by_cases h4:4096<L
 ·have f7:(4096:Int)<(L:Int):=om;obtain ⟨r0,r1,r2,rb⟩:=Cm (x:= iV 0) (y:= iV 0) (z:= sN) d5 T (o1 (AB V));have b3:=AC rb;clear rb;go_enter func241,ntmps241
  go_upto_region 1 with fail
  rw [<-AB c8,<-R];clear R;go_wp2;refine xh (v:= .tuple #[Br 0 0 sN,.iface 40 (iV 6)]) (by simp [results,results241,go_sem,Br,r0,r1,r2]) rfl ?_;rw [AB HQ];exact .inl ⟨by rw [<-E.2];exact h4,rfl,AB b3⟩
 ·have f7:¬(4096:Int)<(L:Int):=om;have c5:L<=4096:=om;go_enter func241,ntmps241
  go_upto_region 1 with fail
  rw [<-AB c8,<-R];clear R
  go_upto_region 3 with fail
  have U:Bw W2 W2.drew:=(zw _ _).drew;have a7:=f8.below U;obtain ⟨hh,hd,N⟩:=a7.each (xp,xb) HX;simp only at hh hd N;have I:=a7.space HX;simp only at I;obtain ⟨qm,a4⟩:=xE (Cf (D xb).p.PS AD (L:Int) 2)
  have F:=jI xb 17 bb 0 dc (DR (D xb).p.PS) AD B L W2.drew E.2.symm om a2.2.2.1 a8 (by rw [E.2];exact a2.2.2.2) (λj hj=>(Hj hd.pages I hj).1) (λM K hM hK=>⟨_,Ou hd.pages I hM hK⟩) (λi hi=>by
   rw [zq,<-a2.1 i (by rw [<-E.2];exact hi)]
   exact (T.trans (U.mono T.size)).cell (p:=(xK bb i)) a2.2.1) (λi=>hh.frozen i)
  rw [Mm hd.pages (.inr (.inl rfl)) a8.1 a8.2 om,<-a4] at F;obtain ⟨FW,b0⟩:=xE (EH W2.drew xb 17 AD B L);have O:W2.drew.grownBy FW (some xb):=by rw [b0];exact KD _ _ _ _ _ _
  have f5:qm=true->AE FW xb 193 (Cu (setPS (D xb) (CF (D xb).p.PS AD B L)))/\Bc (CF (D xb).p.PS AD B L):=λhq=>by
   rw [b0];exact TR (p:=(D xb).p) (wk:=(D xb).wk) (fds:=(D xb).xs) hh hd.regs hd.pages a8.1 (a4▸hq) B L (zx _)
  unfold sL at F;rw [<-b0,<-E.1] at F;have f6:=AC F;have b2:CB≠xb:=by have h1:xb<w.heap.size:=b4.2.2 _ HX;have:=AB V;omega
  have d9:CB+1≠xb:=by have h1:xb<w.heap.size:=b4.2.2 _ HX;have:=AB V;omega
  have d6:=AC (show W2.drew.cell? (xK CB 1)=some (iV ca)/\W2.drew.cell? (xK CB 5)=some (.slice da L dc) from ⟨a1,a5⟩)
  have a3:∀w9,(qm=true->Kl FW w9)->qm=true->W2.drew.grownBy w9 (some xb):=λw9 hs hq=>by
   obtain ⟨s1,s2,s3,s4⟩:=hs hq;exact ⟨s2.trans O.os,s3.trans O.tape,s4.trans O.output,by rw [s1];exact O.size,λi hi hn=>by rw [s1];exact O.block i hi hn⟩
  have b7:=AC (show ∀w9,((qm=true->Kl FW w9)/\(qm=false->w9=W2.drew))->w9.cell? (xK CB 1)=some (iV ca)/\w9.cell? (xK CB 5)=some (.slice da L dc) from λw9 C=>by
   cases hq:qm with
   |true=>
    have a0:=a3 w9 C.1 hq
    exact ⟨a0.cell a1 (sU b2),a0.cell a5 (sU b2)⟩
   |false=>rw [C.2 hq];exact ⟨a1,a5⟩)
  have Y:=AC (show ∀w9,((qm=true->Kl FW w9)/\(qm=false->w9=W2.drew))->AE w9 (CB+1) 140 [iV 0,iV 0,sN]/\(qm=false->Bw w w9)/\(qm=true->XK w9 kb pm n cb PL (upd D xb (setPS (D xb) (CF (D xb).p.PS AD B L)))/\At [xb] w w9)/\w9.cell? (xK CB 5)=some (.slice da L dc) from λw9 C=>by
   have f3:AE W2.drew (CB+1) 140 [iV 0,iV 0,sN]:=d5.heap rfl;refine ⟨?_,?_,?_,(AB b7 w9 C).2⟩
   ·cases hq:qm with
    |true=>exact f3.grown (a3 w9 C.1 hq) (sU d9)
    |false=>rw [C.2 hq];exact f3
   ·intro hq;rw [C.2 hq];exact T.trans (U.mono T.size)
   ·intro hq;have a0:=a3 w9 C.1 hq;obtain ⟨f1,f2⟩:=f5 hq;refine ⟨a7.put (x:=(xp,xb)) HX a0 (f1.heap (C.1 hq).1) (hd.setPS f2) N,?_⟩
    exact ((At.of_below T).trans (At.of_below U)).trans (At.of_grown a0 sI))
  have d7:=AC a4;have R2:Hid (∀w':World,(convert 3 73 (iV ca)).run prog w'= .ok (uV AD) w'):=λw'=>by rw [AB J];exact Mx ca w'
  have R3:=AC (br qm);have R5:Hid (∀w':World,w'.cell? (xK CB 5)=some (.slice da L dc)->(Instr.loadAt 36 (qP CB 5)).run prog w'= .ok (.slice da L dc) w'):=λw' h=>L4 h;clear U a7 hh hd N I F O f5 b0 b2 d9 a3 a4 a1 a5 d0 d1 d2 f0 f1 f2;refine Ak ?_;intro A hA;have e1:A.eval (.tmp 1)= qP xb 0:=eH hA;have e5:A.eval (.tmp 5)= qP CB 0:=eH hA;have f9:A.tmps.size=31:=eZ hA;have HA:=AC hA;clear hA;refine xf (S:=λw'=>w'.cell? (xK CB 1)=some (iV ca)/\w'.cell? (xK CB 5)=some (.slice da L dc)) kf d6 (λhS=> ?_);refine tq 0 14 rfl (yM (qP xb 0)) hS (tq 1 15 rfl (yN (xK xb 0)) hS (tq 2 16 rfl (yF (qP xb 0) (qP xb 0)) hS (tq 3 17 rfl (yF (qP xb 0) (qP xb 17)) hS ?_)))
  refine tq 4 18 rfl (yF (qP CB 0) (qP CB 1)) hS (tq 5 19 rfl (yl (λw' h=>Hk h.1)) hS (tq 6 20 rfl (Ex rfl _ _ _ rfl (iV ca) sE (uV AD) R2) hS (tq 7 21 rfl (yF (qP CB 0) (qP CB 5)) hS (tq 8 22 rfl (yl (λw' h=>AB R5 w' h.2)) hS ?_))));refine rdy [9] kf (vq rfl (λK hK=> ?_) vr);refine Bn rfl 271 _ _ rfl #[qP xb 17,uV AD,.slice da L dc] sE U1 _ (λe w' h=>⟨_,h.1⟩) f6 (some 23) rfl ?_;rintro r9 w9 ⟨a9,C⟩;have a9:r9= .bool qm:=by injection a9
  subst a9;refine hK.out _ _ (AB b7 w9 C) (λc6=> ?_);clear hK K;refine tq 10 24 rfl (TY rfl .not _ _ rfl (.bool qm) sE (.bool (!qm)) R3) c6 ?_;refine vg kf ?_ _;rw [AB HA];simp only [Act.put,zl,zh,zi];obtain ⟨H,b5,Z,a5⟩:=AB Y w9 C;clear a9 hS c6 C HA e1 e5 f9 A b7 Y f6 d6 R2 R3 R5;have d0:=H.cell (j:=0) rfl;have d1:=H.cell (j:=1) rfl;have d2:=H.cell (j:=2) rfl;have f0:=H.frozen 0;have f1:=H.frozen 1;have f2:=H.frozen 2
  cases qm with
  |false=>
   obtain ⟨r0,r1,r2,rb⟩:=Cm (x:= iV 0) (y:= iV 0) (z:= sN) H (b5 rfl) (o1 (AB V));have b3:=AC rb;clear rb H b5 Z;go_wp2;refine xh (v:= .tuple #[Br 0 0 sN,.iface 40 (iV 7)]) (by simp [results,results241,go_sem,Br,r0,r1,r2]) rfl ?_;rw [AB HQ]
   exact .inr (.inl ⟨by rw [<-E.2];exact c5,by rw [<-AB J,<-E.2];exact d7.symm,rfl,AB b3⟩)
  |true=>
   obtain ⟨Z,f4⟩:=Z rfl;obtain ⟨r0,r1,r2,_⟩:=Cm (x:= iV (L:Int)) (y:= iV 0) (z:= sN) H (zw 0 w9) (Nat.zero_le _);have b8:=FG (w:=w9) (b:=CB+1) (iV (L:Int)) (iV 0) sN;have c9:=AB b4;have g0:=AB V;have HF:=AC (xi (Z.grown b8 om om (λy hy=>o1 (c9.2.2 y hy))) (f4.tail b8 om));clear c9 g0 b8 Z f4 H b5;go_wp2;refine xh (v:= .tuple #[Br (L:Int) 0 sN,.nilIface]) (by simp [results,results241,go_sem,Br,r0,r1,r2]) rfl ?_;rw [AB HQ];refine .inr (.inr ⟨by rw [<-E.2];exact c5,by rw [<-AB J,<-E.2];exact d7.symm,by rw [<-E.2];rfl,?_,HF.2⟩);rw [<-AB J,<-E.2];exact HF.1
def bw (d:PD) (c:List Int) (ss:List ByteArray):PD:={d with p:={d.p with pc:=AO c 24 8,R:=List.replicate 15 0++[65024+(Dc ss:Int)],PS:=Ad c++CS (AS ss)}}
def Tb (p:PK) (fi:Nat) (s:ByteArray) (ss:List ByteArray) (kb pm n cb:Nat) (PL:List (Int×Nat)) (D:Nat->PD) (x:Int×Nat) (w:World) (e:Ending) (w':World):Prop:=
 (∃c,p.ExecErr (PL.map (lenOf D)) fi s ss c/\e=Ey c/\Bw w w')\/
 (p.ExecOk (PL.map (lenOf D)) fi s ss/\e=Ey 0/\XK w' kb pm n cb PL (upd D x.2 (bw (D x.2) (p.fileOf s) ss))/\At [x.2] w w')
def fV (B tb ab am kb pm n cb fi q so U:Nat) (a:Option Addr) (mm:Int) (NB MB:List Nat) (V:List Value) (s:ByteArray) (ss:List ByteArray) (PL:List (Int×Nat)) (D:Nat->PD) (x:Int×Nat) (c0 c1 c2 c5:Value) (w:World) (h:XK w kb pm n cb PL D) (hx:PL[fi]? =some x) (c8:cE w kb 1 (iV p.lf)) (H:(PL.map (lenOf D)).sum<=1000000)
  (hr:BS w B tb ab am p NB MB V oc0) (hi:EX p) (c3:By p.cs) (hu:AM p.cs<=500000) (N:p.xs.length<=900000) (c7:0<=p.li/\p.li<=1000000) (d5:(AM p.cs:Int)<=p.lb/\p.lb<=1000000) (a6:0<=p.lf/\p.lf<=1000000)
  (c4:cE w kb 5 (qP tb 0)) (b9:ss.length<=1000) (ha:0<ss.length->a=some (xK q so)) (hq:q<w.heap.size) (G:∀i,i<ss.length->w.cell? (xK q (so+i))=some (.string (ss.getD i ByteArray.empty)))
  (hs:s.size<=maxLen) (ht:w.rangeAt 1 0 DK) (b4:1<w.heap.size) (c9:cE w 3 0 (iV mm)) (c6:3<w.heap.size):
  cT 224 #[qP kb 0,qP x.2 0,.agg #[c0,c1,c2,.string s,.slice a ss.length U,c5]] w (Tb p fi s ss kb pm n cb PL D x w):=by
 have a2:=zv hx;obtain ⟨a5,a1,F⟩:=DO w c0 c1 c2 (.string s) (.slice a ss.length U) c5;obtain ⟨W2,b0⟩:=xE ((w.alloc (Obj.cells #[c0,c1,c2,.string s,.slice a ss.length U,c5] 51)).alloc (Obj.cells #[iV 0,iV 0,sN] 140));rw [<-b0] at a5 a1 F;have I:=h.below F;have b1:(PL.map (lenOf D)).getD fi 0=lenOf D x:=by rw [zk,ze,hx];rfl
 obtain ⟨hh,hd,E⟩:=I.each x a2;have M:∀(b o:Nat) (v:Value),w.cell? (xK b o)=some v->W2.cell? (xK b o)=some v:=λb o v hv=>by rw [F.cell (p:=(xK b o)) (zu w _ hv)];exact hv
 have d6:=On p (PL.map (lenOf D)) fi B tb ab am kb x.2 q so U a (D x.2).p.pc (D x.2).p.pid (D x.2).p.par (D x.2).p.st (D x.2).p.su (D x.2).wk mm (D x.2).p.R (AW (D x.2).p.PS) (D x.2).xs NB MB V s ss W2 (hr.below F) hi c3 hu N c7 d5 a6 ⟨H,by rw [b1];have:=Ms hd.pages;unfold lenOf;omega⟩ (M _ _ _ c4) (λW hb=>by
   have hk:=I.below hb;exact Gi kb pm n p.lf PL (lenOf D) W (by unfold cE;rw [hb.cell (p:=(xK kb 1)) I.kl];exact M _ _ _ c8) hk.k9 hk.map hk.pagesOf H a6) (λW hb=>by
   rw [b1];refine (G1 x.2 17 (D x.2).p.PS W hd.pages ((I.below hb).perms a2)).mono ?_;rintro e w' ⟨rfl,d8⟩
   exact ⟨rfl,by rw [d8];exact zw _ _⟩) hh hd.regs hd.space (λv hv=>by rcases hd.fds.2 v hv with rfl|rfl<;>rfl) b9 ha (yz hq F.size) (λi hi=>M _ _ _ (G i hi)) hs (λj v hj=>M _ _ _ (ht j v hj)) (yz b4 F.size) (M _ _ _ c9) (yz c6 F.size)
 have a3:W2.cell? (xK w.heap.size 3)=some (.string s):=a1.cell rfl;have a4:W2.cell? (xK w.heap.size 4)=some (.slice a ss.length U):=a1.cell rfl;obtain ⟨QQ,b3⟩:=xE (Tb p fi s ss kb pm n cb PL D x w);rw [<-b3];obtain ⟨HQ,O,a7,a8,a0,d9,HX⟩:=H7 b3 d6 b0 F a5 I a2;have HD:=AC (xi hd E);have b7:=AC (show kb<w.heap.size/\pm<w.heap.size/\∀y∈PL,y.2<w.heap.size from ⟨h.kl,h.map.lt,λy hy=>(h.each y hy).1.lt⟩);obtain ⟨CB,Y⟩:=xE w.heap.size;rw [<-Y] at a0 a3 a4;have b8:=AC Y;obtain ⟨sn,T⟩:=xE ss.length;rw [<-T] at O a7 a4 ⊢;obtain ⟨xp,xb⟩:=x;simp only at O ⊢;clear h hx c8 H hr hi c3 hu N c7 d5 a6 c4 b9 ha hq G hs ht b4 c9 c6 a2 a5 a1 F b0 I b1 hh hd E M d6 b3 T;go_enter func224,ntmps224
 go_upto_region 1 with fail
 rw [<-AB a7,<-Y];clear Y a7
 go_wp2_with fail
 refine O.mono ?_;intro e w3 h3;rcases h3 with ⟨c,he,rfl,a9⟩|⟨X,rfl,J,d4⟩
 ·have C:=a0.below a9 a0.lt;have d0:=C.cell (j:=0) rfl;have d1:=C.cell (j:=1) rfl;have d2:=C.cell (j:=2) rfl;have f0:=C.frozen 0;have f1:=C.frozen 1;have f2:=C.frozen 2;obtain ⟨r0,r1,r2,rb⟩:=Cm (x:= iV 0) (y:= iV 0) (z:= sN) C (a8.trans (a9.mono a8.size)) (o1 (AB b8));have d7:=AC rb;have HE:=AC he;clear rb C a9 he O a3 a4;unfold Bz;go_wp2;refine xh (v:= .tuple #[Br 0 0 sN,.iface 40 (iV c)]) (by simp [results,results224,go_sem,Br,r0,r1,r2]) rfl ?_;rw [AB HQ];refine .inl ⟨c,AB HE,?_,AB d7⟩;unfold Ey EJ;rw [vz (Og (AB HE))]
 ·have h1:xb<w.heap.size:=b7.2.2 _ HX;have f3:=AB b8;have Z:W2.grownBy w3 (some xb):=⟨J.os,J.tape,J.output,J.size,λk hk hn=>J.block k hk (sU hn)⟩;have C:=a0.grown Z sO;obtain ⟨hd,E⟩:=AB HD;have b5:=d9.put (x:=(xp,xb)) (AB HX) (d:=bw (D xb) (p.fileOf s) ss) Z d4 ⟨by simp [bw],Pi X.2.2.2.1 _ (CE X.2.2.2.2.1),hd.fds⟩ E;have d3:At [xb] w w3:=(At.of_below a8).trans (At.of_grown Z sI);have d0:=C.cell (j:=0) rfl;have d1:=C.cell (j:=1) rfl;have d2:=C.cell (j:=2) rfl;have f0:=C.frozen 0;have f1:=C.frozen 1;have f2:=C.frozen 2;obtain ⟨r0,r1,r2,_⟩:=Cm (x:= iV 0) (y:= iV 0) (z:= sN) C (zw 0 w3) (Nat.zero_le _);have b2:=FG (w:=w3) (b:=CB+1) (iV 0) (iV 0) sN;have b6:=AB b7;have HF:=AC (xi (b5.grown b2 om om (λy hy=>o1 (b6.2.2 y hy))) (d3.tail b2 om));have HO:=AC X;clear b6 b2 b5 d3 hd E C Z f3 h1 X J d4 O a3 a4;go_wp2
  refine xh (v:= .tuple #[Br 0 0 sN,.nilIface]) (by simp [results,results224,go_sem,Br,r0,r1,r2]) rfl ?_;rw [AB HQ];exact .inr ⟨AB HO,rfl,HF.1,HF.2⟩
def YG (lp lf lo li lb mm:Int) (va:Option Addr) (vb E:Nat) (FZ:List AQ) (LS:List Az) (w:World) (hn:FZ.length<=100) (G:(FZ.map (λf=>f.bytes.length)).sum<=200000) (Z:∀f∈FZ,f.path.size<=maxLen/\AK f.bytes) (M:0<FZ.length->va=some (xK vb 0)/\vb<w.heap.size) (hf:Dz w vb 0 FZ LS)
  (ht:w.rangeAt 1 0 DK) (X:1<w.heap.size) (a0:cE w 3 0 (iV mm)) (Y:3<w.heap.size):
  cT 6 #[.agg #[iV lp,iV lf,iV lo,iV li,iV lb],.slice va FZ.length E] w (J7 lp lf lo li lb FZ KR w):=by
 obtain ⟨W0,J⟩:=xE (w.alloc (Obj.cells #[iV lp,iV lf,iV lo,iV li,iV lb] 23));have B:Bw w W0:=by rw [J];exact bA
 have H:=B.size
 have HB:=AC (gC lp lf lo li lb mm va vb E FZ LS W0 hn G Z (λh=>⟨(M h).1,o1 (M h).2⟩) ⟨hf.len,λi f l hi hl=>by
  obtain ⟨x0,x1,x2,x3,x4⟩:=hf.at_ i f l hi hl;have h0:0<FZ.length:=o1 (zy.1 hi).1;have U:=(M h0).2;refine ⟨by rw [B.cell (p:=(xK vb (0+i*3))) U];exact x0,by rw [B.cell (p:=(xK vb (0+i*3+1))) U];exact x1,by rw [B.cell (p:=(xK vb (0+i*3+2))) U];exact x2,λq=>⟨(x3 q).1,o1 (x3 q).2⟩,λj hj=> ?_⟩;rw [B.cell (p:=(xK l.q (l.o+j))) (x3 om).2]
  exact x4 j hj⟩ (λj v hv=>by rw [B.cell (p:=(xK 1 (0+j))) X];exact ht j v hv) om ((B.cell (p:=(xK 3 0)) Y).trans a0) om)
 have D:AE W0 w.heap.size 23 [iV lp,iV lf,iV lo,iV li,iV lb]:=by rw [J];exact AE.new w 23 _
 have k0:cE W0 w.heap.size 0 (iV lp):=D.cell rfl;have k1:cE W0 w.heap.size 1 (iV lf):=D.cell rfl;have k2:cE W0 w.heap.size 2 (iV lo):=D.cell rfl;have k3:cE W0 w.heap.size 3 (iV li):=D.cell rfl;have k4:cE W0 w.heap.size 4 (iV lb):=D.cell rfl;have a1:=AC J;have I:=AC B;clear Z M hf ht a0 X Y J B D G H;go_enter func6,ntmps6
 go_upto_region 1 with fail
 rw [<-AB a1]
 go_wp2_with fail
 refine HB.mono ?_;rintro e w1 ⟨N,(⟨c,hc,rfl⟩|⟨hg,kb,tb,ab,am,cb,pm,pb,NB,MB,V,rfl,F⟩)⟩
 ·have HP:=AC (show J7 lp lf lo li lb FZ KR w (.returned (.tuple #[.pointer none,.iface 40 (iV c)])) w1 from ⟨I.trans (N.mono I.size),.inl ⟨c,hc,rfl⟩⟩);unfold Nu;clear hc N k0 k1 k2 k3 k4 HB;go_wp2
  go_ret2
  exact AB HP
 ·have HP:=AC (show J7 lp lf lo li lb FZ KR w (.returned (.tuple #[qP w1.heap.size 0,.nilIface])) (w1.alloc (Obj.cells #[qP kb 0] 60)) from by
   have H:=I.size;have C:=I.trans (N.mono H);have O:Bw w1 (w1.alloc (Obj.cells #[qP kb 0] 60)):=bA;refine ⟨C.trans (O.mono C.size),.inr ⟨hg,(xK w1.heap.size 0),rfl,w1.heap.size,kb,tb,ab,am,cb,pm,pb,NB,MB,V,rfl,C.size,AE.new w1 60 _,?_⟩⟩;have h2:=F.stable O.size (λk _ hk=>O.block k hk);have hl:=h2.low;refine ⟨⟨h2.tree.tree.base H,λi v c hv hc=> ?_,h2.tree.own⟩,h2.ker,h2.procs,h2.con,h2.proc,⟨om,om,om,om⟩,h2.inv,h2.size,h2.ord,h2.pk⟩;rcases h2.tree.cont i v c hv hc with z|⟨R,cp,T,z1,z2,z3,z4,z5⟩
   ·exact .inl z
   ·exact .inr ⟨R,cp,T,z1,z2,z3,z4,om⟩)
  clear hg F N k0 k1 k2 k3 k4 HB;go_wp2
  go_ret2
  exact AB HP
section
variable {oc:Int->Int}
def DW.val {FL:List AQ} {e:Ending} (h:DW w FL e w'):∃a n c,e= .returned (.slice a n c):=by
 obtain ⟨aa,ag,ac,LS,h1,_⟩:=h;exact ⟨_,_,_,h1⟩
def Sk (hi:EX p) (B tb ab am:Nat) (NB MB:List Nat) (V:List Value) (Z:p.xs.length<=100000) (Y:∀c∈p.cs,c.length<=1000000) (w:World) (hr:BS w B tb ab am p NB MB V oc):
  cT 162 #[qP tb 0] w (DW w (FL0 p)):=by
 haveI hinh:Inhabited Az:=⟨⟨none,0,0,0⟩⟩
 have O:p.xs≠[]:=by obtain ⟨x,hx,_⟩:=hi.root;intro e;rw [e] at hx;cases hx
 obtain ⟨x0,h0,G,a0⟩:=hr.tree.root O;have a3:=(zy.1 h0).1;obtain ⟨b0,M⟩:∃b0,NB[0]? =some b0:=⟨_,zz (by rw [hr.tree.len.1];exact a3)⟩;have c0:cE w tb 0 (qP ab 0):=hr.tree.tree.cell rfl;have c2:cE w ab 3 (.map (some am)):=hr.tree.above.cell rfl
 have a2:(Instr.lookup 255 (.map (some am)) (.string ⟨#[]⟩) false).run prog w= .ok (qP b0 0) w:=by
  have h:=hr.tree.amap.look ByteArray.empty (by unfold maxLen;decide);have e:BF (if ByteArray.empty.data.toList=[] then NB[0]? else none)= qP b0 0:=by rw [vu (show ByteArray.empty.data.toList=[] from rfl),M];rfl
  rw [e] at h;exact h
 have N:=AC (Rn p hi B tb ab am NB MB V Z Y p.xs.length 0 x0 b0 w hr h0 M om);rw [OT (show x0.id<=1 by omega)] at N;have HI:=AC (xi hi (xi h0 G));clear hr hi M Y O h0 G a0;go_enter func162,ntmps162
 go_wp2_with fail
 refine N.mono ?_;rintro e w1 ⟨v1,EL,rfl,C,H,E,I⟩;obtain ⟨hi,h0,G⟩:=AB HI;clear c0 c2 a2 N;by_cases hE:EL=[]
 ·subst hE;obtain rfl:=C.nil rfl
  have R:FL0 p=[]:=by
   have hl:(IL0 p)=[]:=by
    apply List.eq_nil_iff_forall_not_mem.2;intro j hj;have:=(E j).2 ((YD hi h0 G j).2 (JU.1 hj));simp at this
   unfold FL0;rw [hl];rfl
  have U:Hid (cT 204 #[sN,.func (.func 205) #[] #[]] w1 λe w'=>e= .returned (.tuple #[])/\w'=w1):=AnyF.slices_SortFunc_none {TO with} none 0 _ w1
  have HP:=AC (show DW w (FL0 p) (.returned sN) w1 from by
   rw [R]
   exact ⟨none,0,0,[],rfl,λh=>absurd h dz,I,rfl,λi f l _ hf _=>by simp at hf,λi j f l m hf _ _ _ _=>by simp at hf⟩)
  clear C H E I hi h0 G R HI
  go_wp2_with fail
  refine U.mono ?_;rintro e w2 ⟨rfl,a1⟩;subst a1;clear U;go_wp2;go_ret;exact AB HP
 ·obtain ⟨g,c,rfl,hg,a4⟩:=C.row.form (List.length_pos_iff.2 hE)
  have T:EL.length<=100000:=by
   have:=Kk (EL.map Prod.fst) (List.range p.xs.length) H (λk hk=>by rw [zf];exact ((E k).1 hk).bound);simp at this;omega
  have J:=AC (Sj p w.heap.size g c EL w1 C.row T);have D:=AC (xi C (xi H (xi E I)));obtain ⟨n,hn⟩:=xE EL.length;rw [<-hn] at J ⊢;have HN:=AC hn;clear C H E I hi h0 G hg a4 T hE hn
  go_wp2_with fail
  refine J.mono ?_;rintro e w2 ⟨rfl,a5,F,hs,hH,X⟩
  have HP:=AC (show DW w (FL0 p) (.returned (sL g 0 n c)) w2 from by
   rw [AB HN]
   exact aT HI.1 HI.2.1 HI.2.2 D.1 D.2.1 D.2.2.1 D.2.2.2 F hs hH X)
  clear F hs hH X J D HI;go_wp2;go_ret;exact AB HP
def aU (kb tb:Nat) (FL:List AQ) (w:World) (hk:cE w kb 5 (qP tb 0)) (h:cT 162 #[qP tb 0] w (DW w FL)):
  cT 114 #[qP kb 0] w (DW w FL):=by
 have HT:=AC h;clear h;go_enter func114,ntmps114
 go_wp2_with fail
 refine HT.mono ?_;intro e w1 h1;obtain ⟨a,n,c,he⟩:=h1.val;subst he;have HP:=AC h1;clear h1 hk HT;go_wp2;go_ret;exact AB HP
def gD (tk kb tb:Nat) (FL:List AQ) (w:World) (ht:cE w tk 0 (qP kb 0)) (hk:cE w kb 5 (qP tb 0)) (h:cT 162 #[qP tb 0] w (DW w FL)):
  cT 59 #[qP tk 0] w (DW w FL):=by
 have HT:=AC (aU kb tb FL w hk h);clear h hk;go_enter func59,ntmps59
 go_wp2_with fail
 refine HT.mono ?_;intro e w1 h1;obtain ⟨a,n,c,he⟩:=h1.val;subst he;have HP:=AC h1;clear h1 ht HT;go_wp2;go_ret;exact AB HP
def gE {cs:List (List Int)} {c:List Int} (h:c∈cs):c.length<=AM cs:=by
 obtain ⟨i,hi⟩:=yj.1 h;exact Ka hi
end
def Cd.wide {B C B' C':Nat} (h:Cd w w' B C) (hB:B'<=B) (hC:C<=C'):Cd w w' B' C':=⟨h.os,h.tape,h.output,h.size,λb hb hn=>h.block b hb om⟩
def VF (hi:ops[i]? =some o) (C:o.guard=none) (s x:Operand) (ts:Array TypeId) (ho:o.op= .call {callee:= .builtin .append,args:=#[s,x],argTypes:=ts}) (v xv v':Value) (w':World) (hs:a.eval s=v) (hx:a.eval x=xv) (B:(Builtin.append_ ts o.type #[v,xv]).run P w= .ok v' w') (d:Option Tmp) (hd:o.dst=d)
  (h:S w'/\(S w'->wpAnyH P md ops Q S fuel (listed.setIfInBounds i true) (a.put d v') w')) (hr:AllReadyH P md ops Q S fuel listed a w rs):AllReadyH P md ops Q S fuel listed a w (i::rs):=
 vq hi (λK hK=>by
  have hw:Region.wanted o (yielded ops a.tmps)=true:=by simp [Region.wanted,C]
  rw [vu hw];subst hd;unfold Oper.wp execOp;simp only [ho,resolve,invoke,builtin,List.map_toArray,ub,List.map_nil,hs,hx,uk,sr,ye,B]
  exact hK.out _ _ h.1 h.2) hr
def VG (hi:ops[i]? =some o) (C:o.guard=none) (ty:TypeId) (x y:Operand) (ho:o.op= .store ty x y) (ad:Addr) (v:Value) (hx:a.eval x= .pointer (some ad)) (hy:a.eval y=v) (B:(Instr.storeAt ty (.pointer (some ad)) v).run P w= .ok () w') (hd:o.dst=none)
  (h:S w'/\(S w'->wpAnyH P md ops Q S fuel (listed.setIfInBounds i true) a w')) (hr:AllReadyH P md ops Q S fuel listed a w rs):AllReadyH P md ops Q S fuel listed a w (i::rs):=
 vq hi (λK hK=>Hv C ty x y ho ad v hx hy B hd (hK.out _ _ h.1 h.2)) hr
def cI (w:World) (wb kb:Nat) (kp:Addr) (O:List Int):Prop:=∃dn rn dk rk qa qo ra ro,AE w wb 47 [.pointer (some kp),qP kb 0,.slice dn O.length dk,.slice rn O.length rk,.bool false]/\O.length<=1000000/\(0<O.length->dn=some (xK qa qo))/\(0<O.length->rn=some (xK ra ro))/\Am w qa qo O/\Am w ra ro O
def aY:eN 28:=enters_of func28 kf rfl
structure cJ (wb kb:Nat) (kp:Addr) (J:World->Prop):Prop where
 below:∀w w',J w->Bw w w'->J w'
 row:∀w,J w->∃O,cI w wb kb kp O
 procs:∀w,J w->cT 29 #[qP wb 0] w λe w'=>e= .returned (.bool true)/\Bw w w'
 files:∀w,J w->cT 30 #[qP wb 0] w λe w'=>e= .returned (.bool true)/\Bw w w'
def KV (N s:Nat) (W W':World):Prop:=W.heap.size<=W'.heap.size/\∀x,x<N\/s<=x->x<W.heap.size->W'.heap[x]? =W.heap[x]?
structure cK (wb kb:Nat) (kp:Addr) (N:Nat) (o:POp) (w:World) (I:World->Prop) (I3:Nat->World->Prop) (J:World->Prop):Prop where
 row:∀W,I W->∃O,cI W wb kb kp O
 below:∀W W',I W->Bw W W'->I W'
 none_:o.kind≠0->o.kind≠3->∀W,I W->J W
 do_:o.kind=0->∀W,Bw w W->I W->cT 22 #[qP wb 0,.agg o.cells.toArray] W λe W'=>e= .returned (.bool true)/\J W'
 tick:∀W,I W->w.heap.size<=W.heap.size->cT 24 #[.pointer (some kp)] W λe W'=>e= .returned (.tuple #[])/\I W'/\KV N w.heap.size W W'
 rtick:∀W,I W->w.heap.size<=W.heap.size->cT 25 #[qP kb 0] W λe W'=>e= .returned (.tuple #[])/\I W'/\KV N w.heap.size W W'
 type_:o.kind=3->∀W db,Bw w W->I W->w.heap.size<=db->AE W db 5 (AF (o.E++[71,72]))->cT 26 #[.pointer (some kp),sL db 0 o.E.length (o.E.length+2)] W λe W'=>e= .returned (.tuple #[])/\I3 W.heap.size W'/\KV N w.heap.size W W'
 keep3:∀t W W',I3 t W->Cd W W' w.heap.size t->I3 t W'
 app:∀t W,I3 t W->(∃O,cI W wb kb kp O)/\kb<w.heap.size/\∃tv ty base,W.cell? (xK kb 9)=some tv/\(∃a n c,tv= .slice a n c)/\W.ownsRow base 5 1 tv ty.length ty/\base<=W.heap.size/\ty.length+o.E.length<=100000000/\(∀b,tv.ownBlock=some b->b<w.heap.size/\b≠wb)/\∀v' W4,W4.ownsRow base 5 1 v' (ty.length+o.E.length) (ty++AF o.E)->W.grownBy W4 tv.ownBlock->(v'.ownBlock=tv.ownBlock\/v'.ownBlock=some W.heap.size)->W4.cell? (xK kb 9)=some tv/\W4.frozen? (xK kb 9)=false/\J (W4.setCell (xK kb 9) v')
 cons:∀W,I W->w.heap.size<=W.heap.size->cT 27 #[.pointer (some kp)] W λe W'=>∃a c,e= .returned (.slice a 0 c)/\J W'
 out:∀W,J W->W.cell? (xK kb 10)=some sN/\W.frozen? (xK kb 10)=false/\J (W.setCell (xK kb 10) sN)
def gG (wb kb:Nat) (kp:Addr) (N:Nat) (o:POp) (w:World) (I:World->Prop) (I3:Nat->World->Prop) (J:World->Prop) (i7:cK wb kb kp N o w I I3 J) (hI:I w) (m9:o.E.length<=200000) (f2:cJ wb kb kp J) (f0:Nv w N o) (hN:N<=w.heap.size) (h1:o.kind≠1):
  cT 12 #[qP wb 0,.agg o.cells.toArray] w λe w'=>e= .returned (.bool true)/\J w':=by
 obtain ⟨la,lq,lo,lc,j7,p5,p6⟩:=f0.strs;obtain ⟨ba,bq,bo,bc,i8,q4,b0⟩:=f0.bs;obtain ⟨ea,eq,eo,ec,j3,l8,X⟩:=f0.es;unfold POp.cells;rw [j7,i8,j3];obtain ⟨n,hn⟩:=xE o.ss.length;obtain ⟨nb,i6⟩:=xE o.B.length;obtain ⟨ne,h8⟩:=xE o.E.length;rw [<-hn,<-i6,<-h8];obtain ⟨SB,j0⟩:=xE w.heap.size;obtain ⟨W1,g4⟩:=xE (w.alloc (Obj.cells #[iV o.kind,iV o.a,iV o.b,iV o.ck,iV o.ca,iV o.cb,.string o.s,.slice la n lc,.slice ba nb bc,.slice ea ne ec] 53));have j6:Bw w W1:=by rw [g4];exact bA
 have r0:AE W1 SB 53 (KT o la n lc ba nb bc ea ne ec):=by rw [g4,j0];exact AE.new _ _ _
 obtain ⟨kd,g6⟩:=xE o.kind;have c0:W1.cell? (xK SB 0)=some (iV kd):=by rw [g6];exact r0.cell rfl
 have d5:kd≠1:=by rw [g6];exact h1
 have g7:=AC g6;have D:=AC i7;have b4:=AC (i7.below w W1 hI j6);have l7:=AC m9;have h5:=AC (xi l8 X);clear g6 i7 hI m9 h1;have a4:=AC (xi g4 j0);obtain ⟨b2,d3,n3,F⟩:=H4 r0 j6 f0 f2;have h7:=AC (xi j7 (xi i8 j3));have a9:=AC (xi hn (xi i6 h8));have f7:=AC hN;clear g4 j0 r0 j6 f0 f2 j7 i8 j3 hn i6 h8 hN p5 p6 q4 b0 l8 X;go_enter func12,ntmps12
 go_upto_region 1 with fail
 rw [<-a4.1,<-a4.2]
 go_upto_block 0 with fail
 go_cut [5] from 6 to 120 (λp1 wc=>p1= .bool true/\Hid (J wc))
 case first=>
  by_cases h0:kd=0
  ·have i3:o.kind=0:=by rw [<-AB g7];exact h0
   have o5:=AC (show cT 22 #[qP wb 0,.agg #[iV 0,iV o.a,iV o.b,iV o.ck,iV o.ca,iV o.cb,.string o.s,.slice la n lc,.slice ba nb bc,.slice ea ne ec]] W1 λe W'=>e= .returned (.bool true)/\J W' from by
    have:=D.do_ i3 W1 d3 b4;unfold POp.cells at this;rw [i3,h7.1,h7.2.1,h7.2.2,<-a9.1,<-a9.2.1,<-a9.2.2] at this
    exact this)
   subst h0;have r0:=AB b2;have c1:cE W1 SB 1 (iV o.a):=r0.cell rfl;have c2:cE W1 SB 2 (iV o.b):=r0.cell rfl;have c3:cE W1 SB 3 (iV o.ck):=r0.cell rfl;have c4:cE W1 SB 4 (iV o.ca):=r0.cell rfl;have c5:cE W1 SB 5 (iV o.cb):=r0.cell rfl;have c6:cE W1 SB 6 (.string o.s):=r0.cell rfl;have c7:cE W1 SB 7 (.slice la n lc):=r0.cell rfl;have c8:cE W1 SB 8 (.slice ba nb bc):=r0.cell rfl;have c9:cE W1 SB 9 (.slice ea ne ec):=r0.cell rfl;clear r0 i3
   go_wp2_with fail
   refine o5.mono ?_;rintro e w2 ⟨rfl,l5⟩;have d9:=AC l5;clear l5;go_wp2
   go_meet
   case rel=>exact ⟨rfl,d9⟩
  have k0:(kd==0)=false:=sU h0;have k1:(kd==1)=false:=sU d5;have a7:Hid (kd≠3->∀W,I W->J W):=λh3=>D.none_ (by rw [<-AB g7];exact h0) (by rw [<-AB g7];exact h3);clear h0 d5;by_cases h2:kd=2
  ·subst h2;have a7:=AC (AB a7 dz);go_wp2
   go_loopw [7] (λiv wr=>∃j:Nat,iv= iV j/\j<=200/\Hid (I wr)/\Hid (AE wr SB 53 (KT o la n lc ba nb bc ea ne ec))) (λiv _=>200-(intOf iv).toNat)
   case atStart=>exact ⟨0,rfl,om,b4,b2⟩
   case round=>
    obtain ⟨j,rfl,hj,f8,g5⟩:=hrel;have c2:cE wr SB 2 (iV o.b):=g5.cell rfl;by_cases ha:(j:Int)<o.b
    ·by_cases hb:j<200
     ·have o4:(j:Int)<200:=om;have j9:w.heap.size<=wr.heap.size:=o2 g5.lt a4.2;obtain ⟨O,dn,rn,dk,rk,qa,qo,ra,ro,C,_⟩:=D.row wr f8;have m0:cE wr wb 0 (.pointer (some kp)):=C.cell rfl;have k9:=AC (D.tick wr f8 j9);have q6:=AC j9;clear C j9
      go_wp2_with fail
      refine k9.mono ?_;rintro e w2 ⟨rfl,V,i0⟩;obtain ⟨O2,o9,p4,q9,n6,n4,p0,o3,n5,M,_⟩:=D.row w2 V;have m1:cE w2 wb 1 (qP kb 0):=M.cell rfl;have U:=AC (AJ g5 (i0.2 SB (.inr (o1 a4.2)) g5.lt));have n7:=AC (zg q6 i0.1);have m4:=AC (D.rtick w2 V n7);clear M V i0 k9 m0
      go_wp2_with fail
      refine m4.mono ?_;rintro e w3 ⟨rfl,d1,f4⟩;have p3:=AC d1;have p2:=AC (AJ U (f4.2 SB (.inr (o1 a4.2)) U.lt));clear d1 f4 m4 m1;go_wp2;exact ⟨⟨j+1,sI,om,p3,p2⟩,by simp only [intOf];omega⟩
     ·have o4:¬(j:Int)<200:=om;have d9:=AC (AB a7 wr f8);go_wp2
      go_meet
      case rel=>exact ⟨rfl,d9⟩
    ·have d9:=AC (AB a7 wr f8);go_wp2
     go_meet
     case rel=>exact ⟨rfl,d9⟩
  have k2:(kd==2)=false:=sU h2;clear h2;by_cases h3:kd=3
  ·subst h3;clear a7;have f4:o.kind=3:=g7.symm;have r0:=AB b2;have c9:cE W1 SB 9 (.slice ea ne ec):=r0.cell rfl
   have l2:=AC (show cT 16 #[.slice ea ne ec] W1 λe w'=>e= .returned (sL W1.heap.size 0 ne (ne+2))/\AE w' W1.heap.size 5 (AF (o.E++[71,72]))/\Bw W1 w' from by
    rw [a9.2.2]
    exact NC ea eq eo ec o.E W1 (λh0=>(h5.1 h0).1) (λi hi=>by rw [d3.cell (p:=(xK eq (eo+i))) (yz (h5.1 om).2 (AB f7))];exact h5.2 i hi) (λh0=>yz (yz (h5.1 h0).2 (AB f7)) d3.size) (o1 (AB l7)))
   clear r0
   go_wp2_with fail
   refine l2.mono ?_;rintro e w2 ⟨rfl,g3,g2⟩;obtain ⟨DB,i5⟩:=xE W1.heap.size;rw [<-i5] at g3 ⊢;have a1:=a4.2;have i4:Bw w w2:=d3.trans (g2.mono d3.size);have V:=D.below _ _ b4 g2;have k6:=b2.below g2 b2.lt;have f5:SB<DB:=by rw [i5];exact b2.lt
   obtain ⟨O,dn,rn,dk,rk,qa,qo,ra,ro,C,_⟩:=D.row w2 V;have m0:cE w2 wb 0 (.pointer (some kp)):=C.cell rfl
   have m6:=AC (show cT 26 #[.pointer (some kp),sL DB 0 ne (ne+2)] w2 λe W'=>e= .returned (.tuple #[])/\I3 w2.heap.size W'/\KV N w.heap.size w2 W' from by
    rw [a9.2.2]
    exact D.type_ f4 w2 DB i4 V om g3)
   have U:=AC (xi k6 (xi g3 (xi i4 f5)));clear C V k6 g3 g2 i4 i5 f5 c9 l2 f4 a1
   go_wp2_with fail
   refine m6.mono ?_;rintro e w4 ⟨rfl,d7,g9⟩;have a1:=a4.2;have j2:=AJ U.1 (g9.2 SB (.inr om) U.1.lt);have m8:=AJ U.2.1 (g9.2 DB (.inr (o1 U.2.2.2)) U.2.1.lt);have c9:cE w4 SB 9 (.slice ea ne ec):=j2.cell rfl
   have i2:∀W:World,(∀k,k<N->W.heap[k]? =w.heap[k]?)->Rr W N (.slice ea ne ec) o.E:=λW hW=>by
    have:=n3.es.kept hW;rwa [h7.2.2,<-a9.2.2] at this
   have Y:∀k,k<N->w4.heap[k]? =w.heap[k]? :=λk hk=>by
    have n0:=AB f7;have:=U.2.2.1.size;rw [g9.2 k (.inl hk) om,U.2.2.1.block k om]
   obtain ⟨r1,p8,r2,o8,q1,q2,q3⟩:=i2 w4 Y
   have n2:=AC (show cT 17 #[sL DB 0 ne (ne+2),.slice ea ne ec] w4 λe w'=>e= .returned (.bool true)/\w4.grownBy w' (some DB) from by
    rw [q1,a9.2.2]
    exact ND DB r1 p8 r2 o8 o.E w4 m8 (λh0=>(q2 h0).1) q3 (o1 (AB l7)))
   have l0:=AC d7;have d8:=AC (xi j2 (xi Y i2));clear d7 g9 j2 m8 i2 Y q1 q2 q3 m6 m0 a1
   go_wp2_with fail
   refine n2.mono ?_;rintro e w5 ⟨rfl,a5⟩;have a1:=a4.2;have f5:=U.2.2.2;have o0:=U.2.1.lt;have n0:=AB f7;have b9:=D.keep3 _ _ _ l0 (Cd.wide (Cd.ofGrown a5) (show w.heap.size<=DB by omega) (show DB+1<=w2.heap.size by omega));have Z:AE w5 SB 53 (KT o la n lc ba nb bc ea ne ec):=d8.1.grown a5 sO;have G:∀k,k<N->w5.heap[k]? =w.heap[k]? :=λk hk=>by rw [a5.block k (o1 d8.1.lt) sO];exact d8.2.1 k hk
   have R:=D.keep3 _ _ w5.drew b9 ⟨rfl,rfl,rfl,zx _,λ_ _ _=>rfl⟩;obtain ⟨⟨O5,r4,s0,s7,t0,r7,s4,s3,s5,H,_⟩,h9,tv,ty,base,t9,⟨ta,tn,tc,rfl⟩,b5,k5,d6,b7,T⟩:=D.app _ _ R;obtain ⟨v',W6,d0,a8,a3,b6⟩:=Tj w5.drew base (.slice ta tn tc) ty b5 (d8.2.2 w5.drew G) d6 k5;obtain ⟨u9,g8,b3⟩:=T v' W6 a8 a3 b6
   obtain ⟨va,vn,vc,rfl⟩:∃va vn vc,v'= .slice va vn vc:=by
    rcases a8.2 with ⟨q1,_⟩|⟨g,s9,r3,q1,_⟩
    ·exact ⟨_,_,_,q1⟩
    ·exact ⟨_,_,_,q1⟩
   have a6:∀b,some b=(Value.slice ta tn tc).ownBlock->b<w.heap.size/\b≠wb:=λb e=>b7 b e.symm;have S5:w5.drew.cell? (xK wb 1)=some (qP kb 0)/\w5.drew.cell? (xK SB 9)=some (.slice ea ne ec):=⟨H.cell rfl,Z.cell rfl⟩;have S6:cE W6 wb 1 (qP kb 0)/\cE W6 SB 9 (.slice ea ne ec):=⟨a3.cell S5.1 (λe=>(a6 _ e).2 rfl),a3.cell S5.2 (λe=>by have h:SB<w.heap.size:=(a6 SB e).1;omega)⟩;have S7:(W6.setCell (xK kb 9) (.slice va vn vc)).cell? (xK wb 1)=some (qP kb 0)/\(W6.setCell (xK kb 9) (.slice va vn vc)).cell? (xK SB 9)=some (.slice ea ne ec):=⟨by rw [yy _ _ _ _ (by simp<;>omega)];exact S6.1,by rw [yy _ _ _ _ (show ¬((xK kb 9):Addr)=(xK SB 9) from λe=>by have e2:kb=SB:=congrArg Addr.block e;omega)];exact S6.2⟩
   have R0:=AC (show ∀w':World,(w'.cell? (xK wb 1)=some (qP kb 0)/\w'.cell? (xK SB 9)=some (.slice ea ne ec))->(Instr.loadAt 45 (qP wb 1)).run prog w'= .ok (qP kb 0) w' from λw' h=>by
    have c:=h.1;clear a5 b9 Z G R H t9 b5 T d0 a8 a3 b6 u9 g8 b3 S5 S6 S7 b7 c9 c0 a1
    go_simp)
   have R1:=AC (show ∀w':World,(w'.cell? (xK wb 1)=some (qP kb 0)/\w'.cell? (xK SB 9)=some (.slice ea ne ec))->(Instr.loadAt 36 (qP SB 9)).run prog w'= .ok (.slice ea ne ec) w' from λw' h=>by
    have c:=h.2;clear a5 b9 Z G R H t9 b5 T d0 a8 a3 b6 u9 g8 b3 S5 S6 S7 b7 c9 c0 a1
    go_simp)
   have R2:=AC (show (Instr.loadAt 36 (qP kb 9)).run prog w5.drew= .ok (.slice ta tn tc) w5.drew from by
    clear a5 b9 Z G R H b5 T d0 a8 a3 b6 u9 g8 b3 S5 S6 S7 b7 c9 c0 a1
    go_simp)
   have R3:=AC (show (Instr.storeAt 36 (qP kb 9) (.slice va vn vc)).run prog W6= .ok () (W6.setCell (xK kb 9) (.slice va vn vc)) from by
    clear a5 b9 Z G R H b5 T d0 a8 a3 b6 b3 S5 S6 S7 b7 c9 c0 t9 a1
    go_simp)
   have o6:=AC b3;have g1:=AC (xi S5 (xi S6 S7));have l1:=AC d0;clear a5 b9 Z G R H t9 b5 T d0 a8 a3 b6 u9 g8 b3 S5 S6 S7 b7 a6 f5 o0 n0 c9 n2 d8 l0 d6 k5 h9 a1
   go_upto_region 20 with fail
   refine Ak ?_;intro A hA;have e0:A.eval (.tmp 0)= qP wb 0:=eH hA;have e3:A.eval (.tmp 3)= qP SB 0:=eH hA;have j1:A.tmps.size=150:=eZ hA;have HA:=AC hA;clear hA;refine xf (S:=λw'=>w'.cell? (xK wb 1)=some (qP kb 0)/\w'.cell? (xK SB 9)=some (.slice ea ne ec)) kf g1.1 (λhS=> ?_);refine tq 0 83 rfl (yM (qP wb 0)) hS (tq 1 84 rfl (yN (xK wb 0)) hS (tq 2 85 rfl (yF (qP wb 0) (qP wb 1)) hS (tq 3 86 rfl (yl R0) hS (tq 4 87 rfl (yM (qP wb 0)) hS (tq 5 88 rfl (yN (xK wb 0)) hS ?_)))));refine tq 6 89 rfl (yF (qP wb 0) (qP wb 1)) hS (tq 7 90 rfl (yl R0) hS (tq 8 91 rfl (yN (xK kb 0)) hS ?_))
   refine tq 9 92 rfl (yF (qP kb 0) (qP kb 9)) hS (tq 11 94 rfl (yF (qP SB 0) (qP SB 9)) hS (tq 12 95 rfl (yl R1) hS ?_));refine rdy [10] kf (Rm rfl rfl 36 _ rfl (xK kb 9) sE (.slice ta tn tc) R2 (some 93) rfl hS ?_ vr);refine rdy [13] kf (VF rfl rfl _ _ _ rfl (.slice ta tn tc) (.slice ea ne ec) (.slice va vn vc) W6 sE sE l1 (some 96) rfl ⟨g1.2.1,λj5=> ?_⟩ vr);refine tq 14 97 rfl (yN (xK kb 0)) j5 ?_;refine tq 15 98 rfl (yF (qP kb 0) (qP kb 9)) j5 ?_;refine rdy [16] kf (VG rfl rfl 36 _ _ rfl (xK kb 9) (.slice va vn vc) sE sE R3 rfl ⟨g1.2.2,λq5=> ?_⟩ vr);refine vg kf ?_ _;rw [AB HA];simp only [Act.put,zl,zh,zi]
   clear hS j5 q5 HA e0 e3 j1 R0 R1 R2 R3 l1 g1;go_wp2
   go_meet
   case rel=>exact ⟨rfl,o6⟩
  have k3:(kd==3)=false:=sU h3;have n8:=AC (AB a7 h3);clear h3 a7;by_cases h4:kd=4
  ·subst h4;obtain ⟨O,dn,rn,dk,rk,qa,qo,ra,ro,C,_⟩:=D.row W1 b4;have m0:cE W1 wb 0 (.pointer (some kp)):=C.cell rfl;have l9:w.heap.size<=W1.heap.size:=d3.size;have m7:=AC (D.cons W1 b4 l9);clear C l9
   go_wp2_with fail
   refine m7.mono ?_;rintro e w2 ⟨ca,cc,rfl,V⟩;obtain ⟨O2,o9,p4,q9,n6,n4,p0,o3,n5,M,_⟩:=F.row w2 V;have m1:cE w2 wb 1 (qP kb 0):=M.cell rfl;obtain ⟨q7,p9,_⟩:=(AB D).out w2 V;have o7:=AC V;have b1:=AC (Jf ca none 0 0 cc 0 0 0 [] w2 (λh=>by simp at h) (λh=>by simp at h) (λj hj=>by simp at hj) (λj hj=>by simp at hj) sI);rw [List.length_nil] at b1;clear M V m7 m0 p9
   go_wp2_with fail
   refine b1.mono ?_;rintro e w3 ⟨rfl,_,f1⟩;have d1:=F.below _ _ o7 f1;obtain ⟨O3,t2,s6,s8,s2,t1,r6,r5,r8,a2,_⟩:=F.row w3 d1;have n1:cE w3 wb 1 (qP kb 0):=a2.cell rfl;obtain ⟨s1,r9,d7⟩:=(AB D).out w3 d1;have j8:=AC d7;clear a2 d1 d7 f1 b1 m1 q7;go_wp2
   go_meet
   case rel=>exact ⟨rfl,j8⟩
  have k4:(kd==4)=false:=sU h4;have p7:=AC (AB n8 W1 b4);clear h4;go_wp2
  go_meet
  case rel=>exact ⟨rfl,p7⟩
 case rest=>
  obtain ⟨rfl,HJ⟩:=hcut;have hJ:=AB HJ;obtain ⟨O,dn,rn,dk,rk,qa,qo,ra,ro,C,g0,f9,f6,b8,d2⟩:=F.row wc hJ;have d4:cE wc wb 4 (.bool false):=C.cell rfl;have k7:=AC (F.procs wc hJ);clear hJ C g0 f9 f6 b8 d2
  go_wp2_with fail
  refine k7.mono ?_;rintro e w3 ⟨rfl,f1⟩;have j4:=F.below wc w3 HJ f1;have q0:=AC j4;have m5:=AC (F.files w3 j4);clear f1 j4 k7 d4
  go_wp2_with fail
  refine m5.mono ?_;rintro e w4 ⟨rfl,h6⟩;have f3:=F.below w3 w4 q0 h6;obtain ⟨O,dn,rn,dk,rk,qa,qo,ra,ro,C,g0,f9,f6,b8,d2⟩:=F.row w4 f3;have j8:=AC f3;obtain ⟨ol,i1⟩:=xE O.length;rw [<-i1] at C;have m2:cE w4 wb 2 (.slice dn ol dk):=C.cell rfl;have m3:cE w4 wb 3 (.slice rn ol rk):=C.cell rfl;have l4:=AC (xi m2 m3);have b1:=AC (show cT 28 #[.slice dn ol dk,.slice rn ol rk] w4.drew λe w'=>e= .returned (.bool true)/\w'.heap=w4.heap/\Below w4.heap.size w4.drew w' from by rw [i1];exact Jf dn rn qa qo dk ra ro rk O w4.drew f9 f6 b8 d2 g0)
  have R2:=AC (show ∀w':World,(w'.cell? (xK wb 2)=some (.slice dn ol dk)/\w'.cell? (xK wb 3)=some (.slice rn ol rk))->(Instr.loadAt 36 (qP wb 2)).run prog w'= .ok (.slice dn ol dk) w' from λw' h=>by
   have c:=h.1;clear f3 h6 C m2 m3 b8 d2
   go_simp)
  have R3:=AC (show ∀w':World,(w'.cell? (xK wb 2)=some (.slice dn ol dk)/\w'.cell? (xK wb 3)=some (.slice rn ol rk))->(Instr.loadAt 36 (qP wb 3)).run prog w'= .ok (.slice rn ol rk) w' from λw' h=>by
   have c:=h.2;clear f3 h6 C m2 m3 b8 d2
   go_simp)
  have k8:=AC C.lt;clear h6 f3 m5 C m2 m3 g0 f9 f6 b8 d2 i1
  go_upto_region 29 with fail
  refine Ak ?_;intro A hA;have e0:A.eval (.tmp 0)= qP wb 0:=eH hA;have j1:A.tmps.size=150:=eZ hA;have l6:=AC hA;clear hA;refine xf (S:=λw'=>w'.cell? (xK wb 2)=some (.slice dn ol dk)/\w'.cell? (xK wb 3)=some (.slice rn ol rk)) kf l4 (λhS=> ?_);refine tq 0 134 rfl (yM (qP wb 0)) hS (tq 1 135 rfl (yN (xK wb 0)) hS (tq 2 136 rfl (yF (qP wb 0) (qP wb 2)) hS (tq 3 137 rfl (yl R2) hS (tq 4 138 rfl (yM (qP wb 0)) hS (tq 5 139 rfl (yN (xK wb 0)) hS ?_)))));refine tq 6 140 rfl (yF (qP wb 0) (qP wb 3)) hS (tq 7 141 rfl (yl R3) hS ?_);refine rdy [8] kf (vq rfl (λK hK=> ?_) vr)
  refine Bn rfl 28 _ _ rfl #[.slice dn ol dk,.slice rn ol rk] sE aY _ (λe w' h=>⟨_,h.1⟩) b1 (some 142) rfl ?_;rintro r w5 ⟨Z,n9,a0⟩;have Z:r= .bool true:=by injection Z
  subst Z;have a0:Bw w4 w5:=⟨a0.os,a0.tape,a0.output,a0.size,a0.block⟩;have q8:=AC (F.below w4 w5 j8 a0);have i9:=AB l4;refine hK.out _ _ ⟨by rw [a0.cell (p:=(xK wb 2)) (AB k8)];exact i9.1,by rw [a0.cell (p:=(xK wb 3)) (AB k8)];exact i9.2⟩ (λl3=> ?_);clear hK K;refine tq 9 12 rfl (yA (.bool true)) l3 ?_;refine vg kf ?_ _;rw [AB l6];simp only [Act.put,zl,zh,zi];clear l3 i9 a0 n9 l6 e0 j1 hS b1 R2 R3;go_wp2;go_ret;exact ⟨rfl,AB q8⟩
end Go.Proofs.YtpcjkidgohpeoaaGreatDoor
