import Derived.Test.YtpcjkidgohpeoaaGreatDoorG16
import Derived.Test.YtpcjkidgohpeoaaGreatDoorG17
import Derived.Deep.AppendSrc
set_option maxRecDepth 100000
set_option maxHeartbeats 2000000
set_option linter.all false
namespace Go.Proofs.YtpcjkidgohpeoaaGreatDoor
open RowKit Maps Proofs.Tryz
variable {i B tb ab am b c N:Nat} {x v:Value} {w w':World} {p:PK} {NB MB:List Nat} {V:List Value} {s name:ByteArray} {P:Program} {ops:Array Oper} {o:Oper} {a A:Act} {K:Act->World->Prop} {Q:Exit->Act->World->Prop} {E:Prop} {S:World->Prop} {L:List Int}
section
variable {oc:Int->Int} {lz:Bool}
def Nc {xs:List Ino} {x:Ino} (C:xs.Pairwise (λx y=>x.id<y.id)) (hx:xs[i]? =some x):BO xs x.id=i:=by
 refine LQ hx sI λj y hj hy=> ?_;obtain ⟨D,G⟩:=zy.1 hx;obtain ⟨H,I⟩:=zy.1 hy;have:=vd.1 C j i H D hj;rw [I,G] at this;have F:y.id≠x.id:=om;simpa using F
def WQ {I:Int} (hr:Bf w B tb ab am p.li p.lb I p.xs NB MB V oc) (hi:Ct lz p) (he:(AH p.xs s).e=0) (hp:UQ p.xs NB ab s b name):
  ∃(m k:Nat) (f:ByteArray->Option Nat) (dvs:List Value),AE w b 257 dvs/\dvs[3]? =some (.map (some m))/\Aq w m k f/\k<=p.xs.length+1/\name.size<=14/\B<=m/\
   ((AH p.xs s).n≠0/\(∃(i:Nat) (x:Ino) (c:Nat),p.xs[i]? =some x/\x.id=(AH p.xs s).n/\NB[i]? =some c/\f name=some c)\/
    (AH p.xs s).n=0/\f name=none/\∃(pi:Nat) (px:Ino),p.xs[pi]? =some px/\px.dir=true/\MB[pi]? =some m/\px.id=(AH p.xs s).dir/\name=(AH p.xs s).name/\k=p.xs.length/\f=Eg p.xs NB px.id):=by
 have Y:p.xs≠[]:=by obtain ⟨x,hx,_⟩:=hi.root;intro e;rw [e] at hx;cases hx
 have a4:∀x∈p.xs,1<=x.id:=λx hx=>(hi.ids x hx).1;obtain ⟨x0,X,J,Z⟩:=hr.root Y;have H:=(zy.1 X).1;obtain ⟨b0,U⟩:∃b0,NB[0]? =some b0:=⟨_,zz (by rw [hr.len.1];exact H)⟩;rcases hp with ⟨O,rfl,rfl⟩|⟨⟨a,r,O⟩,⟨i,x,hx,M,hb⟩,R,rfl⟩
 ·have hw:AH p.xs s=⟨0,ByteArray.empty,1,0⟩:=by unfold AH;rw [O]
  rw [hw];refine ⟨am,1,_,_,hr.above,rfl,hr.amap,om,dz,hr.low.2.2.1,.inl ⟨dz,0,x0,b0,X,J,U,?_⟩⟩;show (if ByteArray.empty.data.toList=[] then NB[0]? else none)=some b0;rw [vu (show ByteArray.empty.data.toList=[] from rfl),U]
 ·obtain ⟨a3,hn,a1⟩:=TL (xs:=p.xs) O he;have a2:=(zy.1 hx).1;obtain ⟨m,G⟩:∃m,MB[i]? =some m:=⟨_,zz (by rw [hr.len.2];exact a2)⟩;have T:x.dir=true:=by rw [<-M,Ga hi.incr hx] at R;exact R
  obtain ⟨qn,v,mv,D,C,_⟩:=hr.node i x b m hx hb G;obtain ⟨a0,F⟩:=C T;subst a0;refine ⟨m,p.xs.length,_,_,D,rfl,F,om,OY a3,(hr.low.2.2.2.2 m (zv G)).1,?_⟩;rw [hn,<-M];by_cases q:Ax p.xs x.id (AH p.xs s).name=0
  ·refine .inr ⟨q,Ql a4 q,i,x,hx,T,G,M▸rfl,rfl,rfl,rfl⟩
  ·obtain ⟨j,y,c,h1,h2,h3,h4⟩:=Ma (NB:=NB) hr.len.1 q;exact .inl ⟨q,j,y,c,h1,h2,h3,h4⟩
def Lk (w w':World):Prop:=∀(k:Nat) (t:TypeId) (vs:List Value),AE w k t vs->t≠173->t≠257->t≠5->AE w' k t vs
def Lk.below (h:Bw w w'):Lk w w':=λk t vs hk _ _ _=>hk.below h hk.lt
def eC (p:PK) (B tb ab am i b q o c1:Nat) (a:Option Addr) (NB MB:List Nat) (V:List Value) (x:Ino) (L c:List Int) (w:World) (hr:BS w B tb ab am p NB MB V oc) (hi:Ct lz p) (hx:p.xs[i]? =some x) (hd:x.dir=false) (hb:NB[i]? =some b) (hc:p.cs[i]? =some c) (hL:L.length<=1000000) (hu:AM p.cs<=1000000) (I:0<=p.lb/\p.lb<=1000000) (D:(p.xs.length:Int)<=p.li/\p.li<=1000000)
  (ha:0<L.length->a=some (xK q o)/\q<B) (hv:Am w q o L) (hB:B<=w.heap.size):
  cT 68 #[qP tb 0,qP b 0,iV 0,.slice a L.length c1] w λe w'=>(Below B w w'/\Lk w w')/\
   ((0<L.length/\p.lb<(AM p.cs:Int)-(c.length:Int)+((max L.length c.length:Nat):Int))/\e=Bz 12\/
    ¬(0<L.length/\p.lb<(AM p.cs:Int)-(c.length:Int)+((max L.length c.length:Nat):Int))/\e= .returned .nilIface/\∃V',BS w' B tb ab am (if L.length=0 then p else {p with cs:=p.cs.set i (Fb c L)}) NB MB V' oc):=by
 by_cases h0:L.length=0
 ·rw [h0];refine (UY tb b 0 a c1 w).mono λe w' h=> ?_;obtain ⟨rfl,rfl⟩:=h;refine ⟨⟨zw _ _,Lk.below (zw _ _)⟩,.inr ⟨om,rfl,V,?_⟩⟩;rw [vu rfl];exact hr
 ·have C:0<L.length:=om;obtain ⟨rfl,a4⟩:=ha C;have a3:=(zy.1 hx).1;obtain ⟨m,hm⟩:∃m,MB[i]? =some m:=⟨_,zz (by rw [hr.tree.len.2];exact a3)⟩;obtain ⟨qn,v,mv,hn,_,H,J,O⟩:=hr.tree.node i x b m hx hb hm;rw [hd] at hn;have U:=hr.cont i v c H hc;have a5:=Ka hc;have F:=hr.tree.low;have Z:B<=b:=F.2.2.2.1 b (zv hb);obtain ⟨va,vc,a0⟩:=U.len;by_cases hf:p.lb<(AM p.cs:Int)-(c.length:Int)+((max L.length c.length:Nat):Int)
  ·refine (UZ tb ab b p.xs.length p.li (AM p.cs) p.lb c.length vc L.length c1 va (some (xK q o)) w hr.tree.tree (by unfold cE;rw [<-a0];exact hn.cell rfl) ⟨om,D.1⟩ D.2 C om hL ⟨om,om,I⟩ om).mono λe w' h=> ?_;exact ⟨⟨h.2.mono hB,Lk.below h.2⟩,.inl ⟨⟨C,hf⟩,h.1⟩⟩
  ·rcases U with ⟨rfl,rfl⟩|⟨R,cp,T,rfl,hR,X,a1,a6⟩
   ·refine (WM tb ab b q o p.xs.length p.li (AM p.cs) p.lb L.length c1 mv L w rfl om om om hv hr.tree.tree hn ⟨om,D.1⟩ D.2 C hL ⟨om,om,I⟩ (by simp at hf;omega)).mono λe w' h=> ?_;obtain ⟨rfl,h1,h2,R,cp,h3,h4,h5,h6,h7⟩:=h;have ho:Fb ([]:List Int) L=L:=by unfold Fb;simp
    refine ⟨⟨h2.below om Z hB,λk t vs hk t1 t2 t3=>AJ hk (h2.block k hk.lt (Ab hk hr.tree.tree t1) (Ab hk hn t2))⟩,.inr ⟨λq=>hf q.2,rfl,V.set i (sL R 0 L.length cp),?_⟩⟩;rw [vz h0,ho];refine hr.wrote hi hx hd hb hc H (S:=[tb,b]) ?_ h6 (J hd) O (C7.ofK h2) (λk hk=> ?_) (.inr ⟨R,cp,List.replicate (cp-L.length) 0,rfl,h7,sO,h5,om⟩) (λR' Y=> ?_)
    ·rw [show (AM p.cs:Int)-(([]:List Int).length:Int)+(L.length:Int)=(AM p.cs:Int)+(L.length:Int) by simp];exact h1
    ·simp at hk;rcases hk with q|q
     ·exact .inl q
     ·exact .inr (.inl q)
    ·have:R=R':=by simpa [AV] using Y
     subst this;exact .inl h3
   ·refine (WO tb ab b q o R p.xs.length p.li (AM p.cs) p.lb L.length c1 cp mv L c T w rfl om om om om hv hr.tree.tree hn hR X a1 om ⟨om,D.1⟩ D.2 C hL ⟨om,om,I⟩ om).mono λe w' h=> ?_;obtain ⟨rfl,h1,h2,R',cp',T',h3,h4,h5,h6,h7⟩:=h;refine ⟨⟨h2.below (λk hk=>by simp at hk;rcases hk with rfl|rfl|rfl<;>omega) hB,λk t vs hk t1 t2 t3=>AJ hk (h2.block k hk.lt (by simp [Ab hk hr.tree.tree t1,Ab hk hn t2,Ab hk hR t3]))⟩,.inr ⟨λq=>hf q.2,rfl,V.set i (sL R' 0 (Fb c L).length cp'),?_⟩⟩;rw [vz h0];refine hr.wrote hi hx hd hb hc H (S:=[tb,b,R]) ?_ h6 (J hd) O h2 (λk hk=> ?_) (.inr ⟨R',cp',T',rfl,h7,h4,h5,by rcases h3 with q|q<;>omega⟩) (λa2 G=> ?_)
    ·rw [Ib (M:=max L.length c.length) rfl,show (AM p.cs:Int)-(c.length:Int)+((max L.length c.length:Nat):Int)=(AM p.cs:Int)+((L.length-c.length:Nat):Int) by omega];exact h1
    ·simp at hk;rcases hk with q|q|q
     ·exact .inl q
     ·exact .inr (.inl q)
     ·exact .inr (.inr (.inr (by rw [q];rfl)))
    ·have:R'=a2:=by simpa [AV] using G
     subst this;rcases h3 with q|q
     ·exact .inr (by rw [q];rfl)
     ·exact .inl q
def Ll (hi:Ct lz p) (h0:(AH p.xs s).e=0) {x:Ino} (hn:(AH p.xs s).n≠0) (hx:p.xs[i]? =some x) (C:x.id=(AH p.xs s).n):p.opened s=(p,x.id)/\Ce p.xs x.id=x.dir/\(BO p.xs x.id).toNat=i/\p.cs[i]? =some (p.old x.id):=by
 have hp:=Nc hi.incr hx;have D:=(zy.1 hx).1;refine ⟨by unfold PK.opened;rw [vz hn,C],Ga hi.incr hx,by rw [hp];rfl,?_⟩;unfold PK.old;rw [hp,zk,show ((i:Int)).toNat=i from rfl,zz (by rw [hi.len];exact D)];rfl
def Qp (hi:Ct lz p) (h0:(AH p.xs s).e=0) (hn:(AH p.xs s).n=0):p.opened s=(p.add (AH p.xs s).dir (AH p.xs s).name false,p.last+1)/\Ce (p.add (AH p.xs s).dir (AH p.xs s).name false).xs (p.last+1)=false/\(BO (p.add (AH p.xs s).dir (AH p.xs s).name false).xs (p.last+1)).toNat=p.xs.length/\(p.add (AH p.xs s).dir (AH p.xs s).name false).old (p.last+1)=[]:=by
 have he:p.opened s=(p.add (AH p.xs s).dir (AH p.xs s).name false,p.last+1):=by unfold PK.opened;rw [vu hn]
 have C:=hi.opened s h0;rw [he] at C
 have hx:(p.add (AH p.xs s).dir (AH p.xs s).name false).xs[p.xs.length]? =some (Bq (p.last+1) (AH p.xs s).dir (AH p.xs s).name false):=by
  show (p.xs++[Bq (p.last+1) (AH p.xs s).dir (AH p.xs s).name false])[p.xs.length]? =_;rw [zn (zx _)];simp
 have hp:=Nc C.incr hx;have D:BO (p.add (AH p.xs s).dir (AH p.xs s).name false).xs (p.last+1)=(p.xs.length:Int):=hp;refine ⟨he,Ga C.incr hx,by rw [D];rfl,?_⟩;unfold PK.old;rw [D,show ((p.xs.length:Int)).toNat=p.xs.length from rfl];show (p.cs++[[]]).getD p.xs.length []=[];rw [zk,<-hi.len,zn (zx _)];simp
def J3 (lz:Bool) (oc:Int->Int) (p:PK) (s:ByteArray) (B tb ab am:Nat) (w:World) (b:Nat):Prop:=∃(NB MB:List Nat) (V:List Value) (i:Nat) (x:Ino),BS w B tb ab am (p.opened s).1 NB MB V oc/\Ct lz (p.opened s).1/\(p.opened s).1.xs[i]? =some x/\x.dir=false/\NB[i]? =some b/\(p.opened s).1.cs[i]? =some ((p.opened s).1.old (p.opened s).2)/\(BO (p.opened s).1.xs (p.opened s).2).toNat=i/\AM (p.opened s).1.cs=AM p.cs/\(p.opened s).1.lb=p.lb
def ig (hr:BS w B tb ab am p NB MB V oc) (hi:Ct lz p) (h0:(AH p.xs s).e=0) {x:Ino} (hn:(AH p.xs s).n≠0) (hx:p.xs[i]? =some x) (C:x.id=(AH p.xs s).n) (hd:x.dir=false) (hb:NB[i]? =some b):J3 lz oc p s B tb ab am w b:=by
 obtain ⟨h1,h2,h3,h4⟩:=Ll hi h0 hn hx C;unfold J3;rw [h1];exact ⟨NB,MB,V,i,x,hr,hi,hx,hd,hb,h4,h3,rfl,rfl⟩
def ij (hr:BS w B tb ab am p NB MB V oc) (hi:Ct lz p) (h0:(AH p.xs s).e=0) (hn:(AH p.xs s).n=0) {m:Nat} {pi:Nat} {px:Ino} (C:p.xs[pi]? =some px) (G:px.dir=true) (F:MB[pi]? =some m) (R:px.id=(AH p.xs s).dir) (T:name=(AH p.xs s).name) (hc:Eg p.xs NB px.id name=none)
  (hb:w.heap.size<=b) (M:b<w'.heap.size) (D:∃q,AE w' b 257 [.string q,.bool false,sN,.map none,iV 0]/\q.size≠0) (J:oc (p.last+1)=0) (hp:UV tb m p.xs.length ab p.xs.length p.li (AM p.cs) p.lb (Eg p.xs NB px.id) name b w w') (hB:B<=w.heap.size):J3 lz oc p s B tb ab am w' b:=by
 obtain ⟨h1,h2,h3,h4⟩:=Qp hi h0 hn;have I:=hi.opened s h0;unfold J3;rw [h1] at I ⊢;have H:=hr.tree.len.1
 have U:WG w m:=by
  obtain ⟨pb,O⟩:∃pb,NB[pi]? =some pb:=⟨_,zz (by rw [H];exact (zy.1 C).1)⟩;obtain ⟨qn,_,_,_,q,_⟩:=hr.tree.node pi px pb m C O F;exact (q G).2.isMap
 have ht:Bf w' B tb ab am p.li p.lb (AM p.cs) (p.xs++[Bq (p.last+1) px.id name false]) (NB++[b]) (MB++[b]) (V++[sN]) oc:=by
  refine hr.tree.added C G F hi.incr hc hp.1 hp.2.1 D J (o1 (hi.ids px (zv C)).1) (λq=>by cases q) (λ_=>rfl) hb hb M hp.2.2 (λz hz=> ?_) ?_ hB
  ·have:=(hi.down z hz).2;have:=(hi.ids z hz).2;omega
  ·have:=(hi.ids px (zv C)).2;omega
 rw [R,T] at ht;have hg:=hr.grew (q:=p.add (AH p.xs s).dir (AH p.xs s).name false) hi rfl hp.2.2 U ht;refine ⟨NB++[b],MB++[b],V++[sN],p.xs.length,Bq (p.last+1) (AH p.xs s).dir (AH p.xs s).name false,hg,I,?_,rfl,?_,?_,h3,F9 _,rfl⟩
 ·show (p.xs++[Bq (p.last+1) (AH p.xs s).dir (AH p.xs s).name false])[p.xs.length]? =_;rw [zn (zx _)];simp
 ·rw [<-H,zn (zx _)];simp
 ·rw [h4];show (p.cs++[[]])[p.xs.length]? =some [];rw [<-hi.len,zn (zx _)];simp
end
def In (p:PK) (f:AQ) (B tb ab am:Nat) (w:World) (e:Ending) (w':World):Prop:=
 Below B w w'/\((p.put f).1≠0/\e=Bz (p.put f).1\/(p.put f).1=0/\e= .returned .nilIface/\∃NB MB V,BS w' B tb ab am (p.put f).2 NB MB V oc0)
def eD:eN 69:=enters_of func69 kf rfl
def ZD:eN 68:=enters_of func68 kf rfl
def Ob (F:o.guard=none) (f n1 n2:Nat) (t1 t2:TypeId)
  (ho:o.op= .call {callee:= .value (.func f),args:=#[.tmp n1,.tmp n2],argTypes:=#[t1,t2]}) (v1 v2:Value) (h1:a.eval (.tmp n1)=v1) (h2:a.eval (.tmp n2)=v2)
  (he:∀args w,(callFunc f args).run P w= .ok (.enter f args) w) (C:Ending->World->Prop) (hp:∀e w',C e w'->∃r,e= .returned r) (hc:Calls P f #[v1,v2] w C) (d:Option Tmp) (hd:o.dst=d)
  (h:∀r w',C (.returned r) w'->K (a.put d r) w'):
  if Region.wanted o (yielded ops a.tmps)=true then Oper.wp P o a w K Q else E:=by
 have hw:Region.wanted o (yielded ops a.tmps)=true:=by simp [Region.wanted,F]
 have H:a.tmps[n1]?.getD undef=v1:=by rw [<-h1];simp [go_sem]
 have G:a.tmps[n2]?.getD undef=v2:=by rw [<-h2];simp [go_sem]
 rw [vu hw];subst hd;unfold Oper.wp;simp [execOp,ho,resolve,invoke,H,G,Result.andThen,go_sem,he];refine hc.mono ?_;intro e w' D;obtain ⟨r,rfl⟩:=hp e w' D;have:=h r w' D;simpa [go_sem] using this
def WR (F:o.guard=none) (f n1 n2 n4:Nat) (v3:Value) (ts:Array TypeId)
  (ho:o.op= .call {callee:= .value (.func f),args:=#[.tmp n1,.tmp n2,.const v3,.tmp n4],argTypes:=ts}) (v1 v2 v4:Value) (h1:a.eval (.tmp n1)=v1) (h2:a.eval (.tmp n2)=v2) (h4:a.eval (.tmp n4)=v4)
  (he:∀args w,(callFunc f args).run P w= .ok (.enter f args) w) (C:Ending->World->Prop) (hp:∀e w',C e w'->∃r,e= .returned r) (hc:Calls P f #[v1,v2,v3,v4] w C) (d:Option Tmp) (hd:o.dst=d)
  (h:∀r w',C (.returned r) w'->K (a.put d r) w'):
  if Region.wanted o (yielded ops a.tmps)=true then Oper.wp P o a w K Q else E:=by
 have hw:Region.wanted o (yielded ops a.tmps)=true:=by simp [Region.wanted,F]
 have I:a.tmps[n1]?.getD undef=v1:=by rw [<-h1];simp [go_sem]
 have H:a.tmps[n2]?.getD undef=v2:=by rw [<-h2];simp [go_sem]
 have G:a.tmps[n4]?.getD undef=v4:=by rw [<-h4];simp [go_sem]
 rw [vu hw];subst hd;unfold Oper.wp;simp [execOp,ho,resolve,invoke,I,H,G,Result.andThen,go_sem,he];refine hc.mono ?_;intro e w' D;obtain ⟨r,rfl⟩:=hp e w' D;have:=h r w' D;simpa [go_sem] using this
def Ua (p:PK) (B tb ab am q o c:Nat) (a:Option Addr) (NB MB:List Nat) (V:List Value) (f:AQ) (mm:Int) (w:World) (hr:BS w B tb ab am p NB MB V oc0) (hi:EX p) (b1:p.xs.length<=900000) (hu:AM p.cs<=1000000) (l3:0<=p.lb/\p.lb<=1000000) (a7:(p.xs.length:Int)<=p.li/\p.li<=1000000) (k7:(AM p.cs:Int)<=p.lb) (hs:f.path.size<=maxLen) (hL:f.bytes.length<=1000000)
  (ha:0<f.bytes.length->a=some (xK q o)/\q<B) (hv:Am w q o f.bytes) (hB:B<=w.heap.size) (hm:cE w 3 0 (iV mm)) (j1:3<B):
  cT 33 #[qP tb 0,.agg #[.string f.path,.bool f.dir,.slice a f.bytes.length c]] w (In p f B tb ab am w):=by
 obtain ⟨W0,f5⟩:=xE (w.alloc (Obj.cells #[.string f.path,.bool f.dir,.slice a f.bytes.length c] 39));have b6:Bw w W0:=by rw [f5];exact bA
 have f8:AE W0 w.heap.size 39 [.string f.path,.bool f.dir,.slice a f.bytes.length c]:=by rw [f5];exact AE.new w 39 _
 have c0:cE W0 w.heap.size 0 (.string f.path):=f8.cell rfl;have c1:W0.cell? (xK w.heap.size 1)=some (.bool f.dir):=f8.cell rfl;have k3:=hr.below b6;have Y:W0.cell? (xK 3 0)=some (iV mm):=by rw [b6.cell (p:=(xK 3 0)) (show 3<w.heap.size by omega)];exact hm
 obtain ⟨b0,k5,l9,i0,J,HA,HV,HI⟩:=H8 k3 Y f5 f8 b6 ha hv hi;have D:=AC (show p.xs.length<=900000/\AM p.cs<=1000000/\(0<=p.lb/\p.lb<=1000000)/\f.path.size<=maxLen/\f.bytes.length<=1000000/\B<=w.heap.size/\3<B from ⟨b1,hu,l3,hs,hL,hB,j1⟩);have a0:=AC (show (p.xs.length:Int)<=p.li/\p.li<=1000000/\(AM p.cs:Int)<=p.lb from ⟨a7.1,a7.2,k7⟩);have f0:w.heap.size<=W0.heap.size:=b6.size;have h0:Hid (W0.heap.size>=w.heap.size):=f0;obtain ⟨d,hd⟩:=xE f.dir;rw [<-hd] at c1;have HD:=AC hd;clear hr hi ha hv hm f5 b6 f8 k3 Y b1 hu l3 a7 k7 hs hL hB j1 f0 hd;go_enter func33,ntmps33
 go_upto_region 1 with fail
 rw [<-AB l9,<-AB HD]
 cases d with
 |true=>
  have j8:=AC (WI p B tb ab am (AM p.cs) NB MB V f.path mm W0 b0.tree HI D.1 ⟨o1 a0.1,a0.2.1⟩ ⟨om,a0.2.2⟩ D.2.2.1.2 D.2.2.2.1 k5 (o2 D.2.2.2.2.2 (AB h0)) (o2 D.2.2.2.2.2 (AB h0)) rfl)
  go_wp2_with fail
  refine j8.mono ?_;intro e w1 h1
  have HP:=AC (show In p f B tb ab am w e w1 from by
   have U:p.put f=p.mkdir f.path:=by unfold PK.put;rw [vu HD.symm]
   have Z:=b0.tree.low;have hl:=D.2.2.2.2.2;have l6:=J.size;unfold In;rw [U];rcases h1 with ⟨x1,x2,x3⟩|⟨x1,x2,m,nb,nm,x3,x4,x5,x6⟩
   ·exact ⟨(J.trans (x3.mono l6)).mono hl.1,.inl ⟨x1,x2⟩⟩
   ·refine ⟨(J.mono hl.1).trans (x4.below Z.1 x5 om),.inr ⟨x1,x2,NB++[nb],MB++[nm],V++[sN],?_⟩⟩
    have c3:(p.mkdir f.path).2=p.add (AH p.xs f.path).dir (AH p.xs f.path).name true:=by
     unfold PK.mkdir at x1 ⊢;split at x1
     ·rename_i y;exact absurd x1 y
     rename_i y1
     rw [vz y1];split at x1
     ·exact absurd x1 (show ¬(10:Int)=0 by decide)
     rename_i y2
     rw [vz y2];split at x1
     ·exact absurd x1 (show ¬(12:Int)=0 by decide)
     rename_i y3
     rw [vz y3]
    have hq:(p.mkdir f.path).2.cs=p.cs++[[]]:=by rw [c3];rfl
    have a7:(p.mkdir f.path).2.li=p.li/\(p.mkdir f.path).2.lb=p.lb:=by rw [c3];exact ⟨rfl,rfl⟩
    exact b0.grew (AB HI) hq x4 x6 (by rw [a7.1,a7.2];exact x3))
  obtain ⟨v,rfl⟩:∃v,e= .returned v:=by
   rcases h1 with ⟨_,x2,_⟩|⟨_,x2,_⟩
   ·exact ⟨_,x2⟩
   ·exact ⟨_,x2⟩
  clear h1 j8 c0 c1;go_wp2;go_ret
  exact AB HP
 |false=>
  have h7:p.xs≠[]:=by obtain ⟨x,hx,_⟩:=HI.root;intro e;rw [e] at hx;cases hx
  have g1:=AC (Gt B tb ab am p.li p.lb (AM p.cs) p.xs NB MB V f.path mm W0 b0.tree (λ_=>h7) (λx hx=>(HI.ids x hx).1) HI.incr D.2.2.2.1 k5 (o2 D.2.2.2.2.2 (AB h0)));have U:p.put f=(p.fileCode f.path f.bytes,p.fileOut f.path f.bytes):=by unfold PK.put;rw [vz (by rw [<-AB HD];decide)]
  have f3:=AC U;clear h7 U
  go_wp2_with fail
  refine g1.mono ?_;rintro e w1 ⟨a9,(⟨he,rfl⟩|⟨he,b,name,j7,rfl⟩)⟩
  ·have HP:=AC (show In p f B tb ab am w (Bz (AH p.xs f.path).e) (w1.alloc (Obj.cells #[.pointer none,.string ByteArray.empty,.string ByteArray.empty] 176)) from by
    have hl:=D.2.2.2.2.2;have hc:(p.put f).1=(AH p.xs f.path).e:=by rw [AB f3];show p.fileCode f.path f.bytes=_;unfold PK.fileCode;rw [vu he]
    refine ⟨(J.trans ((a9.alloc a9.size _).mono J.size)).mono hl.1,.inl ⟨by rw [hc];exact he,by rw [hc]⟩⟩)
   clear a9 he g1 c0 c1;unfold Jz;go_wp2;go_ret;exact AB HP
  ·have hl:=AB D;have f0:=J.size;obtain ⟨W2,f4⟩:=xE (w1.alloc (Obj.cells #[qP b 0,.string name,.string f.path] 176));have f2:Bw W0 W2:=by rw [f4];exact a9.alloc a9.size _
   have k0:AE W2 w1.heap.size 176 [qP b 0,.string name,.string f.path]:=by rw [f4];exact AE.new w1 176 _
   have j3:=i0.below f2 i0.lt;have a5:=b0.below f2;obtain ⟨m,k,ff,h4,g2,g7,g8,hk,l0,i1,M⟩:=WQ a5.tree HI he j7
   obtain ⟨dv,c6⟩:∃dv:Bool,∀c,ff name=some c->∃v0 vs,AE W2 c 257 (v0:: .bool dv::vs):=by
    rcases M with ⟨_,i,x,c,y1,y2,y3,y4⟩|⟨_,y,_⟩
    ·obtain ⟨mi,b9⟩:∃mi,MB[i]? =some mi:=⟨_,zz (by rw [a5.tree.len.2];exact (zy.1 y1).1)⟩;obtain ⟨qn,v1,j4,z1,_⟩:=a5.tree.node i x c mi y1 y3 b9;exact ⟨x.dir,λc' i8=>by rw [y4] at i8;obtain rfl:=zr i8;exact ⟨_,_,z1⟩⟩
    ·exact ⟨false,λc hc=>by rw [y] at hc;cases hc⟩
   have g4:=AC (K9 tb ab b m k p.xs.length p.li (AM p.cs) p.lb ff name f.path true dv h4 W2 a5.tree.tree ⟨om,om⟩ ⟨o1 a0.1,a0.2.1⟩ ⟨om,a0.2.2⟩ hl.2.2.1.2 g2 g7 g8 om c6);obtain ⟨h9,j2,a6,l1,b3⟩:=H5 f4 f2 k0 j3 a5;have a1:=AC (xi g2 (xi g7 (xi g8 (xi hk (xi l0 i1)))));obtain ⟨b7,m3,HE⟩:=H3 M c6 he;obtain ⟨PB,h8⟩:=xE w1.heap.size;clear a9 f4 f2 k0 j3 a5 g2 g7 g8 hk l0 i1 M c6 he j7 hl f0 g1;unfold Mb
   go_upto_region 4 with fail
   rw [<-AB h9];rw [<-h8] at a6 ⊢;clear h9 h8 c0 c1;have c0:cE W2 PB 0 (qP b 0):=a6.cell rfl;have c1:W2.cell? (xK PB 1)=some (.string name):=a6.cell rfl;have c2:cE W2 PB 2 (.string f.path):=a6.cell rfl
   go_wp2_with fail
   refine g4.mono ?_;rintro e w3 ⟨rfl,a3⟩;have X:Bw W0 w3:=j2.trans (a3.mono j2.size);have F:=b3.below a3
   have R:∀c,ff name=some c->∀v0 vs d,AE W2 c 257 (v0:: .bool d::vs)->d=dv:=by
    intro c hc v0 vs d hh;obtain ⟨m5,m4,a2⟩:=AB m3 c hc;unfold AE at hh a2;rw [hh] at a2;injection a2 with a2;injection a2 with a2;have:=congrArg Array.toList a2;simp at this;exact this.2.1
   have I:∀c:Int,WJ (ff name).isSome true (decide (p.li<=(p.xs.length:Int))) dv=c->c≠0->(p.put f).1=c:=by
    intro c hc j5;rw [AB f3];show p.fileCode f.path f.bytes=c;unfold PK.fileCode;rw [vz (sU (AB HE))];rcases AB b7 with ⟨hn,i,x,c',y1,y2,y3,y4⟩|⟨hn,y,_⟩
    ·rw [vz (λq=>hn q.1)];obtain ⟨q1,q2,_⟩:=Ll HI HE hn y1 y2;rw [q1]
     have f9:x.dir=dv:=by
      obtain ⟨mi,b9⟩:∃mi,MB[i]? =some mi:=⟨_,zz (by rw [b3.tree.len.2];exact (zy.1 y1).1)⟩;obtain ⟨qn,v1,j4,z1,_⟩:=b3.tree.node i x c' mi y1 y3 b9;exact R c' y4 _ _ _ z1
     rw [y4] at hc;show (if Ce p.xs x.id=true then _ else _)=c;rw [q2,f9]
     cases dv with
     |true=>exact hc
     |false=>exact absurd hc.symm j5
    ·rw [y] at hc;by_cases g5:p.li<=(p.xs.length:Int)
     ·rw [vu ⟨hn,g5⟩];rw [ve g5] at hc;exact hc
     ·rw [vf g5] at hc;exact absurd hc.symm j5
   obtain ⟨mc,c4⟩:=xE (WJ (ff name).isSome true (decide (p.li<=(p.xs.length:Int))) dv);rw [<-c4];by_cases hz:mc=0
   ·have a4:=AC (xi X F);have k8:=AC (show WJ (ff name).isSome true (decide (p.li<=(p.xs.length:Int))) dv=0 from by rw [<-c4];exact hz);have m2:=AC R;subst hz;have f1:=AC (a6.below a3 a6.lt);have l2:=AC (l1.below a3 l1.lt);have b2:=AC a3;clear I a3 X F R c4 g4 c0 c1 c2;rw [show Lj 0= .returned .nilIface from rfl];have c0:cE w3 PB 0 (qP b 0):=f1.cell rfl;have c1:w3.cell? (xK PB 1)=some (.string name):=f1.cell rfl;have c2:cE w3 PB 2 (.string f.path):=f1.cell rfl
    go_upto_region 9 with fail
    have hl:=AB D;have d0:Bw w3 w3.drew:=⟨rfl,rfl,rfl,zx _,λ_ _=>rfl⟩;have h3:Bw W2 w3.drew:=b2.trans (d0.mono b2.size);have F:BS w3.drew B tb ab am p NB MB V oc0:=a4.2.below d0;have O:AE w3.drew b 257 h4:=a1.1.below h3 a1.1.lt;have G:Aq w3.drew m k ff:=a1.2.2.1.kept (BE h3) sI;have X:B<=w3.heap.size:=o2 J.size a4.1.size
    have C:cT 69 #[qP tb 0,.agg #[qP b 0,.string name,.string f.path]] w3.drew λe w5=>∃b5,e= .returned (qP b5 0)/\J3 false oc0 p f.path B tb ab am w5 b5/\Below B w3 w5/\Lk w3 w5:=by
     refine (Y9 tb ab b m k p.xs.length p.li (AM p.cs) p.lb ff name f.path h4 w3.drew F.tree.tree ⟨om,om⟩ (o1 (du HE)) (AC (ib HE)) O a1.2.1 G (o1 a1.2.2.2.1) (o1 a1.2.2.2.2.1)).mono ?_;rintro e w5 (⟨c5,f7,rfl,a8⟩|⟨i2,nb,rfl,z1,z2,z3,z4⟩)
     ·have b8:Bw w3 w5:=d0.trans a8;refine ⟨c5,rfl,?_,b8.mono X,Lk.below b8⟩;rcases AB b7 with ⟨hn,i,x,c',y1,y2,y3,y4⟩|⟨hn,y,_⟩
      ·rw [y4] at f7;obtain rfl:=zr f7
       have f9:x.dir=false:=by
        obtain ⟨mi,b9⟩:∃mi,MB[i]? =some mi:=⟨_,zz (by rw [b3.tree.len.2];exact (zy.1 y1).1)⟩;obtain ⟨qn,v1,j4,q1,_⟩:=b3.tree.node i x c' mi y1 y3 b9;have c6:=AB m2 c' y4 _ _ _ q1;have Y:=AB k8;rw [y4] at Y;rw [c6]
        cases dv with
        |true=>exact absurd Y (show ¬(11:Int)=0 by decide)
        |false=>rfl
       exact ig (F.below a8) HI HE hn y1 y2 f9 y3
      ·rw [y] at f7;cases f7
     ·have Z:=F.tree.low;have l7:=a1.2.2.2.2.2;refine ⟨nb,rfl,?_,?_,λkk t vs l5 t1 t2 t3=> ?_⟩
      ·rcases AB b7 with ⟨hn,i,x,c',y1,y2,y3,y4⟩|⟨hn,y,pi,px,x1,x2,x3,x4,x5,x6,x7⟩
       ·rw [y4] at i2;cases i2
       ·subst x6 x7;exact ij F HI HE hn x1 x2 x3 x4 x5 y z1 z2 z3 rfl z4 X
      ·have:=z4.2.2.below (B:=B) Z.1 l7 X;exact ⟨this.os,this.tape,this.output,this.size,this.block⟩
      ·have c8:AE w3.drew kk t vs:=l5.heap rfl;exact AJ c8 (z4.2.2.block kk c8.lt (Ab c8 F.tree.tree t1) (Cy G c8))
    have c9:cE w3 PB 0 (qP b 0)/\cE w3 PB 1 (.string name)/\cE w3 PB 2 (.string f.path)/\cE w3 w.heap.size 2 (.slice a f.bytes.length c):=⟨c0,c1,c2,l2.cell rfl⟩
    have R1:=AC (show ∀w':World,(w'.cell? (xK PB 0)=some (qP b 0)/\w'.cell? (xK PB 1)=some (.string name)/\w'.cell? (xK PB 2)=some (.string f.path)/\w'.cell? (xK w.heap.size 2)=some (.slice a f.bytes.length c))->(Instr.loadAt 176 (qP PB 0)).run prog w'= .ok (.agg #[qP b 0,.string name,.string f.path]) w' from λw' h=>by
     have c:=h.1;have d:=h.2.1;have d':=h.2.2.1;clear h c9 C F O G
     go_simp)
    have R2:=AC (show ∀w':World,(w'.cell? (xK PB 0)=some (qP b 0)/\w'.cell? (xK PB 1)=some (.string name)/\w'.cell? (xK PB 2)=some (.string f.path)/\w'.cell? (xK w.heap.size 2)=some (.slice a f.bytes.length c))->(Instr.loadAt 36 (qP w.heap.size 2)).run prog w'= .ok (.slice a f.bytes.length c) w' from λw' h=>by
     have d:=h.2.2.2;clear h c9 C F O G
     go_simp)
    have k4:=AC C;have l8:=AC c9;clear C c9 F O G d0 h3 hl c0 c1 c2;refine Ak ?_;intro A hA;have e0:A.eval (.tmp 0)= qP tb 0:=eH hA;have e3:A.eval (.tmp 3)= qP w.heap.size 0:=eH hA;have e5:A.eval (.tmp 5)= qP PB 0:=eH hA;have f6:A.tmps.size=37:=eZ hA;have i6:=AC hA;clear hA;refine xf (S:=λw'=>w'.cell? (xK PB 0)=some (qP b 0)/\w'.cell? (xK PB 1)=some (.string name)/\w'.cell? (xK PB 2)=some (.string f.path)/\w'.cell? (xK w.heap.size 2)=some (.slice a f.bytes.length c)) kf l8 (λhS=> ?_);refine tq 0 30 rfl (yM (qP tb 0)) hS (tq 1 31 rfl (yM (qP tb 0)) hS (tq 2 32 rfl (yl R1) hS (tq 4 34 rfl (yF (qP w.heap.size 0) (qP w.heap.size 2)) hS (tq 5 35 rfl (yl R2) hS ?_))))
    refine rdy [3] kf (vq rfl (λK hK=> ?_) vr);refine Ob rfl 69 31 32 _ _ rfl (qP tb 0) (.agg #[qP b 0,.string name,.string f.path]) sE sE eD _ (λe w' h=>by obtain ⟨b5,h,_⟩:=h;exact ⟨_,h⟩) k4 (some 33) rfl ?_;rintro r5 w5 ⟨b5,g9,b4,a8,h2⟩;have g9:r5= qP b5 0:=by injection g9
    subst g9;have H:=h2 PB _ _ f1 dz dz dz;have g0:=h2 w.heap.size _ _ l2 dz dz dz;refine hK.out _ _ ⟨H.cell rfl,H.cell rfl,H.cell rfl,g0.cell rfl⟩ (λ_=> ?_);clear hK K;obtain ⟨i4,j9,V5,i5,x5,d1,d2,d3,d4,d5,d6,d7,d8,d9⟩:=b4;have hl:=AB D;have k2:B<=w5.heap.size:=o1 a8.size;have g3:Below B w w5:=((J.mono hl.2.2.2.2.2.1).trans (a4.1.mono (o1 J.size))).trans a8
    have j0:Am w5 q o f.bytes:=by
     intro j hj;have hq:=(AB HA om).2;rw [g3.cell (p:=(xK q (o+j))) hq];exact AB HV j hj
    have g6:¬((AH p.xs f.path).n=0/\p.li<=(p.xs.length:Int)):=by
     rintro ⟨q1,q2⟩;have Y:=AB k8;rcases AB b7 with ⟨hn,_⟩|⟨_,y,_⟩
     ·exact hn q1
     ·rw [y,ve q2] at Y;exact absurd Y (show ¬(12:Int)=0 by decide)
    have i7:((p.opened f.path).1.xs.length:Int)<=(p.opened f.path).1.li/\(p.opened f.path).1.li<=1000000:=by
     have:=AB a0;unfold PK.opened;split
     ·rename_i q
      refine ⟨?_,this.2.1⟩;show (((p.xs++[Bq (p.last+1) (AH p.xs f.path).dir (AH p.xs f.path).name false]).length:Nat):Int)<=p.li;rw [zm];have:¬p.li<=(p.xs.length:Int):=λq2=>g6 ⟨q,q2⟩;simp;omega
     ·exact ⟨this.1,this.2.1⟩
    have h5:=AC (eC (p.opened f.path).1 B tb ab am i5 b5 q o c a i4 j9 V5 x5 f.bytes _ w5 d1 d2 d3 d4 d5 d6 hl.2.2.2.2.1 (by rw [d8];exact hl.2.1) (by rw [d9];exact hl.2.2.1) i7 (AB HA) j0 k2);have i3:((((((A.put (some 30) (qP tb 0)).put (some 31) (qP tb 0)).put (some 32) (.agg #[qP b 0,.string name,.string f.path])).put (some 34) (qP w.heap.size 2)).put (some 35) (.slice a f.bytes.length c)).put (some 33) (qP b5 0)).eval (.tmp 30)= qP tb 0:=by simp [Ae,AU,f6,e0,e3,e5]
    have k6:((((((A.put (some 30) (qP tb 0)).put (some 31) (qP tb 0)).put (some 32) (.agg #[qP b 0,.string name,.string f.path])).put (some 34) (qP w.heap.size 2)).put (some 35) (.slice a f.bytes.length c)).put (some 33) (qP b5 0)).eval (.tmp 33)= qP b5 0:=by simp [Ae,AU,f6,e0,e3,e5]
    have k1:((((((A.put (some 30) (qP tb 0)).put (some 31) (qP tb 0)).put (some 32) (.agg #[qP b 0,.string name,.string f.path])).put (some 34) (qP w.heap.size 2)).put (some 35) (.slice a f.bytes.length c)).put (some 33) (qP b5 0)).eval (.tmp 35)= .slice a f.bytes.length c:=by simp [Ae,AU,f6,e0,e3,e5]
    refine rdy [6] kf (vq rfl (λK hK=> ?_) vr)
    refine WR rfl 68 30 33 35 (iV 0) _ rfl (qP tb 0) (qP b5 0) (.slice a f.bytes.length c) i3 k6 k1 ZD _ (λe w' h=>by
     rcases h.2 with ⟨_,q⟩|⟨_,q,_⟩
     ·exact ⟨_,q⟩
     ·exact ⟨_,q⟩) h5 (some 36) rfl ?_
    intro r6 w6 h6;have T:=h6.1.2 PB _ _ H dz dz dz;have j6:=h6.1.2 w.heap.size _ _ g0 dz dz dz;refine hK.out _ _ ⟨T.cell rfl,T.cell rfl,T.cell rfl,j6.cell rfl⟩ (λk9=> ?_);clear hK K
    have HP:=AC (show In p f B tb ab am w (.returned r6) w6 from by
     have l4:Ce (p.opened f.path).1.xs (p.opened f.path).2=false:=by
      rcases AB b7 with ⟨hn,i,x,c',y1,y2,y3,y4⟩|⟨hn,y,_⟩
      ·obtain ⟨q1,q2,q3,_⟩:=Ll HI HE hn y1 y2;rw [q1] at d3 d7 ⊢;have m1:i5=i:=by rw [<-d7];exact q3
       subst m1;have i9:p.xs[i5]? =some x5:=d3;rw [y1] at i9;obtain rfl:=zr i9;exact q2.trans d4
      ·obtain ⟨q1,q2,_⟩:=Qp HI HE hn;rw [q1];exact q2
     have c7:(p.put f).1=if 0<f.bytes.length/\p.lb<(AM (p.opened f.path).1.cs:Int)-(((p.opened f.path).1.old (p.opened f.path).2).length:Int)+((max f.bytes.length ((p.opened f.path).1.old (p.opened f.path).2).length:Nat):Int) then 12 else 0:=by
      rw [AB f3];show p.fileCode f.path f.bytes=_;unfold PK.fileCode;rw [vz (sU (AB HE)),vz g6,vz (by rw [l4];decide)]
     have m0:(p.put f).2=if f.bytes.length=0 then (p.opened f.path).1 else {(p.opened f.path).1 with cs:=(p.opened f.path).1.cs.set i5 (Fb ((p.opened f.path).1.old (p.opened f.path).2) f.bytes)}:=by
      rw [AB f3,<-d7];rfl
     refine ⟨g3.trans h6.1.1,?_⟩;rcases h6.2 with ⟨q1,q2⟩|⟨q1,q2,V',q3⟩
     ·rw [d9] at q1;rw [vu q1] at c7;exact .inl ⟨by rw [c7];decide,by rw [c7];exact q2⟩
     ·rw [d9] at q1;rw [vz q1] at c7
      exact .inr ⟨c7,q2,i4,j9,V',by rw [m0];exact q3⟩)
    refine tq 7 4 rfl (yA r6) k9 ?_;refine vg kf ?_ _;rw [AB i6];simp only [Act.put,zl,zh,zi];clear T j6 h6 i3 k6 k1 h5 g6 i7 j0 g3 k2 hl d1 d2 d3 d4 d5 d6 d7 d8 d9 H g0 a8 h2 i6 e0 e3 e5 f6 hS k9 k4 R1 R2;go_wp2;go_ret;exact AB HP
   ·have HP:=AC (show In p f B tb ab am w (Bz mc) w3 from by
     have hc:=I mc c4.symm hz;have hl:=D.2.2.2.2.2
     refine ⟨(J.trans (X.mono J.size)).mono hl.1,.inl ⟨by rw [hc];exact hz,by rw [hc]⟩⟩)
    rw [show Lj mc=Bz mc from by unfold Lj;rw [vz hz]];clear I a3 X F R c4 g4 c0 c1 c2 hz;unfold Bz;go_wp2;go_ret;exact AB HP
def Do (hg:o.guard=none) (t:Nat) (ts:Array TypeId) (ho:o.op= .call {callee:= .builtin .len,args:=#[.tmp t],argTypes:=ts}) (v:Value) (hx:A.eval (.tmp t)=v) (r:Value) (C:∀w',S w'->(Builtin.len_ ts o.type #[v]).run P w'= .ok r w'):YieldsIf P ops S o r A:=
 Bm hg λw' hS=>by
  have D:A.tmps[t]?.getD undef=v:=by rw [<-hx];simp [go_sem]
  have:=C w' hS;simp [execOp,ho,D,invoke,resolve,go_sem,this]
def EF (hg:o.guard=none) (ty:TypeId) (parts:Array (Nat×Operand)) (ho:o.op= .build ty parts) (C:Array (Nat×Value)) (hv:(parts.map λ(i,x)=>(i,A.eval x))=C) (v:Value) (D:∀w,(Instr.build ty C).run P w= .ok v w):YieldsIf P ops S o v A:=
 Bm hg λw' hS=>by
  simp only [execOp,ho];rw [hv];simp [D]
def PV (F:o.guard=none) (ty:TypeId) (x y:Operand) (ho:o.op= .store ty x y)
  (g off:Nat) (cs:List Value) (hx:a.eval x= qP g off) (hy:a.eval y= .agg cs.toArray)
  (t:TypeId) (D:List Value) (hg:AE w g t D) (hi:(P.info? ty).map (·.size)=some cs.length) (C:off+cs.length<=D.length) (h1:∀v∈cs,v.oneCell'=true) (hd:o.dst=none)
  (h:∀w',Hid (AE w' g t (splice D off cs))->Hid (w.grownBy w' (some g))->K a w'):
  if Region.wanted o (yielded ops a.tmps)=true then Oper.wp P o a w K Q else E:=by
 have hw:Region.wanted o (yielded ops a.tmps)=true:=by simp [Region.wanted,F]
 rw [vu hw];refine wp_store_mid ty x y ho g off cs.toArray hx hy (N4 hg _ _ (sU C)) (sU hi) (all_oneCell_toArray h1) ?_;rw [hd];exact h _ (AC (Ep cs off _ _ hg C)) (AC (Er cs off w ⟨rfl,rfl,rfl,zx _,λ_ _ _=>rfl⟩))
def J4:eN 132:=enters_of func132 kf rfl
def Qq (kb pm pb:Nat) (lp lf lo li lb:Int) (tb cb:Nat) (PS:List Pg) (w:World) (hk:AE w kb 110 (Im lp lf lo li lb tb cb pm)) (hm:Ei w pm pb) (I:pb<w.heap.size) (hp:Hy w pb PS) (O:Bc PS) (hn:PS.length<=256) (T:0<=lf/\lf<=1000000):
  cT 74 #[qP kb 0] w λe w'=>e= .returned (iV (lf-(PS.length:Int)))/\Bw w w':=by
 have H:Bw w w.drew:=⟨rfl,rfl,rfl,zx _,λ_ _=>rfl⟩;have J:=AC (ZC kb pm pb lp lf lo li lb tb cb PS w.drew (hk.heap rfl) (hm.kept (BE H) sI) I (hp.below H I) O hn);have F:cE w kb 1 (iV lf):=hk.cell rfl;have R:=hk.lt
 have R1:=AC (show ∀w':World,w'.cell? (xK kb 1)=some (iV lf)->(Instr.loadAt 3 (qP kb 1)).run prog w'= .ok (iV lf) w' from λw' h=>by
  clear F hk hm hp
  go_simp)
 have M:=AC F;have Z: -9223372036854775808<=lf-(PS.length:Int):=om;have Y:lf-(PS.length:Int)<=9223372036854775807:=om
 have R2:=AC (show ∀w':World,((do eqGuard .sub 3 (.tmp 7) (.tmp 9) (iV lf) (iV (PS.length:Nat));binOp .sub 3 (iV lf) (iV (PS.length:Nat)):Sem Value)).run prog w'= .ok (iV (lf-(PS.length:Int))) w' from λw'=>by
  clear F hk hm hp;go_simp;rw [yg]
  omega)
 clear hk hm hp O F H hn T;go_enter func74,ntmps74
 go_upto_region 1 with fail
 refine Ak ?_;intro A hA;have e0:A.eval (.tmp 0)= qP kb 0:=eH hA;have X:A.tmps.size=11:=eZ hA;have HA:=AC hA;clear hA;refine xf (S:=λw'=>w'.cell? (xK kb 1)=some (iV lf)) kf M (λhS=> ?_);refine tq 0 3 rfl (yM (qP kb 0)) hS (tq 1 4 rfl (yN (xK kb 0)) hS (tq 2 5 rfl (yF (qP kb 0) (qP kb 0)) hS (tq 3 6 rfl (yF (qP kb 0) (qP kb 1)) hS (tq 4 7 rfl (yl R1) hS (tq 5 8 rfl (yM (qP kb 0)) hS ?_)))));refine rdy [6] kf (vq rfl (λK hK=> ?_) vr);refine DH rfl 132 8 _ rfl (qP kb 0) sE J4 _ (iV (PS.length:Nat)) (λe w' h=>h.1) J (some 9) rfl ?_;rintro w2 ⟨_,D⟩;have C:Bw w w2:=⟨D.os,D.tape,D.output,D.size,D.block⟩
 refine hK.out _ _ (by rw [C.cell (p:=(xK kb 1)) R];exact AB M) (λG=> ?_);clear hK K;refine tq 7 10 rfl (yB (iV lf) (iV (PS.length:Nat)) (iV (lf-(PS.length:Int))) R2) G ?_;refine tq 8 2 rfl (yA (iV (lf-(PS.length:Int)))) G ?_;refine vg kf ?_ _;have U:=AC C;rw [AB HA];simp only [Act.put,zl,zh,zi];clear D C hS G HA e0 X R1 R2 J;go_wp2;go_ret;exact ⟨rfl,AB U⟩
def QIs (w:World) (B:Nat) (v:Value) (L:List Int):Prop:=
 v= sN/\L=[]\/∃(R:Nat) (X T Y:List Int),v= sL R X.length L.length (L.length+T.length)/\AE w R 5 (AF (X++L++T++Y))/\L.length+T.length<=maxLen/\B<=R
def QIs.block (h:QIs w B v L) (hk:∀R,AV v=some R->R<w.heap.size->(∃l,AE w R 5 l)->w'.heap[R]? =w.heap[R]?):QIs w' B v L:=by
 rcases h with h|⟨R,X,T,Y,h1,h2,h3⟩
 ·exact .inl h
 ·exact .inr ⟨R,X,T,Y,h1,AJ h2 (hk R (by rw [h1];rfl) h2.lt ⟨_,h2⟩),h3⟩
def QIs.below (h:QIs w B v L) (hb:Bw w w'):QIs w' B v L:=h.block λR _ hl _=>hb.block R hl
def QIs.len (h:QIs w B v L):∃a c,v= .slice a L.length c:=by
 rcases h with ⟨h1,h2⟩|⟨R,X,T,Y,h1,_⟩
 ·exact ⟨none,0,by rw [h1,h2];rfl⟩
 ·exact ⟨_,_,h1⟩
def Td (w:World) (x:Value) (N:List Int):Prop:=∃a c,x= .slice a N.length c/\(0<N.length->∃q o,a=some (xK q o)/\q<w.heap.size/\Am w q o N)
def cC:∃i,prog.info? 5=some i/\i.zero=some (.int .u8 0)/\i.size=1/\i.bytes=1:=by
 have h0:=WL
 cases h:prog.info? 5 with
 |none=>rw [h] at h0;cases h0
 |some i=>
  rw [h] at h0;exact ⟨i,rfl,by simpa using h0⟩
def Td.src {N:List Int} (h:Td w x N):Src prog 1 36 x N.length (AF N) w:=by
 obtain ⟨a,c,rfl,h2⟩:=h;by_cases hp:0<N.length
 ·obtain ⟨q,o,rfl,_,h5⟩:=h2 hp;refine Src.ofSlice w underlying36 (xK q o) N.length c (AF N) (by rw [AG,Nat.mul_one]) (λj u hj=> ?_) (C4 N);have C:=(zy.1 hj).1;rw [AG] at C;rw [Addr.add_mid,h5 j C,<-AN N j C];exact hj
 ·have hN:N=[]:=uz om;subst hN
  cases a with
  |none=>exact Src.ofNil w underlying36 c
  |some a=>exact Src.ofSlice w underlying36 a 0 c [] rfl (λj u hj=>by simp at hj) (λu hu=>by cases hu)
def ft (X L T Y N:List Int) (h:N.length<=T.length):splice (X++L++T++Y) (X.length+L.length) N=X++(L++N)++T.drop N.length++Y:=by
 unfold splice;rw [xu (X++L) T Y,List.take_left' sI,show X.length+L.length+N.length=(X++L).length+N.length by simp,rm,yc,List.drop_append_of_le_length h];simp
def Rk (w:World) (a:Option Addr) (c:Nat):(Builtin.append_ #[36,36] 36 #[sN,.slice a 0 c]).run prog w= .ok sN w:=by
 obtain ⟨i,hi,hz,hs,hb⟩:=cC;cases a<;>simp [Builtin.append_,ue underlying36,sizeOf,typeInfo,hi,Builtin.lenOf,Builtin.firstCells,hs,loadCells,loadCellsFrom]
def VC (w:World) (B:Nat) (v x:Value) (L N:List Int) (h:QIs w B v L) (hx:Td w x N) (hB:B<=w.heap.size) (hl:L.length+N.length<=10000000):
  ∃v' w',(Builtin.append_ #[36,36] 36 #[v,x]).run prog w= .ok v' w'/\QIs w' B v' (L++N)/\w.grownBy w' (AV v)/\(AV v'=AV v\/AV v'=some w.heap.size):=by
 obtain ⟨i,hi,hz,hs,hb⟩:=cC;have D:=hx.src;rw [<-hs] at D
 have F:∀(base:Option Addr) (C:Nat),v= .slice base L.length C->(Builtin.firstCells i.size L.length (.slice base L.length C)).run prog w.drew= .ok (AF L).toArray w.drew->C<L.length+N.length->∃v' w',(Builtin.append_ #[36,36] 36 #[v,x]).run prog w= .ok v' w'/\QIs w' B v' (L++N)/\w.grownBy w' (AV v)/\(AV v'=AV v\/AV v'=some w.heap.size):=by
  intro base C hv G hg;rw [hv];have hr:=run_append_grow_src w 36 36 36 5 i (.int .u8 0) underlying36 hi hz base L.length C (AF L) G x N.length (AF N) D hg om (growslice_fits hg (by rw [hb];omega));have J:=grownCap_ge w (L.length+N.length) C 5;have M:=grownCap_le_maxLen w (L.length+N.length) C 5 (by unfold maxLen;omega);refine ⟨_,_,hr,.inr ⟨w.heap.size,[],List.replicate (grownCap w (L.length+N.length) C 5-(L.length+N.length)) 0,[],?_,?_,?_,hB⟩,⟨rfl,rfl,rfl,sI,λk hk _=>heap_alloc_old w.drew _ hk⟩,.inr rfl⟩
  ·rw [zm,tz,show L.length+N.length+(grownCap w (L.length+N.length) C 5-(L.length+N.length))=grownCap w (L.length+N.length) C 5 by omega];rfl
  ·rw [FD,show (AF L++AF N).toArray++(AF (List.replicate (grownCap w (L.length+N.length) C 5-(L.length+N.length)) 0)).toArray=(AF ([]++(L++N)++List.replicate (grownCap w (L.length+N.length) C 5-(L.length+N.length)) 0++[])).toArray from by simp [AF]];exact AE.new w.drew 5 _
  ·rw [zm,tz];omega
 rcases h with ⟨rfl,rfl⟩|⟨R,X,T,Y,rfl,h2,h3,h4⟩
 ·by_cases hN:N.length=0
  ·have H:N=[]:=uz hN;subst H;obtain ⟨a,c,rfl,_⟩:=hx;exact ⟨_,w,Rk w a c,.inl ⟨rfl,rfl⟩,zj _ _,.inl rfl⟩
  ·exact F none 0 rfl (run_firstCells_none w.drew i.size 0 0 0) sO
 ·by_cases hg:L.length+T.length<L.length+N.length
  ·refine F (some (xK R X.length)) (L.length+T.length) rfl ?_ hg;refine run_firstCells_some (P:=prog) w.drew i.size L.length (xK R X.length) L.length _ (AF L) (by rw [AG,hs,Nat.mul_one]) (λj v hj=> ?_);have hd:AE w.drew R 5 (AF (X++L++T++Y)):=h2.heap rfl;rw [Addr.add_mid];refine hd.cell ?_;have I:=(zy.1 hj).1;rw [DU,DU,DU,xu,xu,zn (by rw [AG];omega),AG,show X.length+j-X.length=j by omega,zo I];exact hj
  ·have hN:N.length<=T.length:=om
   have hr:=run_append_room_src w 36 36 36 5 i underlying36 hi R X.length L.length (L.length+T.length) x N.length (AF N) D om (λj hj=>by
    rw [AG] at hj;rw [hs,Nat.mul_one,h2.cell (AN _ (X.length+L.length+j) sO)]
    rfl) (λj hj=>h2.frozen _)
   rw [hs,Nat.mul_one] at hr;have hh:=Ep (AF N) (X.length+L.length) w _ h2 (by rw [AG,AG];simp;omega);rw [CD,ft X L T Y N hN] at hh;refine ⟨_,_,hr,.inr ⟨R,X,T.drop N.length,Y,?_,hh,?_,h4⟩,Er _ _ w (zj _ _),.inl rfl⟩
   ·rw [zm,sx,show L.length+N.length+(T.length-N.length)=L.length+T.length by omega]
   ·rw [zm,sx];omega
def QIs.view {R o n:Nat} (h:QIs w B (sL R o n c) L):Am w R o L:=by
 rcases h with ⟨h1,_⟩|⟨R',X,T,Y,h1,h2,_⟩
 ·cases h1
 ·injection h1 with h1 h3 h4;injection h1 with h1;injection h1 with h1 h5;subst h1 h5;intro j hj;rw [h2.cell (AN _ (X.length+j) sO)];simp only [zk];rw [xu,xu,zn om,show X.length+j-X.length=j by omega,zo hj]
def QIs.drop {a:Option Addr} {C:Nat} (h:QIs w B (.slice a C c) L) (n:Nat) (hn:n<=L.length):QIs w B (.slice (if c=n then a else a.map (λx=>x.add n)) (C-n) (c-n)) (L.drop n)/\L.length=C/\C<=c/\(a=none->c=0)/\∀x,a=some x->∃q o,x=(xK q o):=by
 rcases h with ⟨h1,rfl⟩|⟨R,X,T,Y,h1,h2,h3,h4⟩
 ·injection h1 with h1 h5 h6;subst h1 h5 h6;have D:n=0:=sU hn;subst D;exact ⟨.inl ⟨rfl,rfl⟩,rfl,zx _,λ_=>rfl,λx hx=>by cases hx⟩
 ·injection h1 with h1 h5 h6;subst h1 h5 h6;refine ⟨.inr ?_,rfl,om,(λe=>by cases e),λx hx=> ?_⟩
  ·by_cases hc:L.length+T.length=n
   ·have hT:T=[]:=uz om;subst hT;have hd:L.drop n=[]:=xw (by simp at hc;omega);refine ⟨R,X,[],L++Y,?_,?_,by rw [hd];simp,h4⟩
    ·rw [vu hc,hd];simp at hc;simp [hc]
    ·rw [hd];simpa using h2
   ·refine ⟨R,X++L.take n,T,Y,?_,?_,by rw [sx];omega,h4⟩
    ·rw [vz hc,sx,zm,yr,Nat.min_eq_left hn];show Value.slice (some (((xK R X.length):Addr).add n)) _ _=_;rw [Addr.add_mid,show L.length+T.length-n=L.length-n+T.length by omega]
    ·rw [xu X,uq];exact h2
  ·obtain rfl:=zr hx;exact ⟨R,X.length,rfl⟩
structure POp where
 kind:Int
 a:Int
 b:Int
 ck:Int
 ca:Int
 cb:Int
 s:ByteArray
 ss:List ByteArray
 B:List Int
 E:List Int
 lv:Value
 bv:Value
 ev:Value
def POp.call (o:POp):List Value:=[iV o.ck,iV o.ca,iV o.cb,.string o.s,o.lv,o.bv]
def POp.cells (o:POp):List Value:=[iV o.kind,iV o.a,iV o.b,iV o.ck,iV o.ca,iV o.cb,.string o.s,o.lv,o.bv,o.ev]
def Rr (w:World) (N:Nat) (x:Value) (B:List Int):Prop:=∃a q o c,x= .slice a B.length c/\(0<B.length->a=some (xK q o)/\q<N)/\Am w q o B
def Th (w:World) (N:Nat) (x:Value) (ss:List ByteArray):Prop:=∃a q o c,x= .slice a ss.length c/\(0<ss.length->a=some (xK q o)/\q<N)/\∀i,i<ss.length->w.cell? (xK q (o+i))=some (.string (ss.getD i ByteArray.empty))
structure Nv (w:World) (N:Nat) (o:POp):Prop where
 strs:Th w N o.lv o.ss
 bs:Rr w N o.bv o.B
 es:Rr w N o.ev o.E
def Rr.below {B:List Int} (h:Rr w N x B) (hb:Below N w w'):Rr w' N x B:=by
 obtain ⟨a,q,o,c,h1,h2,h3⟩:=h;refine ⟨a,q,o,c,h1,h2,λi hi=> ?_⟩;rw [hb.cell (p:=(xK q (o+i))) (h2 om).2];exact h3 i hi
def Rr.kept {B:List Int} (h:Rr w N x B) (hb:∀k,k<N->w'.heap[k]? =w.heap[k]?):Rr w' N x B:=by
 obtain ⟨a,q,o,c,h1,h2,h3⟩:=h;refine ⟨a,q,o,c,h1,h2,λi hi=> ?_⟩;unfold World.cell?;rw [hb q (h2 om).2];exact h3 i hi
def Th.below {B:List ByteArray} (h:Th w N x B) (hb:Below N w w'):Th w' N x B:=by
 obtain ⟨a,q,o,c,h1,h2,h3⟩:=h;refine ⟨a,q,o,c,h1,h2,λi hi=> ?_⟩;rw [hb.cell (p:=(xK q (o+i))) (h2 om).2];exact h3 i hi
def Nv.below {o:POp} (h:Nv w N o) (hb:Below N w w'):Nv w' N o:=⟨h.strs.below hb,h.bs.below hb,h.es.below hb⟩
structure IG (w:World) (N:Nat) (sa:Option Addr) (sb so:Nat) (OZ:List POp):Prop where
 at_:0<OZ.length->sa=some (xK sb so)/\sb<N
 cell:∀(i:Nat) (o:POp),OZ[i]? =some o->∀(j:Nat) (v:Value),o.cells[j]? =some v->w.cell? (xK sb (so+i*10+j))=some v
 each:∀o∈OZ,Nv w N o
def IG.below {sa:Option Addr} {sb so:Nat} {OZ:List POp} (h:IG w N sa sb so OZ) (hb:Below N w w'):IG w' N sa sb so OZ:=by
 refine ⟨h.at_,λi o ho j v hv=> ?_,λo ho=>(h.each o ho).below hb⟩;have hl:=(zy.1 ho).1;rw [hb.cell (p:=(xK sb (so+i*10+j))) (h.at_ om).2];exact h.cell i o ho j v hv
structure KQ (o:POp):Prop where
 s:o.s.size<=2000000
 n:o.ss.length<=2000000
 ss:∀x∈o.ss,x.size<=2000000
 b:o.B.length<=2000000
 e:o.E.length<=2000000
def IY (ss:List ByteArray) (j:Nat):Nat:=((ss.take j).map ByteArray.size).sum
def CU (o:POp):Nat:=if 1000<o.ss.length then 200001 else o.s.size+o.B.length+IY o.ss o.ss.length
def KS (OZ:List POp) (j:Nat):Nat:=((OZ.take j).map (λo=>CU o+o.E.length)).sum
def E4 (FZ:List AQ) (OZ:List POp):Bool:=decide (OZ.length<=400)&&(decide (FZ.length<=100)&&decide (Dy FZ FZ.length+KS OZ OZ.length<=200000))
def JV {α:Type} {l:List α} {j:Nat} {x:α} (h:l[j]? =some x) (f:α->Nat):((l.take (j+1)).map f).sum=((l.take j).map f).sum+f x:=by
 rw [uw,h];simp
def L7 {α:Type} {f:α->Nat} {M:Nat}:∀(l:List α),(∀x∈l,f x<=M)->(l.map f).sum<=l.length*M
 |[],_=>sI
 |a::r,h=>by
  have h1:=L7 r (λx hx=>h x (by simp [hx]));have h2:=h a sI;simp only [ub,rz,um];rw [Nat.add_mul];omega
def Ti {ss:List ByteArray} (h:∀x∈ss,x.size<=2000000) (hn:ss.length<=1000) (j:Nat):IY ss j<=2000000000:=by
 have h1:=L7 (f:=ByteArray.size) (ss.take j) (λx hx=>h x (sm hx));have h2:(ss.take j).length<=1000:=by rw [yr];omega
 unfold IY;omega
def LL {o:POp} (h:KQ o):CU o<=3000000000:=by
 unfold CU;split
 ·omega
 ·have h1:=Ti h.ss om o.ss.length;have h2:=h.s;have h3:=h.b;omega
def kX {OZ:List POp} (h:∀o∈OZ,KQ o) (hn:OZ.length<=400) (j:Nat):KS OZ j<=4000000000000:=by
 have h1:=L7 (f:=λo:POp=>CU o+o.E.length) (M:=4000000000) (OZ.take j) (λx hx=>o2 (LL (h x (sm hx))) (h x (sm hx)).e);have h2:(OZ.take j).length<=400:=by rw [yr];omega
 unfold KS;omega
def aW (o:POp) (N:Nat) (w:World) (h:Nv w N o) (hN:N<=w.heap.size) (hz:KQ o):cT 15 #[.agg o.call.toArray] w λe w'=>e= .returned (iV (CU o:Nat))/\Bw w w':=by
 obtain ⟨la,lq,lo,lc,X,U,Y⟩:=h.strs;obtain ⟨ba,bq,bo,bc,M,_,_⟩:=h.bs;unfold POp.call;rw [X,M];obtain ⟨n,hn⟩:=xE o.ss.length;obtain ⟨nb,G⟩:=xE o.B.length;obtain ⟨sz,F⟩:=xE o.s.size;have a7:(o.s.size:Int)=(sz:Int):=by rw [F]
 have a5:n<=2000000:=by rw [hn];exact hz.n
 have a8:nb<=2000000:=by rw [G];exact hz.b
 have a6:sz<=2000000:=by rw [F];exact hz.s
 rw [<-hn,<-G];obtain ⟨W1,D⟩:=xE (w.alloc (Obj.cells #[iV o.ck,iV o.ca,iV o.cb,.string o.s,.slice la n lc,.slice ba nb bc] 51));have J:Bw w W1:=by rw [D];exact bA
 have C:AE W1 w.heap.size 51 [iV o.ck,iV o.ca,iV o.cb,.string o.s,.slice la n lc,.slice ba nb bc]:=by rw [D];exact AE.new w 51 _
 obtain ⟨OB,I⟩:=xE w.heap.size;rw [<-I] at C;have c3:cE W1 OB 3 (.string o.s):=C.cell rfl;have c4:cE W1 OB 4 (.slice la n lc):=C.cell rfl;have c5:cE W1 OB 5 (.slice ba nb bc):=C.cell rfl;have R:=AC J;have T:=AC D
 have HL:=AC (show ∀i,i<n->la=some (xK lq lo)/\W1.cell? (xK lq (lo+i))=some (.string (o.ss.getD i ByteArray.empty)) from λi hi=>by
  have h0:=U om;refine ⟨h0.1,?_⟩;rw [J.cell (p:=(xK lq (lo+i))) (yz h0.2 hN)]
  exact Y i om)
 have HZ:=AC hz;have HN:=AC (xi hn (xi G F));clear D J C U Y X M h hz hn G F;go_enter func15,ntmps15
 go_upto_region 1 with fail
 rw [<-AB T,<-I];clear T I;by_cases a3:(1000:Int)<(n:Int)
 ·have HR:=AC (show CU o=200001 from by unfold CU;rw [vu (o1 HN.1)]);go_wp2;go_ret;exact ⟨by rw [AB HR];rfl,AB R⟩
 ·have HR:=AC (show CU o=sz+nb+IY o.ss n from by unfold CU;rw [vz (o1 HN.1),HN.1,HN.2.1,HN.2.2]);have HT:=AC (Ti HZ.ss (o1 HN.1));go_wp2
  go_loopw [3,4] (λs i wr=>∃j:Nat,j<=n/\i= iV j/\s= iV (sz+nb+IY o.ss j:Nat)/\wr=W1) (λ_ i _=>n-(intOf i).toNat)
  case atStart=>exact ⟨0,om,rfl,by simp [IY],rfl⟩
  case round=>
   obtain ⟨j,hj,rfl,rfl,rfl⟩:=hrel;by_cases Z:j<n
   ·obtain ⟨x,hx⟩:∃x,o.ss[j]? =some x:=⟨_,zz (o1 HN.1)⟩;obtain ⟨rfl,hc⟩:=AB HL j Z;rw [zk,hx,Option.getD_some] at hc;have a1:=HZ.ss x (zv hx);have a2:=AB HT j;have HS:Hid (IY o.ss (j+1)=IY o.ss j+x.size):=JV hx _;obtain ⟨A,hA⟩:=xE (sz+nb+IY o.ss j);obtain ⟨xz,H⟩:=xE x.size;have b0:(x.size:Int)=(xz:Int):=by rw [H]
    have O:=AC (xi hA H);have a4:(A:Int)+(xz:Int)<=10000000000:=om;rw [<-hA];have a9:(0:Int)<=(j:Int):=om;have a0:(j:Int)<(n:Int):=om;clear hx a2 hA H a1;go_wp2;exact ⟨⟨j+1,om,sI,by rw [AB HS,<-O.2];have:=O.1;go_num,trivial⟩,by simp only [intOf];omega⟩
   ·obtain rfl:j=n:=om;have a0:¬(j:Int)<(j:Int):=om;go_wp2;go_ret;exact ⟨by rw [AB HR];rfl,AB R⟩
end Go.Proofs.YtpcjkidgohpeoaaGreatDoor
