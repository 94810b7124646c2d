import Derived.Test.YtpcjkidgohpeoaaGreatDoorG24
import Derived.Test.YtpcjkidgohpeoaaGreatDoorG25
import Derived.ChangeSlices
import Derived.SizedLaws
import Derived.WideShapes
import Derived.Deep.Slices
import Derived.Deep.Strs
set_option maxRecDepth 100000
set_option maxHeartbeats 1000000
set_option linter.all false
namespace Go.Proofs.YtpcjkidgohpeoaaGreatDoor
open RowKit Maps Proofs.Tryz
variable {P:Program} {w w' W:World} {size n B g cap gp pc gn cn B' tb ab am kb pm pb fuel:Nat} {e t:TypeId} {v:Value} {xs cs V:List Value} {R:List Int} {p:PK} {k:RK} {lp lf lo li lb:Int} {NB MB:List Nat}
def JD (w:World) (base:Nat) (t ty e:TypeId) (i:TypeInfo) (z:Value) (size D:Nat) (ht:P.underlying t=some (.slice e)) (hi:P.info? e=some i) (hz:i.zero=some z) (E:i.size=size) (N:i.bytes=D) (O:z.cells.size=size) (M:0<size)
  (v:Value) (n:Nat) (xs:List Value) (F:w.ownsRow base e size v n xs) (a:Option Addr) (m c:Nat) (C:List Value) (hl:C.length=m*size) (I:∀ad,a=some ad->∀j u,C[j]? =some u->w.cell? (ad.add j)=some u) (ha:a=none->m=0) (h1:∀u∈C,u.oneCell'=true) (L:n+m<=maxLen) (G:(n+m)*D<=140737488355328) (H:base<=w.heap.size):
  ∃v' w',(Builtin.append_ #[t,t] ty #[v,.slice a m c]).run P w= .ok v' w'/\w'.ownsRow base e size v' (n+m) (xs++C)/\w.grownBy w' v.ownBlock/\(v'.ownBlock=v.ownBlock\/v'.ownBlock=some w.heap.size):=by
 cases a with
 |some ad=>
  obtain ⟨v',w',hr,h2,h3,_,h5⟩:=run_append_own_at (P:=P) w base t ty e i z size D ht hi hz E N O M v n xs F ad m c C hl (I ad rfl) h1 L G H
  exact ⟨v',w',hr,h2,h3,h5⟩
 |none=>
  obtain rfl:=ha rfl;have hn:C=[]:=uz om;subst hn;refine ⟨v,w,?_,by simpa using F,zj w _,.inl rfl⟩;rcases F.2 with ⟨rfl,h0⟩|⟨g,cap,T,rfl,hb,hc⟩
  ·simp [Builtin.append_,ue ht,sizeOf,typeInfo,hi,Builtin.lenOf,Builtin.firstCells,E,loadCells,loadCellsFrom]
  ·have hs:Src P i.size t (.slice none 0 c) 0 [] w:=Src.ofNil w ht c;have J:n<=cap:=hc.2.1;have:=run_append_room_src (P:=P) w t t ty e i ht hi g 0 n cap (.slice none 0 c) 0 [] hs om (λj hj=>by simp at hj) (λj hj=>by simp at hj);rw [this];simp [World.setCells]
def Df (w:World) (base:Nat) (v:Value) (X:List (AP×RL)) (D:w.ownsRow base 78 31 v X.length (Ai X)) (a:Option Addr) (c:Nat) (Y:List (AP×RL)) (ty:TypeId) (hY:∀ad,a=some ad->∀j u,(Ai Y)[j]? =some u->w.cell? (ad.add j)=some u) (ha:a=none->Y=[]) (hn:X.length+Y.length<=100000) (C:base<=w.heap.size):
  ∃v' w',(Builtin.append_ #[79,79] ty #[v,.slice a Y.length c]).run prog w= .ok v' w'/\w'.ownsRow base 78 31 v' (X++Y).length (Ai (X++Y))/\w.grownBy w' v.ownBlock/\(v'.ownBlock=v.ownBlock\/v'.ownBlock=some w.heap.size):=by
 obtain ⟨ip,F,H,E,G⟩:=DX MX
 have h1:∀u∈Ai Y,u.oneCell'=true:=λu hu=>by
  obtain ⟨x,_,hx⟩:=sy.1 hu;unfold rpc Au at hx;simp only [vp,uu,or_false] at hx;rcases hx with h|h|h|h|h|h|h|h|h|h|h|h|h|h|h|h|h|h|h|h|h|h|h|h|h|h|h|h|h|h|h<;>(rw [h];rfl)
 have:=JD (P:=prog) w base 79 ty 78 ip _ 31 264 underlying79 F H E G rfl dz v X.length (Ai X) D a Y.length c (Ai Y) (Cw Y) hY (λh=>by rw [ha h];rfl) h1 (by unfold maxLen;omega) om C;rw [<-zm,show Ai X++Ai Y=Ai (X++Y) from ur.symm] at this;exact this
def Ar {ops:Array Oper} {rest:List Oper} {o:Oper} {a:Act} {Q:Exit->Act->World->Prop} (D:o.guard=none) (s x:Operand) (ts:Array TypeId) (ho:o.op= .call {callee:= .builtin .append,args:=#[s,x],argTypes:=ts}) (v xv v':Value) (w':World) (hs:a.eval s=v) (hx:a.eval x=xv) (C:(Builtin.append_ ts o.type #[v,xv]).run P w= .ok v' w') (h:wpList P ops Q rest (a.put o.dst v') w'):wpList P ops Q (o::rest) a w:=
 wpList_plain D λK hK=>by
  unfold Oper.wp execOp;simp only [ho,resolve,invoke,builtin,List.map_toArray,ub,List.map_nil,hs,hx,uk,sr,ye,C];exact hK _ _ h
def Ck {base:Nat} (h:w.ownsRow base e size v n xs) (hb:∀b,v.ownBlock=some b->w'.heap[b]? =w.heap[b]?):w'.ownsRow base e size v n xs:=by
 refine ⟨h.1,h.2.imp id ?_⟩;rintro ⟨g,cap,C,rfl,x2,x3,x4⟩;exact ⟨g,cap,C,rfl,x2,by rw [hb g rfl];exact x3,x4⟩
def bt {l:List Int} {M:Int} (h:∀x∈l,0<=x/\x<=M) (hM:0<=M) (r:Nat):0<=l.getD r 0/\l.getD r 0<=M:=by
 rw [zk]
 cases hr:l[r]? with
 |none=>exact ⟨si 0,hM⟩
 |some x=>exact h x (zv hr)
def Zr:(AS [BI]).all (λx=>decide (0<=x)&&decide (x<=255))=true:=kf
def Zs {B:List Int} (hB:AK B) (s:Seg) (n:Nat):0<=I5 B s n/\I5 B s n<=255:=by
 unfold I5;split
 ·exact hB _
 ·exact ⟨si 0,dz⟩
def My {B:List Int} (hB:AK B):∀q∈Ad B,AK q.bytes:=by
 intro q hq;obtain ⟨p,_,hq⟩:=sy.1 hq;obtain ⟨s,_,rfl⟩:=yt.1 hq;refine Bx.2 (λx hx=> ?_);obtain ⟨j,_,rfl⟩:=yt.1 hx;exact Zs hB s _
def TZ (h:∀x∈R,0<=x/\x<=255):∀q∈CS R,AK q.bytes:=by
 intro q hq;simp only [CS,vp,List.mem_nil_iff,or_false] at hq;rcases hq with rfl|rfl
 ·exact Bx.2 (λx hx=>h x (sm hx))
 ·exact Bx.2 (λx hx=>h x (rq hx))
def oI (h:R.all (λx=>decide (0<=x)&&decide (x<=255))=true):∀x∈R,0<=x/\x<=255:=λx hx=>by simpa using za.1 h x hx
def U2:∀q∈CS (AS [BI]),AK q.bytes:=TZ (oI Zr)
def Xq (h:p.ExecOk [0] 0 Aj [BI]) (hB:AK (p.fileOf Aj)):POk (BA p):=by
 refine ⟨?_,λq hq=> ?_,?_,λr=>bt (λx hx=> ?_) dz r,rfl,rfl⟩
 ·have:=Q6 h.2.2.2.1;simp [BA,CS];omega
 ·rcases vo.1 hq with h1|h1
  ·exact ⟨(Kd h.2.2.2.1 q h1).2.2,My hB q h1⟩
  ·exact ⟨(Kn _ (CE h.2.2.2.2.1) q h1).2.2,U2 q h1⟩
 ·have:=BP hB 24 8 (zx 8);exact ⟨this.1,by show AO (p.fileOf Aj) 24 8<=_;omega⟩
 ·rcases vo.1 hx with h1|h1
  ·have:=qt h1;omega
  ·have e:x=65024+(Dc [BI]:Int):=sU h1;have:Dc [BI]<=512:=by unfold Dc;omega
   omega
def Ox {cs:List (List Int)} (h:BtA p w w' k cs g cap gp pc gn cn) (s:ByteArray):AK (p.fileOf s):=by
 have e:p.cs=cs:=by rw [<-h.toP];rfl
 have hn:∀n,AK (cs.getD n []):=λn=>by
  rw [zk]
  cases hc:cs[n]? with
  |none=>exact Bx.2 (λx hx=>absurd hx sI)
  |some c=>exact h.bytes c (zv hc)
 show AK (p.cs.getD _ []);rw [e];exact hn _
def Xr {cs:List (List Int)} (h:BtA p w w' k cs g cap gp pc gn cn) (hi:EX p):pX w' w.heap.size (w.heap.size+2) (w.heap.size+1) g cap gp pc k (BA p) (some (xK gn 0)) gn cn:=by
 have I:=h.procs.lt gp rfl;have F:=h.pages.lt gn rfl;have hg:=h.rep.2.lt g rfl;have C:(Ad (p.fileOf Aj)++CS (AS [BI])).length=(Ad (p.fileOf Aj)).length+2:=by simp [CS]
 have D:(BA p).PS.length=(Ad (p.fileOf Aj)).length+2:=C;have E:p.xs=k.inos.map erase:=by rw [<-h.toP];rfl
 have H:=h.apart;refine ⟨h.rep,om,om,h.pv,h.nils.1,h.nils.2.1,o1 h.inos,λx hx=> ?_,λx hx=> ?_,⟨λj v hv=> ?_,λ_=>rfl,?_,λi=>h.pages.frozenAt i,λi=>h.procs.frozenAt i,om,by simp [BA]⟩,Xq h.ok (Ox h _),om,F.2,om⟩
 ·have hm:erase x∈p.xs:=by rw [E];exact yt.2 ⟨x,hx,rfl⟩
  have hd:=hi.down _ hm;by_cases h0:x.parent=0
  ·exact .inr (hi.root1s _ hm h0).1
  ·have:0<=x.parent:=hd.1;exact .inl om
 ·obtain ⟨i,hx⟩:=yj.1 hx;have G:=(zy.1 hx).1;obtain ⟨c,hc⟩:∃c,cs[i]? =some c:=⟨_,zz (by rw [h.cont.1];exact G)⟩;obtain ⟨a,d,he⟩:=(h.cont.2 i x c hx hc).len;exact ⟨a,_,d,he⟩
 ·have hj:=(zy.1 hv).1;have hr:=h.procs;rw [Mq] at hr;rw [zq,hr.cellAt j (by exact hj)];rw [D] at hv;exact hv
 ·refine UG (λq hq=> ?_) (base:=w.heap.size+2) (gc:=cn) ?_
  ·rcases vo.1 hq with h1|h1
   ·exact (Kd h.ok.2.2.2.1 q h1).2.2
   ·exact (Kn _ (CE h.ok.2.2.2.2.1) q h1).2.2
  ·show w'.ownsRow _ _ _ (sL gn 0 (Ad (p.fileOf Aj)++CS (AS [BI])).length cn) (Ad (p.fileOf Aj)++CS (AS [BI])).length (As (Ad (p.fileOf Aj)++CS (AS [BI])));rw [C,Q5];exact h.pages
section
variable {oc:Int->Int}
structure jo (P:PK):Prop where
 inv:EX P
 bytes:By P.cs
 used:AM P.cs<=200000/\P.xs.length<=101
 li:0<=P.li/\P.li<=1000000
 lb:(AM P.cs:Int)<=P.lb/\P.lb<=1000000
 lf:0<=P.lf/\P.lf<=1000000
 lp:P.lp<=1000
structure Ta (lp lf lo li lb:Int) (j S:Nat) (p:PK):Prop where
 len:p.xs.length<=j+1
 used:AM p.cs<=S
 bytes:By p.cs
 lims:p.lp=lp/\p.lf=lf/\p.lo=lo/\p.li=li/\p.lb=lb
def ID (p:PK) (s:ByteArray):(p.opened s).1.xs.length<=p.xs.length+1/\AM (p.opened s).1.cs=AM p.cs/\(By p.cs->By (p.opened s).1.cs)/\(p.opened s).1.lp=p.lp/\(p.opened s).1.lf=p.lf/\(p.opened s).1.lo=p.lo/\(p.opened s).1.li=p.li/\(p.opened s).1.lb=p.lb:=by
 unfold PK.opened;split
 ·refine ⟨by simp [PK.add],F9 _,λh=>h.snoc,rfl,rfl,rfl,rfl,rfl⟩
 ·exact ⟨sI,rfl,λh=>h,rfl,rfl,rfl,rfl,rfl⟩
def Zt {c B:List Int} (hc:AK c) (hB:AK B):AK (Fb c B):=by
 rw [Bx] at hc hB ⊢;intro x hx;unfold Fb at hx;rcases vo.1 hx with h|h
 ·exact hB x h
 ·exact hc x (rq h)
def Ta.put {j S:Nat} (h:Ta lp lf lo li lb j S p) (f:AQ) (hb:AK f.bytes):Ta lp lf lo li lb (j+1) (S+f.bytes.length) (p.put f).2:=by
 unfold PK.put;split
 ·unfold PK.mkdir;have h0:Ta lp lf lo li lb (j+1) (S+f.bytes.length) p:=⟨o1 h.len,o1 h.used,h.bytes,h.lims⟩;split
  ·exact h0
  split
  ·exact h0
  split
  ·exact h0
  ·exact ⟨by have:=h.len;simp [PK.add];omega,by have:=h.used;show AM (p.cs++[[]])<=_;rw [F9];omega,h.bytes.snoc,h.lims⟩
 ·obtain ⟨o1,o2,o3,o4,o5,o6,o7,o8⟩:=ID p f.path;have hl:=h.lims;unfold PK.fileOut;split
  ·exact ⟨by have:=h.len;show (p.opened f.path).1.xs.length<=_;omega,by have:=h.used;show AM (p.opened f.path).1.cs<=_;omega,o3 h.bytes,o4.trans hl.1,o5.trans hl.2.1,o6.trans hl.2.2.1,o7.trans hl.2.2.2.1,o8.trans hl.2.2.2.2⟩
  ·refine ⟨by have:=h.len;show (p.opened f.path).1.xs.length<=_;omega,?_,?_,o4.trans hl.1,o5.trans hl.2.1,o6.trans hl.2.2.1,o7.trans hl.2.2.2.1,o8.trans hl.2.2.2.2⟩
   ·have hs:=MV (p.opened f.path).1.cs (BO (p.opened f.path).1.xs (p.opened f.path).2).toNat (Fb ((p.opened f.path).1.old (p.opened f.path).2) f.bytes);rw [Ib (M:=max f.bytes.length ((p.opened f.path).1.old (p.opened f.path).2).length) rfl] at hs;have e:(p.opened f.path).1.old (p.opened f.path).2=(p.opened f.path).1.cs.getD (BO (p.opened f.path).1.xs (p.opened f.path).2).toNat []:=rfl;rw [<-e] at hs;have:=h.used;show AM ((p.opened f.path).1.cs.set _ _)<=_;omega
   ·intro c hc;rcases rj hc with h1|h1
    ·exact o3 h.bytes c h1
    ·rw [h1];refine Zt ?_ hb;show AK ((p.opened f.path).1.cs.getD _ []);rw [zk]
     cases hg:(p.opened f.path).1.cs[(BO (p.opened f.path).1.xs (p.opened f.path).2).toNat]? with
     |none=>exact Bx.2 (λx hx=>by cases hx)
     |some d=>exact o3 h.bytes d (zv hg)
def Xs (p:PK):Prop:=(p.xs.length:Int)<=p.li/\(AM p.cs:Int)<=p.lb
def Xs.put (h:Xs p) (f:AQ) (hc:(p.put f).1=0):Xs (p.put f).2:=by
 have C:∀(d:Int) (name:ByteArray) (is:Bool),¬p.li<=(p.xs.length:Int)->Xs (p.add d name is):=λd name is q=>by
  refine ⟨?_,?_⟩
  ·show (((p.xs++[Bq (p.last+1) d name is]).length:Nat):Int)<=p.li;rw [zm];simp;omega
  ·show (AM (p.cs++[[]]):Int)<=p.lb;rw [F9];exact h.2
 unfold PK.put at hc ⊢;split at hc
 ·rename_i q0
  rw [vu q0];unfold PK.mkdir at hc ⊢;split at hc
  ·rename_i q;exact absurd hc q
  ·rename_i q
   rw [vz q];split at hc
   ·exact absurd hc (show ¬(10:Int)=0 by decide)
   ·rename_i q1
    rw [vz q1];split at hc
    ·exact absurd hc (show ¬(12:Int)=0 by decide)
    ·rename_i q2
     rw [vz q2];exact C _ _ _ q2
 ·rename_i q0
  rw [vz q0];have hc:p.fileCode f.path f.bytes=0:=hc;show Xs (p.fileOut f.path f.bytes);unfold PK.fileCode at hc;split at hc
  ·rename_i q;exact absurd hc q
  ·split at hc
   ·exact absurd hc dz
   ·rename_i q1
    have ho:Xs (p.opened f.path).1:=by
     unfold PK.opened;split
     ·rename_i q2;exact C _ _ _ (λq3=>q1 ⟨q2,q3⟩)
     ·exact h
    split at hc
    ·exact absurd hc dz
    ·split at hc
     ·exact absurd hc dz
     ·rename_i q3
      unfold PK.fileOut;split
      ·exact ho
      ·rename_i q4
       refine ⟨ho.1,?_⟩;have hs:=MV (p.opened f.path).1.cs (BO (p.opened f.path).1.xs (p.opened f.path).2).toNat (Fb ((p.opened f.path).1.old (p.opened f.path).2) f.bytes);rw [Ib (M:=max f.bytes.length ((p.opened f.path).1.old (p.opened f.path).2).length) rfl] at hs;have e:(p.opened f.path).1.old (p.opened f.path).2=(p.opened f.path).1.cs.getD (BO (p.opened f.path).1.xs (p.opened f.path).2).toNat []:=rfl;rw [<-e] at hs;have D:=(ID p f.path).2.2.2.2.2.2.2;show (AM ((p.opened f.path).1.cs.set _ _):Int)<=(p.opened f.path).1.lb;rw [D];have q5:¬p.lb<(AM (p.opened f.path).1.cs:Int)-(((p.opened f.path).1.old (p.opened f.path).2).length:Int)+((max f.bytes.length ((p.opened f.path).1.old (p.opened f.path).2).length:Nat):Int):=λq5=>q3 ⟨om,q5⟩;omega
def Zu (lp lf lo li lb:Int):Ta lp lf lo li lb 0 0 (CP lp lf lo li lb):=⟨by simp [CP],by simp [CP,AM],MW,rfl,rfl,rfl,rfl,rfl⟩
def Bf.base {C:Int} {xs:List Ino} (h:Bf w B tb ab am li lb C xs NB MB V oc) (hB:B'<=B):Bf w B' tb ab am li lb C xs NB MB V oc:=
 ⟨h.tree,h.above,h.amap,h.len,h.node,h.root,h.vlen,h.apart,zg hB h.low.1,zg hB h.low.2.1,zg hB h.low.2.2.1,λb hb=>zg hB (h.low.2.2.2.1 b hb),λm hm=>⟨zg hB (h.low.2.2.2.2 m hm).1,(h.low.2.2.2.2 m hm).2⟩⟩
def fP {nb nm:Nat} (h:Bf w B tb ab am li lb 0 [Bq 1 0 ByteArray.empty true] [nb] [nm] [sN] oc) (hB:B'<=B):BS w B' tb ab am (CP lp lf lo li lb) [nb] [nm] [sN] oc:=by
 refine ⟨h.base hB,λi v c hv hc=> ?_,λi j v u R hv hu h1 h2=> ?_⟩
 ·have hi:=(zy.1 hv).1;have C:i=0:=by simp at hi;omega
  subst C;have e1:Value.slice none 0 0=v:=sU hv;have e2:[]=c:=by simpa [CP] using hc
  exact .inl ⟨e1.symm,e2.symm⟩
 ·have hi:=(zy.1 hv).1;have hj:=(zy.1 hu).1;simp at hi hj;omega
def BS.stable (h:BS w B tb ab am p NB MB V oc) (hs:w.heap.size<=w'.heap.size) (hk:∀k,B<=k->k<w.heap.size->w'.heap[k]? =w.heap[k]?):BS w' B tb ab am p NB MB V oc:=by
 have hl:=h.tree.low;refine ⟨⟨AJ h.tree.tree (hk _ hl.1 h.tree.tree.lt),AJ h.tree.above (hk _ hl.2.1 h.tree.above.lt),h.tree.amap.block (hk _ hl.2.2.1 h.tree.amap.lt),h.tree.len,λi x b m hx hb hm=> ?_,h.tree.root,h.tree.vlen,h.tree.apart,hl.1,hl.2.1,hl.2.2.1,hl.2.2.2.1,λm hm=>⟨(hl.2.2.2.2 m hm).1,o1 (hl.2.2.2.2 m hm).2⟩⟩,λi v c hv hc=> ?_,h.own⟩
 ·obtain ⟨qn,v,mv,h1,h2,h3⟩:=h.tree.node i x b m hx hb hm;refine ⟨qn,v,mv,AJ h1 (hk _ (hl.2.2.2.1 b (zv hb)) h1.lt),λhd=>⟨(h2 hd).1,(h2 hd).2.block (hk _ (hl.2.2.2.2 m (zv hm)).1 (h2 hd).2.lt)⟩,h3⟩
 ·rcases h.cont i v c hv hc with q|⟨R,cp,T,q1,q2,q3,q4,q5⟩
  ·exact .inl q
  ·exact .inr ⟨R,cp,T,q1,AJ q2 (hk R q5 q2.lt),q3,q4,q5⟩
def mH (w:World) (pb:Nat):∃w',(Instr.mapUpdate 104 (.map (some w.heap.size)) (iV 1) (qP pb 0)).run prog (w.alloc (.map #[] 0))= .ok () w'/\Ei w' w.heap.size pb/\(w.alloc (.map #[] 0)).grownBy w' (some w.heap.size):=by
 have hD:(w.alloc (.map #[] 0)).ownsMap prog 3 Bp w.heap.size 0 (.map []):=World.ownsMap_made w _ _ _;have D:=Go.Maps.keyOf_int_mk (P:=prog) underlying3 (a:=1) dz;obtain ⟨w',C,E,hg⟩:=hD.update EP underlying104 (by unfold maxLen;omega) D (show Bp (qP pb 0)=some (.lit (.int .i64 pb),[]) from rfl);exact ⟨w',C,E,hg⟩
end
def bz:Eh [] [-1, -1, -1,0,0,0,0,0]=[⟨0,4,0⟩,⟨1,4,0⟩,⟨2,4,0⟩]:=kf
def Rh {base:Nat} {pa:Option Addr} {c:Nat} (h:w.ownsRow base e size (.slice pa n c) n xs) (hn:0<n):∃g,pa=some (xK g 0):=by
 obtain ⟨g,cap,he,_⟩:=h.form hn;injection he with h1;exact ⟨g,h1⟩
def fW {tk:Nat} {R:Ending->World->Prop} (ht:cE w tk 0 (qP kb 0)) (hR:∀e w',R e w'->∃v,e= .returned v) (h:cT 112 #[qP kb 0] w R):cT 57 #[qP tk 0] w R:=by
 have HT:=AC h;have C:=AC hR;clear h hR;go_enter func57,ntmps57
 go_wp2_with fail
 refine HT.mono ?_;intro e w1 h1;obtain ⟨v,rfl⟩:=AB C e w1 h1;have HP:=AC h1;clear h1 ht HT C;go_wp2;exact AB HP
def Ei.block (h:Ei w pm pb) (hh:w'.heap[pm]? =w.heap[pm]?):Ei w' pm pb:=by
 obtain ⟨es,C,hb,F,hs,hD⟩:=h;exact ⟨es,C,by rw [hh];exact hb,F,hs,hD⟩
structure kM (w:World) (B kb:Nat) (p:PK) (tb ab am cb pm pb:Nat) (NB MB:List Nat) (V:List Value):Prop where
 tree:BS w B tb ab am p NB MB V oc0
 ker:AE w kb 110 (Im p.lp p.lf p.lo p.li p.lb tb cb pm)
 procs:Ei w pm pb
 con:AE w cb 101 jn
 proc:AE w pb 193 (AX (BA p).pc (BA p).R (AW (BA p).PS) 1 0 0 0 0 (FJ cb 3))
 low:B<=kb/\B<=cb/\B<=pm/\B<=pb
 inv:EX p
 size:p.xs.length<=101/\AM p.cs<=200000/\By p.cs
 ord:am<cb/\(∀m∈MB,m<cb)/\cb<pb/\pb<pm/\pm<kb
 pk:jo p
def kM.stable {cb:Nat} (h:kM w B kb p tb ab am cb pm pb NB MB V) (hs:w.heap.size<=w'.heap.size) (hk:∀k,B<=k->k<w.heap.size->w'.heap[k]? =w.heap[k]?):kM w' B kb p tb ab am cb pm pb NB MB V:=
 ⟨h.tree.stable hs hk,AJ h.ker (hk _ h.low.1 h.ker.lt),h.procs.block (hk _ h.low.2.2.1 (World.ownsMap.lt h.procs)),AJ h.con (hk _ h.low.2.1 h.con.lt),AJ h.proc (hk _ h.low.2.2.2 h.proc.lt),h.low,h.inv,h.size,h.ord,h.pk⟩
def KR (w:World) (B:Nat) (kp:Addr) (p:PK):Prop:=∃tk kb tb ab am cb pm pb NB MB V,kp=(xK tk 0)/\B<=tk/\AE w tk 60 [qP kb 0]/\kM w B kb p tb ab am cb pm pb NB MB V
def gB:ik KR:=λw w' B kp p h hs hk=>by
 obtain ⟨tk,kb,tb,ab,am,cb,pm,pb,NB,MB,V,h1,h2,h3,h4⟩:=h;exact ⟨tk,kb,tb,ab,am,cb,pm,pb,NB,MB,V,h1,h2,AJ h3 (hk _ h2 h3.lt),h4.stable hs hk⟩
def YC (h:p.ExecOk [0] 0 Aj [BI]):Bc (BA p).PS:=Pi h.2.2.2.1 _ (CE h.2.2.2.2.1)
def Tf (p:PK):(BA p).R.length=16:=by simp [BA]
def kN (tk kb:Nat) (np NP n C:Int) (w:World) (hT:cE w tk 0 (qP kb 0)) (L:tk<w.heap.size) (hu:∀W,Bw w W->cT 115 #[qP kb 0] W λe w'=>e= .returned (.agg (BK np NP 0 n C).toArray)/\Bw W w'):
  cT 61 #[qP tk 0] w λe w'=>e= .returned (.agg (BK np NP 0 n C).toArray)/\Bw w w':=by
 obtain ⟨W0,D⟩:=xE (w.alloc (Obj.cells #[iV 0,iV 0,iV 0,iV 0,iV 0] 23));have E:Bw w W0:=by rw [D];exact bA
 have F:AE W0 w.heap.size 23 [iV 0,iV 0,iV 0,iV 0,iV 0]:=by rw [D];exact AE.new w 23 _
 have T:W0.cell? (xK tk 0)=some (qP kb 0):=by rw [E.cell (p:=(xK tk 0)) L];exact hT
 have HU:=AC (hu W0 E);have O:=AC D;have H:=AC E;have M:=AC F;have N:w.heap.size<W0.heap.size:=F.lt;clear D E F hT hu;go_enter func61,ntmps61
 go_upto_region 1 with fail
 rw [<-AB O]
 go_wp2_with fail
 refine HU.mono ?_;rintro e w1 ⟨rfl,G⟩;have J:=M.below G N;have I:=AC (H.trans (G.mono H.size));unfold BK;clear G T HU
 go_upto_region 99 with (refine Bo rfl 23 _ _ rfl w.heap.size [iV np,iV NP,iV 0,iV n,iV C] (by rfl) (by rfl) 23 _ J (by rw [Pm];rfl) (by rfl) (RE np NP 0 n C) ?_;intro w6 H6 G6)
 have h6:=AB H6;exact ⟨rfl,.agg #[iV np,iV NP,iV 0,iV n,iV C],GZ (by rfl) (by rfl) (run_loadVar_mid w6 w.heap.size 0 23 [iV np,iV NP,iV 0,iV n,iV C] _ h6.range underlying23 rfl (by rw [Pm];rfl)),rfl,I.trans (Aa G6 (zx _) I.size)⟩
def oO (i:Nat) (hi:i<8) (w:World):(Instr.index 191 (.agg GA.toArray) (iV (i:Int))).run prog w= .ok .nilIface w:=by
 rw [Wn GA i (by simpa [GA] using hi) rfl w];unfold GA;rw [zk,xn,vu hi];rfl
def YH (pb:Nat) (w:World) (hf:w.rangeAt pb 65814 GA):
  cT 202 #[qP pb 0] w λe w'=>∃v,e= .returned v/\w'.ownsRow w.heap.size 252 3 v 0 []/\Bw w w':=by
 have HF:=AC hf;obtain ⟨N8,C⟩:=xE GA;have hl:N8.length=8:=by rw [C];rfl
 rw [<-C] at HF;have F:Hid (∀(i:Nat),i<8->∀w:World,(Instr.index 191 (.agg N8.toArray) (iV (i:Int))).run prog w= .ok .nilIface w):=λi hi w=>by rw [C];exact oO i hi w
 have HL:=AC hl;clear hf C hl;go_enter func202,ntmps202
 go_wp2_with (refine te rfl 191 _ rfl pb 65814 (by rfl) _ _ (AB HF) underlying191 rfl (by rw [Ph,AB HL]) ?_)
 go_loopw [3,10] (λv i wr=>∃k:Nat,k<=8/\i= iV k/\v= sN/\wr=w) (λ_ i _=>8-(intOf i).toNat)
 case atStart=>exact ⟨0,om,rfl,rfl,rfl⟩
 case round=>
  obtain ⟨k,hk,rfl,rfl,rfl⟩:=hrel;by_cases D:k<8
  ·have E:(k:Int)<8:=om;have ix:=AB F k D;clear D;go_wp2;exact ⟨⟨k+1,om,sI,sI⟩,by simp only [intOf];omega⟩
  ·have E:¬(k:Int)<8:=om;go_wp2;go_ret;exact ⟨_,rfl,uy _ _ _ _,zw _ _⟩
section
open ChangeShapes WideShapes ChangeAt Deep
def Ru:prog.cellsOf 5=1:=kf
def Rv:prog.cellsOf 39=3:=kf
def Nw:prog.cellsOf 9=1:=kf
def an:prog.cellsOf 4=1:=kf
def L9:prog.cellsOf 36=1:=kf
def Ku:prog.cellsOf 3=1:=kf
def ap:prog.cellsOf 23=5:=kf
def YM:prog.cellsOf 24=1:=kf
def Sm:prog.cellsOf 26=6:=kf
def aq:prog.bytesOf 5=1:=kf
def ar:prog.bytesOf 39=48:=kf
def aw {α:Type} {cs:List α} (h:cs.length=3):∃a b c,cs=[a,b,c]:=by
 match cs,h with
 |[a,b,c],_=>exact ⟨a,b,c,rfl⟩
def kr {α:Type} {cs:List α} (h:cs.length=5):∃a b c d e,cs=[a,b,c,d,e]:=by
 match cs,h with
 |[a,b,c,d,e],_=>exact ⟨a,b,c,d,e,rfl⟩
def kt {α:Type} {cs:List α} (h:cs.length=6):∃a b c d e f,cs=[a,b,c,d,e,f]:=by
 match cs,h with
 |[a,b,c,d,e,f],_=>exact ⟨a,b,c,d,e,f,rfl⟩
def O8 {H:Type} {fs:Array Field} {ds:List (DataW H)} (hu:P.underlying t=some (.struct fs)):(DataW.agg ds).weights P t=DataW.weightsEach P (fs.toList.map (·.type)) ds:=by
 rw [DataW.weights,hu]
def IZ {H:Type} {ds ss:List (DataW H)} (hu:P.underlying t=some (.slice e)):(DataW.slice ds ss).weights P t=(ds.length+ss.length)*P.bytesOf e::(DataW.weightsAll P e ds++DataW.weightsAll P e ss):=by
 rw [DataW.weights,hu]
def KY {H:Type} {P:Program} {e:TypeId}:∀{ds:List (DataW H)} {d:DataW H},d∈ds->∀n∈d.weights P e,n∈DataW.weightsAll P e ds
 |d0::r,d,hd,n,hn=>by
  rw [DataW.weightsAll];rcases vp.1 hd with rfl|hd
  ·exact yn _ hn
  ·exact ry _ (KY hd n hn)
 |[],_,hd,_,_=>by cases hd
structure VI (W:World) (cs:List Value) (f:AQ) (l:Az):Prop where
 cells:cs=[.string f.path,.bool f.dir,.slice l.a f.bytes.length l.c]
 loc:0<f.bytes.length->l.a=some (xK l.q l.o)/\l.q<W.heap.size
 view:Am W l.q l.o f.bytes
 byte:AK f.bytes
 psize:f.path.size<=140737488355328
 bsize:f.bytes.length<=140737488355328
def M7 {zs:List Int} {C:Nat} (hl:C<=zs.length) (E:∀n∈zs,(Lit.int .u8 n).wf=true):AK (zs.take C):=by
 intro j;by_cases hj:j<C
 ·have D:(zs.take C).getD j 0∈zs:=by
   have:(zs.take C).getD j 0=zs[j]'om:=by simp [List.getD,hj,zz (show j<zs.length by omega)]
   rw [this];exact rp _
  exact bounds_u8 (E _ D)
 ·rw [List.getD,yw (by rw [yr];omega)];exact ⟨si 0,dz⟩
def ax {H:Type} {enc:TypeId×Value->H} {x:DataW H×List MemPlace}
  (h:DataW.trod enc prog W 0 (λ_=>true) true fuel 36 [v]=some x) (hw:∀n∈x.1.weights prog 36,n<=reachBytes):
  ∃(B:List Int) (l:Az),v= .slice l.a B.length l.c/\(0<B.length->l.a=some (xK l.q l.o)/\l.q<W.heap.size)/\Am W l.q l.o B/\AK B/\B.length<=140737488355328:=by
 rcases open_ints underlying36 underlying5 Ru h with ⟨F,hx⟩|⟨a,C,c,zs,F,L,hl,hm,hz,hx,D,M⟩
 ·simp only [tt,and_true] at F;subst F;exact ⟨[],⟨none,0,0,0⟩,rfl,λq=>by simp at q,λj hj=>by simp at hj,λj=>sI,sI⟩
 ·simp only [tt,and_true] at F;subst F;simp only [if_true] at hz
  have T:C<=reachBytes:=by
   rw [hx] at hw
   have:=hw ((lits .u8 (zs.take C)).length+(lits .u8 (zs.drop C)).length) (by
    rw [IZ underlying36,aq,Nat.mul_one]
    exact ym ..)
   have e:(lits .u8 (zs.take C):List (DataW H)).length=C:=by simp [lits];omega
   omega
  have J:(zs.take C).length=C:=by rw [yr];omega
  have N:C<=140737488355328:=zg T dz;by_cases h0:C=0
  ·subst h0;exact ⟨[],⟨some a,0,0,c⟩,rfl,λq=>by simp at q,λj hj=>by simp at hj,λj=>sI,sI⟩
  obtain ⟨b,off,G⟩:=a;have I:=D 0 om;have E:G=none:=by simpa [Addr.add] using World.cell?_spot I
  subst E;have O:b<W.heap.size:=by have:=zu W _ I;rwa [Ah] at this
  refine ⟨zs.take C,⟨some (xK b off),b,off,c⟩,by rw [J],λ_=>⟨rfl,O⟩,λi hi=> ?_,M7 om M,om⟩;rw [J] at hi;have:=D i om;rw [Ah] at this;rw [this];simp [List.getD,hi]
def gV {H:Type} {enc:TypeId×Value->H} {x:DataW H×List MemPlace}
  (h:DataW.trod enc prog W 0 (λ_=>true) true fuel 39 cs=some x) (hw:∀n∈x.1.weights prog 39,n<=reachBytes):
  ∃f l,VI W cs f l:=by
 obtain ⟨y0,y1,y2,n,rfl,hl,h0,h1,h2⟩:=trod_struct3 underlying39 h;rw [Rv] at hl;obtain ⟨v0,v1,v2,rfl⟩:=aw hl;have C:∀n∈DataW.weightsEach prog [9,4,36] [y0.1,y1.1,y2.1],n<=reachBytes:=λn hn=>hw n (by rw [O8 underlying39];exact hn);clear hw;change DataW.trod enc prog W 0 _ true n 9 (List.take (prog.cellsOf 9) (List.drop 0 [v0,v1,v2]))=some y0 at h0;change DataW.trod enc prog W 0 _ true n 4 (List.take (prog.cellsOf 4) (List.drop 1 [v0,v1,v2]))=some y1 at h1;change DataW.trod enc prog W 0 _ true n 36 (List.take (prog.cellsOf 36) (List.drop 2 [v0,v1,v2]))=some y2 at h2;rw [Nw] at h0;rw [an] at h1;rw [L9] at h2;obtain ⟨s,f0,g0,_⟩:=DataW.trod_string underlying9 (show DataW.trod _ _ _ _ _ _ n 9 [v0]=some y0 from h0);obtain ⟨d,f1,g1⟩:=DataW.trod_bool underlying4 (show DataW.trod _ _ _ _ _ _ n 4 [v1]=some y1 from h1);subst g0 g1
 simp only [tt,and_true] at f0 f1;subst f0 f1;obtain ⟨B,l,rfl,b1,b2,b3,b4⟩:=ax (show DataW.trod _ _ _ _ _ _ n 36 [v2]=some y2 from h2) (λn hn=>C n (DataW.weights_mem_each (j:=2) rfl rfl n hn));refine ⟨⟨s,d,B⟩,l,rfl,b1,b2,b3,?_,b4⟩;have hs:s.data.toList.length<=reachBytes:=C _ (DataW.weights_mem_each (j:=0) rfl rfl _ (by rw [DataW.weights];exact ym ..));have e:s.data.toList.length=s.size:=xl;rw [e] at hs;exact zg hs dz
structure O9 (W:World) (cs:List Value) (lp lf lo li lb:Int) (fa:Option Addr) (fb foff fcap:Nat) (FZ:List AQ) (LS:List Az):Prop where
 cells:cs=[iV lp,iV lf,iV lo,iV li,iV lb,.slice fa FZ.length fcap]
 at_:0<FZ.length->fa=some (xK fb foff)/\fb<W.heap.size
 files:Dz W fb foff FZ LS
 each:∀f∈FZ,f.path.size<=140737488355328/\f.bytes.length<=140737488355328
 len:FZ.length<=140737488355328
 byte:∀f∈FZ,AK f.bytes
def ay {H:Type} {enc:TypeId×Value->H} {x:DataW H×List MemPlace}
  (h:DataW.trod enc prog W 0 (λ_=>true) true fuel 24 [v]=some x) (hw:∀n∈x.1.weights prog 24,n<=reachBytes):
  ∃fa fb G T FZ LS,v= .slice fa FZ.length T/\(0<FZ.length->fa=some (xK fb G)/\fb<W.heap.size)/\Dz W fb G FZ LS/\(∀f∈FZ,f.path.size<=140737488355328/\f.bytes.length<=140737488355328)/\FZ.length<=140737488355328/\∀f∈FZ,AK f.bytes:=by
 rcases open_slice underlying24 h with ⟨M,hx⟩|⟨a,E,cap,m,n,D,Pl,M,hb,hl,hm,X,rfl,hx⟩
 ·simp only [tt,and_true] at M;subst M;exact ⟨none,0,0,0,[],[],rfl,λq=>by simp at q,⟨rfl,λi f l hi _=>by simp at hi⟩,λf hf=>by simp at hf,sI,λf hf=>by simp at hf⟩
 simp only [tt,and_true] at M;subst M;simp only [if_true] at X;subst X
 have a0:∀i,i<E->∀k∈(D i).weights prog 39,k<=reachBytes:=λi hi k hk=>hw k (by
  rw [IZ underlying24]
  exact ut _ (yn _ (KY (yt.2 ⟨i,zf.2 hi,rfl⟩) k hk)))
 have N:E<=140737488355328:=by
  have:=hw ((((List.range E).map D).length+((List.range (m-E)).map λj=>D (E+j)).length)*48) (by
   rw [IZ underlying24,ar]
   exact ym ..)
  have h2:reachBytes=140737488351232:=dz;simp only [zc,tx] at this;omega
 by_cases h0:E=0
 ·subst h0;exact ⟨some a,0,0,m,[],[],rfl,λq=>by simp at q,⟨rfl,λi f l hi _=>by simp at hi⟩,λf hf=>by simp at hf,sI,λf hf=>by simp at hf⟩
 rw [Rv] at hx
 haveI hinh:Inhabited (AQ×Az):=⟨(⟨ByteArray.empty,false,[]⟩,⟨none,0,0,0⟩)⟩
 obtain ⟨V,hV⟩:=choose_lt (α:=AQ×Az) (n:=E) (p:=λi z=>∃F,W.cells? 0 (a.add (i*3)) 3=some F/\VI W F z.1 z.2) (λi hi=>by
  obtain ⟨F,h1,h2⟩:=hx i om;obtain ⟨f,l,hf⟩:=gV h2 (a0 i hi)
  exact ⟨(f,l),F,h1,hf⟩)
 obtain ⟨b,off,I⟩:=a
 have C:∀i,i<E->∀j u,[Value.string (V i).1.path,.bool (V i).1.dir,.slice (V i).2.a (V i).1.bytes.length (V i).2.c][j]? =some u->W.cell? (((⟨b,off,I⟩:Addr).add (i*3)).add j)=some u:=λi hi j u hu=>by
  obtain ⟨F,h1,h2⟩:=hV i hi;obtain ⟨_,Z,hc⟩:=World.cells?_some h1;have hj:j<3:=sU ((zy.1 hu).1);rw [hc j hj,h2.cells];exact hu
 have U:=C 0 om 0 _ rfl;have J:I=none:=by simpa [Addr.add] using World.cell?_spot U
 subst J;have a1:b<W.heap.size:=by have:=zu W _ U;rwa [Ah,Ah] at this
 have O:∀(i:Nat) (f:AQ),((List.range E).map λi=>(V i).1)[i]? =some f->i<E/\f=(V i).1:=λi f hf=>by
  rw [ze] at hf;by_cases hi:i<E
  ·rw [xo hi] at hf;exact ⟨hi,by simpa using hf.symm⟩
  ·rw [yw sO] at hf;cases hf
 have L:∀f∈(List.range E).map (λi=>(V i).1),∃cs l,VI W cs f l:=λf hf=>by
  obtain ⟨i,hi,rfl⟩:=yt.1 hf;obtain ⟨F,_,h2⟩:=hV i (zf.1 hi);exact ⟨F,_,h2⟩
 refine ⟨some (xK b off),b,off,m,(List.range E).map (λi=>(V i).1),(List.range E).map (λi=>(V i).2),by rw [zc,tx],λ_=>⟨rfl,a1⟩,⟨sI,λi f l hf Y=> ?_⟩,λf hf=> ?_,by simpa using N,λf hf=> ?_⟩
 ·obtain ⟨hi,rfl⟩:=O i f hf
  have Z:l=(V i).2:=by
   rw [ze,xo hi] at Y;simpa using Y.symm
  subst Z;obtain ⟨F,_,h2⟩:=hV i hi;have c0:=C i hi 0 _ rfl;have c1:=C i hi 1 _ rfl;have c2:=C i hi 2 _ rfl;rw [Ah,Ah] at c0 c1 c2;exact ⟨c0,c1,c2,h2.loc,h2.view⟩
 ·obtain ⟨_,_,h2⟩:=L f hf;exact ⟨h2.psize,h2.bsize⟩
 ·obtain ⟨_,_,h2⟩:=L f hf;exact h2.byte
def VJ {H:Type} {enc:TypeId×Value->H} {x:DataW H×List MemPlace}
  (h:DataW.trod enc prog W 0 (λ_=>true) true fuel 26 cs=some x) (hw:∀n∈x.1.weights prog 26,n<=reachBytes):
  ∃lp lf lo li lb fa fb C D FZ LS,O9 W cs lp lf lo li lb fa fb C D FZ LS:=by
 obtain ⟨y0,y1,n,rfl,hl,h0,h1⟩:=trod_struct2 underlying26 h;rw [Sm] at hl;obtain ⟨v0,v1,v2,v3,v4,v5,rfl⟩:=kt hl;have G:∀n∈DataW.weightsEach prog [23,24] [y0.1,y1.1],n<=reachBytes:=λn hn=>hw n (by rw [O8 underlying26];exact hn);clear hw;change DataW.trod enc prog W 0 _ true n 23 (List.take (prog.cellsOf 23) (List.drop 0 [v0,v1,v2,v3,v4,v5]))=some y0 at h0;change DataW.trod enc prog W 0 _ true n 24 (List.take (prog.cellsOf 24) (List.drop 5 [v0,v1,v2,v3,v4,v5]))=some y1 at h1;rw [ap] at h0;rw [YM] at h1;have I:DataW.trod enc prog W 0 (λ_=>true) true n 23 [v0,v1,v2,v3,v4]=some y0:=h0;obtain ⟨xs,k,rfl,hx,J,F,E⟩:=DataW.trod_struct underlying23 I;obtain ⟨x0,x1,x2,x3,x4,rfl⟩:=kr (show xs.length=5 from F);have e0:=E 0 _ rfl;have e1:=E 1 _ rfl;have e2:=E 2 _ rfl;have e3:=E 3 _ rfl;have e4:=E 4 _ rfl
 change DataW.trod enc prog W 0 _ true k 3 (List.take (prog.cellsOf 3) (List.drop 0 [v0,v1,v2,v3,v4]))=some x0 at e0;change DataW.trod enc prog W 0 _ true k 3 (List.take (prog.cellsOf 3) (List.drop 1 [v0,v1,v2,v3,v4]))=some x1 at e1;change DataW.trod enc prog W 0 _ true k 3 (List.take (prog.cellsOf 3) (List.drop 2 [v0,v1,v2,v3,v4]))=some x2 at e2;change DataW.trod enc prog W 0 _ true k 3 (List.take (prog.cellsOf 3) (List.drop 3 [v0,v1,v2,v3,v4]))=some x3 at e3;change DataW.trod enc prog W 0 _ true k 3 (List.take (prog.cellsOf 3) (List.drop 4 [v0,v1,v2,v3,v4]))=some x4 at e4;rw [Ku] at e0 e1 e2 e3 e4;obtain ⟨n0,f0,g0,_⟩:=DataW.trod_int underlying3 (show DataW.trod _ _ _ _ _ _ k 3 [v0]=some x0 from e0);obtain ⟨n1,f1,g1,_⟩:=DataW.trod_int underlying3 (show DataW.trod _ _ _ _ _ _ k 3 [v1]=some x1 from e1)
 obtain ⟨n2,f2,g2,_⟩:=DataW.trod_int underlying3 (show DataW.trod _ _ _ _ _ _ k 3 [v2]=some x2 from e2);obtain ⟨n3,f3,g3,_⟩:=DataW.trod_int underlying3 (show DataW.trod _ _ _ _ _ _ k 3 [v3]=some x3 from e3);obtain ⟨n4,f4,g4,_⟩:=DataW.trod_int underlying3 (show DataW.trod _ _ _ _ _ _ k 3 [v4]=some x4 from e4);simp only [tt,and_true] at f0 f1 f2 f3 f4;subst f0 f1 f2 f3 f4;obtain ⟨fa,fb,C,D,FZ,LS,rfl,b1,b2,b3,b4,b5⟩:=ay (show DataW.trod _ _ _ _ _ _ (k+1) 24 [v5]=some y1 from h1) (λn hn=>G n (DataW.weights_mem_each (j:=1) rfl rfl n hn));exact ⟨n0,n1,n2,n3,n4,fa,fb,C,D,FZ,LS,rfl,b1,b2,b3,b4,b5⟩
end
section
open ChangeShapes WideShapes ChangeAt Deep
def ku {H:Type} (d:DataW H):1<=Rows.uptoBulk d:=by
 cases d with
 |lit l=>cases l<;>simp [Rows.uptoBulk]
 |_=>simp [Rows.uptoBulk]
def Kv {H:Type} {d:DataW H}:∀{l:List (DataW H)},d∈l->Rows.uptoBulk d<=Rows.uptoBulkAll l
 |x::r,h=>by
  simp only [Rows.uptoBulkAll];rcases vp.1 h with rfl|e
  ·omega
  ·have:=Kv e;omega
def YN {H:Type}:∀(l:List (DataW H)),l.length<=Rows.uptoBulkAll l
 |[]=>sI
 |x::r=>by
  have h1:=ku x;have h2:=YN r;simp only [Rows.uptoBulkAll,um];omega
def MA {H:Type} {e s:List (DataW H)} (h:Rows.uptoBulk (.slice e s)<=n):e.length<=n/\∀d∈e,Rows.uptoBulk d<=n:=by
 simp only [Rows.uptoBulk] at h;have:=YN e;exact ⟨om,λd hd=>o1 (Kv hd)⟩
def YO {H:Type} {e:List (DataW H)} (h:Rows.uptoBulk (.agg e)<=n):∀d∈e,Rows.uptoBulk d<=n:=λd hd=>by
 simp only [Rows.uptoBulk] at h;have:=Kv hd;omega
def az:prog.cellsOf 48=1:=kf
def bB:prog.cellsOf 49=1:=kf
def bC:prog.cellsOf 51=6:=kf
def YP:prog.cellsOf 53=10:=kf
def M8 {H:Type} {enc:TypeId×Value->H} {x:DataW H×List MemPlace} (h:DataW.trod enc prog W 0 (λ_=>true) true fuel 36 [v]=some x) (hu:Rows.uptoBulk x.1<=1048576):∃B,Rr W W.heap.size v B/\AK B/\B.length<=2000000:=by
 rcases open_ints underlying36 underlying5 Ru h with ⟨F,hx⟩|⟨a,D,c,zs,F,L,hl,hm,hz,hx,C,M⟩
 ·simp only [tt,and_true] at F;subst F;exact ⟨[],⟨none,0,0,0,rfl,λq=>by simp at q,λj hj=>by simp at hj⟩,λj=>sI,sI⟩
 ·simp only [tt,and_true] at F;subst F;simp only [if_true] at hz;have J:(zs.take D).length=D:=by rw [yr];omega
  have O:D<=1048576:=by
   rw [hx] at hu;have:=(MA hu).1;have e:(lits .u8 (zs.take D):List (DataW H)).length=D:=by simp [lits];omega
   omega
  by_cases h0:D=0
  ·subst h0;exact ⟨[],⟨some a,0,0,c,rfl,λq=>by simp at q,λj hj=>by simp at hj⟩,λj=>sI,sI⟩
  obtain ⟨b,off,G⟩:=a;have I:=C 0 om;have E:G=none:=by simpa [Addr.add] using World.cell?_spot I
  subst E;have N:b<W.heap.size:=by have:=zu W _ I;rwa [Ah] at this
  refine ⟨zs.take D,⟨some (xK b off),b,off,c,by rw [J],λ_=>⟨rfl,N⟩,λi hi=> ?_⟩,M7 om M,om⟩;rw [J] at hi;have:=C i om;rw [Ah] at this;rw [this];simp [List.getD,hi]
def YQ {H:Type} {enc:TypeId×Value->H} {x:DataW H×List MemPlace} (h:DataW.trod enc prog W 0 (λ_=>true) true fuel 49 [v]=some x) (hu:Rows.uptoBulk x.1<=1048576):∃ss,Th W W.heap.size v ss/\ss.length<=2000000/\∀y∈ss,y.size<=2000000:=by
 rcases open_strs underlying49 underlying9 Nw h with ⟨E,hx⟩|⟨a,G,cap,m,Sx,E,L,hl,hm,J,hx,C⟩
 ·simp only [tt,and_true] at E;subst E;exact ⟨[],⟨none,0,0,0,rfl,λq=>by simp at q,λj hj=>by simp at hj⟩,sI,sI⟩
 ·simp only [tt,and_true] at E;subst E;rw [hx] at hu;obtain ⟨M,N⟩:=MA hu;rw [zc,tx] at M;simp only [if_true] at J;subst J
  have T:∀i,i<G->(Sx i).size<=2000000:=λi hi=>by
   have:=N _ (yt.2 ⟨i,zf.2 hi,rfl⟩);simp only [Rows.uptoBulk] at this;have e:(Sx i).data.toList.length=(Sx i).size:=xl;omega
  by_cases h0:G=0
  ·subst h0;exact ⟨[],⟨some a,0,0,m,rfl,λq=>by simp at q,λj hj=>by simp at hj⟩,sI,sI⟩
  obtain ⟨b,off,F⟩:=a;have I:=(C 0 om).1;have D:F=none:=by simpa [Addr.add] using World.cell?_spot I
  subst D;have O:b<W.heap.size:=by have:=zu W _ I;rwa [Ah] at this
  refine ⟨(List.range G).map Sx,⟨some (xK b off),b,off,m,by rw [zc,tx],λ_=>⟨rfl,O⟩,λi hi=> ?_⟩,by rw [zc,tx];omega,λy hy=> ?_⟩
  ·rw [zc,tx] at hi;have:=(C i om).1;rw [Ah] at this;rw [this,zk,ze,xo hi];rfl
  ·obtain ⟨i,hi,rfl⟩:=yt.1 hy;exact T i (zf.1 hi)
def kw (W:World) (cs:List Value) (o:POp):Prop:=cs=o.cells/\Nv W W.heap.size o/\KQ o/\(-9223372036854775808<=o.a/\o.a<=9223372036854775807)/\AK o.B/\AK o.E
def mn {α:Type} {cs:List α} (h:cs.length=10):∃a b c d e f g i j k,cs=[a,b,c,d,e,f,g,i,j,k]:=by
 match cs,h with
 |[a,b,c,d,e,f,g,i,j,k],_=>exact ⟨a,b,c,d,e,f,g,i,j,k,rfl⟩
def mq {H:Type} {enc:TypeId×Value->H} {x:DataW H×List MemPlace} (h:DataW.trod enc prog W 0 (λ_=>true) true fuel 53 cs=some x) (hu:Rows.uptoBulk x.1<=1048576):∃o,kw W cs o:=by
 obtain ⟨xs,k,rfl,hx,hl,F,C⟩:=DataW.trod_struct underlying53 h;have G:cs.length=10:=hl.trans YP;obtain ⟨v0,v1,v2,v3,v4,v5,v6,v7,v8,v9,rfl⟩:=mn G;obtain ⟨x0,x1,x2,x3,x4,rfl⟩:=kr (show xs.length=5 from F);have e0:=C 0 _ rfl;have e1:=C 1 _ rfl;have e2:=C 2 _ rfl;have e3:=C 3 _ rfl;have e4:=C 4 _ rfl;rw [hx] at hu;have D:=YO hu;have u3:Rows.uptoBulk x3.1<=1048576:=D _ sI;have u4:Rows.uptoBulk x4.1<=1048576:=D _ sI;clear C hl F hx hu D h;change DataW.trod enc prog W 0 _ true k 3 (List.take (prog.cellsOf 3) (List.drop 0 [v0,v1,v2,v3,v4,v5,v6,v7,v8,v9]))=some x0 at e0;change DataW.trod enc prog W 0 _ true k 3 (List.take (prog.cellsOf 3) (List.drop 1 [v0,v1,v2,v3,v4,v5,v6,v7,v8,v9]))=some x1 at e1;change DataW.trod enc prog W 0 _ true k 3 (List.take (prog.cellsOf 3) (List.drop 2 [v0,v1,v2,v3,v4,v5,v6,v7,v8,v9]))=some x2 at e2
 change DataW.trod enc prog W 0 _ true k 51 (List.take (prog.cellsOf 51) (List.drop 3 [v0,v1,v2,v3,v4,v5,v6,v7,v8,v9]))=some x3 at e3;change DataW.trod enc prog W 0 _ true k 36 (List.take (prog.cellsOf 36) (List.drop 9 [v0,v1,v2,v3,v4,v5,v6,v7,v8,v9]))=some x4 at e4;rw [Ku] at e0 e1 e2;rw [bC] at e3;rw [L9] at e4;obtain ⟨n0,f0,g0,_⟩:=DataW.trod_int underlying3 (show DataW.trod _ _ _ _ _ _ k 3 [v0]=some x0 from e0);obtain ⟨n1,f1,g1,w1⟩:=DataW.trod_int underlying3 (show DataW.trod _ _ _ _ _ _ k 3 [v1]=some x1 from e1);obtain ⟨n2,f2,g2,_⟩:=DataW.trod_int underlying3 (show DataW.trod _ _ _ _ _ _ k 3 [v2]=some x2 from e2);simp only [tt,and_true] at f0 f1 f2;subst f0 f1 f2;have I:DataW.trod enc prog W 0 (λ_=>true) true k 51 [v3,v4,v5,v6,v7,v8]=some x3:=e3;obtain ⟨ys,k2,rfl,hx,hl,F,C⟩:=DataW.trod_struct underlying51 I
 obtain ⟨y0,y1,y2,y3,y4,y5,rfl⟩:=kt (show ys.length=6 from F);have d0:=C 0 _ rfl;have d1:=C 1 _ rfl;have d2:=C 2 _ rfl;have d3:=C 3 _ rfl;have d4:=C 4 _ rfl;have d5:=C 5 _ rfl;rw [hx] at u3;have D:=YO u3;have s3:Rows.uptoBulk y3.1<=1048576:=D _ sI;have s4:Rows.uptoBulk y4.1<=1048576:=D _ sI;have s5:Rows.uptoBulk y5.1<=1048576:=D _ sI;clear C hl F hx D e3 I u3;change DataW.trod enc prog W 0 _ true k2 48 (List.take (prog.cellsOf 48) (List.drop 0 [v3,v4,v5,v6,v7,v8]))=some y0 at d0;change DataW.trod enc prog W 0 _ true k2 3 (List.take (prog.cellsOf 3) (List.drop 1 [v3,v4,v5,v6,v7,v8]))=some y1 at d1;change DataW.trod enc prog W 0 _ true k2 3 (List.take (prog.cellsOf 3) (List.drop 2 [v3,v4,v5,v6,v7,v8]))=some y2 at d2;change DataW.trod enc prog W 0 _ true k2 9 (List.take (prog.cellsOf 9) (List.drop 3 [v3,v4,v5,v6,v7,v8]))=some y3 at d3
 change DataW.trod enc prog W 0 _ true k2 49 (List.take (prog.cellsOf 49) (List.drop 4 [v3,v4,v5,v6,v7,v8]))=some y4 at d4;change DataW.trod enc prog W 0 _ true k2 36 (List.take (prog.cellsOf 36) (List.drop 5 [v3,v4,v5,v6,v7,v8]))=some y5 at d5;rw [az] at d0;rw [Ku] at d1 d2;rw [Nw] at d3;rw [bB] at d4;rw [L9] at d5;obtain ⟨m0,f0,M,_⟩:=DataW.trod_int underlying48 (show DataW.trod _ _ _ _ _ _ k2 48 [v3]=some y0 from d0);obtain ⟨m1,f1,N,_⟩:=DataW.trod_int underlying3 (show DataW.trod _ _ _ _ _ _ k2 3 [v4]=some y1 from d1);obtain ⟨m2,f2,L,_⟩:=DataW.trod_int underlying3 (show DataW.trod _ _ _ _ _ _ k2 3 [v5]=some y2 from d2);obtain ⟨s,f3,J,_⟩:=DataW.trod_string underlying9 (show DataW.trod _ _ _ _ _ _ k2 9 [v6]=some y3 from d3);simp only [tt,and_true] at f0 f1 f2 f3;subst f0 f1 f2 f3
 obtain ⟨ss,q1,q2,q3⟩:=YQ (show DataW.trod _ _ _ _ _ _ k2 49 [v7]=some y4 from d4) s4;obtain ⟨B,p1,p2,p3⟩:=M8 (show DataW.trod _ _ _ _ _ _ k2 36 [v8]=some y5 from d5) s5;obtain ⟨E,r1,r2,r3⟩:=M8 (show DataW.trod _ _ _ _ _ _ _ 36 [v9]=some x4 from e4) u4
 have hs:s.size<=2000000:=by
  rw [J] at s3;simp only [Rows.uptoBulk] at s3;have e:s.data.toList.length=s.size:=xl;omega
 exact ⟨⟨n0,n1,n2,m0,m1,m2,s,ss,B,E,v7,v8,v9⟩,rfl,⟨q1,p1,r1⟩,⟨hs,q2,q3,p3,r3⟩,bounds_i64 w1,p2,r2⟩
def kx {H:Type} {enc:TypeId×Value->H} {x:DataW H×List MemPlace} (h:DataW.trod enc prog W 0 (λ_=>true) true fuel 27 [v]=some x) (hu:Rows.uptoBulk x.1<=1048576):
  ∃sa sb so sc OZ,v= .slice sa OZ.length sc/\IG W W.heap.size sa sb so OZ/\OZ.length<=140737488355328/\∀o∈OZ,KQ o/\(-9223372036854775808<=o.a/\o.a<=9223372036854775807)/\AK o.B/\AK o.E:=by
 rcases open_slice underlying27 h with ⟨M,hx⟩|⟨a,G,cap,m,n,D,Pl,M,hb,hl,hm,O,rfl,hx⟩
 ·simp only [tt,and_true] at M;subst M;exact ⟨none,0,0,0,[],rfl,⟨λq=>by simp at q,λi o ho=>by simp at ho,λo ho=>by simp at ho⟩,sI,λo ho=>by simp at ho⟩
 simp only [tt,and_true] at M;subst M;simp only [if_true] at O;subst O;obtain ⟨T,U⟩:=MA hu;rw [zc,tx] at T;by_cases h0:G=0
 ·subst h0;exact ⟨some a,0,0,m,[],rfl,⟨λq=>by simp at q,λi o ho=>by simp at ho,λo ho=>by simp at ho⟩,sI,λo ho=>by simp at ho⟩
 rw [YP] at hx
 haveI hinh:Inhabited POp:=⟨⟨0,0,0,0,0,0,ByteArray.empty,[],[],[],.nilIface,.nilIface,.nilIface⟩⟩
 obtain ⟨V,hV⟩:=choose_lt (α:=POp) (n:=G) (p:=λi z=>∃F,W.cells? 0 (a.add (i*10)) 10=some F/\kw W F z) (λi hi=>by
  obtain ⟨F,h1,h2⟩:=hx i om;obtain ⟨o,ho⟩:=mq h2 (U _ (yt.2 ⟨i,zf.2 hi,rfl⟩))
  exact ⟨o,F,h1,ho⟩)
 obtain ⟨b,off,I⟩:=a
 have C:∀i,i<G->∀j u,(V i).cells[j]? =some u->W.cell? (((⟨b,off,I⟩:Addr).add (i*10)).add j)=some u:=λi hi j u hu=>by
  obtain ⟨F,h1,h2⟩:=hV i hi;obtain ⟨_,Y,hc⟩:=World.cells?_some h1;have hj:j<10:=by simpa [POp.cells] using (zy.1 hu).1
  rw [hc j hj,h2.1];exact hu
 have N:=C 0 om 0 _ rfl;have J:I=none:=by simpa [Addr.add] using World.cell?_spot N
 subst J;have X:b<W.heap.size:=by have:=zu W _ N;rwa [Ah,Ah] at this
 have L:∀o∈(List.range G).map V,∃cs,kw W cs o:=λo ho=>by
  obtain ⟨i,hi,rfl⟩:=yt.1 ho;obtain ⟨F,_,h2⟩:=hV i (zf.1 hi);exact ⟨F,h2⟩
 refine ⟨some (xK b off),b,off,m,(List.range G).map V,by rw [zc,tx],⟨λ_=>⟨rfl,X⟩,λi o ho j u hu=> ?_,λo ho=> ?_⟩,by rw [zc,tx];omega,λo ho=> ?_⟩
 ·rw [ze] at ho;by_cases hi:i<G
  ·rw [xo hi] at ho;obtain rfl:V i=o:=sU ho;have:=C i hi j u hu;rwa [Ah,Ah] at this
  ·rw [yw sO] at ho;cases ho
 ·obtain ⟨_,h2⟩:=L o ho;exact h2.2.1
 ·obtain ⟨_,h2⟩:=L o ho;exact h2.2.2
end
end Go.Proofs.YtpcjkidgohpeoaaGreatDoor
